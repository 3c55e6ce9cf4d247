/- Layer 15: the program's contracts (written by gen_ptb.py by walkt.py). -/
import Derived.Test.YtflaadnlmcgfoaaRPtP
import Derived.Test.YtflaadnlmcgfoaaRPtM
import Derived.Test.YtflaadnlmcgfoaaROfBits
import Derived.Laws.Small
namespace Go.Proofs.YtflaadnlmcgfoaaR
open Go.RowKit
set_option linter.unusedVariables false
set_option maxRecDepth 100000

theorem below_drew_of {v : Value} {k : Nat} {w : World} {e : Ending} {w' : World} (h : e = .returned v ∧ w' = w.drewN k) : e = .returned v ∧ Below w.heap.size w w' := ⟨h.1, h.2 ▸ below_drewN (Below.refl _ _) k⟩
/-- A word below 2 to the n, so many ones. -/
theorem bz_ones (n : Nat) (hn : n < 64) (i : Nat) (hi : i < 64) : bitZ (2 ^ n - 1) i = decide (i < n) := by
  have hp : (0 : Int) < 2 ^ n := by exact_mod_cast Nat.two_pow_pos n
  have h64 : (2 : Int) ^ n < 2 ^ 64 := by exact_mod_cast Nat.pow_lt_pow_right (by omega) hn
  have hall : In64 18446744073709551615 := by unfold In64; decide
  have h1 : (18446744073709551615 : Int) % 2 ^ n = 2 ^ n - 1 := by
    have e : (18446744073709551615 : Int) = 2 ^ n - 1 + 2 ^ n * (2 ^ (64 - n) - 1) := by
      have : (2 : Int) ^ n * 2 ^ (64 - n) = 18446744073709551616 := by rw [← Int.pow_add, show n + (64 - n) = 64 by omega]; rfl
      rw [Int.mul_sub, this]; omega
    rw [e, Int.add_mul_emod_self_left, Int.emod_eq_of_lt (by omega) (by omega)]
  rw [← h1, bz_mod hall, (by decide +kernel : ∀ i, i < 64 → bitZ 18446744073709551615 i = true) i hi, Bool.and_true]
/-- A word times a power of two. -/
theorem bz_times {x : Int} (hx : In64 x) (k i : Nat) (h : In64 (x * 2 ^ k)) : bitZ (x * 2 ^ k) i = (decide (k ≤ i) && bitZ x (i - k)) := by
  rw [bz_div h]
  by_cases c : k ≤ i
  · rw [decide_eq_true c, Bool.true_and, bz_div hx]
    have e : (2 : Int) ^ i = 2 ^ k * 2 ^ (i - k) := by rw [← Int.pow_add, show k + (i - k) = i by omega]
    have hk : (0 : Int) < 2 ^ k := by exact_mod_cast Nat.two_pow_pos k
    rw [e, ← Int.ediv_ediv_of_nonneg (by exact_mod_cast Nat.zero_le _), Int.mul_ediv_cancel _ (by omega)]
  · rw [decide_eq_false c, Bool.false_and, decide_eq_false_iff_not]
    have e : x * (2 : Int) ^ k = x * 2 ^ (k - i - 1) * 2 * 2 ^ i := by
      rw [Int.mul_assoc (x * 2 ^ (k - i - 1)), Int.mul_comm 2, ← Int.pow_succ, Int.mul_assoc, ← Int.pow_add, show k - i - 1 + (i + 1) = k by omega]
    have hi : (0 : Int) < 2 ^ i := by exact_mod_cast Nat.two_pow_pos i
    rw [e, Int.mul_ediv_cancel _ (by omega)]
    omega
theorem put_bz (x lo n y : Int) (h : 0 ≤ lo ∧ lo < 64) (i : Nat) (hi : i < 64) : bitZ (U (putB (V x) lo n (V y))) i = if lo.toNat ≤ i ∧ (i : Int) - lo < n then bitZ y (i - lo.toNat) else bitZ x i := by
  unfold bitZ; rw [V_U, put_bit _ _ _ h, decide_eq_true hi, Bool.true_and]
/-- A page put above flags. -/
theorem put_make {p f : Int} (hp : In64 p) (hf : In64 f) : U (putB (V (f % 256)) 10 44 (V p)) = makeZ p f := by
  have hm : In64 (p % 17592186044416) := by unfold In64; omega
  have hm2 : In64 (p % 17592186044416 * 1024) := by unfold In64; omega
  have hf2 : In64 (f % 256) := by unfold In64; omega
  have e : makeZ p f = bits .or .u64 (p % 17592186044416 * 1024) (f % 256) := by
    rw [bz_orAdd 10 hm2 hf2 (by omega) (by omega) (by omega)]; rfl
  rw [e]
  refine bz_ext (U_in _) (bz_inO _ _) fun i hi => ?_
  rw [put_bz _ _ _ _ ⟨by decide, by decide⟩ i hi, bz_or]
  have e1 : bitZ (p % 17592186044416 * 1024) i = (decide (10 ≤ i) && bitZ (p % 17592186044416) (i - 10)) := bz_times hm 10 i hm2
  have e2 : bitZ (p % 17592186044416) (i - 10) = (decide (i - 10 < 44) && bitZ p (i - 10)) := bz_mod hp 44 (i - 10)
  have e3 : bitZ (f % 256) i = (decide (i < 8) && bitZ f i) := bz_mod hf 8 i
  rw [e1, e2, e3]
  by_cases c : (10 : Int).toNat ≤ i ∧ (i : Int) - 10 < 44
  · rw [if_pos c]
    have c1 : 10 ≤ i := c.1
    have c2 : i - 10 < 44 := by omega
    rw [decide_eq_true c1, decide_eq_true c2, decide_eq_false (by omega : ¬ i < 8)]; simp
  · rw [if_neg c]
    by_cases c1 : 10 ≤ i
    · have c0 : (10 : Int).toNat = 10 := rfl
      have c2 : ¬ i - 10 < 44 := by omega
      rw [decide_eq_false c2, decide_eq_false (by omega : ¬ i < 8)]; simp
    · rw [decide_eq_false c1, Bool.false_and, Bool.false_or]
/-- How many bits of a page's number the levels below choose. -/
def idxZ (lv : Int) : Int := if decide (lv < 1) then 0 else if lv == 1 then 9 else 18
def lvMax (x y : Int) : Int := if y > x then y else x
def lvMin (x y : Int) : Int := if y < x then y else x
theorem idx_lv (lv : Int) : 9 * lvMin (lvMax lv 0) 2 = idxZ lv := by
  unfold lvMin lvMax idxZ
  by_cases c1 : lv < 1
  · rw [decide_eq_true c1, if_pos rfl]; split <;> split <;> omega
  · rw [decide_eq_false c1, if_neg Bool.false_ne_true]
    by_cases c2 : lv = 1
    · subst c2; rfl
    · rw [beq_eq_false_iff_ne.2 c2, if_neg Bool.false_ne_true]; split <;> split <;> omega
theorem idx_is (lv : Int) : idxZ lv = 0 ∧ sizeZ lv = 1 ∨ idxZ lv = 9 ∧ sizeZ lv = 512 ∨ idxZ lv = 18 ∧ sizeZ lv = 262144 := by
  unfold idxZ sizeZ
  cases decide (lv < 1)
  · rw [if_neg Bool.false_ne_true, if_neg Bool.false_ne_true]
    cases (lv == 1)
    · exact .inr (.inr ⟨rfl, rfl⟩)
    · exact .inr (.inl ⟨rfl, rfl⟩)
  · exact .inl ⟨rfl, rfl⟩
/-- The lowest bits of a page. -/
theorem mask_page {x : Int} (hx : In64 x) (lv : Int) : (bits .and .u64 (pageZ x) (U (maskB (idxZ lv))) != 0) = (pageZ x % sizeZ lv != 0) := by
  have hp := page_in hx
  have m0 : U (maskB 0) = 0 := (mask_lo (by decide)).symm
  have m9 : U (maskB 9) = 511 := (mask_mid (n := 9) (by decide) (by decide)).symm.trans (by decide)
  have m18 : U (maskB 18) = 262143 := (mask_mid (n := 18) (by decide) (by decide)).symm.trans (by decide)
  rcases idx_is lv with ⟨e, e2⟩ | ⟨e, e2⟩ | ⟨e, e2⟩ <;> rw [e, e2]
  · rw [m0, bz_mask hp 0 (by decide) 0 rfl]; rfl
  · rw [m9, bz_mask hp 9 (by decide) 511 rfl]; rfl
  · rw [m18, bz_mask hp 18 (by decide) 262143 rfl]; rfl
theorem field_index {y : Int} (hy : In64 y) (lv : Int) : U (fieldB (V y) (12 + idxZ lv) 9) = indexZ y lv := by
  unfold indexZ
  unfold In64 at hy
  rcases idx_is lv with ⟨e, e2⟩ | ⟨e, e2⟩ | ⟨e, e2⟩ <;> rw [e, e2]
  · have := field_div hy 12 9 (by decide)
    exact this.trans (by omega)
  · have := field_div hy 21 9 (by decide)
    exact this.trans (by omega)
  · have := field_div hy 30 9 (by decide)
    exact this.trans (by omega)
theorem put_low {x y : Int} (hx : In64 x) (hy : In64 y) (m : Nat) (hm : m < 64) (r : Int) (hr : r = 2 ^ m) : U (putB (V x) 0 m (V y)) = x / r * r + y % r := by
  subst hr
  have hp : (0 : Int) < 2 ^ m := by exact_mod_cast Nat.two_pow_pos m
  have h64 : (2 : Int) ^ m < 2 ^ 64 := by exact_mod_cast Nat.pow_lt_pow_right (by omega) hm
  have h1 : 0 ≤ y % 2 ^ m := Int.emod_nonneg _ (by omega)
  have h2 : y % 2 ^ m < 2 ^ m := Int.emod_lt_of_pos _ hp
  have h3 : x / 2 ^ m * 2 ^ m = x - x % 2 ^ m := by have := Int.emod_add_mul_ediv x (2 ^ m); rw [Int.mul_comm (x / 2 ^ m)]; omega
  have h4 : 0 ≤ x % 2 ^ m := Int.emod_nonneg _ (by omega)
  have h5 : x % 2 ^ m < 2 ^ m := Int.emod_lt_of_pos _ hp
  have hc := bz_clear hx m (by omega) (2 ^ m - 1) rfl
  have hin : In64 (x - x % 2 ^ m) := hc ▸ bz_inN _ _
  have hyi : In64 (y % 2 ^ m) := by unfold In64; omega
  have hmul : (x - x % 2 ^ m) % 2 ^ m = 0 := by rw [← h3, Int.mul_emod_left]
  have hsum : x - x % 2 ^ m + y % 2 ^ m < 18446744073709551616 := by
    have hd : (2 : Int) ^ m ∣ 18446744073709551616 := ⟨2 ^ (64 - m), by rw [← Int.pow_add, show m + (64 - m) = 64 by omega]; rfl⟩
    obtain ⟨c, hc⟩ := hd
    have hq : x / 2 ^ m < c := Int.ediv_lt_of_lt_mul hp (by rw [Int.mul_comm, ← hc]; exact hx.2)
    have : x / 2 ^ m * 2 ^ m + 2 ^ m ≤ c * 2 ^ m := by
      have := Int.mul_le_mul_of_nonneg_right (show x / 2 ^ m + 1 ≤ c by omega) (show (0 : Int) ≤ 2 ^ m by omega)
      rw [Int.add_mul, Int.one_mul] at this; exact this
    rw [Int.mul_comm c, ← hc] at this
    omega
  rw [h3, ← bz_orAdd m hin hyi hmul h2 hsum]
  refine bz_ext (U_in _) (bz_inO _ _) fun i hi => ?_
  rw [put_bz _ _ _ _ ⟨by decide, by decide⟩ i hi, bz_or, ← hc, bz_andNot _ _ hi, bz_ones m hm i hi, bz_mod hy]
  by_cases c : i < m
  · rw [if_pos ⟨Nat.zero_le _, by omega⟩, decide_eq_true c]; simp
  · rw [if_neg (by rintro ⟨-, q⟩; omega), decide_eq_false c]; simp
theorem put_pa {x y : Int} (hx : In64 x) (hy : In64 y) (lv : Int) : U (putB (V (pageZ x * 4096)) 0 (12 + idxZ lv) (V y)) = paZ x lv y := by
  have hp := page_lt hx
  have hp2 : In64 (pageZ x * 4096) := by unfold In64; omega
  unfold paZ
  rcases idx_is lv with ⟨e, e2⟩ | ⟨e, e2⟩ | ⟨e, e2⟩ <;> rw [e, e2]
  · exact put_low hp2 hy 12 (by decide) _ (by decide)
  · exact put_low hp2 hy 21 (by decide) _ (by decide)
  · exact put_low hp2 hy 30 (by decide) _ (by decide)
section
variable {w : World} {o : Oper} {a : Act} {l : List (Nat × Value)} {n : Nat}
theorem R_maxI (hA : FrA l n a) {x y : Operand} (ho : o.op = .call { callee := .builtin .max, args := #[x, y], argTypes := #[3, 3] }) {u v : Int} (hx : evL l x = some (.int .i64 u)) (hy : evL l y = some (.int .i64 v)) (w : World) : (execOp a.eval o).run Try.prog w = .ok (.value (.int .i64 (lvMax u v))) w := by
  have e := run_max_int2 (P := Try.prog) w #[3, 3] o.type .i64 .i64 u v
  have e' : (Builtin.max_ #[3, 3] o.type #[.int .i64 u, .int .i64 v]).run Try.prog w = .ok (.int .i64 (lvMax u v)) w := e
  unfold execOp
  simp only [ho, resolve, invoke, builtin, Sem.run_bind, Sem.run_pure, Result.andThen_ok, List.map_toArray, List.map_cons, List.map_nil, hA.ev hx, hA.ev hy, e']
theorem R_minI (hA : FrA l n a) {x y : Operand} (ho : o.op = .call { callee := .builtin .min, args := #[x, y], argTypes := #[3, 3] }) {u v : Int} (hx : evL l x = some (.int .i64 u)) (hy : evL l y = some (.int .i64 v)) (w : World) : (execOp a.eval o).run Try.prog w = .ok (.value (.int .i64 (lvMin u v))) w := by
  have e := run_min_int2 (P := Try.prog) w #[3, 3] o.type .i64 .i64 u v
  have e' : (Builtin.min_ #[3, 3] o.type #[.int .i64 u, .int .i64 v]).run Try.prog w = .ok (.int .i64 (lvMin u v)) w := e
  unfold execOp
  simp only [ho, resolve, invoke, builtin, Sem.run_bind, Sem.run_pure, Result.andThen_ok, List.map_toArray, List.map_cons, List.map_nil, hA.ev hx, hA.ev hy, e']
theorem R_shlP (hA : FrA l n a) {x y : Operand} (ho : o.op = .binOp .shl 23 x y 37) {u : Int} (k : Nat) (hx : evL l x = some (.int .u64 u)) (hk : k < 64) (hy : evL l y = some (.int .u64 (k : Int))) (r : Int) (hr : IntKind.u64.wrap (u * 2 ^ k) = r) (w : World) : (execOp a.eval o).run Try.prog w = .ok (.value (.int .u64 r)) w := by
  subst hr
  unfold execOp; simp only [ho, hA.ev hx, hA.ev hy]; simp [go_sem, hk]
theorem R_mulP (hA : FrA l n a) {x y : Operand} (ho : o.op = .binOp .mul 3 x y 3) {u v : Int} (hx : evL l x = some (.int .i64 u)) (hy : evL l y = some (.int .i64 v)) (r : Int) (hr : IntKind.i64.wrap (u * v) = r) (w : World) : (execOp a.eval o).run Try.prog w = .ok (.value (.int .i64 r)) w := by
  subst hr
  unfold execOp; simp only [ho, hA.ev hx, hA.ev hy]; simp [go_sem]
end
def comeB (x : Int) (s : WS) : Bool := if s.priv == 0 then bitZ x 4 else !bitZ x 4 || s.sum && (s.kind != 2)
def loadB (x : Int) (s : WS) : Bool := if s.ex then bitZ x 3 else bitZ x 1 || bitZ x 3 && (s.mxr || s.v && s.vmxr)
def doB (x : Int) (s : WS) : Bool := if s.kind == 0 then loadB x s else if s.kind == 1 then bitZ x 2 else if s.kind == 2 then bitZ x 3 else false
theorem allow_parts (x : Int) (s : WS) (sk : WOk s) : allowB x s = (comeB x s && doB x s) := by
  have h0 := sk.kind
  unfold allowB comeB doB loadB
  have hq : decide (2 < s.kind) = !((s.kind == 0) || (s.kind == 1) || (s.kind == 2)) := by
    by_cases c0 : s.kind = 0
    · rw [c0]; rfl
    by_cases c1 : s.kind = 1
    · rw [c1]; rfl
    by_cases c2 : s.kind = 2
    · rw [c2]; rfl
    rw [beq_eq_false_iff_ne.2 c0, beq_eq_false_iff_ne.2 c1, beq_eq_false_iff_ne.2 c2, decide_eq_true (by omega)]; rfl
  have hp : (s.priv != 0) = !(s.priv == 0) := rfl
  have hk2 : (s.kind != 2) = !(s.kind == 2) := rfl
  have n01 : ((s.kind == 0) && (s.kind == 1)) = false := by
    cases c : s.kind == 0
    · rfl
    · rw [eq_of_beq c]; rfl
  have n02 : ((s.kind == 0) && (s.kind == 2)) = false := by
    cases c : s.kind == 0
    · rfl
    · rw [eq_of_beq c]; rfl
  have n12 : ((s.kind == 1) && (s.kind == 2)) = false := by
    cases c : s.kind == 1
    · rfl
    · rw [eq_of_beq c]; rfl
  rw [hq, hp, hk2]
  generalize (s.kind == 0) = k0 at *
  generalize (s.kind == 1) = k1 at *
  generalize (s.kind == 2) = k2 at *
  generalize (s.priv == 0) = p0 at *
  clear hq hp hk2 h0
  cases k0 <;> cases k1 <;> cases k2 <;> first
    | (cases n01; done)
    | (cases n02; done)
    | (cases n12; done)
    | (cases p0 <;> cases bitZ x 4 <;> cases s.sum <;> cases s.ex <;> cases bitZ x 1 <;> cases bitZ x 2 <;> cases bitZ x 3 <;> cases s.mxr <;> cases s.v <;> cases s.vmxr <;> rfl)
theorem fieldF_any (x : Int) (hx : In64 x) (w : World) : Calls Try.prog 27 #[.int .u64 x, .int .i64 0, .int .i64 8] w fun e w' => e = .returned (.int .u64 (x % 256)) ∧ Below w.heap.size w w' := (field_any x 0 8 hx w).mono fun e w' h => by
  obtain ⟨he, k, hk⟩ := h
  rw [show U (fieldB (V x) 0 8) = x / 2 ^ 0 % 2 ^ 8 from field_div hx 0 8 (by decide)] at he
  exact ⟨he.trans (by rw [show x / 2 ^ 0 % 2 ^ 8 = x % 256 by omega]), hk ▸ below_drewN (Below.refl _ _) k⟩
theorem fieldP_any (x : Int) (hx : In64 x) (w : World) : Calls Try.prog 27 #[.int .u64 x, .int .i64 10, .int .i64 44] w fun e w' => e = .returned (.int .u64 (pageZ x)) ∧ Below w.heap.size w w' := (field_any x 10 44 hx w).mono fun e w' h => by
  obtain ⟨he, k, hk⟩ := h
  rw [field_page hx] at he
  exact ⟨he, hk ▸ below_drewN (Below.refl _ _) k⟩
theorem fieldR_any (x : Int) (hx : In64 x) (w : World) : Calls Try.prog 27 #[.int .u64 x, .int .i64 54, .int .i64 10] w fun e w' => e = .returned (.int .u64 (freeZ x)) ∧ Below w.heap.size w w' := (field_any x 54 10 hx w).mono fun e w' h => by
  obtain ⟨he, k, hk⟩ := h
  rw [field_free hx] at he
  exact ⟨he, hk ▸ below_drewN (Below.refl _ _) k⟩
theorem fieldI_any (y lv : Int) (hy : In64 y) (w : World) : Calls Try.prog 27 #[.int .u64 y, .int .i64 (12 + idxZ lv), .int .i64 9] w fun e w' => e = .returned (.int .u64 (indexZ y lv)) ∧ Below w.heap.size w w' := (field_any y (12 + idxZ lv) 9 hy w).mono fun e w' h => by
  obtain ⟨he, k, hk⟩ := h
  rw [field_index hy] at he
  exact ⟨he, hk ▸ below_drewN (Below.refl _ _) k⟩
theorem putM_any (p f : Int) (hp : In64 p) (hf : In64 f) (w : World) : Calls Try.prog 33 #[.int .u64 (f % 256), .int .i64 10, .int .i64 44, .int .u64 p] w fun e w' => e = .returned (.int .u64 (makeZ p f)) ∧ Below w.heap.size w w' := (put_any (f % 256) 10 44 p (by unfold In64; omega) w).mono fun e w' h => by
  obtain ⟨he, hk⟩ := h
  rw [put_make hp hf] at he
  exact ⟨he, hk ▸ Below.refl _ _⟩
theorem putP_any (x lv y : Int) (hx : In64 x) (hy : In64 y) (w : World) : Calls Try.prog 33 #[.int .u64 (pageZ x * 4096), .int .i64 0, .int .i64 (12 + idxZ lv), .int .u64 y] w fun e w' => e = .returned (.int .u64 (paZ x lv y)) ∧ Below w.heap.size w w' := (put_any (pageZ x * 4096) 0 (12 + idxZ lv) y (by have := page_lt hx; unfold In64; omega) w).mono fun e w' h => by
  obtain ⟨he, hk⟩ := h
  rw [put_pa hx hy] at he
  exact ⟨he, hk ▸ Below.refl _ _⟩
set_option maxHeartbeats 8000000 in
theorem leaf_any (x : Int) (hx : In64 x) (w : World) : Calls Try.prog 10 #[.int .u64 x] w fun e w' => e = .returned (.bool (leafB x)) ∧ Below w.heap.size w w' := by
  have HB := Below.refl w.heap.size w
  go_enter Try.func10, Try.ntmps10
  refine begin_fr [(0, .int .u64 x)] 6 ?_ (fun a hA => ?_)
  · exact FrA.add (FrA.nil (by rfl) (by rfl)) 0 _ (by rfl)
  refine wp_seq ?_
  refine wp_region_list ?_
  refine W_val hA rfl 2 rfl (by decide) _ _ (R_asg hA rfl rfl _) (fun a hA => ?_)
  refine W_nil ?_
  refine then_nrm ?_
  show Code.wp Try.prog _ _ _ _
  refine wp_seq ?_
  refine wp_region_list ?_
  refine W_val hA rfl 3 rfl (by decide) _ _ (R_mov hA rfl rfl _) (fun a hA => ?_)
  refine W_val hA rfl 4 rfl (by decide) _ _ (R_and hA rfl rfl rfl _) (fun a hA => ?_)
  refine W_val hA rfl 5 rfl (by decide) _ _ (R_neqUT hA rfl rfl rfl (bitZ x 1 || bitZ x 3) ((bz_set x 10 [1, 3] (by decide +kernel) (by decide)).trans (by simp [Bool.or_assoc])) _) (fun a hA => ?_)
  refine W_val hA rfl 2 rfl (by decide) _ _ (R_asg hA rfl rfl _) (fun a hA => ?_)
  refine W_nil ?_
  refine then_nrm ?_
  show Code.wp Try.prog _ _ _ _
  refine wp_ret ?_
  refine ret_tmp (j := 2) (by kernel_rfl) hA (by decide) rfl ⟨congrArg (fun x : Bool => Ending.returned (.bool x)) ?_, HB⟩
  rfl
set_option maxHeartbeats 8000000 in
theorem page_any (x : Int) (hx : In64 x) (w : World) : Calls Try.prog 20 #[.int .u64 x] w fun e w' => e = .returned (.int .u64 (pageZ x)) ∧ Below w.heap.size w w' := by
  have HB := Below.refl w.heap.size w
  go_enter Try.func20, Try.ntmps20
  refine begin_fr [(0, .int .u64 x)] 5 ?_ (fun a hA => ?_)
  · exact FrA.add (FrA.nil (by rfl) (by rfl)) 0 _ (by rfl)
  refine wp_seq ?_
  refine wp_region_list ?_
  refine W_val hA rfl 2 rfl (by decide) _ _ (R_asg hA rfl rfl _) (fun a hA => ?_)
  refine W_nil ?_
  refine then_nrm ?_
  show Code.wp Try.prog _ _ _ _
  refine wp_seq ?_
  refine wp_region_list ?_
  refine W_val hA rfl 3 rfl (by decide) _ _ (R_mov hA rfl rfl _) (fun a hA => ?_)
  refine W_callA hA (by decide) (fun _ _ => by kernel_rfl) (args3 hA rfl rfl rfl) (fieldP_any x hx _) (fun w1 hw a hA => ?_)
  replace HB := HB.trans (hw.mono HB.size)
  clear hw
  refine W_val hA rfl 2 rfl (by decide) _ _ (R_asg hA rfl rfl _) (fun a hA => ?_)
  refine W_nil ?_
  refine then_nrm ?_
  show Code.wp Try.prog _ _ _ _
  refine wp_ret ?_
  refine ret_tmp (j := 2) (by kernel_rfl) hA (by decide) rfl ⟨congrArg (fun x : Int => Ending.returned (.int .u64 x)) ?_, HB⟩
  rfl
set_option maxHeartbeats 8000000 in
theorem make_any (p f : Int) (hp : In64 p) (hf : In64 f) (w : World) : Calls Try.prog 14 #[.int .u64 p, .int .u64 f] w fun e w' => e = .returned (.int .u64 (makeZ p f)) ∧ Below w.heap.size w w' := by
  have HB := Below.refl w.heap.size w
  go_enter Try.func14, Try.ntmps14
  refine begin_fr [(1, .int .u64 f), (0, .int .u64 p)] 9 ?_ (fun a hA => ?_)
  · exact FrA.add (FrA.add (FrA.nil (by rfl) (by rfl)) 0 _ (by rfl)) 1 _ (by rfl)
  refine wp_seq ?_
  refine wp_region_list ?_
  refine W_val hA rfl 4 rfl (by decide) _ _ (R_asg hA rfl rfl _) (fun a hA => ?_)
  refine W_nil ?_
  refine then_nrm ?_
  show Code.wp Try.prog _ _ _ _
  refine wp_seq ?_
  refine wp_region_list ?_
  refine W_val hA rfl 5 rfl (by decide) _ _ (R_mov hA rfl rfl _) (fun a hA => ?_)
  refine W_callA hA (by decide) (fun _ _ => by kernel_rfl) (args3 hA rfl rfl rfl) (fieldF_any f hf _) (fun w1 hw a hA => ?_)
  replace HB := HB.trans (hw.mono HB.size)
  clear hw
  refine W_val hA rfl 7 rfl (by decide) _ _ (R_mov hA rfl rfl _) (fun a hA => ?_)
  refine W_callA hA (by decide) (fun _ _ => by kernel_rfl) (args4 hA rfl rfl rfl rfl) (putM_any p f hp hf _) (fun w2 hw a hA => ?_)
  replace HB := HB.trans (hw.mono HB.size)
  clear hw
  refine W_val hA rfl 4 rfl (by decide) _ _ (R_asg hA rfl rfl _) (fun a hA => ?_)
  refine W_nil ?_
  refine then_nrm ?_
  show Code.wp Try.prog _ _ _ _
  refine wp_ret ?_
  refine ret_tmp (j := 4) (by kernel_rfl) hA (by decide) rfl ⟨congrArg (fun x : Int => Ending.returned (.int .u64 x)) ?_, HB⟩
  rfl
set_option maxHeartbeats 8000000 in
theorem ok_any (x : Int) (hx : In64 x) (w : World) : Calls Try.prog 11 #[.int .u64 x] w fun e w' => e = .returned (.bool (okB x)) ∧ Below w.heap.size w w' := by
  have HB := Below.refl w.heap.size w
  go_enter Try.func11, Try.ntmps11
  refine begin_fr [(0, .int .u64 x)] 28 ?_ (fun a hA => ?_)
  · exact FrA.add (FrA.nil (by rfl) (by rfl)) 0 _ (by rfl)
  refine wp_seq ?_
  refine wp_region_list ?_
  refine W_val hA rfl 2 rfl (by decide) _ _ (R_asg hA rfl rfl _) (fun a hA => ?_)
  refine W_nil ?_
  refine then_nrm ?_
  show Code.wp Try.prog _ _ _ _
  refine wp_seq ?_
  refine wp_seq ?_
  refine wp_region_list ?_
  refine W_val hA rfl 3 rfl (by decide) _ _ (R_mov hA rfl rfl _) (fun a hA => ?_)
  refine W_val hA rfl 4 rfl (by decide) _ _ (R_and hA rfl rfl rfl _) (fun a hA => ?_)
  refine W_val hA rfl 5 rfl (by decide) _ _ (R_eqlUT hA rfl rfl rfl (!bitZ x 0) (bz_eq x 1 0 (by decide) (by decide)) _) (fun a hA => ?_)
  refine W_val hA rfl 6 rfl (by decide) _ _ (R_mov hA rfl rfl _) (fun a hA => ?_)
  refine W_split hA 6 rfl (fun c1 hA => ?_) (fun c1 hA => ?_)
  · skip
    refine W_gskip hA rfl rfl rfl 7 rfl (by decide) (fun a hA => ?_)
    refine W_gskip hA rfl rfl rfl 8 rfl (by decide) (fun a hA => ?_)
    refine W_gskip hA rfl rfl rfl 9 rfl (by decide) (fun a hA => ?_)
    refine W_gskip hA rfl rfl rfl 10 rfl (by decide) (fun a hA => ?_)
    refine W_gskipU hA rfl rfl rfl 11 rfl (by decide) (fun a hA => ?_)
    refine W_gskipU hA rfl rfl rfl 12 rfl (by decide) (fun a hA => ?_)
    refine W_gskipU hA rfl rfl rfl 13 rfl (by decide) (fun a hA => ?_)
    refine W_gskip hA rfl rfl rfl 14 rfl (by decide) (fun a hA => ?_)
    refine W_val hA rfl 15 rfl (by decide) _ _ (R_pick hA rfl rfl rfl _) (fun a hA => ?_)
    refine W_val hA rfl 16 rfl (by decide) _ _ (R_mov hA rfl rfl _) (fun a hA => ?_)
    refine W_gskip hA rfl rfl rfl 17 rfl (by decide) (fun a hA => ?_)
    refine W_gskip hA rfl rfl rfl 18 rfl (by decide) (fun a hA => ?_)
    refine W_gskip hA rfl rfl rfl 19 rfl (by decide) (fun a hA => ?_)
    refine W_val hA rfl 20 rfl (by decide) _ _ (R_pick hA rfl rfl rfl _) (fun a hA => ?_)
    refine W_nil ?_
    refine then_nrm ?_
    show Code.wp Try.prog _ _ _ _
    refine wp_cond_true (hA.ev (x := .tmp 20) rfl) ?_
    refine wp_seq ?_
    refine wp_region_list ?_
    refine W_val hA rfl 2 rfl (by decide) _ _ (R_asg hA rfl rfl _) (fun a hA => ?_)
    refine W_nil ?_
    refine then_nrm ?_
    show Code.wp Try.prog _ _ _ _
    refine wp_ret ?_
    refine then_ret ?_
    refine ret_tmp (j := 2) (by kernel_rfl) hA (by decide) rfl ⟨congrArg (fun x : Bool => Ending.returned (.bool x)) ?_, HB⟩
    unfold okB
    first
      | (simp only [c1, if_true, if_false, Bool.false_eq_true, Bool.not_true, Bool.not_false, Bool.true_and, Bool.false_and, Bool.and_true, Bool.and_false, Bool.true_or, Bool.false_or, Bool.or_true, Bool.or_false]; done)
      | (exfalso; simp_all; done)
      | (cases q4 : bitZ x 4 <;> cases q6 : bitZ x 6 <;> cases q7 : bitZ x 7 <;> simp_all; done)
      | (simp_all; done)
      | (exfalso; simp_all; omega)
  refine W_gval hA rfl rfl rfl 7 rfl (by decide) _ _ (R_mov hA rfl rfl _) (fun a hA => ?_)
  refine W_gval hA rfl rfl rfl 8 rfl (by decide) _ _ (R_and hA rfl rfl rfl _) (fun a hA => ?_)
  refine W_gval hA rfl rfl rfl 9 rfl (by decide) _ _ (R_neqUT hA rfl rfl rfl (bitZ x 2) (bz_ne x 4 2 (by decide) (by decide)) _) (fun a hA => ?_)
  refine W_gval hA rfl rfl rfl 10 rfl (by decide) _ _ (R_mov hA rfl rfl _) (fun a hA => ?_)
  refine W_split hA 10 rfl (fun c2 hA => ?_) (fun c2 hA => ?_)
  · skip
    refine W_gval hA rfl rfl rfl 11 rfl (by decide) _ _ (R_mov hA rfl rfl _) (fun a hA => ?_)
    refine W_gval hA rfl rfl rfl 12 rfl (by decide) _ _ (R_and hA rfl rfl rfl _) (fun a hA => ?_)
    refine W_gval hA rfl rfl rfl 13 rfl (by decide) _ _ (R_eqlUT hA rfl rfl rfl (!bitZ x 1) (bz_eq x 2 1 (by decide) (by decide)) _) (fun a hA => ?_)
    refine W_gval hA rfl rfl rfl 14 rfl (by decide) _ _ (R_pick hA rfl rfl rfl _) (fun a hA => ?_)
    refine W_val hA rfl 15 rfl (by decide) _ _ (R_pick hA rfl rfl rfl _) (fun a hA => ?_)
    refine W_val hA rfl 16 rfl (by decide) _ _ (R_mov hA rfl rfl _) (fun a hA => ?_)
    refine W_split hA 16 rfl (fun c3 hA => ?_) (fun c3 hA => ?_)
    · skip
      refine W_gskip hA rfl rfl rfl 17 rfl (by decide) (fun a hA => ?_)
      refine W_gskip hA rfl rfl rfl 18 rfl (by decide) (fun a hA => ?_)
      refine W_gskip hA rfl rfl rfl 19 rfl (by decide) (fun a hA => ?_)
      refine W_val hA rfl 20 rfl (by decide) _ _ (R_pick hA rfl rfl rfl _) (fun a hA => ?_)
      refine W_nil ?_
      refine then_nrm ?_
      show Code.wp Try.prog _ _ _ _
      refine wp_cond_true (hA.ev (x := .tmp 20) rfl) ?_
      refine wp_seq ?_
      refine wp_region_list ?_
      refine W_val hA rfl 2 rfl (by decide) _ _ (R_asg hA rfl rfl _) (fun a hA => ?_)
      refine W_nil ?_
      refine then_nrm ?_
      show Code.wp Try.prog _ _ _ _
      refine wp_ret ?_
      refine then_ret ?_
      refine ret_tmp (j := 2) (by kernel_rfl) hA (by decide) rfl ⟨congrArg (fun x : Bool => Ending.returned (.bool x)) ?_, HB⟩
      unfold okB
      first
        | (simp only [c1, c2, c3, if_true, if_false, Bool.false_eq_true, Bool.not_true, Bool.not_false, Bool.true_and, Bool.false_and, Bool.and_true, Bool.and_false, Bool.true_or, Bool.false_or, Bool.or_true, Bool.or_false]; done)
        | (exfalso; simp_all; done)
        | (cases q4 : bitZ x 4 <;> cases q6 : bitZ x 6 <;> cases q7 : bitZ x 7 <;> simp_all; done)
        | (simp_all; done)
        | (exfalso; simp_all; omega)
    refine W_gval hA rfl rfl rfl 17 rfl (by decide) _ _ (R_mov hA rfl rfl _) (fun a hA => ?_)
    refine W_gcallB hA rfl rfl (by decide) (fun _ _ => by kernel_rfl) (args3 hA rfl rfl rfl) (fieldR_any x hx _) (fun w1 hw a hA => ?_)
    replace HB := HB.trans (hw.mono HB.size)
    clear hw
    refine W_gval hA rfl rfl rfl 19 rfl (by decide) _ _ (R_neqU hA rfl rfl rfl _) (fun a hA => ?_)
    refine W_val hA rfl 20 rfl (by decide) _ _ (R_pick hA rfl rfl rfl _) (fun a hA => ?_)
    refine W_nil ?_
    refine then_nrm ?_
    show Code.wp Try.prog _ _ _ _
    refine wp_cond_split (hA.ev (x := .tmp 20) rfl) (fun c4 => ?_) (fun c4 => ?_)
    · skip
      refine wp_seq ?_
      refine wp_region_list ?_
      refine W_val hA rfl 2 rfl (by decide) _ _ (R_asg hA rfl rfl _) (fun a hA => ?_)
      refine W_nil ?_
      refine then_nrm ?_
      show Code.wp Try.prog _ _ _ _
      refine wp_ret ?_
      refine then_ret ?_
      refine ret_tmp (j := 2) (by kernel_rfl) hA (by decide) rfl ⟨congrArg (fun x : Bool => Ending.returned (.bool x)) ?_, HB⟩
      unfold okB
      first
        | (simp only [c1, c2, c3, c4, if_true, if_false, Bool.false_eq_true, Bool.not_true, Bool.not_false, Bool.true_and, Bool.false_and, Bool.and_true, Bool.and_false, Bool.true_or, Bool.false_or, Bool.or_true, Bool.or_false]; done)
        | (exfalso; simp_all; done)
        | (cases q4 : bitZ x 4 <;> cases q6 : bitZ x 6 <;> cases q7 : bitZ x 7 <;> simp_all; done)
        | (simp_all; done)
        | (exfalso; simp_all; omega)
    refine wp_skip ?_
    refine then_nrm ?_
    show Code.wp Try.prog _ _ _ _
    refine wp_seq ?_
    refine wp_region_list ?_
    refine W_val hA rfl 21 rfl (by decide) _ _ (R_mov hA rfl rfl _) (fun a hA => ?_)
    refine W_callA hA (by decide) (fun _ _ => by kernel_rfl) (args1 hA rfl) (leaf_any x hx _) (fun w2 hw a hA => ?_)
    replace HB := HB.trans (hw.mono HB.size)
    clear hw
    refine W_val hA rfl 23 rfl (by decide) _ _ (R_mov hA rfl rfl _) (fun a hA => ?_)
    refine W_split hA 23 rfl (fun c5 hA => ?_) (fun c5 hA => ?_)
    · skip
      refine W_gskip hA rfl rfl rfl 24 rfl (by decide) (fun a hA => ?_)
      refine W_gskip hA rfl rfl rfl 25 rfl (by decide) (fun a hA => ?_)
      refine W_gskip hA rfl rfl rfl 26 rfl (by decide) (fun a hA => ?_)
      refine W_val hA rfl 27 rfl (by decide) _ _ (R_pick hA rfl rfl rfl _) (fun a hA => ?_)
      refine W_val hA rfl 2 rfl (by decide) _ _ (R_asg hA rfl rfl _) (fun a hA => ?_)
      refine W_nil ?_
      refine then_nrm ?_
      show Code.wp Try.prog _ _ _ _
      refine wp_ret ?_
      refine ret_tmp (j := 2) (by kernel_rfl) hA (by decide) rfl ⟨congrArg (fun x : Bool => Ending.returned (.bool x)) ?_, HB⟩
      unfold okB
      first
        | (simp only [c1, c2, c3, c4, c5, if_true, if_false, Bool.false_eq_true, Bool.not_true, Bool.not_false, Bool.true_and, Bool.false_and, Bool.and_true, Bool.and_false, Bool.true_or, Bool.false_or, Bool.or_true, Bool.or_false]; done)
        | (exfalso; simp_all; done)
        | (cases q4 : bitZ x 4 <;> cases q6 : bitZ x 6 <;> cases q7 : bitZ x 7 <;> simp_all; done)
        | (simp_all; done)
        | (exfalso; simp_all; omega)
    refine W_gval hA rfl rfl rfl 24 rfl (by decide) _ _ (R_mov hA rfl rfl _) (fun a hA => ?_)
    refine W_gval hA rfl rfl rfl 25 rfl (by decide) _ _ (R_and hA rfl rfl rfl _) (fun a hA => ?_)
    refine W_gval hA rfl rfl rfl 26 rfl (by decide) _ _ (R_eqlUT hA rfl rfl rfl (!(bitZ x 4 || bitZ x 6 || bitZ x 7)) ((bz_setE x 208 [4, 6, 7] (by decide +kernel) (by decide)).trans (by simp [Bool.or_assoc])) _) (fun a hA => ?_)
    refine W_val hA rfl 27 rfl (by decide) _ _ (R_pick hA rfl rfl rfl _) (fun a hA => ?_)
    refine W_val hA rfl 2 rfl (by decide) _ _ (R_asg hA rfl rfl _) (fun a hA => ?_)
    refine W_nil ?_
    refine then_nrm ?_
    show Code.wp Try.prog _ _ _ _
    refine wp_ret ?_
    refine ret_tmp (j := 2) (by kernel_rfl) hA (by decide) rfl ⟨congrArg (fun x : Bool => Ending.returned (.bool x)) ?_, HB⟩
    unfold okB
    first
      | (simp only [c1, c2, c3, c4, c5, if_true, if_false, Bool.false_eq_true, Bool.not_true, Bool.not_false, Bool.true_and, Bool.false_and, Bool.and_true, Bool.and_false, Bool.true_or, Bool.false_or, Bool.or_true, Bool.or_false]; done)
      | (exfalso; simp_all; done)
      | (cases q4 : bitZ x 4 <;> cases q6 : bitZ x 6 <;> cases q7 : bitZ x 7 <;> simp_all; done)
      | (simp_all; done)
      | (exfalso; simp_all; omega)
  refine W_gskip hA rfl rfl rfl 11 rfl (by decide) (fun a hA => ?_)
  refine W_gskip hA rfl rfl rfl 12 rfl (by decide) (fun a hA => ?_)
  refine W_gskip hA rfl rfl rfl 13 rfl (by decide) (fun a hA => ?_)
  refine W_gval hA rfl rfl rfl 14 rfl (by decide) _ _ (R_pick hA rfl rfl rfl _) (fun a hA => ?_)
  refine W_val hA rfl 15 rfl (by decide) _ _ (R_pick hA rfl rfl rfl _) (fun a hA => ?_)
  refine W_val hA rfl 16 rfl (by decide) _ _ (R_mov hA rfl rfl _) (fun a hA => ?_)
  refine W_gval hA rfl rfl rfl 17 rfl (by decide) _ _ (R_mov hA rfl rfl _) (fun a hA => ?_)
  refine W_gcallB hA rfl rfl (by decide) (fun _ _ => by kernel_rfl) (args3 hA rfl rfl rfl) (fieldR_any x hx _) (fun w3 hw a hA => ?_)
  replace HB := HB.trans (hw.mono HB.size)
  clear hw
  refine W_gval hA rfl rfl rfl 19 rfl (by decide) _ _ (R_neqU hA rfl rfl rfl _) (fun a hA => ?_)
  refine W_val hA rfl 20 rfl (by decide) _ _ (R_pick hA rfl rfl rfl _) (fun a hA => ?_)
  refine W_nil ?_
  refine then_nrm ?_
  show Code.wp Try.prog _ _ _ _
  refine wp_cond_split (hA.ev (x := .tmp 20) rfl) (fun c6 => ?_) (fun c6 => ?_)
  · skip
    refine wp_seq ?_
    refine wp_region_list ?_
    refine W_val hA rfl 2 rfl (by decide) _ _ (R_asg hA rfl rfl _) (fun a hA => ?_)
    refine W_nil ?_
    refine then_nrm ?_
    show Code.wp Try.prog _ _ _ _
    refine wp_ret ?_
    refine then_ret ?_
    refine ret_tmp (j := 2) (by kernel_rfl) hA (by decide) rfl ⟨congrArg (fun x : Bool => Ending.returned (.bool x)) ?_, HB⟩
    unfold okB
    first
      | (simp only [c1, c2, c6, if_true, if_false, Bool.false_eq_true, Bool.not_true, Bool.not_false, Bool.true_and, Bool.false_and, Bool.and_true, Bool.and_false, Bool.true_or, Bool.false_or, Bool.or_true, Bool.or_false]; done)
      | (exfalso; simp_all; done)
      | (cases q4 : bitZ x 4 <;> cases q6 : bitZ x 6 <;> cases q7 : bitZ x 7 <;> simp_all; done)
      | (simp_all; done)
      | (exfalso; simp_all; omega)
  refine wp_skip ?_
  refine then_nrm ?_
  show Code.wp Try.prog _ _ _ _
  refine wp_seq ?_
  refine wp_region_list ?_
  refine W_val hA rfl 21 rfl (by decide) _ _ (R_mov hA rfl rfl _) (fun a hA => ?_)
  refine W_callA hA (by decide) (fun _ _ => by kernel_rfl) (args1 hA rfl) (leaf_any x hx _) (fun w4 hw a hA => ?_)
  replace HB := HB.trans (hw.mono HB.size)
  clear hw
  refine W_val hA rfl 23 rfl (by decide) _ _ (R_mov hA rfl rfl _) (fun a hA => ?_)
  refine W_split hA 23 rfl (fun c7 hA => ?_) (fun c7 hA => ?_)
  · skip
    refine W_gskip hA rfl rfl rfl 24 rfl (by decide) (fun a hA => ?_)
    refine W_gskip hA rfl rfl rfl 25 rfl (by decide) (fun a hA => ?_)
    refine W_gskip hA rfl rfl rfl 26 rfl (by decide) (fun a hA => ?_)
    refine W_val hA rfl 27 rfl (by decide) _ _ (R_pick hA rfl rfl rfl _) (fun a hA => ?_)
    refine W_val hA rfl 2 rfl (by decide) _ _ (R_asg hA rfl rfl _) (fun a hA => ?_)
    refine W_nil ?_
    refine then_nrm ?_
    show Code.wp Try.prog _ _ _ _
    refine wp_ret ?_
    refine ret_tmp (j := 2) (by kernel_rfl) hA (by decide) rfl ⟨congrArg (fun x : Bool => Ending.returned (.bool x)) ?_, HB⟩
    unfold okB
    first
      | (simp only [c1, c2, c6, c7, if_true, if_false, Bool.false_eq_true, Bool.not_true, Bool.not_false, Bool.true_and, Bool.false_and, Bool.and_true, Bool.and_false, Bool.true_or, Bool.false_or, Bool.or_true, Bool.or_false]; done)
      | (exfalso; simp_all; done)
      | (cases q4 : bitZ x 4 <;> cases q6 : bitZ x 6 <;> cases q7 : bitZ x 7 <;> simp_all; done)
      | (simp_all; done)
      | (exfalso; simp_all; omega)
  refine W_gval hA rfl rfl rfl 24 rfl (by decide) _ _ (R_mov hA rfl rfl _) (fun a hA => ?_)
  refine W_gval hA rfl rfl rfl 25 rfl (by decide) _ _ (R_and hA rfl rfl rfl _) (fun a hA => ?_)
  refine W_gval hA rfl rfl rfl 26 rfl (by decide) _ _ (R_eqlUT hA rfl rfl rfl (!(bitZ x 4 || bitZ x 6 || bitZ x 7)) ((bz_setE x 208 [4, 6, 7] (by decide +kernel) (by decide)).trans (by simp [Bool.or_assoc])) _) (fun a hA => ?_)
  refine W_val hA rfl 27 rfl (by decide) _ _ (R_pick hA rfl rfl rfl _) (fun a hA => ?_)
  refine W_val hA rfl 2 rfl (by decide) _ _ (R_asg hA rfl rfl _) (fun a hA => ?_)
  refine W_nil ?_
  refine then_nrm ?_
  show Code.wp Try.prog _ _ _ _
  refine wp_ret ?_
  refine ret_tmp (j := 2) (by kernel_rfl) hA (by decide) rfl ⟨congrArg (fun x : Bool => Ending.returned (.bool x)) ?_, HB⟩
  unfold okB
  first
    | (simp only [c1, c2, c6, c7, if_true, if_false, Bool.false_eq_true, Bool.not_true, Bool.not_false, Bool.true_and, Bool.false_and, Bool.and_true, Bool.and_false, Bool.true_or, Bool.false_or, Bool.or_true, Bool.or_false]; done)
    | (exfalso; simp_all; done)
    | (cases q4 : bitZ x 4 <;> cases q6 : bitZ x 6 <;> cases q7 : bitZ x 7 <;> simp_all; done)
    | (simp_all; done)
    | (exfalso; simp_all; omega)
set_option maxHeartbeats 8000000 in
theorem come_any (x : Int) (s : WS) (w : World) : Calls Try.prog 28 #[.int .u64 x, wantV s] w fun e w' => e = .returned (.bool (comeB x s)) ∧ Below w.heap.size w w' := by
  have HB := Below.refl w.heap.size w
  go_enter Try.func28, Try.ntmps28
  refine begin_fr [(1, wantV s), (0, .int .u64 x)] 24 ?_ (fun a hA => ?_)
  · exact FrA.add (FrA.add (FrA.nil (by rfl) (by rfl)) 0 _ (by rfl)) 1 _ (by rfl)
  refine wp_seq ?_
  refine wp_region_list ?_
  refine W_boxT (cs := wantC s) hA rfl 3 rfl (by decide) rfl rfl (fun w1 bB3 a hA hb B3 gB3 => ?_)
  replace gB3 := Nat.le_trans HB.size gB3
  replace HB := HB.trans (hb.mono HB.size)
  clear hb
  refine W_val hA rfl 4 rfl (by decide) _ _ (R_asg hA rfl rfl _) (fun a hA => ?_)
  refine W_nil ?_
  refine then_nrm ?_
  show Code.wp Try.prog _ _ _ _
  refine wp_seq ?_
  refine wp_region_list ?_
  refine W_val hA rfl 6 rfl (by decide) _ _ (R_mov hA rfl rfl _) (fun a hA => ?_)
  refine W_val hA rfl 7 rfl (by decide) _ _ (R_and hA rfl rfl rfl _) (fun a hA => ?_)
  refine W_val hA rfl 8 rfl (by decide) _ _ (R_neqUT hA rfl rfl rfl (bitZ x 4) (bz_ne x 16 4 (by decide) (by decide)) _) (fun a hA => ?_)
  refine W_val hA rfl 5 rfl (by decide) _ _ (R_asg hA rfl rfl _) (fun a hA => ?_)
  refine W_nil ?_
  refine then_nrm ?_
  show Code.wp Try.prog _ _ _ _
  refine wp_seq ?_
  refine wp_seq ?_
  refine wp_region_list ?_
  refine W_val hA rfl 9 rfl (by decide) _ _ (R_fa hA rfl rfl (fun w => fa_want _ 2 (by decide) w) _) (fun a hA => ?_)
  refine W_val hA rfl 10 rfl (by decide) _ _ (R_ld (v := .int .u8 s.priv) hA rfl rfl ag_u8 (RowC.cell B3 2 _ rfl)) (fun a hA => ?_)
  refine W_val hA rfl 11 rfl (by decide) _ _ (R_eqlB hA rfl rfl rfl _) (fun a hA => ?_)
  refine W_nil ?_
  refine then_nrm ?_
  show Code.wp Try.prog _ _ _ _
  refine wp_cond_split (hA.ev (x := .tmp 11) rfl) (fun c1 => ?_) (fun c1 => ?_)
  · skip
    refine wp_seq ?_
    refine wp_region_list ?_
    refine W_val hA rfl 12 rfl (by decide) _ _ (R_mov hA rfl rfl _) (fun a hA => ?_)
    refine W_val hA rfl 4 rfl (by decide) _ _ (R_asg hA rfl rfl _) (fun a hA => ?_)
    refine W_nil ?_
    refine then_nrm ?_
    show Code.wp Try.prog _ _ _ _
    refine wp_ret ?_
    refine then_ret ?_
    refine ret_tmp (j := 4) (by kernel_rfl) hA (by decide) rfl ⟨congrArg (fun x : Bool => Ending.returned (.bool x)) ?_, HB⟩
    unfold comeB
    first
      | (simp only [c1, if_true, if_false, Bool.false_eq_true, Bool.not_true, Bool.not_false, Bool.true_and, Bool.false_and, Bool.and_true, Bool.and_false, Bool.true_or, Bool.false_or, Bool.or_true, Bool.or_false]; done)
      | (exfalso; simp_all; done)
      | (simp_all; done)
      | (exfalso; simp_all; omega)
  refine wp_skip ?_
  refine then_nrm ?_
  show Code.wp Try.prog _ _ _ _
  refine wp_seq ?_
  refine wp_region_list ?_
  refine W_val hA rfl 13 rfl (by decide) _ _ (R_mov hA rfl rfl _) (fun a hA => ?_)
  refine W_val hA rfl 14 rfl (by decide) _ _ (R_not hA rfl rfl _) (fun a hA => ?_)
  refine W_val hA rfl 15 rfl (by decide) _ _ (R_mov hA rfl rfl _) (fun a hA => ?_)
  refine W_split hA 15 rfl (fun c2 hA => ?_) (fun c2 hA => ?_)
  · skip
    refine W_gskip hA rfl rfl rfl 16 rfl (by decide) (fun a hA => ?_)
    refine W_gskip hA rfl rfl rfl 17 rfl (by decide) (fun a hA => ?_)
    refine W_gskip hA rfl rfl rfl 18 rfl (by decide) (fun a hA => ?_)
    refine W_gskipU hA rfl rfl rfl 19 rfl (by decide) (fun a hA => ?_)
    refine W_gskipU hA rfl rfl rfl 20 rfl (by decide) (fun a hA => ?_)
    refine W_gskipU hA rfl rfl rfl 21 rfl (by decide) (fun a hA => ?_)
    refine W_gskip hA rfl rfl rfl 22 rfl (by decide) (fun a hA => ?_)
    refine W_val hA rfl 23 rfl (by decide) _ _ (R_pick hA rfl rfl rfl _) (fun a hA => ?_)
    refine W_val hA rfl 4 rfl (by decide) _ _ (R_asg hA rfl rfl _) (fun a hA => ?_)
    refine W_nil ?_
    refine then_nrm ?_
    show Code.wp Try.prog _ _ _ _
    refine wp_ret ?_
    refine ret_tmp (j := 4) (by kernel_rfl) hA (by decide) rfl ⟨congrArg (fun x : Bool => Ending.returned (.bool x)) ?_, HB⟩
    unfold comeB
    first
      | (simp only [c1, c2, if_true, if_false, Bool.false_eq_true, Bool.not_true, Bool.not_false, Bool.true_and, Bool.false_and, Bool.and_true, Bool.and_false, Bool.true_or, Bool.false_or, Bool.or_true, Bool.or_false]; done)
      | (exfalso; simp_all; done)
      | (simp_all; done)
      | (exfalso; simp_all; omega)
  refine W_gval hA rfl rfl rfl 16 rfl (by decide) _ _ (R_fa hA rfl rfl (fun w => fa_want _ 4 (by decide) w) _) (fun a hA => ?_)
  refine W_gval hA rfl rfl rfl 17 rfl (by decide) _ _ (R_ld (v := .bool s.sum) hA rfl rfl ag_bool (RowC.cell B3 4 _ rfl)) (fun a hA => ?_)
  refine W_gval hA rfl rfl rfl 18 rfl (by decide) _ _ (R_mov hA rfl rfl _) (fun a hA => ?_)
  refine W_split hA 18 rfl (fun c3 hA => ?_) (fun c3 hA => ?_)
  · skip
    refine W_gval hA rfl rfl rfl 19 rfl (by decide) _ _ (R_fa hA rfl rfl (fun w => fa_want _ 0 (by decide) w) _) (fun a hA => ?_)
    refine W_gval hA rfl rfl rfl 20 rfl (by decide) _ _ (R_ld (v := .int .u8 s.kind) hA rfl rfl ag_u8 (RowC.cell B3 0 _ rfl)) (fun a hA => ?_)
    refine W_gval hA rfl rfl rfl 21 rfl (by decide) _ _ (R_neqB hA rfl rfl rfl _) (fun a hA => ?_)
    refine W_gval hA rfl rfl rfl 22 rfl (by decide) _ _ (R_pick hA rfl rfl rfl _) (fun a hA => ?_)
    refine W_val hA rfl 23 rfl (by decide) _ _ (R_pick hA rfl rfl rfl _) (fun a hA => ?_)
    refine W_val hA rfl 4 rfl (by decide) _ _ (R_asg hA rfl rfl _) (fun a hA => ?_)
    refine W_nil ?_
    refine then_nrm ?_
    show Code.wp Try.prog _ _ _ _
    refine wp_ret ?_
    refine ret_tmp (j := 4) (by kernel_rfl) hA (by decide) rfl ⟨congrArg (fun x : Bool => Ending.returned (.bool x)) ?_, HB⟩
    unfold comeB
    first
      | (simp only [c1, c2, c3, if_true, if_false, Bool.false_eq_true, Bool.not_true, Bool.not_false, Bool.true_and, Bool.false_and, Bool.and_true, Bool.and_false, Bool.true_or, Bool.false_or, Bool.or_true, Bool.or_false]; done)
      | (exfalso; simp_all; done)
      | (simp_all; done)
      | (exfalso; simp_all; omega)
  refine W_gskip hA rfl rfl rfl 19 rfl (by decide) (fun a hA => ?_)
  refine W_gskip hA rfl rfl rfl 20 rfl (by decide) (fun a hA => ?_)
  refine W_gskip hA rfl rfl rfl 21 rfl (by decide) (fun a hA => ?_)
  refine W_gval hA rfl rfl rfl 22 rfl (by decide) _ _ (R_pick hA rfl rfl rfl _) (fun a hA => ?_)
  refine W_val hA rfl 23 rfl (by decide) _ _ (R_pick hA rfl rfl rfl _) (fun a hA => ?_)
  refine W_val hA rfl 4 rfl (by decide) _ _ (R_asg hA rfl rfl _) (fun a hA => ?_)
  refine W_nil ?_
  refine then_nrm ?_
  show Code.wp Try.prog _ _ _ _
  refine wp_ret ?_
  refine ret_tmp (j := 4) (by kernel_rfl) hA (by decide) rfl ⟨congrArg (fun x : Bool => Ending.returned (.bool x)) ?_, HB⟩
  unfold comeB
  first
    | (simp only [c1, c2, c3, if_true, if_false, Bool.false_eq_true, Bool.not_true, Bool.not_false, Bool.true_and, Bool.false_and, Bool.and_true, Bool.and_false, Bool.true_or, Bool.false_or, Bool.or_true, Bool.or_false]; done)
    | (exfalso; simp_all; done)
    | (simp_all; done)
    | (exfalso; simp_all; omega)
set_option maxHeartbeats 8000000 in
theorem load_any (x : Int) (s : WS) (w : World) : Calls Try.prog 38 #[.int .u64 x, wantV s] w fun e w' => e = .returned (.bool (loadB x s)) ∧ Below w.heap.size w w' := by
  have HB := Below.refl w.heap.size w
  go_enter Try.func38, Try.ntmps38
  refine begin_fr [(1, wantV s), (0, .int .u64 x)] 30 ?_ (fun a hA => ?_)
  · exact FrA.add (FrA.add (FrA.nil (by rfl) (by rfl)) 0 _ (by rfl)) 1 _ (by rfl)
  refine wp_seq ?_
  refine wp_region_list ?_
  refine W_boxT (cs := wantC s) hA rfl 3 rfl (by decide) rfl rfl (fun w1 bB3 a hA hb B3 gB3 => ?_)
  replace gB3 := Nat.le_trans HB.size gB3
  replace HB := HB.trans (hb.mono HB.size)
  clear hb
  refine W_val hA rfl 4 rfl (by decide) _ _ (R_asg hA rfl rfl _) (fun a hA => ?_)
  refine W_nil ?_
  refine then_nrm ?_
  show Code.wp Try.prog _ _ _ _
  refine wp_seq ?_
  refine wp_region_list ?_
  refine W_val hA rfl 6 rfl (by decide) _ _ (R_mov hA rfl rfl _) (fun a hA => ?_)
  refine W_val hA rfl 7 rfl (by decide) _ _ (R_and hA rfl rfl rfl _) (fun a hA => ?_)
  refine W_val hA rfl 8 rfl (by decide) _ _ (R_neqUT hA rfl rfl rfl (bitZ x 3) (bz_ne x 8 3 (by decide) (by decide)) _) (fun a hA => ?_)
  refine W_val hA rfl 5 rfl (by decide) _ _ (R_asg hA rfl rfl _) (fun a hA => ?_)
  refine W_nil ?_
  refine then_nrm ?_
  show Code.wp Try.prog _ _ _ _
  refine wp_seq ?_
  refine wp_seq ?_
  refine wp_region_list ?_
  refine W_val hA rfl 9 rfl (by decide) _ _ (R_fa hA rfl rfl (fun w => fa_want _ 1 (by decide) w) _) (fun a hA => ?_)
  refine W_val hA rfl 10 rfl (by decide) _ _ (R_ld (v := .bool s.ex) hA rfl rfl ag_bool (RowC.cell B3 1 _ rfl)) (fun a hA => ?_)
  refine W_nil ?_
  refine then_nrm ?_
  show Code.wp Try.prog _ _ _ _
  refine wp_cond_split (hA.ev (x := .tmp 10) rfl) (fun c1 => ?_) (fun c1 => ?_)
  · skip
    refine wp_seq ?_
    refine wp_region_list ?_
    refine W_val hA rfl 11 rfl (by decide) _ _ (R_mov hA rfl rfl _) (fun a hA => ?_)
    refine W_val hA rfl 4 rfl (by decide) _ _ (R_asg hA rfl rfl _) (fun a hA => ?_)
    refine W_nil ?_
    refine then_nrm ?_
    show Code.wp Try.prog _ _ _ _
    refine wp_ret ?_
    refine then_ret ?_
    refine ret_tmp (j := 4) (by kernel_rfl) hA (by decide) rfl ⟨congrArg (fun x : Bool => Ending.returned (.bool x)) ?_, HB⟩
    unfold loadB
    first
      | (simp only [c1, if_true, if_false, Bool.false_eq_true, Bool.not_true, Bool.not_false, Bool.true_and, Bool.false_and, Bool.and_true, Bool.and_false, Bool.true_or, Bool.false_or, Bool.or_true, Bool.or_false]; done)
      | (exfalso; simp_all; done)
      | (simp_all; done)
      | (exfalso; simp_all; omega)
  refine wp_skip ?_
  refine then_nrm ?_
  show Code.wp Try.prog _ _ _ _
  refine wp_seq ?_
  refine wp_region_list ?_
  refine W_val hA rfl 12 rfl (by decide) _ _ (R_mov hA rfl rfl _) (fun a hA => ?_)
  refine W_val hA rfl 13 rfl (by decide) _ _ (R_and hA rfl rfl rfl _) (fun a hA => ?_)
  refine W_val hA rfl 14 rfl (by decide) _ _ (R_neqUT hA rfl rfl rfl (bitZ x 1) (bz_ne x 2 1 (by decide) (by decide)) _) (fun a hA => ?_)
  refine W_val hA rfl 15 rfl (by decide) _ _ (R_mov hA rfl rfl _) (fun a hA => ?_)
  refine W_split hA 15 rfl (fun c2 hA => ?_) (fun c2 hA => ?_)
  · skip
    refine W_gskip hA rfl rfl rfl 16 rfl (by decide) (fun a hA => ?_)
    refine W_gskip hA rfl rfl rfl 17 rfl (by decide) (fun a hA => ?_)
    refine W_gskipU hA rfl rfl rfl 18 rfl (by decide) (fun a hA => ?_)
    refine W_gskipU hA rfl rfl rfl 19 rfl (by decide) (fun a hA => ?_)
    refine W_gskipU hA rfl rfl rfl 20 rfl (by decide) (fun a hA => ?_)
    refine W_gskipU hA rfl rfl rfl 21 rfl (by decide) (fun a hA => ?_)
    refine W_gskipU hA rfl rfl rfl 22 rfl (by decide) (fun a hA => ?_)
    refine W_gskipU hA rfl rfl rfl 23 rfl (by decide) (fun a hA => ?_)
    refine W_gskipU hA rfl rfl rfl 24 rfl (by decide) (fun a hA => ?_)
    refine W_gskipU hA rfl rfl rfl 25 rfl (by decide) (fun a hA => ?_)
    refine W_gskipU hA rfl rfl rfl 26 rfl (by decide) (fun a hA => ?_)
    refine W_gskipU hA rfl rfl rfl 27 rfl (by decide) (fun a hA => ?_)
    refine W_gskip hA rfl rfl rfl 28 rfl (by decide) (fun a hA => ?_)
    refine W_val hA rfl 29 rfl (by decide) _ _ (R_pick hA rfl rfl rfl _) (fun a hA => ?_)
    refine W_val hA rfl 4 rfl (by decide) _ _ (R_asg hA rfl rfl _) (fun a hA => ?_)
    refine W_nil ?_
    refine then_nrm ?_
    show Code.wp Try.prog _ _ _ _
    refine wp_ret ?_
    refine ret_tmp (j := 4) (by kernel_rfl) hA (by decide) rfl ⟨congrArg (fun x : Bool => Ending.returned (.bool x)) ?_, HB⟩
    unfold loadB
    first
      | (simp only [c1, c2, if_true, if_false, Bool.false_eq_true, Bool.not_true, Bool.not_false, Bool.true_and, Bool.false_and, Bool.and_true, Bool.and_false, Bool.true_or, Bool.false_or, Bool.or_true, Bool.or_false]; done)
      | (exfalso; simp_all; done)
      | (simp_all; done)
      | (exfalso; simp_all; omega)
  refine W_gval hA rfl rfl rfl 16 rfl (by decide) _ _ (R_mov hA rfl rfl _) (fun a hA => ?_)
  refine W_gval hA rfl rfl rfl 17 rfl (by decide) _ _ (R_mov hA rfl rfl _) (fun a hA => ?_)
  refine W_split hA 17 rfl (fun c3 hA => ?_) (fun c3 hA => ?_)
  · skip
    refine W_gval hA rfl rfl rfl 18 rfl (by decide) _ _ (R_fa hA rfl rfl (fun w => fa_want _ 5 (by decide) w) _) (fun a hA => ?_)
    refine W_gval hA rfl rfl rfl 19 rfl (by decide) _ _ (R_ld (v := .bool s.mxr) hA rfl rfl ag_bool (RowC.cell B3 5 _ rfl)) (fun a hA => ?_)
    refine W_gval hA rfl rfl rfl 20 rfl (by decide) _ _ (R_mov hA rfl rfl _) (fun a hA => ?_)
    refine W_split hA 20 rfl (fun c4 hA => ?_) (fun c4 hA => ?_)
    · skip
      refine W_gskip hA rfl rfl rfl 21 rfl (by decide) (fun a hA => ?_)
      refine W_gskip hA rfl rfl rfl 22 rfl (by decide) (fun a hA => ?_)
      refine W_gskip hA rfl rfl rfl 23 rfl (by decide) (fun a hA => ?_)
      refine W_gskipU hA rfl rfl rfl 24 rfl (by decide) (fun a hA => ?_)
      refine W_gskipU hA rfl rfl rfl 25 rfl (by decide) (fun a hA => ?_)
      refine W_gskip hA rfl rfl rfl 26 rfl (by decide) (fun a hA => ?_)
      refine W_gval hA rfl rfl rfl 27 rfl (by decide) _ _ (R_pick hA rfl rfl rfl _) (fun a hA => ?_)
      refine W_gval hA rfl rfl rfl 28 rfl (by decide) _ _ (R_pick hA rfl rfl rfl _) (fun a hA => ?_)
      refine W_val hA rfl 29 rfl (by decide) _ _ (R_pick hA rfl rfl rfl _) (fun a hA => ?_)
      refine W_val hA rfl 4 rfl (by decide) _ _ (R_asg hA rfl rfl _) (fun a hA => ?_)
      refine W_nil ?_
      refine then_nrm ?_
      show Code.wp Try.prog _ _ _ _
      refine wp_ret ?_
      refine ret_tmp (j := 4) (by kernel_rfl) hA (by decide) rfl ⟨congrArg (fun x : Bool => Ending.returned (.bool x)) ?_, HB⟩
      unfold loadB
      first
        | (simp only [c1, c2, c3, c4, if_true, if_false, Bool.false_eq_true, Bool.not_true, Bool.not_false, Bool.true_and, Bool.false_and, Bool.and_true, Bool.and_false, Bool.true_or, Bool.false_or, Bool.or_true, Bool.or_false]; done)
        | (exfalso; simp_all; done)
        | (simp_all; done)
        | (exfalso; simp_all; omega)
    refine W_gval hA rfl rfl rfl 21 rfl (by decide) _ _ (R_fa hA rfl rfl (fun w => fa_want _ 3 (by decide) w) _) (fun a hA => ?_)
    refine W_gval hA rfl rfl rfl 22 rfl (by decide) _ _ (R_ld (v := .bool s.v) hA rfl rfl ag_bool (RowC.cell B3 3 _ rfl)) (fun a hA => ?_)
    refine W_gval hA rfl rfl rfl 23 rfl (by decide) _ _ (R_mov hA rfl rfl _) (fun a hA => ?_)
    refine W_split hA 23 rfl (fun c5 hA => ?_) (fun c5 hA => ?_)
    · skip
      refine W_gval hA rfl rfl rfl 24 rfl (by decide) _ _ (R_fa hA rfl rfl (fun w => fa_want _ 6 (by decide) w) _) (fun a hA => ?_)
      refine W_gval hA rfl rfl rfl 25 rfl (by decide) _ _ (R_ld (v := .bool s.vmxr) hA rfl rfl ag_bool (RowC.cell B3 6 _ rfl)) (fun a hA => ?_)
      refine W_gval hA rfl rfl rfl 26 rfl (by decide) _ _ (R_pick hA rfl rfl rfl _) (fun a hA => ?_)
      refine W_gval hA rfl rfl rfl 27 rfl (by decide) _ _ (R_pick hA rfl rfl rfl _) (fun a hA => ?_)
      refine W_gval hA rfl rfl rfl 28 rfl (by decide) _ _ (R_pick hA rfl rfl rfl _) (fun a hA => ?_)
      refine W_val hA rfl 29 rfl (by decide) _ _ (R_pick hA rfl rfl rfl _) (fun a hA => ?_)
      refine W_val hA rfl 4 rfl (by decide) _ _ (R_asg hA rfl rfl _) (fun a hA => ?_)
      refine W_nil ?_
      refine then_nrm ?_
      show Code.wp Try.prog _ _ _ _
      refine wp_ret ?_
      refine ret_tmp (j := 4) (by kernel_rfl) hA (by decide) rfl ⟨congrArg (fun x : Bool => Ending.returned (.bool x)) ?_, HB⟩
      unfold loadB
      first
        | (simp only [c1, c2, c3, c4, c5, if_true, if_false, Bool.false_eq_true, Bool.not_true, Bool.not_false, Bool.true_and, Bool.false_and, Bool.and_true, Bool.and_false, Bool.true_or, Bool.false_or, Bool.or_true, Bool.or_false]; done)
        | (exfalso; simp_all; done)
        | (simp_all; done)
        | (exfalso; simp_all; omega)
    refine W_gskip hA rfl rfl rfl 24 rfl (by decide) (fun a hA => ?_)
    refine W_gskip hA rfl rfl rfl 25 rfl (by decide) (fun a hA => ?_)
    refine W_gval hA rfl rfl rfl 26 rfl (by decide) _ _ (R_pick hA rfl rfl rfl _) (fun a hA => ?_)
    refine W_gval hA rfl rfl rfl 27 rfl (by decide) _ _ (R_pick hA rfl rfl rfl _) (fun a hA => ?_)
    refine W_gval hA rfl rfl rfl 28 rfl (by decide) _ _ (R_pick hA rfl rfl rfl _) (fun a hA => ?_)
    refine W_val hA rfl 29 rfl (by decide) _ _ (R_pick hA rfl rfl rfl _) (fun a hA => ?_)
    refine W_val hA rfl 4 rfl (by decide) _ _ (R_asg hA rfl rfl _) (fun a hA => ?_)
    refine W_nil ?_
    refine then_nrm ?_
    show Code.wp Try.prog _ _ _ _
    refine wp_ret ?_
    refine ret_tmp (j := 4) (by kernel_rfl) hA (by decide) rfl ⟨congrArg (fun x : Bool => Ending.returned (.bool x)) ?_, HB⟩
    unfold loadB
    first
      | (simp only [c1, c2, c3, c4, c5, if_true, if_false, Bool.false_eq_true, Bool.not_true, Bool.not_false, Bool.true_and, Bool.false_and, Bool.and_true, Bool.and_false, Bool.true_or, Bool.false_or, Bool.or_true, Bool.or_false]; done)
      | (exfalso; simp_all; done)
      | (simp_all; done)
      | (exfalso; simp_all; omega)
  refine W_gskip hA rfl rfl rfl 18 rfl (by decide) (fun a hA => ?_)
  refine W_gskip hA rfl rfl rfl 19 rfl (by decide) (fun a hA => ?_)
  refine W_gskip hA rfl rfl rfl 20 rfl (by decide) (fun a hA => ?_)
  refine W_gskipU hA rfl rfl rfl 21 rfl (by decide) (fun a hA => ?_)
  refine W_gskipU hA rfl rfl rfl 22 rfl (by decide) (fun a hA => ?_)
  refine W_gskipU hA rfl rfl rfl 23 rfl (by decide) (fun a hA => ?_)
  refine W_gskipU hA rfl rfl rfl 24 rfl (by decide) (fun a hA => ?_)
  refine W_gskipU hA rfl rfl rfl 25 rfl (by decide) (fun a hA => ?_)
  refine W_gskipU hA rfl rfl rfl 26 rfl (by decide) (fun a hA => ?_)
  refine W_gskip hA rfl rfl rfl 27 rfl (by decide) (fun a hA => ?_)
  refine W_gval hA rfl rfl rfl 28 rfl (by decide) _ _ (R_pick hA rfl rfl rfl _) (fun a hA => ?_)
  refine W_val hA rfl 29 rfl (by decide) _ _ (R_pick hA rfl rfl rfl _) (fun a hA => ?_)
  refine W_val hA rfl 4 rfl (by decide) _ _ (R_asg hA rfl rfl _) (fun a hA => ?_)
  refine W_nil ?_
  refine then_nrm ?_
  show Code.wp Try.prog _ _ _ _
  refine wp_ret ?_
  refine ret_tmp (j := 4) (by kernel_rfl) hA (by decide) rfl ⟨congrArg (fun x : Bool => Ending.returned (.bool x)) ?_, HB⟩
  unfold loadB
  first
    | (simp only [c1, c2, c3, if_true, if_false, Bool.false_eq_true, Bool.not_true, Bool.not_false, Bool.true_and, Bool.false_and, Bool.and_true, Bool.and_false, Bool.true_or, Bool.false_or, Bool.or_true, Bool.or_false]; done)
    | (exfalso; simp_all; done)
    | (simp_all; done)
    | (exfalso; simp_all; omega)
set_option maxHeartbeats 8000000 in
theorem do_any (x : Int) (s : WS) (w : World) : Calls Try.prog 29 #[.int .u64 x, wantV s] w fun e w' => e = .returned (.bool (doB x s)) ∧ Below w.heap.size w w' := by
  have HB := Below.refl w.heap.size w
  go_enter Try.func29, Try.ntmps29
  refine begin_fr [(1, wantV s), (0, .int .u64 x)] 22 ?_ (fun a hA => ?_)
  · exact FrA.add (FrA.add (FrA.nil (by rfl) (by rfl)) 0 _ (by rfl)) 1 _ (by rfl)
  refine wp_seq ?_
  refine wp_region_list ?_
  refine W_boxT (cs := wantC s) hA rfl 3 rfl (by decide) rfl rfl (fun w1 bB3 a hA hb B3 gB3 => ?_)
  replace gB3 := Nat.le_trans HB.size gB3
  replace HB := HB.trans (hb.mono HB.size)
  clear hb
  refine W_val hA rfl 4 rfl (by decide) _ _ (R_asg hA rfl rfl _) (fun a hA => ?_)
  refine W_nil ?_
  refine then_nrm ?_
  show Code.wp Try.prog _ _ _ _
  refine wp_seq ?_
  refine wp_seq ?_
  refine wp_region_list ?_
  refine W_val hA rfl 5 rfl (by decide) _ _ (R_fa hA rfl rfl (fun w => fa_want _ 0 (by decide) w) _) (fun a hA => ?_)
  refine W_val hA rfl 6 rfl (by decide) _ _ (R_ld (v := .int .u8 s.kind) hA rfl rfl ag_u8 (RowC.cell B3 0 _ rfl)) (fun a hA => ?_)
  refine W_nil ?_
  refine then_nrm ?_
  show Code.wp Try.prog _ _ _ _
  refine wp_block ?_
  refine wp_seq ?_
  refine wp_region_list ?_
  refine W_val hA rfl 8 rfl (by decide) _ _ (R_eqlB hA rfl rfl rfl _) (fun a hA => ?_)
  refine W_val hA rfl 7 rfl (by decide) _ _ (R_asg hA rfl rfl _) (fun a hA => ?_)
  refine W_nil ?_
  refine then_nrm ?_
  show Code.wp Try.prog _ _ _ _
  refine wp_cond_split (hA.ev (x := .tmp 7) rfl) (fun c1 => ?_) (fun c1 => ?_)
  · skip
    refine wp_seq ?_
    refine wp_region_list ?_
    refine W_val hA rfl 9 rfl (by decide) _ _ (R_mov hA rfl rfl _) (fun a hA => ?_)
    refine W_val hA rfl 10 rfl (by decide) _ _ (R_row hA rfl rfl B3 Try.underlying25 (by kernel_rfl)) (fun a hA => ?_)
    refine W_callA hA (by decide) (fun _ _ => by kernel_rfl) (args2 hA rfl rfl) (load_any x s _) (fun w2 hw a hA => ?_)
    replace HB := HB.trans (hw.mono HB.size)
    replace B3 := B3.below hw
    clear hw
    refine W_val hA rfl 4 rfl (by decide) _ _ (R_asg hA rfl rfl _) (fun a hA => ?_)
    refine W_nil ?_
    refine then_nrm ?_
    show Code.wp Try.prog _ _ _ _
    refine wp_ret ?_
    refine blk_ret ?_
    refine then_ret ?_
    refine ret_tmp (j := 4) (by kernel_rfl) hA (by decide) rfl ⟨congrArg (fun x : Bool => Ending.returned (.bool x)) ?_, HB⟩
    unfold doB
    first
      | (simp only [c1, if_true, if_false, Bool.false_eq_true, Bool.not_true, Bool.not_false, Bool.true_and, Bool.false_and, Bool.and_true, Bool.and_false, Bool.true_or, Bool.false_or, Bool.or_true, Bool.or_false]; done)
      | (exfalso; simp_all; done)
      | (simp_all; done)
      | (exfalso; simp_all; omega)
  refine wp_seq ?_
  refine wp_region_list ?_
  refine W_val hA rfl 13 rfl (by decide) _ _ (R_eqlB hA rfl rfl rfl _) (fun a hA => ?_)
  refine W_val hA rfl 12 rfl (by decide) _ _ (R_asg hA rfl rfl _) (fun a hA => ?_)
  refine W_nil ?_
  refine then_nrm ?_
  show Code.wp Try.prog _ _ _ _
  refine wp_cond_split (hA.ev (x := .tmp 12) rfl) (fun c2 => ?_) (fun c2 => ?_)
  · skip
    refine wp_seq ?_
    refine wp_region_list ?_
    refine W_val hA rfl 14 rfl (by decide) _ _ (R_mov hA rfl rfl _) (fun a hA => ?_)
    refine W_val hA rfl 15 rfl (by decide) _ _ (R_and hA rfl rfl rfl _) (fun a hA => ?_)
    refine W_val hA rfl 16 rfl (by decide) _ _ (R_neqUT hA rfl rfl rfl (bitZ x 2) (bz_ne x 4 2 (by decide) (by decide)) _) (fun a hA => ?_)
    refine W_val hA rfl 4 rfl (by decide) _ _ (R_asg hA rfl rfl _) (fun a hA => ?_)
    refine W_nil ?_
    refine then_nrm ?_
    show Code.wp Try.prog _ _ _ _
    refine wp_ret ?_
    refine blk_ret ?_
    refine then_ret ?_
    refine ret_tmp (j := 4) (by kernel_rfl) hA (by decide) rfl ⟨congrArg (fun x : Bool => Ending.returned (.bool x)) ?_, HB⟩
    unfold doB
    first
      | (simp only [c1, c2, if_true, if_false, Bool.false_eq_true, Bool.not_true, Bool.not_false, Bool.true_and, Bool.false_and, Bool.and_true, Bool.and_false, Bool.true_or, Bool.false_or, Bool.or_true, Bool.or_false]; done)
      | (exfalso; simp_all; done)
      | (simp_all; done)
      | (exfalso; simp_all; omega)
  refine wp_seq ?_
  refine wp_region_list ?_
  refine W_val hA rfl 18 rfl (by decide) _ _ (R_eqlB hA rfl rfl rfl _) (fun a hA => ?_)
  refine W_val hA rfl 17 rfl (by decide) _ _ (R_asg hA rfl rfl _) (fun a hA => ?_)
  refine W_nil ?_
  refine then_nrm ?_
  show Code.wp Try.prog _ _ _ _
  refine wp_cond_split (hA.ev (x := .tmp 17) rfl) (fun c3 => ?_) (fun c3 => ?_)
  · skip
    refine wp_seq ?_
    refine wp_region_list ?_
    refine W_val hA rfl 19 rfl (by decide) _ _ (R_mov hA rfl rfl _) (fun a hA => ?_)
    refine W_val hA rfl 20 rfl (by decide) _ _ (R_and hA rfl rfl rfl _) (fun a hA => ?_)
    refine W_val hA rfl 21 rfl (by decide) _ _ (R_neqUT hA rfl rfl rfl (bitZ x 3) (bz_ne x 8 3 (by decide) (by decide)) _) (fun a hA => ?_)
    refine W_val hA rfl 4 rfl (by decide) _ _ (R_asg hA rfl rfl _) (fun a hA => ?_)
    refine W_nil ?_
    refine then_nrm ?_
    show Code.wp Try.prog _ _ _ _
    refine wp_ret ?_
    refine blk_ret ?_
    refine then_ret ?_
    refine ret_tmp (j := 4) (by kernel_rfl) hA (by decide) rfl ⟨congrArg (fun x : Bool => Ending.returned (.bool x)) ?_, HB⟩
    unfold doB
    first
      | (simp only [c1, c2, c3, if_true, if_false, Bool.false_eq_true, Bool.not_true, Bool.not_false, Bool.true_and, Bool.false_and, Bool.and_true, Bool.and_false, Bool.true_or, Bool.false_or, Bool.or_true, Bool.or_false]; done)
      | (exfalso; simp_all; done)
      | (simp_all; done)
      | (exfalso; simp_all; omega)
  refine wp_skip ?_
  refine blk_nrm ?_
  refine then_nrm ?_
  show Code.wp Try.prog _ _ _ _
  refine wp_seq ?_
  refine wp_region_list ?_
  refine W_val hA rfl 4 rfl (by decide) _ _ (R_asg hA rfl rfl _) (fun a hA => ?_)
  refine W_nil ?_
  refine then_nrm ?_
  show Code.wp Try.prog _ _ _ _
  refine wp_ret ?_
  refine ret_tmp (j := 4) (by kernel_rfl) hA (by decide) rfl ⟨congrArg (fun x : Bool => Ending.returned (.bool x)) ?_, HB⟩
  unfold doB
  first
    | (simp only [c1, c2, c3, if_true, if_false, Bool.false_eq_true, Bool.not_true, Bool.not_false, Bool.true_and, Bool.false_and, Bool.and_true, Bool.and_false, Bool.true_or, Bool.false_or, Bool.or_true, Bool.or_false]; done)
    | (exfalso; simp_all; done)
    | (simp_all; done)
    | (exfalso; simp_all; omega)
set_option maxHeartbeats 8000000 in
theorem allow_any (x : Int) (s : WS) (hx : In64 x) (sk : WOk s) (w : World) : Calls Try.prog 12 #[.int .u64 x, wantV s] w fun e w' => e = .returned (.bool (allowB x s)) ∧ Below w.heap.size w w' := by
  have HB := Below.refl w.heap.size w
  go_enter Try.func12, Try.ntmps12
  refine begin_fr [(1, wantV s), (0, .int .u64 x)] 13 ?_ (fun a hA => ?_)
  · exact FrA.add (FrA.add (FrA.nil (by rfl) (by rfl)) 0 _ (by rfl)) 1 _ (by rfl)
  refine wp_seq ?_
  refine wp_region_list ?_
  refine W_boxT (cs := wantC s) hA rfl 3 rfl (by decide) rfl rfl (fun w1 bB3 a hA hb B3 gB3 => ?_)
  replace gB3 := Nat.le_trans HB.size gB3
  replace HB := HB.trans (hb.mono HB.size)
  clear hb
  refine W_val hA rfl 4 rfl (by decide) _ _ (R_asg hA rfl rfl _) (fun a hA => ?_)
  refine W_nil ?_
  refine then_nrm ?_
  show Code.wp Try.prog _ _ _ _
  refine wp_seq ?_
  refine wp_region_list ?_
  refine W_val hA rfl 5 rfl (by decide) _ _ (R_mov hA rfl rfl _) (fun a hA => ?_)
  refine W_val hA rfl 6 rfl (by decide) _ _ (R_row hA rfl rfl B3 Try.underlying25 (by kernel_rfl)) (fun a hA => ?_)
  refine W_callA hA (by decide) (fun _ _ => by kernel_rfl) (args2 hA rfl rfl) (come_any x s _) (fun w2 hw a hA => ?_)
  replace HB := HB.trans (hw.mono HB.size)
  replace B3 := B3.below hw
  clear hw
  refine W_val hA rfl 8 rfl (by decide) _ _ (R_mov hA rfl rfl _) (fun a hA => ?_)
  refine W_split hA 8 rfl (fun c1 hA => ?_) (fun c1 hA => ?_)
  · skip
    refine W_gval hA rfl rfl rfl 9 rfl (by decide) _ _ (R_mov hA rfl rfl _) (fun a hA => ?_)
    refine W_gval hA rfl rfl rfl 10 rfl (by decide) _ _ (R_row hA rfl rfl B3 Try.underlying25 (by kernel_rfl)) (fun a hA => ?_)
    refine W_gcallB hA rfl rfl (by decide) (fun _ _ => by kernel_rfl) (args2 hA rfl rfl) (do_any x s _) (fun w3 hw a hA => ?_)
    replace HB := HB.trans (hw.mono HB.size)
    replace B3 := B3.below hw
    clear hw
    refine W_val hA rfl 12 rfl (by decide) _ _ (R_pick hA rfl rfl rfl _) (fun a hA => ?_)
    refine W_val hA rfl 4 rfl (by decide) _ _ (R_asg hA rfl rfl _) (fun a hA => ?_)
    refine W_nil ?_
    refine then_nrm ?_
    show Code.wp Try.prog _ _ _ _
    refine wp_ret ?_
    refine ret_tmp (j := 4) (by kernel_rfl) hA (by decide) rfl ⟨congrArg (fun x : Bool => Ending.returned (.bool x)) ?_, HB⟩
    rw [allow_parts x s sk]
    first
      | (simp only [c1, if_true, if_false, Bool.false_eq_true, Bool.not_true, Bool.not_false, Bool.true_and, Bool.false_and, Bool.and_true, Bool.and_false, Bool.true_or, Bool.false_or, Bool.or_true, Bool.or_false]; done)
      | (simp_all; done)
  refine W_gskip hA rfl rfl rfl 9 rfl (by decide) (fun a hA => ?_)
  refine W_gskip hA rfl rfl rfl 10 rfl (by decide) (fun a hA => ?_)
  refine W_gskip hA rfl rfl rfl 11 rfl (by decide) (fun a hA => ?_)
  refine W_val hA rfl 12 rfl (by decide) _ _ (R_pick hA rfl rfl rfl _) (fun a hA => ?_)
  refine W_val hA rfl 4 rfl (by decide) _ _ (R_asg hA rfl rfl _) (fun a hA => ?_)
  refine W_nil ?_
  refine then_nrm ?_
  show Code.wp Try.prog _ _ _ _
  refine wp_ret ?_
  refine ret_tmp (j := 4) (by kernel_rfl) hA (by decide) rfl ⟨congrArg (fun x : Bool => Ending.returned (.bool x)) ?_, HB⟩
  rw [allow_parts x s sk]
  first
    | (simp only [c1, if_true, if_false, Bool.false_eq_true, Bool.not_true, Bool.not_false, Bool.true_and, Bool.false_and, Bool.and_true, Bool.and_false, Bool.true_or, Bool.false_or, Bool.or_true, Bool.or_false]; done)
    | (simp_all; done)
set_option maxHeartbeats 8000000 in
theorem full_any (x : Int) (s : WS) (hx : In64 x) (sk : WOk s) (w : World) : Calls Try.prog 24 #[.int .u64 x, wantV s] w fun e w' => e = .returned (.bool (fullB x s)) ∧ Below w.heap.size w w' := by
  have HB := Below.refl w.heap.size w
  go_enter Try.func24, Try.ntmps24
  refine begin_fr [(1, wantV s), (0, .int .u64 x)] 18 ?_ (fun a hA => ?_)
  · exact FrA.add (FrA.add (FrA.nil (by rfl) (by rfl)) 0 _ (by rfl)) 1 _ (by rfl)
  refine wp_seq ?_
  refine wp_region_list ?_
  refine W_boxT (cs := wantC s) hA rfl 3 rfl (by decide) rfl rfl (fun w1 bB3 a hA hb B3 gB3 => ?_)
  replace gB3 := Nat.le_trans HB.size gB3
  replace HB := HB.trans (hb.mono HB.size)
  clear hb
  refine W_val hA rfl 4 rfl (by decide) _ _ (R_asg hA rfl rfl _) (fun a hA => ?_)
  refine W_nil ?_
  refine then_nrm ?_
  show Code.wp Try.prog _ _ _ _
  refine wp_seq ?_
  refine wp_region_list ?_
  refine W_val hA rfl 5 rfl (by decide) _ _ (R_mov hA rfl rfl _) (fun a hA => ?_)
  refine W_val hA rfl 6 rfl (by decide) _ _ (R_and hA rfl rfl rfl _) (fun a hA => ?_)
  refine W_val hA rfl 7 rfl (by decide) _ _ (R_neqUT hA rfl rfl rfl (bitZ x 6) (bz_ne x 64 6 (by decide) (by decide)) _) (fun a hA => ?_)
  refine W_val hA rfl 8 rfl (by decide) _ _ (R_mov hA rfl rfl _) (fun a hA => ?_)
  refine W_split hA 8 rfl (fun c1 hA => ?_) (fun c1 hA => ?_)
  · skip
    refine W_gval hA rfl rfl rfl 9 rfl (by decide) _ _ (R_fa hA rfl rfl (fun w => fa_want _ 0 (by decide) w) _) (fun a hA => ?_)
    refine W_gval hA rfl rfl rfl 10 rfl (by decide) _ _ (R_ld (v := .int .u8 s.kind) hA rfl rfl ag_u8 (RowC.cell B3 0 _ rfl)) (fun a hA => ?_)
    refine W_gval hA rfl rfl rfl 11 rfl (by decide) _ _ (R_neqB hA rfl rfl rfl _) (fun a hA => ?_)
    refine W_gval hA rfl rfl rfl 12 rfl (by decide) _ _ (R_mov hA rfl rfl _) (fun a hA => ?_)
    refine W_split hA 12 rfl (fun c2 hA => ?_) (fun c2 hA => ?_)
    · skip
      refine W_gskip hA rfl rfl rfl 13 rfl (by decide) (fun a hA => ?_)
      refine W_gskip hA rfl rfl rfl 14 rfl (by decide) (fun a hA => ?_)
      refine W_gskip hA rfl rfl rfl 15 rfl (by decide) (fun a hA => ?_)
      refine W_gval hA rfl rfl rfl 16 rfl (by decide) _ _ (R_pick hA rfl rfl rfl _) (fun a hA => ?_)
      refine W_val hA rfl 17 rfl (by decide) _ _ (R_pick hA rfl rfl rfl _) (fun a hA => ?_)
      refine W_val hA rfl 4 rfl (by decide) _ _ (R_asg hA rfl rfl _) (fun a hA => ?_)
      refine W_nil ?_
      refine then_nrm ?_
      show Code.wp Try.prog _ _ _ _
      refine wp_ret ?_
      refine ret_tmp (j := 4) (by kernel_rfl) hA (by decide) rfl ⟨congrArg (fun x : Bool => Ending.returned (.bool x)) ?_, HB⟩
      unfold fullB
      first
        | (simp only [c1, c2, if_true, if_false, Bool.false_eq_true, Bool.not_true, Bool.not_false, Bool.true_and, Bool.false_and, Bool.and_true, Bool.and_false, Bool.true_or, Bool.false_or, Bool.or_true, Bool.or_false]; done)
        | (exfalso; simp_all; done)
        | (simp_all; done)
        | (exfalso; simp_all; omega)
    refine W_gval hA rfl rfl rfl 13 rfl (by decide) _ _ (R_mov hA rfl rfl _) (fun a hA => ?_)
    refine W_gval hA rfl rfl rfl 14 rfl (by decide) _ _ (R_and hA rfl rfl rfl _) (fun a hA => ?_)
    refine W_gval hA rfl rfl rfl 15 rfl (by decide) _ _ (R_neqUT hA rfl rfl rfl (bitZ x 7) (bz_ne x 128 7 (by decide) (by decide)) _) (fun a hA => ?_)
    refine W_gval hA rfl rfl rfl 16 rfl (by decide) _ _ (R_pick hA rfl rfl rfl _) (fun a hA => ?_)
    refine W_val hA rfl 17 rfl (by decide) _ _ (R_pick hA rfl rfl rfl _) (fun a hA => ?_)
    refine W_val hA rfl 4 rfl (by decide) _ _ (R_asg hA rfl rfl _) (fun a hA => ?_)
    refine W_nil ?_
    refine then_nrm ?_
    show Code.wp Try.prog _ _ _ _
    refine wp_ret ?_
    refine ret_tmp (j := 4) (by kernel_rfl) hA (by decide) rfl ⟨congrArg (fun x : Bool => Ending.returned (.bool x)) ?_, HB⟩
    unfold fullB
    first
      | (simp only [c1, c2, if_true, if_false, Bool.false_eq_true, Bool.not_true, Bool.not_false, Bool.true_and, Bool.false_and, Bool.and_true, Bool.and_false, Bool.true_or, Bool.false_or, Bool.or_true, Bool.or_false]; done)
      | (exfalso; simp_all; done)
      | (simp_all; done)
      | (exfalso; simp_all; omega)
  refine W_gskip hA rfl rfl rfl 9 rfl (by decide) (fun a hA => ?_)
  refine W_gskip hA rfl rfl rfl 10 rfl (by decide) (fun a hA => ?_)
  refine W_gskip hA rfl rfl rfl 11 rfl (by decide) (fun a hA => ?_)
  refine W_gskip hA rfl rfl rfl 12 rfl (by decide) (fun a hA => ?_)
  refine W_gskipU hA rfl rfl rfl 13 rfl (by decide) (fun a hA => ?_)
  refine W_gskipU hA rfl rfl rfl 14 rfl (by decide) (fun a hA => ?_)
  refine W_gskipU hA rfl rfl rfl 15 rfl (by decide) (fun a hA => ?_)
  refine W_gskip hA rfl rfl rfl 16 rfl (by decide) (fun a hA => ?_)
  refine W_val hA rfl 17 rfl (by decide) _ _ (R_pick hA rfl rfl rfl _) (fun a hA => ?_)
  refine W_val hA rfl 4 rfl (by decide) _ _ (R_asg hA rfl rfl _) (fun a hA => ?_)
  refine W_nil ?_
  refine then_nrm ?_
  show Code.wp Try.prog _ _ _ _
  refine wp_ret ?_
  refine ret_tmp (j := 4) (by kernel_rfl) hA (by decide) rfl ⟨congrArg (fun x : Bool => Ending.returned (.bool x)) ?_, HB⟩
  unfold fullB
  first
    | (simp only [c1, if_true, if_false, Bool.false_eq_true, Bool.not_true, Bool.not_false, Bool.true_and, Bool.false_and, Bool.and_true, Bool.and_false, Bool.true_or, Bool.false_or, Bool.or_true, Bool.or_false]; done)
    | (exfalso; simp_all; done)
    | (simp_all; done)
    | (exfalso; simp_all; omega)
def belowZ (lv : Int) : Int := if decide (lv < 1) then 0 else 1
set_option maxHeartbeats 8000000 in
theorem below_any (lv : Int) (w : World) : Calls Try.prog 30 #[.int .i64 lv] w fun e w' => e = .returned (.int .i64 (belowZ lv)) ∧ Below w.heap.size w w' := by
  have HB := Below.refl w.heap.size w
  go_enter Try.func30, Try.ntmps30
  refine begin_fr [(0, .int .i64 lv)] 5 ?_ (fun a hA => ?_)
  · exact FrA.add (FrA.nil (by rfl) (by rfl)) 0 _ (by rfl)
  refine wp_seq ?_
  refine wp_region_list ?_
  refine W_val hA rfl 2 rfl (by decide) _ _ (R_asg hA rfl rfl _) (fun a hA => ?_)
  refine W_nil ?_
  refine then_nrm ?_
  show Code.wp Try.prog _ _ _ _
  refine wp_seq ?_
  refine wp_seq ?_
  refine wp_region_list ?_
  refine W_val hA rfl 3 rfl (by decide) _ _ (R_mov hA rfl rfl _) (fun a hA => ?_)
  refine W_val hA rfl 4 rfl (by decide) _ _ (R_lssI hA rfl rfl rfl _) (fun a hA => ?_)
  refine W_nil ?_
  refine then_nrm ?_
  show Code.wp Try.prog _ _ _ _
  refine wp_cond_split (hA.ev (x := .tmp 4) rfl) (fun c1 => ?_) (fun c1 => ?_)
  · skip
    refine wp_seq ?_
    refine wp_region_list ?_
    refine W_val hA rfl 2 rfl (by decide) _ _ (R_asg hA rfl rfl _) (fun a hA => ?_)
    refine W_nil ?_
    refine then_nrm ?_
    show Code.wp Try.prog _ _ _ _
    refine wp_ret ?_
    refine then_ret ?_
    refine ret_tmp (j := 2) (by kernel_rfl) hA (by decide) rfl ⟨congrArg (fun x : Int => Ending.returned (.int .i64 x)) ?_, HB⟩
    unfold belowZ
    first
      | (simp only [c1, if_true, if_false, Bool.false_eq_true, Bool.not_true, Bool.not_false, Bool.true_and, Bool.false_and, Bool.and_true, Bool.and_false, Bool.true_or, Bool.false_or, Bool.or_true, Bool.or_false]; done)
      | (exfalso; simp_all; done)
      | (simp_all; done)
      | (exfalso; simp_all; omega)
  refine wp_skip ?_
  refine then_nrm ?_
  show Code.wp Try.prog _ _ _ _
  refine wp_seq ?_
  refine wp_region_list ?_
  refine W_val hA rfl 2 rfl (by decide) _ _ (R_asg hA rfl rfl _) (fun a hA => ?_)
  refine W_nil ?_
  refine then_nrm ?_
  show Code.wp Try.prog _ _ _ _
  refine wp_ret ?_
  refine ret_tmp (j := 2) (by kernel_rfl) hA (by decide) rfl ⟨congrArg (fun x : Int => Ending.returned (.int .i64 x)) ?_, HB⟩
  unfold belowZ
  first
    | (simp only [c1, if_true, if_false, Bool.false_eq_true, Bool.not_true, Bool.not_false, Bool.true_and, Bool.false_and, Bool.and_true, Bool.and_false, Bool.true_or, Bool.false_or, Bool.or_true, Bool.or_false]; done)
    | (exfalso; simp_all; done)
    | (simp_all; done)
    | (exfalso; simp_all; omega)
set_option maxHeartbeats 8000000 in
theorem indexes_any (lv : Int) (w : World) : Calls Try.prog 32 #[.int .i64 lv] w fun e w' => e = .returned (.int .i64 (idxZ lv)) ∧ Below w.heap.size w w' := by
  have HB := Below.refl w.heap.size w
  go_enter Try.func32, Try.ntmps32
  refine begin_fr [(0, .int .i64 lv)] 7 ?_ (fun a hA => ?_)
  · exact FrA.add (FrA.nil (by rfl) (by rfl)) 0 _ (by rfl)
  refine wp_seq ?_
  refine wp_region_list ?_
  refine W_val hA rfl 2 rfl (by decide) _ _ (R_asg hA rfl rfl _) (fun a hA => ?_)
  refine W_nil ?_
  refine then_nrm ?_
  show Code.wp Try.prog _ _ _ _
  refine wp_seq ?_
  refine wp_region_list ?_
  refine W_val hA rfl 3 rfl (by decide) _ _ (R_mov hA rfl rfl _) (fun a hA => ?_)
  refine W_val hA rfl 4 rfl (by decide) _ _ (R_maxI hA rfl rfl rfl _) (fun a hA => ?_)
  refine W_val hA rfl 5 rfl (by decide) _ _ (R_minI hA rfl rfl rfl _) (fun a hA => ?_)
  refine W_val hA rfl 6 rfl (by decide) _ _ (R_mulP hA rfl rfl rfl (idxZ lv) (by rw [idx_lv]; exact IntWalk.i64_in _ (by rcases idx_is lv with ⟨e, -⟩ | ⟨e, -⟩ | ⟨e, -⟩ <;> rw [e] <;> decide)) _) (fun a hA => ?_)
  refine W_val hA rfl 2 rfl (by decide) _ _ (R_asg hA rfl rfl _) (fun a hA => ?_)
  refine W_nil ?_
  refine then_nrm ?_
  show Code.wp Try.prog _ _ _ _
  refine wp_ret ?_
  refine ret_tmp (j := 2) (by kernel_rfl) hA (by decide) rfl ⟨congrArg (fun x : Int => Ending.returned (.int .i64 x)) ?_, HB⟩
  rfl
set_option maxHeartbeats 8000000 in
theorem index_any (y lv : Int) (ha : In64 y) (w : World) : Calls Try.prog 16 #[.int .u64 y, .int .i64 lv] w fun e w' => e = .returned (.int .u64 (indexZ y lv)) ∧ Below w.heap.size w w' := by
  have HB := Below.refl w.heap.size w
  go_enter Try.func16, Try.ntmps16
  refine begin_fr [(1, .int .i64 lv), (0, .int .u64 y)] 10 ?_ (fun a hA => ?_)
  · exact FrA.add (FrA.add (FrA.nil (by rfl) (by rfl)) 0 _ (by rfl)) 1 _ (by rfl)
  refine wp_seq ?_
  refine wp_region_list ?_
  refine W_val hA rfl 4 rfl (by decide) _ _ (R_asg hA rfl rfl _) (fun a hA => ?_)
  refine W_nil ?_
  refine then_nrm ?_
  show Code.wp Try.prog _ _ _ _
  refine wp_seq ?_
  refine wp_region_list ?_
  refine W_val hA rfl 5 rfl (by decide) _ _ (R_mov hA rfl rfl _) (fun a hA => ?_)
  refine W_val hA rfl 6 rfl (by decide) _ _ (R_mov hA rfl rfl _) (fun a hA => ?_)
  refine W_callA hA (by decide) (fun _ _ => by kernel_rfl) (args1 hA rfl) (indexes_any lv _) (fun w1 hw a hA => ?_)
  replace HB := HB.trans (hw.mono HB.size)
  clear hw
  refine W_val hA rfl 8 rfl (by decide) _ _ (R_addIT hA rfl rfl rfl (12 + idxZ lv) (IntWalk.i64_in _ (by rcases idx_is lv with ⟨e, -⟩ | ⟨e, -⟩ | ⟨e, -⟩ <;> rw [e] <;> decide)) _) (fun a hA => ?_)
  refine W_callA hA (by decide) (fun _ _ => by kernel_rfl) (args3 hA rfl rfl rfl) (fieldI_any y lv ha _) (fun w2 hw a hA => ?_)
  replace HB := HB.trans (hw.mono HB.size)
  clear hw
  refine W_val hA rfl 4 rfl (by decide) _ _ (R_asg hA rfl rfl _) (fun a hA => ?_)
  refine W_nil ?_
  refine then_nrm ?_
  show Code.wp Try.prog _ _ _ _
  refine wp_ret ?_
  refine ret_tmp (j := 4) (by kernel_rfl) hA (by decide) rfl ⟨congrArg (fun x : Int => Ending.returned (.int .u64 x)) ?_, HB⟩
  rfl
set_option maxHeartbeats 8000000 in
theorem pa_any (x lv y : Int) (hx : In64 x) (ha : In64 y) (w : World) : Calls Try.prog 17 #[.int .u64 x, .int .i64 lv, .int .u64 y] w fun e w' => e = .returned (.int .u64 (paZ x lv y)) ∧ Below w.heap.size w w' := by
  have HB := Below.refl w.heap.size w
  go_enter Try.func17, Try.ntmps17
  refine begin_fr [(2, .int .u64 y), (1, .int .i64 lv), (0, .int .u64 x)] 15 ?_ (fun a hA => ?_)
  · exact FrA.add (FrA.add (FrA.add (FrA.nil (by rfl) (by rfl)) 0 _ (by rfl)) 1 _ (by rfl)) 2 _ (by rfl)
  refine wp_seq ?_
  refine wp_region_list ?_
  refine W_val hA rfl 6 rfl (by decide) _ _ (R_asg hA rfl rfl _) (fun a hA => ?_)
  refine W_nil ?_
  refine then_nrm ?_
  show Code.wp Try.prog _ _ _ _
  refine wp_seq ?_
  refine wp_region_list ?_
  refine W_val hA rfl 7 rfl (by decide) _ _ (R_mov hA rfl rfl _) (fun a hA => ?_)
  refine W_callA hA (by decide) (fun _ _ => by kernel_rfl) (args1 hA rfl) (page_any x hx _) (fun w1 hw a hA => ?_)
  replace HB := HB.trans (hw.mono HB.size)
  clear hw
  refine W_val hA rfl 9 rfl (by decide) _ _ (R_shlP hA rfl 12 rfl (by decide) rfl (pageZ x * 4096) (by have := page_lt hx; rw [IntKind.wrap_u64]; omega) _) (fun a hA => ?_)
  refine W_val hA rfl 10 rfl (by decide) _ _ (R_mov hA rfl rfl _) (fun a hA => ?_)
  refine W_callA hA (by decide) (fun _ _ => by kernel_rfl) (args1 hA rfl) (indexes_any lv _) (fun w2 hw a hA => ?_)
  replace HB := HB.trans (hw.mono HB.size)
  clear hw
  refine W_val hA rfl 12 rfl (by decide) _ _ (R_addIT hA rfl rfl rfl (12 + idxZ lv) (IntWalk.i64_in _ (by rcases idx_is lv with ⟨e, -⟩ | ⟨e, -⟩ | ⟨e, -⟩ <;> rw [e] <;> decide)) _) (fun a hA => ?_)
  refine W_val hA rfl 13 rfl (by decide) _ _ (R_mov hA rfl rfl _) (fun a hA => ?_)
  refine W_callA hA (by decide) (fun _ _ => by kernel_rfl) (args4 hA rfl rfl rfl rfl) (putP_any x lv y hx ha _) (fun w3 hw a hA => ?_)
  replace HB := HB.trans (hw.mono HB.size)
  clear hw
  refine W_val hA rfl 6 rfl (by decide) _ _ (R_asg hA rfl rfl _) (fun a hA => ?_)
  refine W_nil ?_
  refine then_nrm ?_
  show Code.wp Try.prog _ _ _ _
  refine wp_ret ?_
  refine ret_tmp (j := 6) (by kernel_rfl) hA (by decide) rfl ⟨congrArg (fun x : Int => Ending.returned (.int .u64 x)) ?_, HB⟩
  rfl
set_option maxHeartbeats 8000000 in
theorem judge_any (x lv : Int) (s : WS) (hx : In64 x) (sk : WOk s) (w : World) : Calls Try.prog 13 #[.int .u64 x, .int .i64 lv, wantV s] w fun e w' => e = .returned (.int .i64 (judgeZ x lv s)) ∧ Below w.heap.size w w' := by
  have HB := Below.refl w.heap.size w
  go_enter Try.func13, Try.ntmps13
  refine begin_fr [(2, wantV s), (1, .int .i64 lv), (0, .int .u64 x)] 30 ?_ (fun a hA => ?_)
  · exact FrA.add (FrA.add (FrA.add (FrA.nil (by rfl) (by rfl)) 0 _ (by rfl)) 1 _ (by rfl)) 2 _ (by rfl)
  refine wp_seq ?_
  refine wp_region_list ?_
  refine W_boxT (cs := wantC s) hA rfl 5 rfl (by decide) rfl rfl (fun w1 bB5 a hA hb B5 gB5 => ?_)
  replace gB5 := Nat.le_trans HB.size gB5
  replace HB := HB.trans (hb.mono HB.size)
  clear hb
  refine W_val hA rfl 6 rfl (by decide) _ _ (R_asg hA rfl rfl _) (fun a hA => ?_)
  refine W_nil ?_
  refine then_nrm ?_
  show Code.wp Try.prog _ _ _ _
  refine wp_seq ?_
  refine wp_block ?_
  refine wp_seq ?_
  refine wp_region_list ?_
  refine W_val hA rfl 8 rfl (by decide) _ _ (R_mov hA rfl rfl _) (fun a hA => ?_)
  refine W_callA hA (by decide) (fun _ _ => by kernel_rfl) (args1 hA rfl) (ok_any x hx _) (fun w2 hw a hA => ?_)
  replace HB := HB.trans (hw.mono HB.size)
  replace B5 := B5.below hw
  clear hw
  refine W_val hA rfl 10 rfl (by decide) _ _ (R_not hA rfl rfl _) (fun a hA => ?_)
  refine W_val hA rfl 7 rfl (by decide) _ _ (R_asg hA rfl rfl _) (fun a hA => ?_)
  refine W_nil ?_
  refine then_nrm ?_
  show Code.wp Try.prog _ _ _ _
  refine wp_cond_split (hA.ev (x := .tmp 7) rfl) (fun c1 => ?_) (fun c1 => ?_)
  · skip
    refine wp_seq ?_
    refine wp_region_list ?_
    refine W_val hA rfl 6 rfl (by decide) _ _ (R_asg hA rfl rfl _) (fun a hA => ?_)
    refine W_nil ?_
    refine then_nrm ?_
    show Code.wp Try.prog _ _ _ _
    refine wp_ret ?_
    refine blk_ret ?_
    refine then_ret ?_
    refine ret_tmp (j := 6) (by kernel_rfl) hA (by decide) rfl ⟨congrArg (fun x : Int => Ending.returned (.int .i64 x)) ?_, HB⟩
    try unfold belowZ
    unfold judgeZ
    first
      | (simp only [c1, if_true, if_false, Bool.false_eq_true, Bool.not_true, Bool.not_false, Bool.true_and, Bool.false_and, Bool.and_true, Bool.and_false, Bool.true_or, Bool.false_or, Bool.or_true, Bool.or_false]; done)
      | (exfalso; simp_all; done)
      | (simp_all; done)
      | (exfalso; simp_all; omega)
  refine wp_seq ?_
  refine wp_region_list ?_
  refine W_val hA rfl 12 rfl (by decide) _ _ (R_mov hA rfl rfl _) (fun a hA => ?_)
  refine W_callA hA (by decide) (fun _ _ => by kernel_rfl) (args1 hA rfl) (leaf_any x hx _) (fun w3 hw a hA => ?_)
  replace HB := HB.trans (hw.mono HB.size)
  replace B5 := B5.below hw
  clear hw
  refine W_val hA rfl 14 rfl (by decide) _ _ (R_not hA rfl rfl _) (fun a hA => ?_)
  refine W_val hA rfl 11 rfl (by decide) _ _ (R_asg hA rfl rfl _) (fun a hA => ?_)
  refine W_nil ?_
  refine then_nrm ?_
  show Code.wp Try.prog _ _ _ _
  refine wp_cond_split (hA.ev (x := .tmp 11) rfl) (fun c2 => ?_) (fun c2 => ?_)
  · skip
    refine wp_seq ?_
    refine wp_region_list ?_
    refine W_val hA rfl 15 rfl (by decide) _ _ (R_mov hA rfl rfl _) (fun a hA => ?_)
    refine W_callA hA (by decide) (fun _ _ => by kernel_rfl) (args1 hA rfl) (below_any lv _) (fun w4 hw a hA => ?_)
    replace HB := HB.trans (hw.mono HB.size)
    replace B5 := B5.below hw
    clear hw
    refine W_val hA rfl 6 rfl (by decide) _ _ (R_asg hA rfl rfl _) (fun a hA => ?_)
    refine W_nil ?_
    refine then_nrm ?_
    show Code.wp Try.prog _ _ _ _
    refine wp_ret ?_
    refine blk_ret ?_
    refine then_ret ?_
    refine ret_tmp (j := 6) (by kernel_rfl) hA (by decide) rfl ⟨congrArg (fun x : Int => Ending.returned (.int .i64 x)) ?_, HB⟩
    try unfold belowZ
    unfold judgeZ
    first
      | (simp only [c1, c2, if_true, if_false, Bool.false_eq_true, Bool.not_true, Bool.not_false, Bool.true_and, Bool.false_and, Bool.and_true, Bool.and_false, Bool.true_or, Bool.false_or, Bool.or_true, Bool.or_false]; done)
      | (exfalso; simp_all; done)
      | (simp_all; done)
      | (exfalso; simp_all; omega)
  refine wp_seq ?_
  refine wp_region_list ?_
  refine W_val hA rfl 18 rfl (by decide) _ _ (R_mov hA rfl rfl _) (fun a hA => ?_)
  refine W_callA hA (by decide) (fun _ _ => by kernel_rfl) (args1 hA rfl) (page_any x hx _) (fun w5 hw a hA => ?_)
  replace HB := HB.trans (hw.mono HB.size)
  replace B5 := B5.below hw
  clear hw
  refine W_val hA rfl 20 rfl (by decide) _ _ (R_mov hA rfl rfl _) (fun a hA => ?_)
  refine W_callA hA (by decide) (fun _ _ => by kernel_rfl) (args1 hA rfl) (indexes_any lv _) (fun w6 hw a hA => ?_)
  replace HB := HB.trans (hw.mono HB.size)
  replace B5 := B5.below hw
  clear hw
  refine W_callA hA (by decide) (fun _ _ => by kernel_rfl) (args1 hA rfl) (mask_any (idxZ lv) _) (fun w7 hw a hA => ?_)
  subst hw
  refine W_val hA rfl 23 rfl (by decide) _ _ (R_and hA rfl rfl rfl _) (fun a hA => ?_)
  refine W_val hA rfl 24 rfl (by decide) _ _ (R_neqUT hA rfl rfl rfl (pageZ x % sizeZ lv != 0) (mask_page hx lv) _) (fun a hA => ?_)
  refine W_val hA rfl 17 rfl (by decide) _ _ (R_asg hA rfl rfl _) (fun a hA => ?_)
  refine W_nil ?_
  refine then_nrm ?_
  show Code.wp Try.prog _ _ _ _
  refine wp_cond_split (hA.ev (x := .tmp 17) rfl) (fun c3 => ?_) (fun c3 => ?_)
  · skip
    refine wp_seq ?_
    refine wp_region_list ?_
    refine W_val hA rfl 6 rfl (by decide) _ _ (R_asg hA rfl rfl _) (fun a hA => ?_)
    refine W_nil ?_
    refine then_nrm ?_
    show Code.wp Try.prog _ _ _ _
    refine wp_ret ?_
    refine blk_ret ?_
    refine then_ret ?_
    refine ret_tmp (j := 6) (by kernel_rfl) hA (by decide) rfl ⟨congrArg (fun x : Int => Ending.returned (.int .i64 x)) ?_, HB⟩
    try unfold belowZ
    unfold judgeZ
    first
      | (simp only [c1, c2, c3, if_true, if_false, Bool.false_eq_true, Bool.not_true, Bool.not_false, Bool.true_and, Bool.false_and, Bool.and_true, Bool.and_false, Bool.true_or, Bool.false_or, Bool.or_true, Bool.or_false]; done)
      | (exfalso; simp_all; done)
      | (simp_all; done)
      | (exfalso; simp_all; omega)
  refine wp_seq ?_
  refine wp_region_list ?_
  refine W_val hA rfl 26 rfl (by decide) _ _ (R_mov hA rfl rfl _) (fun a hA => ?_)
  refine W_val hA rfl 27 rfl (by decide) _ _ (R_row hA rfl rfl B5 Try.underlying25 (by kernel_rfl)) (fun a hA => ?_)
  refine W_callA hA (by decide) (fun _ _ => by kernel_rfl) (args2 hA rfl rfl) (allow_any x s hx sk _) (fun w8 hw a hA => ?_)
  replace HB := HB.trans (hw.mono HB.size)
  replace B5 := B5.below hw
  clear hw
  refine W_val hA rfl 29 rfl (by decide) _ _ (R_not hA rfl rfl _) (fun a hA => ?_)
  refine W_val hA rfl 25 rfl (by decide) _ _ (R_asg hA rfl rfl _) (fun a hA => ?_)
  refine W_nil ?_
  refine then_nrm ?_
  show Code.wp Try.prog _ _ _ _
  refine wp_cond_split (hA.ev (x := .tmp 25) rfl) (fun c4 => ?_) (fun c4 => ?_)
  · skip
    refine wp_seq ?_
    refine wp_region_list ?_
    refine W_val hA rfl 6 rfl (by decide) _ _ (R_asg hA rfl rfl _) (fun a hA => ?_)
    refine W_nil ?_
    refine then_nrm ?_
    show Code.wp Try.prog _ _ _ _
    refine wp_ret ?_
    refine blk_ret ?_
    refine then_ret ?_
    refine ret_tmp (j := 6) (by kernel_rfl) hA (by decide) rfl ⟨congrArg (fun x : Int => Ending.returned (.int .i64 x)) ?_, HB⟩
    try unfold belowZ
    unfold judgeZ
    first
      | (simp only [c1, c2, c3, c4, if_true, if_false, Bool.false_eq_true, Bool.not_true, Bool.not_false, Bool.true_and, Bool.false_and, Bool.and_true, Bool.and_false, Bool.true_or, Bool.false_or, Bool.or_true, Bool.or_false]; done)
      | (exfalso; simp_all; done)
      | (simp_all; done)
      | (exfalso; simp_all; omega)
  refine wp_skip ?_
  refine blk_nrm ?_
  refine then_nrm ?_
  show Code.wp Try.prog _ _ _ _
  refine wp_seq ?_
  refine wp_region_list ?_
  refine W_val hA rfl 6 rfl (by decide) _ _ (R_asg hA rfl rfl _) (fun a hA => ?_)
  refine W_nil ?_
  refine then_nrm ?_
  show Code.wp Try.prog _ _ _ _
  refine wp_ret ?_
  refine ret_tmp (j := 6) (by kernel_rfl) hA (by decide) rfl ⟨congrArg (fun x : Int => Ending.returned (.int .i64 x)) ?_, HB⟩
  try unfold belowZ
  unfold judgeZ
  first
    | (simp only [c1, c2, c3, c4, if_true, if_false, Bool.false_eq_true, Bool.not_true, Bool.not_false, Bool.true_and, Bool.false_and, Bool.and_true, Bool.and_false, Bool.true_or, Bool.false_or, Bool.or_true, Bool.or_false]; done)
    | (exfalso; simp_all; done)
    | (simp_all; done)
    | (exfalso; simp_all; omega)
end Go.Proofs.YtflaadnlmcgfoaaR
