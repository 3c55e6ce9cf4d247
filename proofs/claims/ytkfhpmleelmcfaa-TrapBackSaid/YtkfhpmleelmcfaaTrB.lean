/- Layer 14: the small functions and To, the program's and the document's (written by gen_trb.py by walkf.py). -/
import Derived.Test.YtkfhpmleelmcfaaTrA
namespace Go.Proofs.Ytkfhpmleelmcfaa
open Go.RowKit
set_option linter.unusedVariables false
set_option maxRecDepth 100000

theorem has_bit0 {x : Int} (hx : In64 x) (k : Nat) : (bits .and .u64 (x / 2 ^ k) 1 == 0) = !bitZ x k := by
  rw [bits_and, shr_eq hx, V_U, V_one]
  have h := bit_and1 (V x) k
  show (U (V x >>> k &&& 1#64) == 0) = !(V x).getLsbD k
  rw [← h]
  have h2 : U (V x >>> k &&& 1#64) = 0 ∨ U (V x >>> k &&& 1#64) = 1 := by
    have e : (V x >>> k &&& 1#64).toNat ≤ 1 := by rw [BitVec.toNat_and]; exact Nat.and_le_right
    unfold U; omega
  rcases h2 with h2 | h2 <;> rw [h2] <;> rfl
theorem ne_bit (x m : Int) (k : Nat) (hk : k < 64) (hm : m = 2 ^ k) : (bits .and .u64 x m != 0) = bitZ x k := by
  subst hm; rw [bne, and_bit k hk, Bool.not_not]
theorem R_andNT {o : Oper} {a : Act} {l : List (Nat × Value)} {n : Nat} (hA : FrA l n a) {x y : Operand} (ho : o.op = .binOp .andNot 22 x y 22) {u v : Int} (hx : evL l x = some (.int .u64 u)) (hy : evL l y = some (.int .u64 v)) (r : Int) (he : bits .andNot .u64 u v = r) (w : World) : (execOp a.eval o).run Try.prog w = .ok (.value (.int .u64 r)) w := by
  subst he; exact R_andNot hA ho hx hy w
theorem put_or (x : Int) (k : Nat) (hk : k < 64) : bits .or .u64 x (2 ^ k) = withZ x k true := by
  refine bits_ext (or_in _ _) (with_in _ _ _) fun i hi => ?_
  rw [bit_with x hk hi]
  unfold bitZ
  rw [bits_or, V_U, BitVec.getLsbD_or, V_pow, BitVec.getLsbD_twoPow]
  by_cases e : i = k
  · subst e; simp [hi]
  · have : ¬ k = i := fun q => e q.symm
    simp [e, this]
theorem one_bit {x : Int} (hx : In64 x) : (bits .and .u64 x 1 == 1) = bitZ x 0 := by
  have := has_bit hx 0
  rwa [show x / 2 ^ 0 = x by simp] at this
theorem num_is {c : Int} (hc : In64 c) : bits .andNot .u64 c 9223372036854775808 = c % 9223372036854775808 := by
  have h1 : In64 (c % 9223372036854775808) := by unfold In64; omega
  refine bits_ext (andNot_in _ _) h1 fun i hi => ?_
  unfold bitZ
  rw [bits_andNot, V_U, BitVec.getLsbD_and, BitVec.getLsbD_not, decide_eq_true hi, Bool.true_and, show (9223372036854775808 : Int) = 2 ^ 63 by decide, V_pow, BitVec.getLsbD_twoPow, bit_div (V (c % 2 ^ 63))]
  have e1 : ((V c).toNat : Int) = c := toNat_V hc
  have e2 : ((V (c % 2 ^ 63)).toNat : Int) = c % 2 ^ 63 := toNat_V h1
  have e3 : (V (c % 2 ^ 63)).toNat = (V c).toNat % 2 ^ 63 := by omega
  rw [e3]
  by_cases e : i = 63
  · subst e
    have : (V c).toNat % 2 ^ 63 / 2 ^ 63 % 2 = 0 := by omega
    simp [this]
  · have h63 : ¬ 63 = i := fun q => e q.symm
    rw [bit_div]
    have hp : 2 ^ 63 = 2 ^ i * 2 ^ (63 - i) := by rw [← Nat.pow_add]; congr 1; omega
    have : (V c).toNat % 2 ^ 63 / 2 ^ i % 2 = (V c).toNat / 2 ^ i % 2 := by
      rw [hp, Nat.mod_mul_right_div_self]
      obtain ⟨j, hj⟩ : ∃ j, 63 - i = j + 1 := ⟨63 - i - 1, by omega⟩
      rw [hj, Nat.pow_succ, Nat.mul_comm, Nat.mod_mul_right_mod]
    rw [this]; simp [h63]
theorem base_is {tv : Int} (ht : In64 tv) : bits .andNot .u64 tv 3 = tv - tv % 4 := by
  have h1 : In64 (tv - tv % 4) := by unfold In64 at *; omega
  have h2 := andNot_mul h1 (by omega)
  rw [← h2]
  refine bits_ext (andNot_in _ _) (andNot_in _ _) fun i hi => ?_
  unfold bitZ
  rw [bits_andNot, V_U, bits_andNot, V_U, BitVec.getLsbD_and, BitVec.getLsbD_not, BitVec.getLsbD_and, BitVec.getLsbD_not]
  by_cases e : i < 2
  · have : (V 3).getLsbD i = true := (by decide : ∀ i, i < 2 → (V 3).getLsbD i = true) i e
    rw [this]; simp
  · have e1 : ((V tv).toNat : Int) = tv := toNat_V ht
    have e2 : ((V (tv - tv % 4)).toNat : Int) = tv - tv % 4 := toNat_V h1
    have e3 : (V (tv - tv % 4)).toNat / 4 = (V tv).toNat / 4 := by omega
    rw [bit_div (V tv), bit_div (V (tv - tv % 4))]
    obtain ⟨j, rfl⟩ : ∃ j, i = j + 2 := ⟨i - 2, by omega⟩
    have hp : 2 ^ (j + 2) = 4 * 2 ^ j := by rw [Nat.pow_add]; omega
    rw [hp, ← Nat.div_div_eq_div_mul, ← Nat.div_div_eq_div_mul, e3]
theorem causeG_in {c : Int} (h : In64 c) : In64 (causeG c) := by unfold causeG; split <;> (unfold In64 at *; omega)
theorem mpp_put (x p : Int) (hp : In64 p) : bits .or .u64 (bits .andNot .u64 x 6144) (bits .and .u64 (IntKind.u64.wrap (p * 2 ^ 11)) 6144) = withZ (withZ x 11 (bitZ p 0)) 12 (bitZ p 1) := by
  refine bits_ext (or_in _ _) (with_in _ _ _) fun i hi => ?_
  rw [bit_with _ (by omega) hi, bit_with _ (by omega) hi]
  unfold bitZ
  rw [bits_or, V_U, bits_andNot, V_U, bits_and, V_U, wrap_shl, V_U]
  simp only [BitVec.getLsbD_or, BitVec.getLsbD_and, BitVec.getLsbD_not, BitVec.getLsbD_shiftLeft, decide_eq_true hi, Bool.true_and]
  have hb : ∀ i, i < 64 → (V 6144).getLsbD i = (decide (i = 11) || decide (i = 12)) := by decide
  rw [hb i hi]
  by_cases e : i = 12
  · subst e; simp
  · by_cases f : i = 11
    · subst f; simp
    · simp [e, f]
theorem andNot_with {x m : Int} : ∀ k, m = 2 ^ k → bits .andNot .u64 x m = withZ x k false := fun k h => by subst h; rfl
theorem toZ_b (t : HS) (c : Int) : toZ t c = if (t.n 33 == 3) then 0 else if decide (63 < c % 9223372036854775808) then 0
    else if bitZ c 63 then (if !bitZ (t.n 40) (c % 9223372036854775808).toNat then 0 else if t.v then (if bitZ (t.n 60) (c % 9223372036854775808).toNat then 2 else 1) else 1)
    else (if !bitZ (t.n 39) (c % 9223372036854775808).toNat then 0 else if t.v then (if bitZ (t.n 59) (c % 9223372036854775808).toNat then 2 else 1) else 1) := by
  unfold toZ
  simp only [beq_iff_eq, decide_eq_true_eq]
  cases t.v <;> simp
section
variable {ops : Array Oper} {Q : Exit → Act → World → Prop} {a : Act} {w : World} {b : Nat} {t0 : HS} {ks : List Nat} {vk : Bool} {X : World → Prop}
theorem region_near {id : Nat} (hN : NearH b t0 ks vk X w.drew) (h : NearH b t0 ks vk X w.drew → wpAnyH Try.prog .any ops Q (NearH b t0 ks vk X) ops.size (Array.replicate ops.size false) a w.drew) : (Code.region id ops true).wp Try.prog Q a w :=
  wp_region_held_drew (by kernel_rfl) hN h
end
set_option maxHeartbeats 8000000 in
theorem put_any (x : Int) (k : Nat) (hk : k < 64) (m : Int) (hm : m = 2 ^ k) (q : Bool) (w : World) : Calls Try.prog 36 #[.int .u64 x, .int .u64 m, .bool q] w fun e w' => e = .returned (.int .u64 (withZ x k q)) ∧ w = w' := by
  have HB := Below.refl w.heap.size w
  go_enter Try.func36, Try.ntmps36
  refine begin_fr [(2, .bool q), (1, .int .u64 m), (0, .int .u64 x)] 14 ?_ (fun a hA => ?_)
  · exact FrA.add (FrA.add (FrA.add (FrA.nil (by rfl) (by rfl)) 0 _ (by rfl)) 1 _ (by rfl)) 2 _ (by rfl)
  refine wp_seq ?_
  refine wp_region_list ?_
  refine W_val hA rfl 6 rfl (by decide) _ _ (R_asg hA rfl rfl _) (fun a hA => ?_)
  refine W_nil ?_
  refine then_nrm ?_
  show Code.wp Try.prog _ _ _ _
  refine wp_seq ?_
  refine wp_seq ?_
  refine wp_region_list ?_
  refine W_val hA rfl 7 rfl (by decide) _ _ (R_mov hA rfl rfl _) (fun a hA => ?_)
  refine W_nil ?_
  refine then_nrm ?_
  show Code.wp Try.prog _ _ _ _
  refine wp_cond_split (hA.ev (x := .tmp 7) rfl) (fun c1 => ?_) (fun c1 => ?_)
  · skip
    refine wp_seq ?_
    refine wp_region_list ?_
    refine W_val hA rfl 8 rfl (by decide) _ _ (R_mov hA rfl rfl _) (fun a hA => ?_)
    refine W_val hA rfl 9 rfl (by decide) _ _ (R_mov hA rfl rfl _) (fun a hA => ?_)
    refine W_val hA rfl 10 rfl (by decide) _ _ (R_or hA rfl rfl rfl _) (fun a hA => ?_)
    refine W_val hA rfl 6 rfl (by decide) _ _ (R_asg hA rfl rfl _) (fun a hA => ?_)
    refine W_nil ?_
    refine then_nrm ?_
    show Code.wp Try.prog _ _ _ _
    refine wp_ret ?_
    refine then_ret ?_
    refine ret_tmp (j := 6) (by kernel_rfl) hA (by decide) rfl ⟨congrArg (fun x : Int => Ending.returned (.int .u64 x)) ?_, rfl⟩
    subst hm
    rw [c1]
    exact put_or x k hk
  refine wp_skip ?_
  refine then_nrm ?_
  show Code.wp Try.prog _ _ _ _
  refine wp_seq ?_
  refine wp_region_list ?_
  refine W_val hA rfl 11 rfl (by decide) _ _ (R_mov hA rfl rfl _) (fun a hA => ?_)
  refine W_val hA rfl 12 rfl (by decide) _ _ (R_mov hA rfl rfl _) (fun a hA => ?_)
  refine W_val hA rfl 13 rfl (by decide) _ _ (R_andNot hA rfl rfl rfl _) (fun a hA => ?_)
  refine W_val hA rfl 6 rfl (by decide) _ _ (R_asg hA rfl rfl _) (fun a hA => ?_)
  refine W_nil ?_
  refine then_nrm ?_
  show Code.wp Try.prog _ _ _ _
  refine wp_ret ?_
  refine ret_tmp (j := 6) (by kernel_rfl) hA (by decide) rfl ⟨congrArg (fun x : Int => Ending.returned (.int .u64 x)) ?_, rfl⟩
  subst hm
  rw [c1]
  exact rfl
set_option maxHeartbeats 8000000 in
theorem shut_any (x : Int) (k1 k2 : Nat) (h1 : k1 < 64) (h2 : k2 < 64) (m r : Int) (hm : m = 2 ^ k1) (hr : r = 2 ^ k2) (w : World) : Calls Try.prog 35 #[.int .u64 x, .int .u64 m, .int .u64 r] w fun e w' => e = .returned (.int .u64 (withZ (withZ x k2 (bitZ x k1)) k1 false)) ∧ w = w' := by
  have HB := Below.refl w.heap.size w
  go_enter Try.func35, Try.ntmps35
  refine begin_fr [(2, .int .u64 r), (1, .int .u64 m), (0, .int .u64 x)] 16 ?_ (fun a hA => ?_)
  · exact FrA.add (FrA.add (FrA.add (FrA.nil (by rfl) (by rfl)) 0 _ (by rfl)) 1 _ (by rfl)) 2 _ (by rfl)
  refine wp_seq ?_
  refine wp_region_list ?_
  refine W_val hA rfl 6 rfl (by decide) _ _ (R_asg hA rfl rfl _) (fun a hA => ?_)
  refine W_nil ?_
  refine then_nrm ?_
  show Code.wp Try.prog _ _ _ _
  refine wp_seq ?_
  refine wp_region_list ?_
  refine W_val hA rfl 7 rfl (by decide) _ _ (R_mov hA rfl rfl _) (fun a hA => ?_)
  refine W_val hA rfl 8 rfl (by decide) _ _ (R_mov hA rfl rfl _) (fun a hA => ?_)
  refine W_val hA rfl 9 rfl (by decide) _ _ (R_mov hA rfl rfl _) (fun a hA => ?_)
  refine W_val hA rfl 10 rfl (by decide) _ _ (R_mov hA rfl rfl _) (fun a hA => ?_)
  refine W_val hA rfl 11 rfl (by decide) _ _ (R_and hA rfl rfl rfl _) (fun a hA => ?_)
  refine W_val hA rfl 12 rfl (by decide) _ _ (R_neqU hA rfl rfl rfl _) (fun a hA => ?_)
  refine W_callA hA (by decide) (fun _ _ => by kernel_rfl) (args3 hA rfl rfl rfl) (put_any x k2 h2 r hr _ _) (fun w1 hw a hA => ?_)
  subst hw
  refine W_val hA rfl 14 rfl (by decide) _ _ (R_mov hA rfl rfl _) (fun a hA => ?_)
  refine W_val hA rfl 15 rfl (by decide) _ _ (R_andNot hA rfl rfl rfl _) (fun a hA => ?_)
  refine W_val hA rfl 6 rfl (by decide) _ _ (R_asg hA rfl rfl _) (fun a hA => ?_)
  refine W_nil ?_
  refine then_nrm ?_
  show Code.wp Try.prog _ _ _ _
  refine wp_ret ?_
  refine ret_tmp (j := 6) (by kernel_rfl) hA (by decide) rfl ⟨congrArg (fun x : Int => Ending.returned (.int .u64 x)) ?_, rfl⟩
  rw [ne_bit x m k1 h1 hm, hm]
  rfl
set_option maxHeartbeats 8000000 in
theorem open_any (x : Int) (k1 k2 : Nat) (h1 : k1 < 64) (h2 : k2 < 64) (m r : Int) (hm : m = 2 ^ k1) (hr : r = 2 ^ k2) (w : World) : Calls Try.prog 28 #[.int .u64 x, .int .u64 m, .int .u64 r] w fun e w' => e = .returned (.int .u64 (withZ (withZ x k1 (bitZ x k2)) k2 true)) ∧ w = w' := by
  have HB := Below.refl w.heap.size w
  go_enter Try.func28, Try.ntmps28
  refine begin_fr [(2, .int .u64 r), (1, .int .u64 m), (0, .int .u64 x)] 16 ?_ (fun a hA => ?_)
  · exact FrA.add (FrA.add (FrA.add (FrA.nil (by rfl) (by rfl)) 0 _ (by rfl)) 1 _ (by rfl)) 2 _ (by rfl)
  refine wp_seq ?_
  refine wp_region_list ?_
  refine W_val hA rfl 6 rfl (by decide) _ _ (R_asg hA rfl rfl _) (fun a hA => ?_)
  refine W_nil ?_
  refine then_nrm ?_
  show Code.wp Try.prog _ _ _ _
  refine wp_seq ?_
  refine wp_region_list ?_
  refine W_val hA rfl 7 rfl (by decide) _ _ (R_mov hA rfl rfl _) (fun a hA => ?_)
  refine W_val hA rfl 8 rfl (by decide) _ _ (R_mov hA rfl rfl _) (fun a hA => ?_)
  refine W_val hA rfl 9 rfl (by decide) _ _ (R_mov hA rfl rfl _) (fun a hA => ?_)
  refine W_val hA rfl 10 rfl (by decide) _ _ (R_mov hA rfl rfl _) (fun a hA => ?_)
  refine W_val hA rfl 11 rfl (by decide) _ _ (R_and hA rfl rfl rfl _) (fun a hA => ?_)
  refine W_val hA rfl 12 rfl (by decide) _ _ (R_neqU hA rfl rfl rfl _) (fun a hA => ?_)
  refine W_callA hA (by decide) (fun _ _ => by kernel_rfl) (args3 hA rfl rfl rfl) (put_any x k1 h1 m hm _ _) (fun w1 hw a hA => ?_)
  subst hw
  refine W_val hA rfl 14 rfl (by decide) _ _ (R_mov hA rfl rfl _) (fun a hA => ?_)
  refine W_val hA rfl 15 rfl (by decide) _ _ (R_or hA rfl rfl rfl _) (fun a hA => ?_)
  refine W_val hA rfl 6 rfl (by decide) _ _ (R_asg hA rfl rfl _) (fun a hA => ?_)
  refine W_nil ?_
  refine then_nrm ?_
  show Code.wp Try.prog _ _ _ _
  refine wp_ret ?_
  refine ret_tmp (j := 6) (by kernel_rfl) hA (by decide) rfl ⟨congrArg (fun x : Int => Ending.returned (.int .u64 x)) ?_, rfl⟩
  rw [ne_bit x r k2 h2 hr, hr]
  exact put_or _ k2 h2
set_option maxHeartbeats 8000000 in
theorem came_any (x : Int) (w : World) : Calls Try.prog 29 #[.int .u64 x] w fun e w' => e = .returned (.int .u8 (privS x)) ∧ w = w' := by
  have HB := Below.refl w.heap.size w
  go_enter Try.func29, Try.ntmps29
  refine begin_fr [(0, .int .u64 x)] 6 ?_ (fun a hA => ?_)
  · exact FrA.add (FrA.nil (by rfl) (by rfl)) 0 _ (by rfl)
  refine wp_seq ?_
  refine wp_region_list ?_
  refine W_val hA rfl 2 rfl (by decide) _ _ (R_asg hA rfl rfl _) (fun a hA => ?_)
  refine W_nil ?_
  refine then_nrm ?_
  show Code.wp Try.prog _ _ _ _
  refine wp_seq ?_
  refine wp_seq ?_
  refine wp_region_list ?_
  refine W_val hA rfl 3 rfl (by decide) _ _ (R_mov hA rfl rfl _) (fun a hA => ?_)
  refine W_val hA rfl 4 rfl (by decide) _ _ (R_and hA rfl rfl rfl _) (fun a hA => ?_)
  refine W_val hA rfl 5 rfl (by decide) _ _ (R_neqU hA rfl rfl rfl _) (fun a hA => ?_)
  refine W_nil ?_
  refine then_nrm ?_
  show Code.wp Try.prog _ _ _ _
  refine wp_cond_split (hA.ev (x := .tmp 5) rfl) (fun c1 => ?_) (fun c1 => ?_)
  · skip
    refine wp_seq ?_
    refine wp_region_list ?_
    refine W_val hA rfl 2 rfl (by decide) _ _ (R_asg hA rfl rfl _) (fun a hA => ?_)
    refine W_nil ?_
    refine then_nrm ?_
    show Code.wp Try.prog _ _ _ _
    refine wp_ret ?_
    refine then_ret ?_
    refine ret_tmp (j := 2) (by kernel_rfl) hA (by decide) rfl ⟨congrArg (fun x : Int => Ending.returned (.int .u8 x)) ?_, rfl⟩
    unfold privS
    rw [← ne_bit x 256 8 (by decide) (by decide), c1]
    rfl
  refine wp_skip ?_
  refine then_nrm ?_
  show Code.wp Try.prog _ _ _ _
  refine wp_seq ?_
  refine wp_region_list ?_
  refine W_val hA rfl 2 rfl (by decide) _ _ (R_asg hA rfl rfl _) (fun a hA => ?_)
  refine W_nil ?_
  refine then_nrm ?_
  show Code.wp Try.prog _ _ _ _
  refine wp_ret ?_
  refine ret_tmp (j := 2) (by kernel_rfl) hA (by decide) rfl ⟨congrArg (fun x : Int => Ending.returned (.int .u8 x)) ?_, rfl⟩
  unfold privS
  rw [← ne_bit x 256 8 (by decide) (by decide), c1]
  rfl
set_option maxHeartbeats 8000000 in
theorem intr_any (c : Int) (w : World) : Calls Try.prog 20 #[.int .u64 c] w fun e w' => e = .returned (.bool (bitZ c 63)) ∧ w = w' := by
  have HB := Below.refl w.heap.size w
  go_enter Try.func20, Try.ntmps20
  refine begin_fr [(0, .int .u64 c)] 6 ?_ (fun a hA => ?_)
  · exact FrA.add (FrA.nil (by rfl) (by rfl)) 0 _ (by rfl)
  refine wp_seq ?_
  refine wp_region_list ?_
  refine W_val hA rfl 2 rfl (by decide) _ _ (R_asg hA rfl rfl _) (fun a hA => ?_)
  refine W_nil ?_
  refine then_nrm ?_
  show Code.wp Try.prog _ _ _ _
  refine wp_seq ?_
  refine wp_region_list ?_
  refine W_val hA rfl 3 rfl (by decide) _ _ (R_mov hA rfl rfl _) (fun a hA => ?_)
  refine W_val hA rfl 4 rfl (by decide) _ _ (R_and hA rfl rfl rfl _) (fun a hA => ?_)
  refine W_val hA rfl 5 rfl (by decide) _ _ (R_neqU hA rfl rfl rfl _) (fun a hA => ?_)
  refine W_val hA rfl 2 rfl (by decide) _ _ (R_asg hA rfl rfl _) (fun a hA => ?_)
  refine W_nil ?_
  refine then_nrm ?_
  show Code.wp Try.prog _ _ _ _
  refine wp_ret ?_
  refine ret_tmp (j := 2) (by kernel_rfl) hA (by decide) rfl ⟨congrArg (fun x : Bool => Ending.returned (.bool x)) ?_, rfl⟩
  exact ne_bit c _ 63 (by decide) (by decide)
set_option maxHeartbeats 8000000 in
theorem number_any (c : Int) (hc : In64 c) (w : World) : Calls Try.prog 19 #[.int .u64 c] w fun e w' => e = .returned (.int .u64 (c % 9223372036854775808)) ∧ w = w' := by
  have HB := Below.refl w.heap.size w
  go_enter Try.func19, Try.ntmps19
  refine begin_fr [(0, .int .u64 c)] 5 ?_ (fun a hA => ?_)
  · exact FrA.add (FrA.nil (by rfl) (by rfl)) 0 _ (by rfl)
  refine wp_seq ?_
  refine wp_region_list ?_
  refine W_val hA rfl 2 rfl (by decide) _ _ (R_asg hA rfl rfl _) (fun a hA => ?_)
  refine W_nil ?_
  refine then_nrm ?_
  show Code.wp Try.prog _ _ _ _
  refine wp_seq ?_
  refine wp_region_list ?_
  refine W_val hA rfl 3 rfl (by decide) _ _ (R_mov hA rfl rfl _) (fun a hA => ?_)
  refine W_val hA rfl 4 rfl (by decide) _ _ (R_andNot hA rfl rfl rfl _) (fun a hA => ?_)
  refine W_val hA rfl 2 rfl (by decide) _ _ (R_asg hA rfl rfl _) (fun a hA => ?_)
  refine W_nil ?_
  refine then_nrm ?_
  show Code.wp Try.prog _ _ _ _
  refine wp_ret ?_
  refine ret_tmp (j := 2) (by kernel_rfl) hA (by decide) rfl ⟨congrArg (fun x : Int => Ending.returned (.int .u64 x)) ?_, rfl⟩
  exact num_is hc
set_option maxHeartbeats 8000000 in
theorem gcause_any (c : Int) (hc : In64 c) (w : World) : Calls Try.prog 38 #[.int .u64 c] w fun e w' => e = .returned (.int .u64 (causeG c)) ∧ w = w' := by
  have HB := Below.refl w.heap.size w
  go_enter Try.func38, Try.ntmps38
  refine begin_fr [(0, .int .u64 c)] 11 ?_ (fun a hA => ?_)
  · exact FrA.add (FrA.nil (by rfl) (by rfl)) 0 _ (by rfl)
  refine wp_seq ?_
  refine wp_region_list ?_
  refine W_val hA rfl 2 rfl (by decide) _ _ (R_asg hA rfl rfl _) (fun a hA => ?_)
  refine W_nil ?_
  refine then_nrm ?_
  show Code.wp Try.prog _ _ _ _
  refine wp_seq ?_
  refine wp_seq ?_
  refine wp_region_list ?_
  refine W_val hA rfl 3 rfl (by decide) _ _ (R_mov hA rfl rfl _) (fun a hA => ?_)
  refine W_nil ?_
  refine then_nrm ?_
  show Code.wp Try.prog _ _ _ _
  refine wp_block ?_
  refine wp_seq ?_
  refine wp_seq ?_
  refine wp_region_list ?_
  refine W_val hA rfl 5 rfl (by decide) _ _ (R_eqlU hA rfl rfl rfl _) (fun a hA => ?_)
  refine W_val hA rfl 4 rfl (by decide) _ _ (R_asg hA rfl rfl _) (fun a hA => ?_)
  refine W_nil ?_
  refine then_nrm ?_
  show Code.wp Try.prog _ _ _ _
  refine wp_cond_split (hA.ev (x := .tmp 4) rfl) (fun c1 => ?_) (fun c1 => ?_)
  · skip
    refine wp_skip ?_
    refine then_nrm ?_
    show Code.wp Try.prog _ _ _ _
    refine wp_cond_split (hA.ev (x := .tmp 4) rfl) (fun c2 => ?_) (fun c2 => ?_)
    · skip
      refine wp_seq ?_
      refine wp_region_list ?_
      refine W_val hA rfl 8 rfl (by decide) _ _ (R_mov hA rfl rfl _) (fun a hA => ?_)
      refine W_val hA rfl 9 rfl (by decide) _ _ (R_sub hA rfl rfl rfl _ rfl _) (fun a hA => ?_)
      refine W_val hA rfl 2 rfl (by decide) _ _ (R_asg hA rfl rfl _) (fun a hA => ?_)
      refine W_nil ?_
      refine then_nrm ?_
      show Code.wp Try.prog _ _ _ _
      refine wp_ret ?_
      refine blk_ret ?_
      refine then_ret ?_
      refine ret_tmp (j := 2) (by kernel_rfl) hA (by decide) rfl ⟨congrArg (fun x : Int => Ending.returned (.int .u64 x)) ?_, rfl⟩
      have e := eq_of_beq c2
      subst e
      unfold causeG
      rw [if_pos (by simp)]
      rfl
    refine wp_skip ?_
    refine blk_nrm ?_
    refine then_nrm ?_
    show Code.wp Try.prog _ _ _ _
    refine wp_seq ?_
    refine wp_region_list ?_
    refine W_val hA rfl 10 rfl (by decide) _ _ (R_mov hA rfl rfl _) (fun a hA => ?_)
    refine W_val hA rfl 2 rfl (by decide) _ _ (R_asg hA rfl rfl _) (fun a hA => ?_)
    refine W_nil ?_
    refine then_nrm ?_
    show Code.wp Try.prog _ _ _ _
    refine wp_ret ?_
    refine ret_tmp (j := 2) (by kernel_rfl) hA (by decide) rfl ⟨congrArg (fun x : Int => Ending.returned (.int .u64 x)) ?_, rfl⟩
    rw [c1] at c2
    cases c2
  refine wp_seq ?_
  refine wp_region_list ?_
  refine W_val hA rfl 6 rfl (by decide) _ _ (R_eqlU hA rfl rfl rfl _) (fun a hA => ?_)
  refine W_val hA rfl 4 rfl (by decide) _ _ (R_asg hA rfl rfl _) (fun a hA => ?_)
  refine W_nil ?_
  refine then_nrm ?_
  show Code.wp Try.prog _ _ _ _
  refine wp_cond_split (hA.ev (x := .tmp 4) rfl) (fun c3 => ?_) (fun c3 => ?_)
  · skip
    refine wp_skip ?_
    refine then_nrm ?_
    show Code.wp Try.prog _ _ _ _
    refine wp_cond_split (hA.ev (x := .tmp 4) rfl) (fun c4 => ?_) (fun c4 => ?_)
    · skip
      refine wp_seq ?_
      refine wp_region_list ?_
      refine W_val hA rfl 8 rfl (by decide) _ _ (R_mov hA rfl rfl _) (fun a hA => ?_)
      refine W_val hA rfl 9 rfl (by decide) _ _ (R_sub hA rfl rfl rfl _ rfl _) (fun a hA => ?_)
      refine W_val hA rfl 2 rfl (by decide) _ _ (R_asg hA rfl rfl _) (fun a hA => ?_)
      refine W_nil ?_
      refine then_nrm ?_
      show Code.wp Try.prog _ _ _ _
      refine wp_ret ?_
      refine blk_ret ?_
      refine then_ret ?_
      refine ret_tmp (j := 2) (by kernel_rfl) hA (by decide) rfl ⟨congrArg (fun x : Int => Ending.returned (.int .u64 x)) ?_, rfl⟩
      have e := eq_of_beq c4
      subst e
      unfold causeG
      rw [if_pos (by simp)]
      rfl
    refine wp_skip ?_
    refine blk_nrm ?_
    refine then_nrm ?_
    show Code.wp Try.prog _ _ _ _
    refine wp_seq ?_
    refine wp_region_list ?_
    refine W_val hA rfl 10 rfl (by decide) _ _ (R_mov hA rfl rfl _) (fun a hA => ?_)
    refine W_val hA rfl 2 rfl (by decide) _ _ (R_asg hA rfl rfl _) (fun a hA => ?_)
    refine W_nil ?_
    refine then_nrm ?_
    show Code.wp Try.prog _ _ _ _
    refine wp_ret ?_
    refine ret_tmp (j := 2) (by kernel_rfl) hA (by decide) rfl ⟨congrArg (fun x : Int => Ending.returned (.int .u64 x)) ?_, rfl⟩
    rw [c3] at c4
    cases c4
  refine wp_region_list ?_
  refine W_val hA rfl 7 rfl (by decide) _ _ (R_eqlU hA rfl rfl rfl _) (fun a hA => ?_)
  refine W_val hA rfl 4 rfl (by decide) _ _ (R_asg hA rfl rfl _) (fun a hA => ?_)
  refine W_nil ?_
  refine then_nrm ?_
  show Code.wp Try.prog _ _ _ _
  refine wp_cond_split (hA.ev (x := .tmp 4) rfl) (fun c5 => ?_) (fun c5 => ?_)
  · skip
    refine wp_seq ?_
    refine wp_region_list ?_
    refine W_val hA rfl 8 rfl (by decide) _ _ (R_mov hA rfl rfl _) (fun a hA => ?_)
    refine W_val hA rfl 9 rfl (by decide) _ _ (R_sub hA rfl rfl rfl _ rfl _) (fun a hA => ?_)
    refine W_val hA rfl 2 rfl (by decide) _ _ (R_asg hA rfl rfl _) (fun a hA => ?_)
    refine W_nil ?_
    refine then_nrm ?_
    show Code.wp Try.prog _ _ _ _
    refine wp_ret ?_
    refine blk_ret ?_
    refine then_ret ?_
    refine ret_tmp (j := 2) (by kernel_rfl) hA (by decide) rfl ⟨congrArg (fun x : Int => Ending.returned (.int .u64 x)) ?_, rfl⟩
    have e := eq_of_beq c5
    subst e
    unfold causeG
    rw [if_pos (by simp)]
    rfl
  refine wp_skip ?_
  refine blk_nrm ?_
  refine then_nrm ?_
  show Code.wp Try.prog _ _ _ _
  refine wp_seq ?_
  refine wp_region_list ?_
  refine W_val hA rfl 10 rfl (by decide) _ _ (R_mov hA rfl rfl _) (fun a hA => ?_)
  refine W_val hA rfl 2 rfl (by decide) _ _ (R_asg hA rfl rfl _) (fun a hA => ?_)
  refine W_nil ?_
  refine then_nrm ?_
  show Code.wp Try.prog _ _ _ _
  refine wp_ret ?_
  refine ret_tmp (j := 2) (by kernel_rfl) hA (by decide) rfl ⟨congrArg (fun x : Int => Ending.returned (.int .u64 x)) ?_, rfl⟩
  have ec1 := beq_eq_false_iff_ne.1 c1
  have ec3 := beq_eq_false_iff_ne.1 c3
  have ec5 := beq_eq_false_iff_ne.1 c5
  unfold causeG
  rw [if_neg (by simp only [ec1, ec3, ec5, or_self, not_false_eq_true])]
set_option maxHeartbeats 8000000 in
theorem place_any (tv c : Int) (ht : In64 tv) (hc : In64 c) (w : World) : Calls Try.prog 37 #[.int .u64 tv, .int .u64 c] w fun e w' => e = .returned (.int .u64 (placeZ tv c)) ∧ w = w' := by
  have HB := Below.refl w.heap.size w
  go_enter Try.func37, Try.ntmps37
  refine begin_fr [(1, .int .u64 c), (0, .int .u64 tv)] 21 ?_ (fun a hA => ?_)
  · exact FrA.add (FrA.add (FrA.nil (by rfl) (by rfl)) 0 _ (by rfl)) 1 _ (by rfl)
  refine wp_seq ?_
  refine wp_region_list ?_
  refine W_val hA rfl 4 rfl (by decide) _ _ (R_asg hA rfl rfl _) (fun a hA => ?_)
  refine W_nil ?_
  refine then_nrm ?_
  show Code.wp Try.prog _ _ _ _
  refine wp_seq ?_
  refine wp_region_list ?_
  refine W_val hA rfl 6 rfl (by decide) _ _ (R_mov hA rfl rfl _) (fun a hA => ?_)
  refine W_val hA rfl 7 rfl (by decide) _ _ (R_andNot hA rfl rfl rfl _) (fun a hA => ?_)
  refine W_val hA rfl 5 rfl (by decide) _ _ (R_asg hA rfl rfl _) (fun a hA => ?_)
  refine W_nil ?_
  refine then_nrm ?_
  show Code.wp Try.prog _ _ _ _
  refine wp_seq ?_
  refine wp_seq ?_
  refine wp_region_list ?_
  refine W_val hA rfl 8 rfl (by decide) _ _ (R_mov hA rfl rfl _) (fun a hA => ?_)
  refine W_callA hA (by decide) (fun _ _ => by kernel_rfl) (args1 hA rfl) (intr_any _ _) (fun w1 hw a hA => ?_)
  subst hw
  refine W_val hA rfl 10 rfl (by decide) _ _ (R_mov hA rfl rfl _) (fun a hA => ?_)
  refine W_split hA 10 rfl (fun c1 hA => ?_) (fun c1 hA => ?_)
  · skip
    refine W_gval hA rfl rfl rfl 11 rfl (by decide) _ _ (R_mov hA rfl rfl _) (fun a hA => ?_)
    refine W_gval hA rfl rfl rfl 12 rfl (by decide) _ _ (R_and hA rfl rfl rfl _) (fun a hA => ?_)
    refine W_gval hA rfl rfl rfl 13 rfl (by decide) _ _ (R_eqlU hA rfl rfl rfl _) (fun a hA => ?_)
    refine W_val hA rfl 14 rfl (by decide) _ _ (R_pick hA rfl rfl rfl _) (fun a hA => ?_)
    refine W_nil ?_
    refine then_nrm ?_
    show Code.wp Try.prog _ _ _ _
    refine wp_cond_split (hA.ev (x := .tmp 14) rfl) (fun c2 => ?_) (fun c2 => ?_)
    · skip
      refine wp_region_list ?_
      refine W_val hA rfl 15 rfl (by decide) _ _ (R_mov hA rfl rfl _) (fun a hA => ?_)
      refine W_val hA rfl 16 rfl (by decide) _ _ (R_mov hA rfl rfl _) (fun a hA => ?_)
      refine W_callA hA (by decide) (fun _ _ => by kernel_rfl) (args1 hA rfl) (number_any _ (by first | exact hc | exact sk.c) _) (fun w2 hw a hA => ?_)
      subst hw
      refine W_val hA rfl 18 rfl (by decide) _ _ (R_mul hA rfl rfl rfl _) (fun a hA => ?_)
      refine W_val hA rfl 19 rfl (by decide) _ _ (R_add hA rfl rfl rfl _) (fun a hA => ?_)
      refine W_val hA rfl 5 rfl (by decide) _ _ (R_asg hA rfl rfl _) (fun a hA => ?_)
      refine W_nil ?_
      refine then_nrm ?_
      show Code.wp Try.prog _ _ _ _
      refine wp_seq ?_
      refine wp_region_list ?_
      refine W_val hA rfl 20 rfl (by decide) _ _ (R_mov hA rfl rfl _) (fun a hA => ?_)
      refine W_val hA rfl 4 rfl (by decide) _ _ (R_asg hA rfl rfl _) (fun a hA => ?_)
      refine W_nil ?_
      refine then_nrm ?_
      show Code.wp Try.prog _ _ _ _
      refine wp_ret ?_
      refine ret_tmp (j := 4) (by kernel_rfl) hA (by decide) rfl ⟨congrArg (fun x : Int => Ending.returned (.int .u64 x)) ?_, rfl⟩
      rw [base_is ht]
      rw [one_bit ht] at c2
      unfold placeZ
      simp only [c1, c2, Bool.true_and, Bool.false_and, Bool.and_self, Bool.false_eq_true, if_true, if_false]
    refine wp_skip ?_
    refine then_nrm ?_
    show Code.wp Try.prog _ _ _ _
    refine wp_seq ?_
    refine wp_region_list ?_
    refine W_val hA rfl 20 rfl (by decide) _ _ (R_mov hA rfl rfl _) (fun a hA => ?_)
    refine W_val hA rfl 4 rfl (by decide) _ _ (R_asg hA rfl rfl _) (fun a hA => ?_)
    refine W_nil ?_
    refine then_nrm ?_
    show Code.wp Try.prog _ _ _ _
    refine wp_ret ?_
    refine ret_tmp (j := 4) (by kernel_rfl) hA (by decide) rfl ⟨congrArg (fun x : Int => Ending.returned (.int .u64 x)) ?_, rfl⟩
    rw [base_is ht]
    rw [one_bit ht] at c2
    unfold placeZ
    simp only [c1, c2, Bool.true_and, Bool.false_and, Bool.and_self, Bool.false_eq_true, if_true, if_false]
  refine W_gskip hA rfl rfl rfl 11 rfl (by decide) (fun a hA => ?_)
  refine W_gskip hA rfl rfl rfl 12 rfl (by decide) (fun a hA => ?_)
  refine W_gskip hA rfl rfl rfl 13 rfl (by decide) (fun a hA => ?_)
  refine W_val hA rfl 14 rfl (by decide) _ _ (R_pick hA rfl rfl rfl _) (fun a hA => ?_)
  refine W_nil ?_
  refine then_nrm ?_
  show Code.wp Try.prog _ _ _ _
  refine wp_cond_false (hA.ev (x := .tmp 14) rfl) ?_
  refine wp_skip ?_
  refine then_nrm ?_
  show Code.wp Try.prog _ _ _ _
  refine wp_seq ?_
  refine wp_region_list ?_
  refine W_val hA rfl 20 rfl (by decide) _ _ (R_mov hA rfl rfl _) (fun a hA => ?_)
  refine W_val hA rfl 4 rfl (by decide) _ _ (R_asg hA rfl rfl _) (fun a hA => ?_)
  refine W_nil ?_
  refine then_nrm ?_
  show Code.wp Try.prog _ _ _ _
  refine wp_ret ?_
  refine ret_tmp (j := 4) (by kernel_rfl) hA (by decide) rfl ⟨congrArg (fun x : Int => Ending.returned (.int .u64 x)) ?_, rfl⟩
  rw [base_is ht]
  unfold placeZ
  simp only [c1, Bool.true_and, Bool.false_and, Bool.and_self, Bool.false_eq_true, if_true, if_false]
set_option maxHeartbeats 8000000 in
theorem dbit_any (x : Int) (hx : In64 x) (k : Int) (hk : 0 ≤ k ∧ k < 64) (w : World) : Calls Try.prog 21 #[.int .u64 x, .int .u64 k] w fun e w' => e = .returned (.bool (bitZ x k.toNat)) ∧ w = w' := by
  have HB := Below.refl w.heap.size w
  go_enter Try.func21, Try.ntmps21
  refine begin_fr [(1, .int .u64 k), (0, .int .u64 x)] 10 ?_ (fun a hA => ?_)
  · exact FrA.add (FrA.add (FrA.nil (by rfl) (by rfl)) 0 _ (by rfl)) 1 _ (by rfl)
  refine wp_seq ?_
  refine wp_region_list ?_
  refine W_val hA rfl 4 rfl (by decide) _ _ (R_asg hA rfl rfl _) (fun a hA => ?_)
  refine W_nil ?_
  refine then_nrm ?_
  show Code.wp Try.prog _ _ _ _
  refine wp_seq ?_
  refine wp_region_list ?_
  refine W_val hA rfl 5 rfl (by decide) _ _ (R_mov hA rfl rfl _) (fun a hA => ?_)
  refine W_val hA rfl 6 rfl (by decide) _ _ (R_mov hA rfl rfl _) (fun a hA => ?_)
  refine W_val hA rfl 7 rfl (by decide) _ _ (R_shrI hA rfl rfl hx.1 hk rfl _) (fun a hA => ?_)
  refine W_val hA rfl 8 rfl (by decide) _ _ (R_and hA rfl rfl rfl _) (fun a hA => ?_)
  refine W_val hA rfl 9 rfl (by decide) _ _ (R_eqlU hA rfl rfl rfl _) (fun a hA => ?_)
  refine W_val hA rfl 4 rfl (by decide) _ _ (R_asg hA rfl rfl _) (fun a hA => ?_)
  refine W_nil ?_
  refine then_nrm ?_
  show Code.wp Try.prog _ _ _ _
  refine wp_ret ?_
  refine ret_tmp (j := 4) (by kernel_rfl) hA (by decide) rfl ⟨congrArg (fun x : Bool => Ending.returned (.bool x)) ?_, rfl⟩
  exact has_bit hx k.toNat
theorem dbitN_any (x : Int) (hx : In64 x) (k : Nat) (hk : k < 64) (w : World) : Calls Try.prog 21 #[.int .u64 x, .int .u64 (k : Int)] w fun e w' => e = .returned (.bool (bitZ x k)) ∧ w = w' := dbit_any x hx (k : Int) ⟨by omega, by omega⟩ w
set_option maxHeartbeats 8000000 in
theorem dwith_any (x : Int) (k : Nat) (hk : k < 64) (q : Bool) (w : World) : Calls Try.prog 26 #[.int .u64 x, .int .u64 (k : Int), .bool q] w fun e w' => e = .returned (.int .u64 (withZ x k q)) ∧ w = w' := by
  have HB := Below.refl w.heap.size w
  go_enter Try.func26, Try.ntmps26
  refine begin_fr [(2, .bool q), (1, .int .u64 (k : Int)), (0, .int .u64 x)] 17 ?_ (fun a hA => ?_)
  · exact FrA.add (FrA.add (FrA.add (FrA.nil (by rfl) (by rfl)) 0 _ (by rfl)) 1 _ (by rfl)) 2 _ (by rfl)
  refine wp_seq ?_
  refine wp_region_list ?_
  refine W_val hA rfl 6 rfl (by decide) _ _ (R_asg hA rfl rfl _) (fun a hA => ?_)
  refine W_nil ?_
  refine then_nrm ?_
  show Code.wp Try.prog _ _ _ _
  refine wp_seq ?_
  refine wp_region_list ?_
  refine W_val hA rfl 7 rfl (by decide) _ _ (R_mov hA rfl rfl _) (fun a hA => ?_)
  refine W_val hA rfl 8 rfl (by decide) _ _ (R_mov hA rfl rfl _) (fun a hA => ?_)
  refine W_val hA rfl 9 rfl (by decide) _ _ (R_shlI hA rfl hk rfl rfl _) (fun a hA => ?_)
  refine W_val hA rfl 10 rfl (by decide) _ _ (R_andNot hA rfl rfl rfl _) (fun a hA => ?_)
  refine W_val hA rfl 0 rfl (by decide) _ _ (R_asg hA rfl rfl _) (fun a hA => ?_)
  refine W_nil ?_
  refine then_nrm ?_
  show Code.wp Try.prog _ _ _ _
  refine wp_seq ?_
  refine wp_seq ?_
  refine wp_region_list ?_
  refine W_val hA rfl 11 rfl (by decide) _ _ (R_mov hA rfl rfl _) (fun a hA => ?_)
  refine W_nil ?_
  refine then_nrm ?_
  show Code.wp Try.prog _ _ _ _
  refine wp_cond_split (hA.ev (x := .tmp 11) rfl) (fun c1 => ?_) (fun c1 => ?_)
  · skip
    refine wp_region_list ?_
    refine W_val hA rfl 12 rfl (by decide) _ _ (R_mov hA rfl rfl _) (fun a hA => ?_)
    refine W_val hA rfl 13 rfl (by decide) _ _ (R_mov hA rfl rfl _) (fun a hA => ?_)
    refine W_val hA rfl 14 rfl (by decide) _ _ (R_shlI hA rfl hk rfl rfl _) (fun a hA => ?_)
    refine W_val hA rfl 15 rfl (by decide) _ _ (R_or hA rfl rfl rfl _) (fun a hA => ?_)
    refine W_val hA rfl 0 rfl (by decide) _ _ (R_asg hA rfl rfl _) (fun a hA => ?_)
    refine W_nil ?_
    refine then_nrm ?_
    show Code.wp Try.prog _ _ _ _
    refine wp_seq ?_
    refine wp_region_list ?_
    refine W_val hA rfl 16 rfl (by decide) _ _ (R_mov hA rfl rfl _) (fun a hA => ?_)
    refine W_val hA rfl 6 rfl (by decide) _ _ (R_asg hA rfl rfl _) (fun a hA => ?_)
    refine W_nil ?_
    refine then_nrm ?_
    show Code.wp Try.prog _ _ _ _
    refine wp_ret ?_
    refine ret_tmp (j := 6) (by kernel_rfl) hA (by decide) rfl ⟨congrArg (fun x : Int => Ending.returned (.int .u64 x)) ?_, rfl⟩
    rw [c1]
    rfl
  refine wp_skip ?_
  refine then_nrm ?_
  show Code.wp Try.prog _ _ _ _
  refine wp_seq ?_
  refine wp_region_list ?_
  refine W_val hA rfl 16 rfl (by decide) _ _ (R_mov hA rfl rfl _) (fun a hA => ?_)
  refine W_val hA rfl 6 rfl (by decide) _ _ (R_asg hA rfl rfl _) (fun a hA => ?_)
  refine W_nil ?_
  refine then_nrm ?_
  show Code.wp Try.prog _ _ _ _
  refine wp_ret ?_
  refine ret_tmp (j := 6) (by kernel_rfl) hA (by decide) rfl ⟨congrArg (fun x : Int => Ending.returned (.int .u64 x)) ?_, rfl⟩
  rw [c1]
  rfl
set_option maxHeartbeats 8000000 in
theorem dplace_any (tv c : Int) (ht : In64 tv) (hc : In64 c) (w : World) : Calls Try.prog 27 #[.int .u64 tv, .int .u64 c] w fun e w' => e = .returned (.int .u64 (placeZ tv c)) ∧ w = w' := by
  have HB := Below.refl w.heap.size w
  go_enter Try.func27, Try.ntmps27
  refine begin_fr [(1, .int .u64 c), (0, .int .u64 tv)] 22 ?_ (fun a hA => ?_)
  · exact FrA.add (FrA.add (FrA.nil (by rfl) (by rfl)) 0 _ (by rfl)) 1 _ (by rfl)
  refine wp_seq ?_
  refine wp_region_list ?_
  refine W_val hA rfl 4 rfl (by decide) _ _ (R_asg hA rfl rfl _) (fun a hA => ?_)
  refine W_nil ?_
  refine then_nrm ?_
  show Code.wp Try.prog _ _ _ _
  refine wp_seq ?_
  refine wp_region_list ?_
  refine W_val hA rfl 6 rfl (by decide) _ _ (R_mov hA rfl rfl _) (fun a hA => ?_)
  refine W_val hA rfl 7 rfl (by decide) _ _ (R_mov hA rfl rfl _) (fun a hA => ?_)
  refine W_val hA rfl 8 rfl (by decide) _ _ (R_rem hA rfl ht.1 ⟨by decide, by decide⟩ rfl rfl _) (fun a hA => ?_)
  refine W_val hA rfl 9 rfl (by decide) _ _ (R_sub hA rfl rfl rfl (tv - tv % 4) (by rw [IntKind.wrap_u64]; unfold In64 at ht; omega) _) (fun a hA => ?_)
  refine W_val hA rfl 5 rfl (by decide) _ _ (R_asg hA rfl rfl _) (fun a hA => ?_)
  refine W_nil ?_
  refine then_nrm ?_
  show Code.wp Try.prog _ _ _ _
  refine wp_seq ?_
  refine wp_seq ?_
  refine wp_region_list ?_
  refine W_val hA rfl 10 rfl (by decide) _ _ (R_mov hA rfl rfl _) (fun a hA => ?_)
  refine W_callA hA (by decide) (fun _ _ => by kernel_rfl) (args2 hA rfl rfl) (dbitN_any _ (by first | exact ok.n _ | exact hc | exact ht) 63 (by decide) _) (fun w1 hw a hA => ?_)
  subst hw
  refine W_val hA rfl 12 rfl (by decide) _ _ (R_mov hA rfl rfl _) (fun a hA => ?_)
  refine W_split hA 12 rfl (fun c1 hA => ?_) (fun c1 hA => ?_)
  · skip
    refine W_gval hA rfl rfl rfl 13 rfl (by decide) _ _ (R_mov hA rfl rfl _) (fun a hA => ?_)
    refine W_gcallB hA rfl rfl (by decide) (fun _ _ => by kernel_rfl) (args2 hA rfl rfl) (dbitN_any _ (by first | exact ok.n _ | exact hc | exact ht) 0 (by decide) _) (fun w2 hw a hA => ?_)
    subst hw
    refine W_val hA rfl 15 rfl (by decide) _ _ (R_pick hA rfl rfl rfl _) (fun a hA => ?_)
    refine W_nil ?_
    refine then_nrm ?_
    show Code.wp Try.prog _ _ _ _
    refine wp_cond_split (hA.ev (x := .tmp 15) rfl) (fun c2 => ?_) (fun c2 => ?_)
    · skip
      refine wp_seq ?_
      refine wp_region_list ?_
      refine W_val hA rfl 16 rfl (by decide) _ _ (R_mov hA rfl rfl _) (fun a hA => ?_)
      refine W_val hA rfl 17 rfl (by decide) _ _ (R_mov hA rfl rfl _) (fun a hA => ?_)
      refine W_val hA rfl 18 rfl (by decide) _ _ (R_rem hA rfl hc.1 ⟨by decide, by decide⟩ rfl rfl _) (fun a hA => ?_)
      refine W_val hA rfl 19 rfl (by decide) _ _ (R_mul hA rfl rfl rfl _) (fun a hA => ?_)
      refine W_val hA rfl 20 rfl (by decide) _ _ (R_add hA rfl rfl rfl _) (fun a hA => ?_)
      refine W_val hA rfl 4 rfl (by decide) _ _ (R_asg hA rfl rfl _) (fun a hA => ?_)
      refine W_nil ?_
      refine then_nrm ?_
      show Code.wp Try.prog _ _ _ _
      refine wp_ret ?_
      refine then_ret ?_
      refine ret_tmp (j := 4) (by kernel_rfl) hA (by decide) rfl ⟨congrArg (fun x : Int => Ending.returned (.int .u64 x)) ?_, rfl⟩
      unfold placeZ
      simp only [c1, c2, Bool.true_and, Bool.false_and, Bool.and_self, Bool.false_eq_true, if_true, if_false]
    refine wp_skip ?_
    refine then_nrm ?_
    show Code.wp Try.prog _ _ _ _
    refine wp_seq ?_
    refine wp_region_list ?_
    refine W_val hA rfl 21 rfl (by decide) _ _ (R_mov hA rfl rfl _) (fun a hA => ?_)
    refine W_val hA rfl 4 rfl (by decide) _ _ (R_asg hA rfl rfl _) (fun a hA => ?_)
    refine W_nil ?_
    refine then_nrm ?_
    show Code.wp Try.prog _ _ _ _
    refine wp_ret ?_
    refine ret_tmp (j := 4) (by kernel_rfl) hA (by decide) rfl ⟨congrArg (fun x : Int => Ending.returned (.int .u64 x)) ?_, rfl⟩
    unfold placeZ
    simp only [c1, c2, Bool.true_and, Bool.false_and, Bool.and_self, Bool.false_eq_true, if_true, if_false]
  refine W_gskip hA rfl rfl rfl 13 rfl (by decide) (fun a hA => ?_)
  refine W_gskip hA rfl rfl rfl 14 rfl (by decide) (fun a hA => ?_)
  refine W_val hA rfl 15 rfl (by decide) _ _ (R_pick hA rfl rfl rfl _) (fun a hA => ?_)
  refine W_nil ?_
  refine then_nrm ?_
  show Code.wp Try.prog _ _ _ _
  refine wp_cond_false (hA.ev (x := .tmp 15) rfl) ?_
  refine wp_skip ?_
  refine then_nrm ?_
  show Code.wp Try.prog _ _ _ _
  refine wp_seq ?_
  refine wp_region_list ?_
  refine W_val hA rfl 21 rfl (by decide) _ _ (R_mov hA rfl rfl _) (fun a hA => ?_)
  refine W_val hA rfl 4 rfl (by decide) _ _ (R_asg hA rfl rfl _) (fun a hA => ?_)
  refine W_nil ?_
  refine then_nrm ?_
  show Code.wp Try.prog _ _ _ _
  refine wp_ret ?_
  refine ret_tmp (j := 4) (by kernel_rfl) hA (by decide) rfl ⟨congrArg (fun x : Int => Ending.returned (.int .u64 x)) ?_, rfl⟩
  unfold placeZ
  simp only [c1, Bool.true_and, Bool.false_and, Bool.and_self, Bool.false_eq_true, if_true, if_false]
set_option maxHeartbeats 8000000 in
theorem to_any (t : HS) (ok : HOk t) (c : Int) (hc : In64 c) (w : World) : Calls Try.prog 8 #[hartV t, .int .u64 c] w fun e w' => e = .returned (.int .i64 (toZ t c)) ∧ Below w.heap.size w w' := by
  have HB := Below.refl w.heap.size w
  go_enter Try.func8, Try.ntmps8
  refine begin_fr [(1, .int .u64 c), (0, hartV t)] 45 ?_ (fun a hA => ?_)
  · exact FrA.add (FrA.add (FrA.nil (by rfl) (by rfl)) 0 _ (by rfl)) 1 _ (by rfl)
  refine wp_seq ?_
  refine wp_region_list ?_
  refine W_boxH hA rfl 2 rfl (by decide) rfl rfl (fun w1 bHH a hA hb HH gHH => ?_)
  replace gHH := Nat.le_trans HB.size gHH
  replace HB := HB.trans (hb.mono HB.size)
  clear hb
  refine W_val hA rfl 4 rfl (by decide) _ _ (R_asg hA rfl rfl _) (fun a hA => ?_)
  refine W_nil ?_
  refine then_nrm ?_
  show Code.wp Try.prog _ _ _ _
  refine wp_seq ?_
  refine wp_region_list ?_
  refine W_val hA rfl 8 rfl (by decide) _ _ (R_mov hA rfl rfl _) (fun a hA => ?_)
  refine W_callA hA (by decide) (fun _ _ => by kernel_rfl) (args1 hA rfl) (number_any _ (by first | exact hc | exact sk.c) _) (fun w2 hw a hA => ?_)
  subst hw
  refine W_val hA rfl 5 rfl (by decide) _ _ (R_asg hA rfl rfl _) (fun a hA => ?_)
  refine W_nil ?_
  refine then_nrm ?_
  show Code.wp Try.prog _ _ _ _
  refine wp_seq ?_
  refine wp_region_held_drew (S := fun wx => Below w1.heap.size w1 wx) (by kernel_rfl) ((Below.refl _ _).drew) (fun hS => ?_)
  refine takeF (i := 0) hA 10 rfl rfl (by decide) rfl (by kernel_rfl) (by kernel_rfl) (by kernel_rfl) (fun _ _ _ h => h) hS (fun wx hx => R_fa hA rfl rfl (fun w => fa_hart _ 8 39 (by decide) rfl w) _) (fun a hA => ?_)
  refine takeF (i := 1) hA 11 rfl rfl (by decide) rfl (by kernel_rfl) (by kernel_rfl) (by kernel_rfl) (fun _ _ _ h => h) hS (fun wx hx => R_ld (v := .int .u64 (t.n 39)) hA rfl rfl ag_u64 ((HH.below hx).u 39 (by decide) (by decide))) (fun a hA => ?_)
  refine takeF (i := 2) hA 12 rfl rfl (by decide) rfl (by kernel_rfl) (by kernel_rfl) (by kernel_rfl) (fun _ _ _ h => h) hS (fun wx hx => R_fa hA rfl rfl (fun w => fa_hart _ 28 59 (by decide) rfl w) _) (fun a hA => ?_)
  refine takeF (i := 3) hA 13 rfl rfl (by decide) rfl (by kernel_rfl) (by kernel_rfl) (by kernel_rfl) (fun _ _ _ h => h) hS (fun wx hx => R_ld (v := .int .u64 (t.n 59)) hA rfl rfl ag_u64 ((HH.below hx).u 59 (by decide) (by decide))) (fun a hA => ?_)
  refine takeF (i := 4) hA 6 rfl rfl (by decide) rfl (by kernel_rfl) (by kernel_rfl) (by kernel_rfl) (fun _ _ _ h => h) hS (fun wx hx => R_asg hA rfl rfl _) (fun a hA => ?_)
  refine takeF (i := 5) hA 7 rfl rfl (by decide) rfl (by kernel_rfl) (by kernel_rfl) (by kernel_rfl) (fun _ _ _ h => h) hS (fun wx hx => R_asg hA rfl rfl _) (fun a hA => ?_)
  refine wpAnyH_done (by kernel_rfl) ?_ _
  replace HH := HH.below hS
  replace HB := HB.trans (hS.mono HB.size)
  clear hS
  generalize World.drew w1 = w3 at *
  refine then_nrm ?_
  show Code.wp Try.prog _ _ _ _
  refine wp_seq ?_
  refine wp_seq ?_
  refine wp_region_list ?_
  refine W_val hA rfl 14 rfl (by decide) _ _ (R_mov hA rfl rfl _) (fun a hA => ?_)
  refine W_callA hA (by decide) (fun _ _ => by kernel_rfl) (args1 hA rfl) (intr_any _ _) (fun w4 hw a hA => ?_)
  subst hw
  refine W_nil ?_
  refine then_nrm ?_
  show Code.wp Try.prog _ _ _ _
  refine wp_cond_split (hA.ev (x := .tmp 15) rfl) (fun c1 => ?_) (fun c1 => ?_)
  · skip
    refine wp_region_held_drew (S := fun wx => Below w3.heap.size w3 wx) (by kernel_rfl) ((Below.refl _ _).drew) (fun hS => ?_)
    refine takeF (i := 0) hA 16 rfl rfl (by decide) rfl (by kernel_rfl) (by kernel_rfl) (by kernel_rfl) (fun _ _ _ h => h) hS (fun wx hx => R_fa hA rfl rfl (fun w => fa_hart _ 9 40 (by decide) rfl w) _) (fun a hA => ?_)
    refine takeF (i := 1) hA 17 rfl rfl (by decide) rfl (by kernel_rfl) (by kernel_rfl) (by kernel_rfl) (fun _ _ _ h => h) hS (fun wx hx => R_ld (v := .int .u64 (t.n 40)) hA rfl rfl ag_u64 ((HH.below hx).u 40 (by decide) (by decide))) (fun a hA => ?_)
    refine takeF (i := 2) hA 18 rfl rfl (by decide) rfl (by kernel_rfl) (by kernel_rfl) (by kernel_rfl) (fun _ _ _ h => h) hS (fun wx hx => R_fa hA rfl rfl (fun w => fa_hart _ 29 60 (by decide) rfl w) _) (fun a hA => ?_)
    refine takeF (i := 3) hA 19 rfl rfl (by decide) rfl (by kernel_rfl) (by kernel_rfl) (by kernel_rfl) (fun _ _ _ h => h) hS (fun wx hx => R_ld (v := .int .u64 (t.n 60)) hA rfl rfl ag_u64 ((HH.below hx).u 60 (by decide) (by decide))) (fun a hA => ?_)
    refine takeF (i := 4) hA 6 rfl rfl (by decide) rfl (by kernel_rfl) (by kernel_rfl) (by kernel_rfl) (fun _ _ _ h => h) hS (fun wx hx => R_asg hA rfl rfl _) (fun a hA => ?_)
    refine takeF (i := 5) hA 7 rfl rfl (by decide) rfl (by kernel_rfl) (by kernel_rfl) (by kernel_rfl) (fun _ _ _ h => h) hS (fun wx hx => R_asg hA rfl rfl _) (fun a hA => ?_)
    refine wpAnyH_done (by kernel_rfl) ?_ _
    replace HH := HH.below hS
    replace HB := HB.trans (hS.mono HB.size)
    clear hS
    generalize World.drew w3 = w5 at *
    refine then_nrm ?_
    show Code.wp Try.prog _ _ _ _
    refine wp_seq ?_
    refine wp_block ?_
    refine wp_seq ?_
    refine wp_region_list ?_
    refine W_val hA rfl 21 rfl (by decide) _ _ (R_fa hA rfl rfl (fun w => fa_hart _ 2 33 (by decide) rfl w) _) (fun a hA => ?_)
    refine W_val hA rfl 22 rfl (by decide) _ _ (R_ld (v := .int .u8 (t.n 33)) hA rfl rfl ag_u8 HH.p) (fun a hA => ?_)
    refine W_val hA rfl 23 rfl (by decide) _ _ (R_eqlB hA rfl rfl rfl _) (fun a hA => ?_)
    refine W_val hA rfl 24 rfl (by decide) _ _ (R_mov hA rfl rfl _) (fun a hA => ?_)
    refine W_split hA 24 rfl (fun c2 hA => ?_) (fun c2 hA => ?_)
    · skip
      refine W_gskip hA rfl rfl rfl 25 rfl (by decide) (fun a hA => ?_)
      refine W_gskip hA rfl rfl rfl 26 rfl (by decide) (fun a hA => ?_)
      refine W_val hA rfl 27 rfl (by decide) _ _ (R_pick hA rfl rfl rfl _) (fun a hA => ?_)
      refine W_val hA rfl 28 rfl (by decide) _ _ (R_mov hA rfl rfl _) (fun a hA => ?_)
      refine W_gskip hA rfl rfl rfl 29 rfl (by decide) (fun a hA => ?_)
      refine W_gskip hA rfl rfl rfl 30 rfl (by decide) (fun a hA => ?_)
      refine W_gskip hA rfl rfl rfl 31 rfl (by decide) (fun a hA => ?_)
      refine W_gskip hA rfl rfl rfl 32 rfl (by decide) (fun a hA => ?_)
      refine W_gskip hA rfl rfl rfl 33 rfl (by decide) (fun a hA => ?_)
      refine W_val hA rfl 34 rfl (by decide) _ _ (R_pick hA rfl rfl rfl _) (fun a hA => ?_)
      refine W_val hA rfl 20 rfl (by decide) _ _ (R_asg hA rfl rfl _) (fun a hA => ?_)
      refine W_nil ?_
      refine then_nrm ?_
      show Code.wp Try.prog _ _ _ _
      refine wp_cond_true (hA.ev (x := .tmp 20) rfl) ?_
      refine wp_seq ?_
      refine wp_region_list ?_
      refine W_val hA rfl 4 rfl (by decide) _ _ (R_asg hA rfl rfl _) (fun a hA => ?_)
      refine W_nil ?_
      refine then_nrm ?_
      show Code.wp Try.prog _ _ _ _
      refine wp_ret ?_
      refine blk_ret ?_
      refine then_ret ?_
      refine ret_tmp (j := 4) (by kernel_rfl) hA (by decide) rfl ⟨congrArg (fun x : Int => Ending.returned (.int .i64 x)) ?_, HB⟩
      rw [toZ_b]
      simp only [c1, c2, if_true, if_false, Bool.false_eq_true, Bool.not_true, Bool.not_false]
      all_goals rfl
    refine W_gval hA rfl rfl rfl 25 rfl (by decide) _ _ (R_mov hA rfl rfl _) (fun a hA => ?_)
    refine W_gval hA rfl rfl rfl 26 rfl (by decide) _ _ (R_gtrU hA rfl rfl rfl _) (fun a hA => ?_)
    refine W_val hA rfl 27 rfl (by decide) _ _ (R_pick hA rfl rfl rfl _) (fun a hA => ?_)
    refine W_val hA rfl 28 rfl (by decide) _ _ (R_mov hA rfl rfl _) (fun a hA => ?_)
    refine W_split hA 28 rfl (fun c3 hA => ?_) (fun c3 hA => ?_)
    · skip
      refine W_gskip hA rfl rfl rfl 29 rfl (by decide) (fun a hA => ?_)
      refine W_gskip hA rfl rfl rfl 30 rfl (by decide) (fun a hA => ?_)
      refine W_gskip hA rfl rfl rfl 31 rfl (by decide) (fun a hA => ?_)
      refine W_gskip hA rfl rfl rfl 32 rfl (by decide) (fun a hA => ?_)
      refine W_gskip hA rfl rfl rfl 33 rfl (by decide) (fun a hA => ?_)
      refine W_val hA rfl 34 rfl (by decide) _ _ (R_pick hA rfl rfl rfl _) (fun a hA => ?_)
      refine W_val hA rfl 20 rfl (by decide) _ _ (R_asg hA rfl rfl _) (fun a hA => ?_)
      refine W_nil ?_
      refine then_nrm ?_
      show Code.wp Try.prog _ _ _ _
      refine wp_cond_true (hA.ev (x := .tmp 20) rfl) ?_
      refine wp_seq ?_
      refine wp_region_list ?_
      refine W_val hA rfl 4 rfl (by decide) _ _ (R_asg hA rfl rfl _) (fun a hA => ?_)
      refine W_nil ?_
      refine then_nrm ?_
      show Code.wp Try.prog _ _ _ _
      refine wp_ret ?_
      refine blk_ret ?_
      refine then_ret ?_
      refine ret_tmp (j := 4) (by kernel_rfl) hA (by decide) rfl ⟨congrArg (fun x : Int => Ending.returned (.int .i64 x)) ?_, HB⟩
      rw [toZ_b]
      simp only [c1, c2, c3, if_true, if_false, Bool.false_eq_true, Bool.not_true, Bool.not_false]
      all_goals rfl
    have hm : 0 ≤ c % 9223372036854775808 ∧ c % 9223372036854775808 < 64 := by have := of_decide_eq_false c3; omega
    refine W_gval hA rfl rfl rfl 29 rfl (by decide) _ _ (R_mov hA rfl rfl _) (fun a hA => ?_)
    refine W_gval hA rfl rfl rfl 30 rfl (by decide) _ _ (R_mov hA rfl rfl _) (fun a hA => ?_)
    refine W_gval hA rfl rfl rfl 31 rfl (by decide) _ _ (R_shrM hA rfl rfl (ok.n _).1 hm rfl _) (fun a hA => ?_)
    refine W_gval hA rfl rfl rfl 32 rfl (by decide) _ _ (R_and hA rfl rfl rfl _) (fun a hA => ?_)
    refine W_gval hA rfl rfl rfl 33 rfl (by decide) _ _ (R_eqlU hA rfl rfl rfl _) (fun a hA => ?_)
    refine W_val hA rfl 34 rfl (by decide) _ _ (R_pick hA rfl rfl rfl _) (fun a hA => ?_)
    refine W_val hA rfl 20 rfl (by decide) _ _ (R_asg hA rfl rfl _) (fun a hA => ?_)
    refine W_nil ?_
    refine then_nrm ?_
    show Code.wp Try.prog _ _ _ _
    refine wp_cond_split (hA.ev (x := .tmp 20) rfl) (fun c4 => ?_) (fun c4 => ?_)
    · skip
      refine wp_seq ?_
      refine wp_region_list ?_
      refine W_val hA rfl 4 rfl (by decide) _ _ (R_asg hA rfl rfl _) (fun a hA => ?_)
      refine W_nil ?_
      refine then_nrm ?_
      show Code.wp Try.prog _ _ _ _
      refine wp_ret ?_
      refine blk_ret ?_
      refine then_ret ?_
      refine ret_tmp (j := 4) (by kernel_rfl) hA (by decide) rfl ⟨congrArg (fun x : Int => Ending.returned (.int .i64 x)) ?_, HB⟩
      rw [has_bit0 (ok.n 40)] at c4
      rw [toZ_b]
      simp only [c1, c2, c3, c4, if_true, if_false, Bool.false_eq_true, Bool.not_true, Bool.not_false]
      all_goals rfl
    refine wp_seq ?_
    refine wp_region_list ?_
    refine W_val hA rfl 36 rfl (by decide) _ _ (R_fa hA rfl rfl (fun w => fa_hart _ 3 34 (by decide) rfl w) _) (fun a hA => ?_)
    refine W_val hA rfl 37 rfl (by decide) _ _ (R_ld (v := .bool (t.v)) hA rfl rfl ag_bool HH.v) (fun a hA => ?_)
    refine W_val hA rfl 38 rfl (by decide) _ _ (R_mov hA rfl rfl _) (fun a hA => ?_)
    refine W_split hA 38 rfl (fun c5 hA => ?_) (fun c5 hA => ?_)
    · skip
      refine W_gval hA rfl rfl rfl 39 rfl (by decide) _ _ (R_mov hA rfl rfl _) (fun a hA => ?_)
      refine W_gval hA rfl rfl rfl 40 rfl (by decide) _ _ (R_mov hA rfl rfl _) (fun a hA => ?_)
      refine W_gval hA rfl rfl rfl 41 rfl (by decide) _ _ (R_shrM hA rfl rfl (ok.n _).1 hm rfl _) (fun a hA => ?_)
      refine W_gval hA rfl rfl rfl 42 rfl (by decide) _ _ (R_and hA rfl rfl rfl _) (fun a hA => ?_)
      refine W_gval hA rfl rfl rfl 43 rfl (by decide) _ _ (R_eqlU hA rfl rfl rfl _) (fun a hA => ?_)
      refine W_val hA rfl 44 rfl (by decide) _ _ (R_pick hA rfl rfl rfl _) (fun a hA => ?_)
      refine W_val hA rfl 35 rfl (by decide) _ _ (R_asg hA rfl rfl _) (fun a hA => ?_)
      refine W_nil ?_
      refine then_nrm ?_
      show Code.wp Try.prog _ _ _ _
      refine wp_cond_split (hA.ev (x := .tmp 35) rfl) (fun c6 => ?_) (fun c6 => ?_)
      · skip
        refine wp_seq ?_
        refine wp_region_list ?_
        refine W_val hA rfl 4 rfl (by decide) _ _ (R_asg hA rfl rfl _) (fun a hA => ?_)
        refine W_nil ?_
        refine then_nrm ?_
        show Code.wp Try.prog _ _ _ _
        refine wp_ret ?_
        refine blk_ret ?_
        refine then_ret ?_
        refine ret_tmp (j := 4) (by kernel_rfl) hA (by decide) rfl ⟨congrArg (fun x : Int => Ending.returned (.int .i64 x)) ?_, HB⟩
        rw [has_bit0 (ok.n 40)] at c4
        rw [has_bit (ok.n 60)] at c6
        rw [toZ_b]
        simp only [c1, c2, c3, c4, c5, c6, if_true, if_false, Bool.false_eq_true, Bool.not_true, Bool.not_false]
        all_goals rfl
      refine wp_skip ?_
      refine blk_nrm ?_
      refine then_nrm ?_
      show Code.wp Try.prog _ _ _ _
      refine wp_seq ?_
      refine wp_region_list ?_
      refine W_val hA rfl 4 rfl (by decide) _ _ (R_asg hA rfl rfl _) (fun a hA => ?_)
      refine W_nil ?_
      refine then_nrm ?_
      show Code.wp Try.prog _ _ _ _
      refine wp_ret ?_
      refine ret_tmp (j := 4) (by kernel_rfl) hA (by decide) rfl ⟨congrArg (fun x : Int => Ending.returned (.int .i64 x)) ?_, HB⟩
      rw [has_bit0 (ok.n 40)] at c4
      rw [has_bit (ok.n 60)] at c6
      rw [toZ_b]
      simp only [c1, c2, c3, c4, c5, c6, if_true, if_false, Bool.false_eq_true, Bool.not_true, Bool.not_false]
      all_goals rfl
    refine W_gskip hA rfl rfl rfl 39 rfl (by decide) (fun a hA => ?_)
    refine W_gskip hA rfl rfl rfl 40 rfl (by decide) (fun a hA => ?_)
    refine W_gskip hA rfl rfl rfl 41 rfl (by decide) (fun a hA => ?_)
    refine W_gskip hA rfl rfl rfl 42 rfl (by decide) (fun a hA => ?_)
    refine W_gskip hA rfl rfl rfl 43 rfl (by decide) (fun a hA => ?_)
    refine W_val hA rfl 44 rfl (by decide) _ _ (R_pick hA rfl rfl rfl _) (fun a hA => ?_)
    refine W_val hA rfl 35 rfl (by decide) _ _ (R_asg hA rfl rfl _) (fun a hA => ?_)
    refine W_nil ?_
    refine then_nrm ?_
    show Code.wp Try.prog _ _ _ _
    refine wp_cond_false (hA.ev (x := .tmp 35) rfl) ?_
    refine wp_skip ?_
    refine blk_nrm ?_
    refine then_nrm ?_
    show Code.wp Try.prog _ _ _ _
    refine wp_seq ?_
    refine wp_region_list ?_
    refine W_val hA rfl 4 rfl (by decide) _ _ (R_asg hA rfl rfl _) (fun a hA => ?_)
    refine W_nil ?_
    refine then_nrm ?_
    show Code.wp Try.prog _ _ _ _
    refine wp_ret ?_
    refine ret_tmp (j := 4) (by kernel_rfl) hA (by decide) rfl ⟨congrArg (fun x : Int => Ending.returned (.int .i64 x)) ?_, HB⟩
    rw [has_bit0 (ok.n 40)] at c4
    rw [toZ_b]
    simp only [c1, c2, c3, c4, c5, if_true, if_false, Bool.false_eq_true, Bool.not_true, Bool.not_false]
    all_goals rfl
  refine wp_skip ?_
  refine then_nrm ?_
  show Code.wp Try.prog _ _ _ _
  refine wp_seq ?_
  refine wp_block ?_
  refine wp_seq ?_
  refine wp_region_list ?_
  refine W_val hA rfl 21 rfl (by decide) _ _ (R_fa hA rfl rfl (fun w => fa_hart _ 2 33 (by decide) rfl w) _) (fun a hA => ?_)
  refine W_val hA rfl 22 rfl (by decide) _ _ (R_ld (v := .int .u8 (t.n 33)) hA rfl rfl ag_u8 HH.p) (fun a hA => ?_)
  refine W_val hA rfl 23 rfl (by decide) _ _ (R_eqlB hA rfl rfl rfl _) (fun a hA => ?_)
  refine W_val hA rfl 24 rfl (by decide) _ _ (R_mov hA rfl rfl _) (fun a hA => ?_)
  refine W_split hA 24 rfl (fun c7 hA => ?_) (fun c7 hA => ?_)
  · skip
    refine W_gskip hA rfl rfl rfl 25 rfl (by decide) (fun a hA => ?_)
    refine W_gskip hA rfl rfl rfl 26 rfl (by decide) (fun a hA => ?_)
    refine W_val hA rfl 27 rfl (by decide) _ _ (R_pick hA rfl rfl rfl _) (fun a hA => ?_)
    refine W_val hA rfl 28 rfl (by decide) _ _ (R_mov hA rfl rfl _) (fun a hA => ?_)
    refine W_gskip hA rfl rfl rfl 29 rfl (by decide) (fun a hA => ?_)
    refine W_gskip hA rfl rfl rfl 30 rfl (by decide) (fun a hA => ?_)
    refine W_gskip hA rfl rfl rfl 31 rfl (by decide) (fun a hA => ?_)
    refine W_gskip hA rfl rfl rfl 32 rfl (by decide) (fun a hA => ?_)
    refine W_gskip hA rfl rfl rfl 33 rfl (by decide) (fun a hA => ?_)
    refine W_val hA rfl 34 rfl (by decide) _ _ (R_pick hA rfl rfl rfl _) (fun a hA => ?_)
    refine W_val hA rfl 20 rfl (by decide) _ _ (R_asg hA rfl rfl _) (fun a hA => ?_)
    refine W_nil ?_
    refine then_nrm ?_
    show Code.wp Try.prog _ _ _ _
    refine wp_cond_true (hA.ev (x := .tmp 20) rfl) ?_
    refine wp_seq ?_
    refine wp_region_list ?_
    refine W_val hA rfl 4 rfl (by decide) _ _ (R_asg hA rfl rfl _) (fun a hA => ?_)
    refine W_nil ?_
    refine then_nrm ?_
    show Code.wp Try.prog _ _ _ _
    refine wp_ret ?_
    refine blk_ret ?_
    refine then_ret ?_
    refine ret_tmp (j := 4) (by kernel_rfl) hA (by decide) rfl ⟨congrArg (fun x : Int => Ending.returned (.int .i64 x)) ?_, HB⟩
    rw [toZ_b]
    simp only [c1, c7, if_true, if_false, Bool.false_eq_true, Bool.not_true, Bool.not_false]
    all_goals rfl
  refine W_gval hA rfl rfl rfl 25 rfl (by decide) _ _ (R_mov hA rfl rfl _) (fun a hA => ?_)
  refine W_gval hA rfl rfl rfl 26 rfl (by decide) _ _ (R_gtrU hA rfl rfl rfl _) (fun a hA => ?_)
  refine W_val hA rfl 27 rfl (by decide) _ _ (R_pick hA rfl rfl rfl _) (fun a hA => ?_)
  refine W_val hA rfl 28 rfl (by decide) _ _ (R_mov hA rfl rfl _) (fun a hA => ?_)
  refine W_split hA 28 rfl (fun c8 hA => ?_) (fun c8 hA => ?_)
  · skip
    refine W_gskip hA rfl rfl rfl 29 rfl (by decide) (fun a hA => ?_)
    refine W_gskip hA rfl rfl rfl 30 rfl (by decide) (fun a hA => ?_)
    refine W_gskip hA rfl rfl rfl 31 rfl (by decide) (fun a hA => ?_)
    refine W_gskip hA rfl rfl rfl 32 rfl (by decide) (fun a hA => ?_)
    refine W_gskip hA rfl rfl rfl 33 rfl (by decide) (fun a hA => ?_)
    refine W_val hA rfl 34 rfl (by decide) _ _ (R_pick hA rfl rfl rfl _) (fun a hA => ?_)
    refine W_val hA rfl 20 rfl (by decide) _ _ (R_asg hA rfl rfl _) (fun a hA => ?_)
    refine W_nil ?_
    refine then_nrm ?_
    show Code.wp Try.prog _ _ _ _
    refine wp_cond_true (hA.ev (x := .tmp 20) rfl) ?_
    refine wp_seq ?_
    refine wp_region_list ?_
    refine W_val hA rfl 4 rfl (by decide) _ _ (R_asg hA rfl rfl _) (fun a hA => ?_)
    refine W_nil ?_
    refine then_nrm ?_
    show Code.wp Try.prog _ _ _ _
    refine wp_ret ?_
    refine blk_ret ?_
    refine then_ret ?_
    refine ret_tmp (j := 4) (by kernel_rfl) hA (by decide) rfl ⟨congrArg (fun x : Int => Ending.returned (.int .i64 x)) ?_, HB⟩
    rw [toZ_b]
    simp only [c1, c7, c8, if_true, if_false, Bool.false_eq_true, Bool.not_true, Bool.not_false]
    all_goals rfl
  have hm : 0 ≤ c % 9223372036854775808 ∧ c % 9223372036854775808 < 64 := by have := of_decide_eq_false c8; omega
  refine W_gval hA rfl rfl rfl 29 rfl (by decide) _ _ (R_mov hA rfl rfl _) (fun a hA => ?_)
  refine W_gval hA rfl rfl rfl 30 rfl (by decide) _ _ (R_mov hA rfl rfl _) (fun a hA => ?_)
  refine W_gval hA rfl rfl rfl 31 rfl (by decide) _ _ (R_shrM hA rfl rfl (ok.n _).1 hm rfl _) (fun a hA => ?_)
  refine W_gval hA rfl rfl rfl 32 rfl (by decide) _ _ (R_and hA rfl rfl rfl _) (fun a hA => ?_)
  refine W_gval hA rfl rfl rfl 33 rfl (by decide) _ _ (R_eqlU hA rfl rfl rfl _) (fun a hA => ?_)
  refine W_val hA rfl 34 rfl (by decide) _ _ (R_pick hA rfl rfl rfl _) (fun a hA => ?_)
  refine W_val hA rfl 20 rfl (by decide) _ _ (R_asg hA rfl rfl _) (fun a hA => ?_)
  refine W_nil ?_
  refine then_nrm ?_
  show Code.wp Try.prog _ _ _ _
  refine wp_cond_split (hA.ev (x := .tmp 20) rfl) (fun c9 => ?_) (fun c9 => ?_)
  · skip
    refine wp_seq ?_
    refine wp_region_list ?_
    refine W_val hA rfl 4 rfl (by decide) _ _ (R_asg hA rfl rfl _) (fun a hA => ?_)
    refine W_nil ?_
    refine then_nrm ?_
    show Code.wp Try.prog _ _ _ _
    refine wp_ret ?_
    refine blk_ret ?_
    refine then_ret ?_
    refine ret_tmp (j := 4) (by kernel_rfl) hA (by decide) rfl ⟨congrArg (fun x : Int => Ending.returned (.int .i64 x)) ?_, HB⟩
    rw [has_bit0 (ok.n 39)] at c9
    rw [toZ_b]
    simp only [c1, c7, c8, c9, if_true, if_false, Bool.false_eq_true, Bool.not_true, Bool.not_false]
    all_goals rfl
  refine wp_seq ?_
  refine wp_region_list ?_
  refine W_val hA rfl 36 rfl (by decide) _ _ (R_fa hA rfl rfl (fun w => fa_hart _ 3 34 (by decide) rfl w) _) (fun a hA => ?_)
  refine W_val hA rfl 37 rfl (by decide) _ _ (R_ld (v := .bool (t.v)) hA rfl rfl ag_bool HH.v) (fun a hA => ?_)
  refine W_val hA rfl 38 rfl (by decide) _ _ (R_mov hA rfl rfl _) (fun a hA => ?_)
  refine W_split hA 38 rfl (fun c10 hA => ?_) (fun c10 hA => ?_)
  · skip
    refine W_gval hA rfl rfl rfl 39 rfl (by decide) _ _ (R_mov hA rfl rfl _) (fun a hA => ?_)
    refine W_gval hA rfl rfl rfl 40 rfl (by decide) _ _ (R_mov hA rfl rfl _) (fun a hA => ?_)
    refine W_gval hA rfl rfl rfl 41 rfl (by decide) _ _ (R_shrM hA rfl rfl (ok.n _).1 hm rfl _) (fun a hA => ?_)
    refine W_gval hA rfl rfl rfl 42 rfl (by decide) _ _ (R_and hA rfl rfl rfl _) (fun a hA => ?_)
    refine W_gval hA rfl rfl rfl 43 rfl (by decide) _ _ (R_eqlU hA rfl rfl rfl _) (fun a hA => ?_)
    refine W_val hA rfl 44 rfl (by decide) _ _ (R_pick hA rfl rfl rfl _) (fun a hA => ?_)
    refine W_val hA rfl 35 rfl (by decide) _ _ (R_asg hA rfl rfl _) (fun a hA => ?_)
    refine W_nil ?_
    refine then_nrm ?_
    show Code.wp Try.prog _ _ _ _
    refine wp_cond_split (hA.ev (x := .tmp 35) rfl) (fun c11 => ?_) (fun c11 => ?_)
    · skip
      refine wp_seq ?_
      refine wp_region_list ?_
      refine W_val hA rfl 4 rfl (by decide) _ _ (R_asg hA rfl rfl _) (fun a hA => ?_)
      refine W_nil ?_
      refine then_nrm ?_
      show Code.wp Try.prog _ _ _ _
      refine wp_ret ?_
      refine blk_ret ?_
      refine then_ret ?_
      refine ret_tmp (j := 4) (by kernel_rfl) hA (by decide) rfl ⟨congrArg (fun x : Int => Ending.returned (.int .i64 x)) ?_, HB⟩
      rw [has_bit0 (ok.n 39)] at c9
      rw [has_bit (ok.n 59)] at c11
      rw [toZ_b]
      simp only [c1, c7, c8, c9, c10, c11, if_true, if_false, Bool.false_eq_true, Bool.not_true, Bool.not_false]
      all_goals rfl
    refine wp_skip ?_
    refine blk_nrm ?_
    refine then_nrm ?_
    show Code.wp Try.prog _ _ _ _
    refine wp_seq ?_
    refine wp_region_list ?_
    refine W_val hA rfl 4 rfl (by decide) _ _ (R_asg hA rfl rfl _) (fun a hA => ?_)
    refine W_nil ?_
    refine then_nrm ?_
    show Code.wp Try.prog _ _ _ _
    refine wp_ret ?_
    refine ret_tmp (j := 4) (by kernel_rfl) hA (by decide) rfl ⟨congrArg (fun x : Int => Ending.returned (.int .i64 x)) ?_, HB⟩
    rw [has_bit0 (ok.n 39)] at c9
    rw [has_bit (ok.n 59)] at c11
    rw [toZ_b]
    simp only [c1, c7, c8, c9, c10, c11, if_true, if_false, Bool.false_eq_true, Bool.not_true, Bool.not_false]
    all_goals rfl
  refine W_gskip hA rfl rfl rfl 39 rfl (by decide) (fun a hA => ?_)
  refine W_gskip hA rfl rfl rfl 40 rfl (by decide) (fun a hA => ?_)
  refine W_gskip hA rfl rfl rfl 41 rfl (by decide) (fun a hA => ?_)
  refine W_gskip hA rfl rfl rfl 42 rfl (by decide) (fun a hA => ?_)
  refine W_gskip hA rfl rfl rfl 43 rfl (by decide) (fun a hA => ?_)
  refine W_val hA rfl 44 rfl (by decide) _ _ (R_pick hA rfl rfl rfl _) (fun a hA => ?_)
  refine W_val hA rfl 35 rfl (by decide) _ _ (R_asg hA rfl rfl _) (fun a hA => ?_)
  refine W_nil ?_
  refine then_nrm ?_
  show Code.wp Try.prog _ _ _ _
  refine wp_cond_false (hA.ev (x := .tmp 35) rfl) ?_
  refine wp_skip ?_
  refine blk_nrm ?_
  refine then_nrm ?_
  show Code.wp Try.prog _ _ _ _
  refine wp_seq ?_
  refine wp_region_list ?_
  refine W_val hA rfl 4 rfl (by decide) _ _ (R_asg hA rfl rfl _) (fun a hA => ?_)
  refine W_nil ?_
  refine then_nrm ?_
  show Code.wp Try.prog _ _ _ _
  refine wp_ret ?_
  refine ret_tmp (j := 4) (by kernel_rfl) hA (by decide) rfl ⟨congrArg (fun x : Int => Ending.returned (.int .i64 x)) ?_, HB⟩
  rw [has_bit0 (ok.n 39)] at c9
  rw [toZ_b]
  simp only [c1, c7, c8, c9, c10, if_true, if_false, Bool.false_eq_true, Bool.not_true, Bool.not_false]
  all_goals rfl
set_option maxHeartbeats 8000000 in
theorem dto_any (t : HS) (ok : HOk t) (c : Int) (hc : In64 c) (w : World) : Calls Try.prog 9 #[hartV t, .int .u64 c] w fun e w' => e = .returned (.int .i64 (toZ t c)) ∧ Below w.heap.size w w' := by
  have HB := Below.refl w.heap.size w
  go_enter Try.func9, Try.ntmps9
  refine begin_fr [(1, .int .u64 c), (0, hartV t)] 41 ?_ (fun a hA => ?_)
  · exact FrA.add (FrA.add (FrA.nil (by rfl) (by rfl)) 0 _ (by rfl)) 1 _ (by rfl)
  refine wp_seq ?_
  refine wp_region_list ?_
  refine W_boxH hA rfl 2 rfl (by decide) rfl rfl (fun w1 bHH a hA hb HH gHH => ?_)
  replace gHH := Nat.le_trans HB.size gHH
  replace HB := HB.trans (hb.mono HB.size)
  clear hb
  refine W_val hA rfl 4 rfl (by decide) _ _ (R_asg hA rfl rfl _) (fun a hA => ?_)
  refine W_nil ?_
  refine then_nrm ?_
  show Code.wp Try.prog _ _ _ _
  refine wp_seq ?_
  refine wp_seq ?_
  refine wp_region_list ?_
  refine W_val hA rfl 6 rfl (by decide) _ _ (R_fa hA rfl rfl (fun w => fa_hart _ 2 33 (by decide) rfl w) _) (fun a hA => ?_)
  refine W_val hA rfl 7 rfl (by decide) _ _ (R_ld (v := .int .u8 (t.n 33)) hA rfl rfl ag_u8 HH.p) (fun a hA => ?_)
  refine W_val hA rfl 8 rfl (by decide) _ _ (R_eqlB hA rfl rfl rfl _) (fun a hA => ?_)
  refine W_nil ?_
  refine then_nrm ?_
  show Code.wp Try.prog _ _ _ _
  refine wp_cond_split (hA.ev (x := .tmp 8) rfl) (fun c1 => ?_) (fun c1 => ?_)
  · skip
    refine wp_seq ?_
    refine wp_region_list ?_
    refine W_val hA rfl 4 rfl (by decide) _ _ (R_asg hA rfl rfl _) (fun a hA => ?_)
    refine W_nil ?_
    refine then_nrm ?_
    show Code.wp Try.prog _ _ _ _
    refine wp_ret ?_
    refine then_ret ?_
    refine ret_tmp (j := 4) (by kernel_rfl) hA (by decide) rfl ⟨congrArg (fun x : Int => Ending.returned (.int .i64 x)) ?_, HB⟩
    rw [toZ_b]
    simp only [c1, if_true, if_false, Bool.false_eq_true, Bool.not_true, Bool.not_false]
    all_goals rfl
  refine wp_skip ?_
  refine then_nrm ?_
  show Code.wp Try.prog _ _ _ _
  refine wp_seq ?_
  refine wp_region_list ?_
  refine W_val hA rfl 9 rfl (by decide) _ _ (R_mov hA rfl rfl _) (fun a hA => ?_)
  refine W_val hA rfl 10 rfl (by decide) _ _ (R_rem hA rfl hc.1 ⟨by decide, by decide⟩ rfl rfl _) (fun a hA => ?_)
  refine W_val hA rfl 5 rfl (by decide) _ _ (R_asg hA rfl rfl _) (fun a hA => ?_)
  refine W_nil ?_
  refine then_nrm ?_
  show Code.wp Try.prog _ _ _ _
  refine wp_seq ?_
  refine wp_seq ?_
  refine wp_region_list ?_
  refine W_val hA rfl 11 rfl (by decide) _ _ (R_mov hA rfl rfl _) (fun a hA => ?_)
  refine W_val hA rfl 12 rfl (by decide) _ _ (R_gtrU hA rfl rfl rfl _) (fun a hA => ?_)
  refine W_nil ?_
  refine then_nrm ?_
  show Code.wp Try.prog _ _ _ _
  refine wp_cond_split (hA.ev (x := .tmp 12) rfl) (fun c2 => ?_) (fun c2 => ?_)
  · skip
    refine wp_seq ?_
    refine wp_region_list ?_
    refine W_val hA rfl 4 rfl (by decide) _ _ (R_asg hA rfl rfl _) (fun a hA => ?_)
    refine W_nil ?_
    refine then_nrm ?_
    show Code.wp Try.prog _ _ _ _
    refine wp_ret ?_
    refine then_ret ?_
    refine ret_tmp (j := 4) (by kernel_rfl) hA (by decide) rfl ⟨congrArg (fun x : Int => Ending.returned (.int .i64 x)) ?_, HB⟩
    rw [toZ_b]
    simp only [c1, c2, if_true, if_false, Bool.false_eq_true, Bool.not_true, Bool.not_false]
    all_goals rfl
  have hm : 0 ≤ c % 9223372036854775808 ∧ c % 9223372036854775808 < 64 := by have := of_decide_eq_false c2; omega
  refine wp_skip ?_
  refine then_nrm ?_
  show Code.wp Try.prog _ _ _ _
  refine wp_seq ?_
  refine wp_seq ?_
  refine wp_region_list ?_
  refine W_val hA rfl 13 rfl (by decide) _ _ (R_mov hA rfl rfl _) (fun a hA => ?_)
  refine W_callA hA (by decide) (fun _ _ => by kernel_rfl) (args2 hA rfl rfl) (dbitN_any _ (by first | exact ok.n _ | exact hc | exact ht) 63 (by decide) _) (fun w2 hw a hA => ?_)
  subst hw
  refine W_nil ?_
  refine then_nrm ?_
  show Code.wp Try.prog _ _ _ _
  refine wp_cond_split (hA.ev (x := .tmp 14) rfl) (fun c3 => ?_) (fun c3 => ?_)
  · skip
    refine wp_seq ?_
    refine wp_seq ?_
    refine wp_region_list ?_
    refine W_val hA rfl 15 rfl (by decide) _ _ (R_fa hA rfl rfl (fun w => fa_hart _ 9 40 (by decide) rfl w) _) (fun a hA => ?_)
    refine W_val hA rfl 16 rfl (by decide) _ _ (R_ld (v := .int .u64 (t.n 40)) hA rfl rfl ag_u64 (HH.u 40 (by decide) (by decide))) (fun a hA => ?_)
    refine W_val hA rfl 17 rfl (by decide) _ _ (R_mov hA rfl rfl _) (fun a hA => ?_)
    refine W_callA hA (by decide) (fun _ _ => by kernel_rfl) (args2 hA rfl rfl) (dbit_any _ (by first | exact ok.n _ | exact hc | exact ht) (c % 9223372036854775808) hm _) (fun w3 hw a hA => ?_)
    subst hw
    refine W_val hA rfl 19 rfl (by decide) _ _ (R_not hA rfl rfl _) (fun a hA => ?_)
    refine W_nil ?_
    refine then_nrm ?_
    show Code.wp Try.prog _ _ _ _
    refine wp_cond_split (hA.ev (x := .tmp 19) rfl) (fun c4 => ?_) (fun c4 => ?_)
    · skip
      refine wp_seq ?_
      refine wp_region_list ?_
      refine W_val hA rfl 4 rfl (by decide) _ _ (R_asg hA rfl rfl _) (fun a hA => ?_)
      refine W_nil ?_
      refine then_nrm ?_
      show Code.wp Try.prog _ _ _ _
      refine wp_ret ?_
      refine then_ret ?_
      refine then_ret ?_
      refine ret_tmp (j := 4) (by kernel_rfl) hA (by decide) rfl ⟨congrArg (fun x : Int => Ending.returned (.int .i64 x)) ?_, HB⟩
      rw [toZ_b]
      simp only [c1, c2, c3, c4, if_true, if_false, Bool.false_eq_true, Bool.not_true, Bool.not_false]
      all_goals rfl
    refine wp_skip ?_
    refine then_nrm ?_
    show Code.wp Try.prog _ _ _ _
    refine wp_seq ?_
    refine wp_seq ?_
    refine wp_region_list ?_
    refine W_val hA rfl 20 rfl (by decide) _ _ (R_fa hA rfl rfl (fun w => fa_hart _ 3 34 (by decide) rfl w) _) (fun a hA => ?_)
    refine W_val hA rfl 21 rfl (by decide) _ _ (R_ld (v := .bool (t.v)) hA rfl rfl ag_bool HH.v) (fun a hA => ?_)
    refine W_val hA rfl 22 rfl (by decide) _ _ (R_mov hA rfl rfl _) (fun a hA => ?_)
    refine W_split hA 22 rfl (fun c5 hA => ?_) (fun c5 hA => ?_)
    · skip
      refine W_gval hA rfl rfl rfl 23 rfl (by decide) _ _ (R_fa hA rfl rfl (fun w => fa_hart _ 29 60 (by decide) rfl w) _) (fun a hA => ?_)
      refine W_gval hA rfl rfl rfl 24 rfl (by decide) _ _ (R_ld (v := .int .u64 (t.n 60)) hA rfl rfl ag_u64 (HH.u 60 (by decide) (by decide))) (fun a hA => ?_)
      refine W_gval hA rfl rfl rfl 25 rfl (by decide) _ _ (R_mov hA rfl rfl _) (fun a hA => ?_)
      refine W_gcallB hA rfl rfl (by decide) (fun _ _ => by kernel_rfl) (args2 hA rfl rfl) (dbit_any _ (by first | exact ok.n _ | exact hc | exact ht) (c % 9223372036854775808) hm _) (fun w4 hw a hA => ?_)
      subst hw
      refine W_val hA rfl 27 rfl (by decide) _ _ (R_pick hA rfl rfl rfl _) (fun a hA => ?_)
      refine W_nil ?_
      refine then_nrm ?_
      show Code.wp Try.prog _ _ _ _
      refine wp_cond_split (hA.ev (x := .tmp 27) rfl) (fun c6 => ?_) (fun c6 => ?_)
      · skip
        refine wp_seq ?_
        refine wp_region_list ?_
        refine W_val hA rfl 4 rfl (by decide) _ _ (R_asg hA rfl rfl _) (fun a hA => ?_)
        refine W_nil ?_
        refine then_nrm ?_
        show Code.wp Try.prog _ _ _ _
        refine wp_ret ?_
        refine then_ret ?_
        refine then_ret ?_
        refine ret_tmp (j := 4) (by kernel_rfl) hA (by decide) rfl ⟨congrArg (fun x : Int => Ending.returned (.int .i64 x)) ?_, HB⟩
        rw [toZ_b]
        simp only [c1, c2, c3, c4, c5, c6, if_true, if_false, Bool.false_eq_true, Bool.not_true, Bool.not_false]
        all_goals rfl
      refine wp_skip ?_
      refine then_nrm ?_
      show Code.wp Try.prog _ _ _ _
      refine wp_seq ?_
      refine wp_region_list ?_
      refine W_val hA rfl 4 rfl (by decide) _ _ (R_asg hA rfl rfl _) (fun a hA => ?_)
      refine W_nil ?_
      refine then_nrm ?_
      show Code.wp Try.prog _ _ _ _
      refine wp_ret ?_
      refine then_ret ?_
      refine ret_tmp (j := 4) (by kernel_rfl) hA (by decide) rfl ⟨congrArg (fun x : Int => Ending.returned (.int .i64 x)) ?_, HB⟩
      rw [toZ_b]
      simp only [c1, c2, c3, c4, c5, c6, if_true, if_false, Bool.false_eq_true, Bool.not_true, Bool.not_false]
      all_goals rfl
    refine W_gskip hA rfl rfl rfl 23 rfl (by decide) (fun a hA => ?_)
    refine W_gskip hA rfl rfl rfl 24 rfl (by decide) (fun a hA => ?_)
    refine W_gskip hA rfl rfl rfl 25 rfl (by decide) (fun a hA => ?_)
    refine W_gskip hA rfl rfl rfl 26 rfl (by decide) (fun a hA => ?_)
    refine W_val hA rfl 27 rfl (by decide) _ _ (R_pick hA rfl rfl rfl _) (fun a hA => ?_)
    refine W_nil ?_
    refine then_nrm ?_
    show Code.wp Try.prog _ _ _ _
    refine wp_cond_false (hA.ev (x := .tmp 27) rfl) ?_
    refine wp_skip ?_
    refine then_nrm ?_
    show Code.wp Try.prog _ _ _ _
    refine wp_seq ?_
    refine wp_region_list ?_
    refine W_val hA rfl 4 rfl (by decide) _ _ (R_asg hA rfl rfl _) (fun a hA => ?_)
    refine W_nil ?_
    refine then_nrm ?_
    show Code.wp Try.prog _ _ _ _
    refine wp_ret ?_
    refine then_ret ?_
    refine ret_tmp (j := 4) (by kernel_rfl) hA (by decide) rfl ⟨congrArg (fun x : Int => Ending.returned (.int .i64 x)) ?_, HB⟩
    rw [toZ_b]
    simp only [c1, c2, c3, c4, c5, if_true, if_false, Bool.false_eq_true, Bool.not_true, Bool.not_false]
    all_goals rfl
  refine wp_skip ?_
  refine then_nrm ?_
  show Code.wp Try.prog _ _ _ _
  refine wp_seq ?_
  refine wp_seq ?_
  refine wp_region_list ?_
  refine W_val hA rfl 28 rfl (by decide) _ _ (R_fa hA rfl rfl (fun w => fa_hart _ 8 39 (by decide) rfl w) _) (fun a hA => ?_)
  refine W_val hA rfl 29 rfl (by decide) _ _ (R_ld (v := .int .u64 (t.n 39)) hA rfl rfl ag_u64 (HH.u 39 (by decide) (by decide))) (fun a hA => ?_)
  refine W_val hA rfl 30 rfl (by decide) _ _ (R_mov hA rfl rfl _) (fun a hA => ?_)
  refine W_callA hA (by decide) (fun _ _ => by kernel_rfl) (args2 hA rfl rfl) (dbit_any _ (by first | exact ok.n _ | exact hc | exact ht) (c % 9223372036854775808) hm _) (fun w5 hw a hA => ?_)
  subst hw
  refine W_val hA rfl 32 rfl (by decide) _ _ (R_not hA rfl rfl _) (fun a hA => ?_)
  refine W_nil ?_
  refine then_nrm ?_
  show Code.wp Try.prog _ _ _ _
  refine wp_cond_split (hA.ev (x := .tmp 32) rfl) (fun c7 => ?_) (fun c7 => ?_)
  · skip
    refine wp_seq ?_
    refine wp_region_list ?_
    refine W_val hA rfl 4 rfl (by decide) _ _ (R_asg hA rfl rfl _) (fun a hA => ?_)
    refine W_nil ?_
    refine then_nrm ?_
    show Code.wp Try.prog _ _ _ _
    refine wp_ret ?_
    refine then_ret ?_
    refine ret_tmp (j := 4) (by kernel_rfl) hA (by decide) rfl ⟨congrArg (fun x : Int => Ending.returned (.int .i64 x)) ?_, HB⟩
    rw [toZ_b]
    simp only [c1, c2, c3, c7, if_true, if_false, Bool.false_eq_true, Bool.not_true, Bool.not_false]
    all_goals rfl
  refine wp_skip ?_
  refine then_nrm ?_
  show Code.wp Try.prog _ _ _ _
  refine wp_seq ?_
  refine wp_seq ?_
  refine wp_region_list ?_
  refine W_val hA rfl 33 rfl (by decide) _ _ (R_fa hA rfl rfl (fun w => fa_hart _ 3 34 (by decide) rfl w) _) (fun a hA => ?_)
  refine W_val hA rfl 34 rfl (by decide) _ _ (R_ld (v := .bool (t.v)) hA rfl rfl ag_bool HH.v) (fun a hA => ?_)
  refine W_val hA rfl 35 rfl (by decide) _ _ (R_mov hA rfl rfl _) (fun a hA => ?_)
  refine W_split hA 35 rfl (fun c8 hA => ?_) (fun c8 hA => ?_)
  · skip
    refine W_gval hA rfl rfl rfl 36 rfl (by decide) _ _ (R_fa hA rfl rfl (fun w => fa_hart _ 28 59 (by decide) rfl w) _) (fun a hA => ?_)
    refine W_gval hA rfl rfl rfl 37 rfl (by decide) _ _ (R_ld (v := .int .u64 (t.n 59)) hA rfl rfl ag_u64 (HH.u 59 (by decide) (by decide))) (fun a hA => ?_)
    refine W_gval hA rfl rfl rfl 38 rfl (by decide) _ _ (R_mov hA rfl rfl _) (fun a hA => ?_)
    refine W_gcallB hA rfl rfl (by decide) (fun _ _ => by kernel_rfl) (args2 hA rfl rfl) (dbit_any _ (by first | exact ok.n _ | exact hc | exact ht) (c % 9223372036854775808) hm _) (fun w6 hw a hA => ?_)
    subst hw
    refine W_val hA rfl 40 rfl (by decide) _ _ (R_pick hA rfl rfl rfl _) (fun a hA => ?_)
    refine W_nil ?_
    refine then_nrm ?_
    show Code.wp Try.prog _ _ _ _
    refine wp_cond_split (hA.ev (x := .tmp 40) rfl) (fun c9 => ?_) (fun c9 => ?_)
    · skip
      refine wp_seq ?_
      refine wp_region_list ?_
      refine W_val hA rfl 4 rfl (by decide) _ _ (R_asg hA rfl rfl _) (fun a hA => ?_)
      refine W_nil ?_
      refine then_nrm ?_
      show Code.wp Try.prog _ _ _ _
      refine wp_ret ?_
      refine then_ret ?_
      refine ret_tmp (j := 4) (by kernel_rfl) hA (by decide) rfl ⟨congrArg (fun x : Int => Ending.returned (.int .i64 x)) ?_, HB⟩
      rw [toZ_b]
      simp only [c1, c2, c3, c7, c8, c9, if_true, if_false, Bool.false_eq_true, Bool.not_true, Bool.not_false]
      all_goals rfl
    refine wp_skip ?_
    refine then_nrm ?_
    show Code.wp Try.prog _ _ _ _
    refine wp_seq ?_
    refine wp_region_list ?_
    refine W_val hA rfl 4 rfl (by decide) _ _ (R_asg hA rfl rfl _) (fun a hA => ?_)
    refine W_nil ?_
    refine then_nrm ?_
    show Code.wp Try.prog _ _ _ _
    refine wp_ret ?_
    refine ret_tmp (j := 4) (by kernel_rfl) hA (by decide) rfl ⟨congrArg (fun x : Int => Ending.returned (.int .i64 x)) ?_, HB⟩
    rw [toZ_b]
    simp only [c1, c2, c3, c7, c8, c9, if_true, if_false, Bool.false_eq_true, Bool.not_true, Bool.not_false]
    all_goals rfl
  refine W_gskip hA rfl rfl rfl 36 rfl (by decide) (fun a hA => ?_)
  refine W_gskip hA rfl rfl rfl 37 rfl (by decide) (fun a hA => ?_)
  refine W_gskip hA rfl rfl rfl 38 rfl (by decide) (fun a hA => ?_)
  refine W_gskip hA rfl rfl rfl 39 rfl (by decide) (fun a hA => ?_)
  refine W_val hA rfl 40 rfl (by decide) _ _ (R_pick hA rfl rfl rfl _) (fun a hA => ?_)
  refine W_nil ?_
  refine then_nrm ?_
  show Code.wp Try.prog _ _ _ _
  refine wp_cond_false (hA.ev (x := .tmp 40) rfl) ?_
  refine wp_skip ?_
  refine then_nrm ?_
  show Code.wp Try.prog _ _ _ _
  refine wp_seq ?_
  refine wp_region_list ?_
  refine W_val hA rfl 4 rfl (by decide) _ _ (R_asg hA rfl rfl _) (fun a hA => ?_)
  refine W_nil ?_
  refine then_nrm ?_
  show Code.wp Try.prog _ _ _ _
  refine wp_ret ?_
  refine ret_tmp (j := 4) (by kernel_rfl) hA (by decide) rfl ⟨congrArg (fun x : Int => Ending.returned (.int .i64 x)) ?_, HB⟩
  rw [toZ_b]
  simp only [c1, c2, c3, c7, c8, if_true, if_false, Bool.false_eq_true, Bool.not_true, Bool.not_false]
  all_goals rfl
end Go.Proofs.Ytkfhpmleelmcfaa
