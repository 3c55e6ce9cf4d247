/- '==' of harts. -/
import Derived.Test.YtkfhpmleelmcfaaStEq
import Derived.Test.YtkfhpmleelmcfaaHa
namespace Go.Proofs.Ytkfhpmleelmcfaa
open Go.RowKit
set_option linter.unusedVariables false
set_option maxRecDepth 100000

def feH (t s : HS) (k : Nat) : Bool :=
  if k = 0 then t.n 0 == s.n 0 else if k = 1 then ((List.range 32).all fun i => t.n (1 + i) == s.n (1 + i)) else if k = 2 then t.n 33 == s.n 33 else if k = 3 then t.v == s.v else if k = 4 then t.wait == s.wait else if k = 5 then t.held == s.held else t.n (k + 31) == s.n (k + 31)
def eqL (t s : HS) : List Nat → Bool
  | [] => true
  | k :: l => feH t s k && eqL t s l
def fldL : List Nat := [0, 1, 2, 3, 4, 5, 6, 7, 8, 9, 10, 11, 12, 13, 14, 15, 16, 17, 18, 19, 20, 21, 22, 23, 24, 25, 26, 27, 28, 29, 30, 31, 32, 33, 34, 35, 36, 37, 38, 39, 40, 41, 42, 43, 44, 45]
def eqH (t s : HS) : Bool := eqL t s fldL
theorem eqH_iff (t s : HS) : eqH t s = true ↔ ∀ k, k ∈ fldL → feH t s k = true := by
  unfold eqH
  induction fldL with
  | nil => simp [eqL]
  | cons k l ih => simp only [eqL, Bool.and_eq_true, List.forall_mem_cons]; rw [← ih]
theorem hCell_x (t : HS) {i : Nat} (h : i < 32) : hCell t (1 + i) = .int .u64 (t.n (1 + i)) := hCell_u (.inl (by omega))
theorem part_u (t : HS) (i : Nat) (hi : i < 77) (hu : i < 33 ∨ 36 < i) (w : World) : (part 22 (varr 77 (hCell t)) i).run Try.prog w = .ok (.int .u64 (t.n i)) w := by
  rw [run_part_one w (by kernel_rfl) hi, hCell_u hu]
theorem eq_hart (t s : HS) (w : World) : (Op.equalIn 10000 25 (.agg (varr 77 (hCell t))) (.agg (varr 77 (hCell s)))).run Try.prog w = .ok (eqH t s) w := by
  rw [run_equalIn_struct w 9999 25 _ _ (by kernel_rfl) (by kernel_rfl)]
  simp only [Program.fieldsOf, Try.underlying25]
  have a64 : ∀ w, (isAgg 22).run Try.prog w = .ok false w := fun _ => by kernel_rfl
  have a8 : ∀ w, (isAgg 5).run Try.prog w = .ok false w := fun _ => by kernel_rfl
  have a4 : ∀ w, (isAgg 4).run Try.prog w = .ok false w := fun _ => by kernel_rfl
  have s64 : ∀ w, (sizeOf 22).run Try.prog w = .ok 1 w := fun _ => by kernel_rfl
  unfold eqH fldL
  refine run_fields_cons w (by decide) (part_u t 0 (by decide) (by decide) w) (part_u s 0 (by decide) (by decide) w) (run_equalIn_int w 9998 _ .u64 .u64 _ _ Try.underlying22) ?_
  refine run_fields_cons w (by decide) (run_part_row w (k := 32) (by kernel_rfl) (by kernel_rfl) (by decide)) (run_part_row w (k := 32) (by kernel_rfl) (by kernel_rfl) (by decide))
    (run_equalIn_arr w Try.underlying23 (s64 w) _ _ (fun i => t.n (1 + i) == s.n (1 + i)) fun i hi => ⟨.int .u64 (t.n (1 + i)), .int .u64 (s.n (1 + i)), ?_, ?_, run_equalIn_int w 9997 _ .u64 .u64 _ _ Try.underlying22⟩) ?_
  · rw [Nat.mul_one, run_part_one w (a64 w) hi, hCell_x t hi]
  · rw [Nat.mul_one, run_part_one w (a64 w) hi, hCell_x s hi]
  refine run_fields_cons w (by decide) (run_part_one w (a8 w) (by decide)) (run_part_one w (a8 w) (by decide)) (run_equalIn_int w 9998 _ .u8 .u8 _ _ Try.underlying5) ?_
  refine run_fields_cons w (by decide) (run_part_one w (a4 w) (by decide)) (run_part_one w (a4 w) (by decide)) (run_equalIn_bool' w 9998 _ _ _ Try.underlying4) ?_
  refine run_fields_cons w (by decide) (run_part_one w (a4 w) (by decide)) (run_part_one w (a4 w) (by decide)) (run_equalIn_bool' w 9998 _ _ _ Try.underlying4) ?_
  refine run_fields_cons w (by decide) (run_part_one w (a4 w) (by decide)) (run_part_one w (a4 w) (by decide)) (run_equalIn_bool' w 9998 _ _ _ Try.underlying4) ?_
  refine run_fields_cons w (by decide) (part_u t 37 (by decide) (by decide) w) (part_u s 37 (by decide) (by decide) w) (run_equalIn_int w 9998 _ .u64 .u64 _ _ Try.underlying22) ?_
  refine run_fields_cons w (by decide) (part_u t 38 (by decide) (by decide) w) (part_u s 38 (by decide) (by decide) w) (run_equalIn_int w 9998 _ .u64 .u64 _ _ Try.underlying22) ?_
  refine run_fields_cons w (by decide) (part_u t 39 (by decide) (by decide) w) (part_u s 39 (by decide) (by decide) w) (run_equalIn_int w 9998 _ .u64 .u64 _ _ Try.underlying22) ?_
  refine run_fields_cons w (by decide) (part_u t 40 (by decide) (by decide) w) (part_u s 40 (by decide) (by decide) w) (run_equalIn_int w 9998 _ .u64 .u64 _ _ Try.underlying22) ?_
  refine run_fields_cons w (by decide) (part_u t 41 (by decide) (by decide) w) (part_u s 41 (by decide) (by decide) w) (run_equalIn_int w 9998 _ .u64 .u64 _ _ Try.underlying22) ?_
  refine run_fields_cons w (by decide) (part_u t 42 (by decide) (by decide) w) (part_u s 42 (by decide) (by decide) w) (run_equalIn_int w 9998 _ .u64 .u64 _ _ Try.underlying22) ?_
  refine run_fields_cons w (by decide) (part_u t 43 (by decide) (by decide) w) (part_u s 43 (by decide) (by decide) w) (run_equalIn_int w 9998 _ .u64 .u64 _ _ Try.underlying22) ?_
  refine run_fields_cons w (by decide) (part_u t 44 (by decide) (by decide) w) (part_u s 44 (by decide) (by decide) w) (run_equalIn_int w 9998 _ .u64 .u64 _ _ Try.underlying22) ?_
  refine run_fields_cons w (by decide) (part_u t 45 (by decide) (by decide) w) (part_u s 45 (by decide) (by decide) w) (run_equalIn_int w 9998 _ .u64 .u64 _ _ Try.underlying22) ?_
  refine run_fields_cons w (by decide) (part_u t 46 (by decide) (by decide) w) (part_u s 46 (by decide) (by decide) w) (run_equalIn_int w 9998 _ .u64 .u64 _ _ Try.underlying22) ?_
  refine run_fields_cons w (by decide) (part_u t 47 (by decide) (by decide) w) (part_u s 47 (by decide) (by decide) w) (run_equalIn_int w 9998 _ .u64 .u64 _ _ Try.underlying22) ?_
  refine run_fields_cons w (by decide) (part_u t 48 (by decide) (by decide) w) (part_u s 48 (by decide) (by decide) w) (run_equalIn_int w 9998 _ .u64 .u64 _ _ Try.underlying22) ?_
  refine run_fields_cons w (by decide) (part_u t 49 (by decide) (by decide) w) (part_u s 49 (by decide) (by decide) w) (run_equalIn_int w 9998 _ .u64 .u64 _ _ Try.underlying22) ?_
  refine run_fields_cons w (by decide) (part_u t 50 (by decide) (by decide) w) (part_u s 50 (by decide) (by decide) w) (run_equalIn_int w 9998 _ .u64 .u64 _ _ Try.underlying22) ?_
  refine run_fields_cons w (by decide) (part_u t 51 (by decide) (by decide) w) (part_u s 51 (by decide) (by decide) w) (run_equalIn_int w 9998 _ .u64 .u64 _ _ Try.underlying22) ?_
  refine run_fields_cons w (by decide) (part_u t 52 (by decide) (by decide) w) (part_u s 52 (by decide) (by decide) w) (run_equalIn_int w 9998 _ .u64 .u64 _ _ Try.underlying22) ?_
  refine run_fields_cons w (by decide) (part_u t 53 (by decide) (by decide) w) (part_u s 53 (by decide) (by decide) w) (run_equalIn_int w 9998 _ .u64 .u64 _ _ Try.underlying22) ?_
  refine run_fields_cons w (by decide) (part_u t 54 (by decide) (by decide) w) (part_u s 54 (by decide) (by decide) w) (run_equalIn_int w 9998 _ .u64 .u64 _ _ Try.underlying22) ?_
  refine run_fields_cons w (by decide) (part_u t 55 (by decide) (by decide) w) (part_u s 55 (by decide) (by decide) w) (run_equalIn_int w 9998 _ .u64 .u64 _ _ Try.underlying22) ?_
  refine run_fields_cons w (by decide) (part_u t 56 (by decide) (by decide) w) (part_u s 56 (by decide) (by decide) w) (run_equalIn_int w 9998 _ .u64 .u64 _ _ Try.underlying22) ?_
  refine run_fields_cons w (by decide) (part_u t 57 (by decide) (by decide) w) (part_u s 57 (by decide) (by decide) w) (run_equalIn_int w 9998 _ .u64 .u64 _ _ Try.underlying22) ?_
  refine run_fields_cons w (by decide) (part_u t 58 (by decide) (by decide) w) (part_u s 58 (by decide) (by decide) w) (run_equalIn_int w 9998 _ .u64 .u64 _ _ Try.underlying22) ?_
  refine run_fields_cons w (by decide) (part_u t 59 (by decide) (by decide) w) (part_u s 59 (by decide) (by decide) w) (run_equalIn_int w 9998 _ .u64 .u64 _ _ Try.underlying22) ?_
  refine run_fields_cons w (by decide) (part_u t 60 (by decide) (by decide) w) (part_u s 60 (by decide) (by decide) w) (run_equalIn_int w 9998 _ .u64 .u64 _ _ Try.underlying22) ?_
  refine run_fields_cons w (by decide) (part_u t 61 (by decide) (by decide) w) (part_u s 61 (by decide) (by decide) w) (run_equalIn_int w 9998 _ .u64 .u64 _ _ Try.underlying22) ?_
  refine run_fields_cons w (by decide) (part_u t 62 (by decide) (by decide) w) (part_u s 62 (by decide) (by decide) w) (run_equalIn_int w 9998 _ .u64 .u64 _ _ Try.underlying22) ?_
  refine run_fields_cons w (by decide) (part_u t 63 (by decide) (by decide) w) (part_u s 63 (by decide) (by decide) w) (run_equalIn_int w 9998 _ .u64 .u64 _ _ Try.underlying22) ?_
  refine run_fields_cons w (by decide) (part_u t 64 (by decide) (by decide) w) (part_u s 64 (by decide) (by decide) w) (run_equalIn_int w 9998 _ .u64 .u64 _ _ Try.underlying22) ?_
  refine run_fields_cons w (by decide) (part_u t 65 (by decide) (by decide) w) (part_u s 65 (by decide) (by decide) w) (run_equalIn_int w 9998 _ .u64 .u64 _ _ Try.underlying22) ?_
  refine run_fields_cons w (by decide) (part_u t 66 (by decide) (by decide) w) (part_u s 66 (by decide) (by decide) w) (run_equalIn_int w 9998 _ .u64 .u64 _ _ Try.underlying22) ?_
  refine run_fields_cons w (by decide) (part_u t 67 (by decide) (by decide) w) (part_u s 67 (by decide) (by decide) w) (run_equalIn_int w 9998 _ .u64 .u64 _ _ Try.underlying22) ?_
  refine run_fields_cons w (by decide) (part_u t 68 (by decide) (by decide) w) (part_u s 68 (by decide) (by decide) w) (run_equalIn_int w 9998 _ .u64 .u64 _ _ Try.underlying22) ?_
  refine run_fields_cons w (by decide) (part_u t 69 (by decide) (by decide) w) (part_u s 69 (by decide) (by decide) w) (run_equalIn_int w 9998 _ .u64 .u64 _ _ Try.underlying22) ?_
  refine run_fields_cons w (by decide) (part_u t 70 (by decide) (by decide) w) (part_u s 70 (by decide) (by decide) w) (run_equalIn_int w 9998 _ .u64 .u64 _ _ Try.underlying22) ?_
  refine run_fields_cons w (by decide) (part_u t 71 (by decide) (by decide) w) (part_u s 71 (by decide) (by decide) w) (run_equalIn_int w 9998 _ .u64 .u64 _ _ Try.underlying22) ?_
  refine run_fields_cons w (by decide) (part_u t 72 (by decide) (by decide) w) (part_u s 72 (by decide) (by decide) w) (run_equalIn_int w 9998 _ .u64 .u64 _ _ Try.underlying22) ?_
  refine run_fields_cons w (by decide) (part_u t 73 (by decide) (by decide) w) (part_u s 73 (by decide) (by decide) w) (run_equalIn_int w 9998 _ .u64 .u64 _ _ Try.underlying22) ?_
  refine run_fields_cons w (by decide) (part_u t 74 (by decide) (by decide) w) (part_u s 74 (by decide) (by decide) w) (run_equalIn_int w 9998 _ .u64 .u64 _ _ Try.underlying22) ?_
  refine run_fields_cons w (by decide) (part_u t 75 (by decide) (by decide) w) (part_u s 75 (by decide) (by decide) w) (run_equalIn_int w 9998 _ .u64 .u64 _ _ Try.underlying22) ?_
  refine run_fields_cons w (by decide) (part_u t 76 (by decide) (by decide) w) (part_u s 76 (by decide) (by decide) w) (run_equalIn_int w 9998 _ .u64 .u64 _ _ Try.underlying22) ?_
  exact run_fields_nil w _ _ _
theorem eql_hart (t s : HS) (w : World) : (binOp .eql 25 (hartV t) (hartV s)).run Try.prog w = .ok (.bool (eqH t s)) w := by
  rw [run_eql_struct, eq_hart]; rfl
/-- Two harts that look alike. -/
theorem eqH_cells (t s : HS) : eqH t s = true ↔ (∀ i, i < 77 → ¬ (34 ≤ i ∧ i ≤ 36) → t.n i = s.n i) ∧ t.v = s.v ∧ t.wait = s.wait ∧ t.held = s.held := by
  rw [eqH_iff]
  constructor
  · intro h
    refine ⟨fun i hi hn => ?_, ?_, ?_, ?_⟩
    · by_cases e0 : i = 0
      · subst e0; exact eq_of_beq (h 0 (by decide))
      by_cases e1 : i < 33
      · have := h 1 (by decide)
        have h2 : ((List.range 32).all fun i => t.n (1 + i) == s.n (1 + i)) = true := this
        rw [List.all_eq_true] at h2
        have h3 := eq_of_beq (h2 (i - 1) (List.mem_range.2 (by omega)))
        rw [show 1 + (i - 1) = i by omega] at h3
        exact h3
      by_cases e2 : i = 33
      · subst e2; exact eq_of_beq (h 2 (by decide))
      have hm : ∀ k, k < 46 → k ∈ fldL := by decide
      have := h (i - 31) (hm _ (by omega))
      unfold feH at this
      rw [if_neg (by omega), if_neg (by omega), if_neg (by omega), if_neg (by omega), if_neg (by omega), if_neg (by omega), show i - 31 + 31 = i by omega] at this
      exact eq_of_beq this
    · exact eq_of_beq (h 3 (by decide))
    · exact eq_of_beq (h 4 (by decide))
    · exact eq_of_beq (h 5 (by decide))
  · rintro ⟨h, hv, hw, hh⟩ k hk
    have hm : ∀ k, k ∈ fldL → k < 46 := by decide
    have hk := hm k hk
    unfold feH
    by_cases e0 : k = 0
    · rw [if_pos e0]; exact beq_iff_eq.2 (h 0 (by omega) (by omega))
    rw [if_neg e0]
    by_cases e1 : k = 1
    · rw [if_pos e1, List.all_eq_true]
      intro i hi
      have := List.mem_range.1 hi
      exact beq_iff_eq.2 (h (1 + i) (by omega) (by omega))
    rw [if_neg e1]
    by_cases e2 : k = 2
    · rw [if_pos e2]; exact beq_iff_eq.2 (h 33 (by omega) (by omega))
    rw [if_neg e2]
    by_cases e3 : k = 3
    · rw [if_pos e3]; exact beq_iff_eq.2 hv
    rw [if_neg e3]
    by_cases e4 : k = 4
    · rw [if_pos e4]; exact beq_iff_eq.2 hw
    rw [if_neg e4]
    by_cases e5 : k = 5
    · rw [if_pos e5]; exact beq_iff_eq.2 hh
    rw [if_neg e5]
    exact beq_iff_eq.2 (h (k + 31) (by omega) (by omega))
theorem eqH_refl (t : HS) : eqH t t = true := (eqH_cells t t).2 ⟨fun _ _ _ => rfl, rfl, rfl, rfl⟩
theorem eqH_symm (t s : HS) : eqH t s = eqH s t := by
  rw [Bool.eq_iff_iff, eqH_cells, eqH_cells]
  exact ⟨fun ⟨h, a, b, c⟩ => ⟨fun i hi hn => (h i hi hn).symm, a.symm, b.symm, c.symm⟩, fun ⟨h, a, b, c⟩ => ⟨fun i hi hn => (h i hi hn).symm, a.symm, b.symm, c.symm⟩⟩
section
variable {o : Oper} {a : Act} {w : World}
theorem run_eqlS {P : Program} (t ty : TypeId) (x y : Operand) (ho : o.op = .binOp .eql t x y ty) (xs ys : Array Value) (hx : a.eval x = .agg xs) (hy : a.eval y = .agg ys) (hm : P.eqGuardType P.depth t = false) (r : Bool)
    (hr : (binOp .eql t (.agg xs) (.agg ys)).run P w = .ok (.bool r) w) : (execOp a.eval o).run P w = .ok (.value (.bool r)) w := by
  unfold execOp
  simp only [ho, hx, hy, Sem.run_bind, run_eqGuard_agg w .eql t x y _ _ hm, hr, Result.andThen_ok, Sem.run_pure]
theorem run_neqS {P : Program} (t ty : TypeId) (x y : Operand) (ho : o.op = .binOp .neq t x y ty) (xs ys : Array Value) (hx : a.eval x = .agg xs) (hy : a.eval y = .agg ys) (hm : P.eqGuardType P.depth t = false) (r : Bool)
    (hr : (binOp .neq t (.agg xs) (.agg ys)).run P w = .ok (.bool r) w) : (execOp a.eval o).run P w = .ok (.value (.bool r)) w := by
  unfold execOp
  simp only [ho, hx, hy, Sem.run_bind, run_eqGuard_agg w .neq t x y _ _ hm, hr, Result.andThen_ok, Sem.run_pure]
end
end Go.Proofs.Ytkfhpmleelmcfaa
