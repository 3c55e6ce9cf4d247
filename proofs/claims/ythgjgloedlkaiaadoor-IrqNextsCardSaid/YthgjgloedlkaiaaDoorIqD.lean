/- Layer 13: traps as values and in blocks; the document's Next (written by gen_iqd.py by walkf.py). -/
import Derived.Test.YthgjgloedlkaiaaDoorIqC
import Derived.Test.YthgjgloedlkaiaaDoorHaEq
namespace Go.Proofs.YthgjgloedlkaiaaDoor
open Go.RowKit
set_option linter.unusedVariables false
set_option maxRecDepth 100000

/-- A trap of an interrupt, or none, as a row. -/
abbrev trC (is : Bool) (c : Int) : Array Value := #[.bool is, .int .u64 c, .int .u64 0, .int .u64 0, .int .u64 0, .bool false]
abbrev trapV (is : Bool) (c : Int) : Value := .agg (trC is c)
def causeZ : Option Nat → Int
  | none => 0
  | some n => 9223372036854775808 + n
def trO (o : Option Nat) : Value := trapV o.isSome (causeZ o)
def TrB (w : World) (b : Nat) (is : Bool) (c : Int) : Prop := w.heap[b]? = some (.cells (trC is c) 30 (0, 0))
theorem TrB.lt {w : World} {b : Nat} {q : Bool} {c : Int} (h : TrB w b q c) : b < w.heap.size := (Array.getElem?_eq_some_iff.1 h).1
theorem TrB.below {w w' : World} {b : Nat} {q : Bool} {c : Int} (h : TrB w b q c) (o : Below w.heap.size w w') : TrB w' b q c := (o.block b h.lt).trans h
theorem Tch.trap {b j : Nat} {w w' : World} {q : Bool} {c : Int} (h : Tch b w w') (hj : TrB w j q c) (hn : ¬ j = b) : TrB w' j q c := (h.oth j hn).trans hj
theorem TrB.c0 {w : World} {b : Nat} {q : Bool} {c : Int} (h : TrB w b q c) : w.cell? ⟨b, 0, none⟩ = some (.bool q) := by rw [cell_of_row w b 0 _ _ _ h]; rfl
theorem TrB.c1 {w : World} {b : Nat} {q : Bool} {c : Int} (h : TrB w b q c) : w.cell? ⟨b, 1, none⟩ = some (.int .u64 c) := by rw [cell_of_row w b 1 _ _ _ h]; rfl
theorem fa_tr0 (b : Nat) (w : World) : (Instr.fieldAt 30 (.pointer (some ⟨b, 0, none⟩)) 0).run Tryd.prog w = .ok (.pointer (some ⟨b, 0, none⟩)) w := by kernel_rfl
theorem fa_tr1 (b : Nat) (w : World) : (Instr.fieldAt 30 (.pointer (some ⟨b, 0, none⟩)) 1).run Tryd.prog w = .ok (.pointer (some ⟨b, 1, none⟩)) w := by kernel_rfl
theorem zero_tr (w : World) : (zeroValue 30).run Tryd.prog w = .ok (trapV false 0) w := by kernel_rfl
theorem size_tr (q : Bool) (c : Int) : (Tryd.prog.info? 30).map (·.size) = some (trC q c).size := by kernel_rfl
theorem bld_tr0 : Tryd.prog.built 30 [] = some (trC false 0) := by kernel_rfl
theorem bld_tr1 (c : Int) : Tryd.prog.built 30 [(0, .bool true), (1, .int .u64 c)] = some (trC true c) := by kernel_rfl
theorem one_tr (q : Bool) (c : Int) : (trC q c).all (·.oneCell') = true := by simp [Value.oneCell']
theorem eq_tr (q r : Bool) (c d : Int) (w : World) : (Op.equalIn 10000 30 (.agg (trC q c)) (.agg (trC r d))).run Tryd.prog w = .ok (q == r && (c == d)) w := by
  rw [run_equalIn_struct w 9999 30 _ _ (by kernel_rfl) (by kernel_rfl)]
  simp only [Program.fieldsOf, Tryd.underlying30]
  have z : ((0 : Int) == 0) = true := rfl
  have z2 : (false == false) = true := rfl
  rw [show (q == r && (c == d)) = ((q == r) && ((c == d) && (((0 : Int) == 0) && (((0 : Int) == 0) && (((0 : Int) == 0) && ((false == false) && true)))))) by rw [z, z2]; simp]
  refine run_fields_cons w (by decide) (x := .bool q) (y := .bool r) (by kernel_rfl) (by kernel_rfl) (run_equalIn_bool' w 9998 _ _ _ Tryd.underlying4) ?_
  refine run_fields_cons w (by decide) (x := .int .u64 c) (y := .int .u64 d) (by kernel_rfl) (by kernel_rfl) (run_equalIn_int w 9998 _ .u64 .u64 _ _ Tryd.underlying22) ?_
  refine run_fields_cons w (by decide) (x := .int .u64 0) (y := .int .u64 0) (by kernel_rfl) (by kernel_rfl) (run_equalIn_int w 9998 _ .u64 .u64 _ _ Tryd.underlying22) ?_
  refine run_fields_cons w (by decide) (x := .int .u64 0) (y := .int .u64 0) (by kernel_rfl) (by kernel_rfl) (run_equalIn_int w 9998 _ .u64 .u64 _ _ Tryd.underlying22) ?_
  refine run_fields_cons w (by decide) (x := .int .u64 0) (y := .int .u64 0) (by kernel_rfl) (by kernel_rfl) (run_equalIn_int w 9998 _ .u64 .u64 _ _ Tryd.underlying22) ?_
  refine run_fields_cons w (by decide) (x := .bool false) (y := .bool false) (by kernel_rfl) (by kernel_rfl) (run_equalIn_bool' w 9998 _ _ _ Tryd.underlying4) ?_
  exact run_fields_nil w _ _ _

section
variable {Q : Exit → Act → World → Prop} {w : World} {ops : Array Oper} {rest : List Oper} {o : Oper} {a : Act} {l : List (Nat × Value)} {n d : Nat}
theorem W_allocTr (hA : FrA l n a) (hg : o.guard = none) (d : Nat) (hd : o.dst = some d) (hdn : d < n) (ho : o.op = .alloc 30)
    (h : ∀ w' b a', FrA ((d, .pointer (some ⟨b, 0, none⟩)) :: l) n a' → Below w.heap.size w w' → TrB w' b false 0 → w.heap.size ≤ b → wpList Tryd.prog ops Q rest a' w') : wpList Tryd.prog ops Q (o :: rest) a w :=
  W_val hA hg d hd hdn _ _ (R_alloc hA ho zero_tr w) fun a hA => h _ _ a hA ((Below.refl _ _).alloc (Nat.le_refl _) _) (heap_alloc_new w _) (Nat.le_refl _)
theorem W_cpTr (hA : FrA l n a) (hg : o.guard = none) (hd : o.dst = none) {x y : Operand} (ho : o.op = .store 30 x y) {b : Nat} {q r : Bool} {c e : Int} (hx : evL l x = some (.pointer (some ⟨b, 0, none⟩))) (hy : evL l y = some (trapV r e)) (hb : TrB w b q c)
    (h : ∀ w', Tch b w w' → TrB w' b r e → wpList Tryd.prog ops Q rest a w') : wpList Tryd.prog ops Q (o :: rest) a w :=
  W_strow hA hg hd ho hx hy hb (size_tr r e) rfl (one_tr r e) (h _ (Tch.setRow _) (setRow_heap _ _ _ _ _ _ hb))
theorem R_eqlTr (hA : FrA l n a) {x y : Operand} {T2 : TypeId} (ho : o.op = .binOp .eql 30 x y T2) {q r : Bool} {c d : Int} (hx : evL l x = some (trapV q c)) (hy : evL l y = some (trapV r d)) (w : World) : (execOp a.eval o).run Tryd.prog w = .ok (.value (.bool (q == r && (c == d)))) w := by
  unfold execOp; simp only [ho, hA.ev hx, hA.ev hy]
  have := eq_tr q r c d w
  simp [go_sem, this]
  by_cases h1 : q = r <;> by_cases h2 : c = d <;> simp [h1, h2]
theorem R_neqTr (hA : FrA l n a) {x y : Operand} {T2 : TypeId} (ho : o.op = .binOp .neq 30 x y T2) {q r : Bool} {c d : Int} (hx : evL l x = some (trapV q c)) (hy : evL l y = some (trapV r d)) (w : World) : (execOp a.eval o).run Tryd.prog w = .ok (.value (.bool (!(q == r && (c == d))))) w := by
  unfold execOp; simp only [ho, hA.ev hx, hA.ev hy]
  have := eq_tr q r c d w
  simp [go_sem, this]
  by_cases h1 : q = r <;> by_cases h2 : c = d <;> simp [h1, h2]
theorem ret_tr {fn : Func} {R : Ending → World → Prop} {j b : Nat} {q : Bool} {c : Int} (hr : fn.results = #[.cell j 30]) (hA : FrA l n a) (hv : l.lookup j = some (.pointer (some ⟨b, 0, none⟩))) (hw : TrB w b q c) (hR : R (.returned (trapV q c)) w) : bodyPost Tryd.prog fn R .ret a w :=
  ret_row hr hA hv hw Tryd.underlying30 (size_tr q c) hR
end

def bestI : Option Nat → Int
  | none => -1
  | some b => b
theorem best_put {p : Nat → Bool} {k : Nat} (h : p k = true) (hr : decide (bestI (bestGo p k) < 0) = true ∨ decide ((rankZ k : Int) < (rankZ ((bestGo p k).getD 0) : Int)) = true) : bestI (bestGo p (k + 1)) = k := by
  rw [bestGo]
  cases hb : bestGo p k with
  | none => simp only [h, if_true]; rfl
  | some b =>
    rw [hb] at hr
    rcases hr with hr | hr
    · exact absurd (of_decide_eq_true hr) (by show ¬ (b : Int) < 0; omega)
    · simp only [Option.getD_some, decide_eq_true_eq] at hr
      simp only [h, Bool.true_and]
      rw [if_pos (by rw [decide_eq_true_eq]; omega)]; rfl
theorem best_keep {p : Nat → Bool} {k : Nat} (h : p k = false ∨ (decide (bestI (bestGo p k) < 0) = false ∧ decide ((rankZ k : Int) < (rankZ ((bestGo p k).getD 0) : Int)) = false)) : bestI (bestGo p k) = bestI (bestGo p (k + 1)) := by
  conv => rhs; rw [bestGo]
  cases hb : bestGo p k with
  | none =>
    rw [hb] at h
    rcases h with h | h
    · simp only [h, Bool.false_eq_true, if_false]
    · exact absurd h.1 (by decide)
  | some b =>
    rw [hb] at h
    rcases h with h | h
    · simp only [h, Bool.false_and, Bool.false_eq_true, if_false]
    · have h2 := h.2
      simp only [Option.getD_some, decide_eq_false_iff_not] at h2
      have e : decide (rankZ k < rankZ b) = false := by rw [decide_eq_false_iff_not]; omega
      simp only [e, Bool.and_false, Bool.false_eq_true, if_false]
theorem best_some {p : Nat → Bool} {k : Nat} (h : decide (0 ≤ bestI (bestGo p k)) = true) : ∃ b, bestGo p k = some b ∧ b < k := by
  cases hb : bestGo p k with
  | none => rw [hb] at h; exact absurd h (by decide)
  | some b => exact ⟨b, rfl, (bestGo_some hb).1⟩
theorem best_none {p : Nat → Bool} {k : Nat} (h : decide (0 ≤ bestI (bestGo p k)) = false) : bestGo p k = none := by
  cases hb : bestGo p k with
  | none => rfl
  | some b => rw [hb] at h; exact absurd (of_decide_eq_false h) (by show ¬ ¬ (0 : Int) ≤ (b : Int); omega)
theorem drank_best {p : Nat → Bool} {k : Nat} (hk : k ≤ 64) (h : decide (bestI (bestGo p k) < 0) = false) (w : World) : Calls Tryd.prog 22 #[.int .i64 (bestI (bestGo p k))] w fun e w' => e = .returned (.int .i64 (rankZ ((bestGo p k).getD 0))) ∧ Below w.heap.size w w' := by
  cases hb : bestGo p k with
  | none => rw [hb] at h; exact absurd h (by decide)
  | some b => exact drank_any b (by have := (bestGo_some hb).1; omega) w
theorem cand_no {t : HS} {l : LS} {lv k : Nat} (h : bitZ (asksZ t l) k = false ∨ ((lvlZ t k : Int) == (lv : Int)) = false ∨ openZ t lv = false) : candZ t l lv k = false := by
  unfold candZ
  rcases h with h | h | h
  · rw [h]; rfl
  · have : (lvlZ t k == lv) = false := by rw [beq_eq_false_iff_ne] at h ⊢; intro e; exact h (by rw [e])
    simp [this]
  · rw [h, Bool.and_false]
theorem cand_yes {t : HS} {l : LS} {lv k : Nat} (h1 : bitZ (asksZ t l) k = true) (h2 : ((lvlZ t k : Int) == (lv : Int)) = true) (h3 : openZ t lv = true) : candZ t l lv k = true := by
  have e : lvlZ t k = lv := by have := eq_of_beq h2; omega
  unfold candZ; rw [h1, h3, e]; simp
theorem asks_in (t : HS) (l : LS) : In64 (asksZ t l) := and_in _ _
theorem next_at {t : HS} {l : LS} {lv b : Nat} (hlv : lv < 3) (hp : ∀ j, j < lv → bestGo (candZ t l j) 64 = none) (h : bestGo (candZ t l lv) 64 = some b) : nextZ t l = some b := by
  unfold nextZ
  rcases (show lv = 0 ∨ lv = 1 ∨ lv = 2 by omega) with e | e | e
  · subst e; rw [h]
  · subst e; rw [hp 0 (by omega), h]
  · subst e; rw [hp 0 (by omega), hp 1 (by omega), h]
theorem next_non {t : HS} {l : LS} (hp : ∀ j, j < 3 → bestGo (candZ t l j) 64 = none) : nextZ t l = none := by
  unfold nextZ
  rw [hp 0 (by omega), hp 1 (by omega), hp 2 (by omega)]
theorem wrap_upI {k : Nat} (h : k < 1000000) : IntKind.i64.wrap ((k : Int) + 1) = ((k + 1 : Nat) : Int) := by
  rw [show (k : Int) + 1 = ((k + 1 : Nat) : Int) by omega]
  exact IntWalk.i64_in _ (by omega)
theorem wrap_cause {b : Nat} (h : b < 64) : IntKind.u64.wrap (9223372036854775808 + (b : Int)) = causeZ (some b) := by
  show _ = 9223372036854775808 + (b : Int)
  rw [IntKind.wrap_u64]; omega
set_option maxHeartbeats 8000000 in
theorem dnext_any (t : HS) (ok : HOk t) (l : LS) (lk : LOk l) (w : World) : Calls Tryd.prog 10 #[hartV t, linesV l] w fun e w' => e = .returned (trO (nextZ t l)) ∧ Below w.heap.size w w' := by
  have HB := Below.refl w.heap.size w
  go_enter Tryd.func10, Tryd.ntmps10
  refine begin_fr [(1, linesV l), (0, hartV t)] 54 ?_ (fun a hA => ?_)
  · exact FrA.add (FrA.add (FrA.nil (by rfl) (by rfl)) 0 _ (by rfl)) 1 _ (by rfl)
  refine wp_seq ?_
  refine wp_region_list ?_
  refine W_boxH hA rfl 2 rfl (by decide) rfl rfl (fun w1 bHH a hA hb HH gHH => ?_)
  replace gHH := Nat.le_trans HB.size gHH
  replace HB := HB.trans (hb.mono HB.size)
  clear hb
  refine W_boxL hA rfl 3 rfl (by decide) rfl rfl (fun w2 bLL a hA hb LL gLL => ?_)
  have nHHLL : bHH < bLL := by have := HH.lt; omega
  replace HH := HH.below hb
  replace gLL := Nat.le_trans HB.size gLL
  replace HB := HB.trans (hb.mono HB.size)
  clear hb
  refine W_allocTr hA rfl 4 rfl (by decide) rfl (fun w3 bRR a hA hb RR gRR => ?_)
  have nHHRR : bHH < bRR := by have := HH.lt; omega
  replace HH := HH.below hb
  have nLLRR : bLL < bRR := by have := LL.lt; omega
  replace LL := LL.below hb
  replace gRR := Nat.le_trans HB.size gRR
  replace HB := HB.trans (hb.mono HB.size)
  clear hb
  refine W_nil ?_
  refine then_nrm ?_
  show Code.wp Tryd.prog _ _ _ _
  refine wp_seq ?_
  refine wp_region_list ?_
  refine W_val hA rfl 9 rfl (by decide) _ _ (R_row hA rfl rfl HH Tryd.underlying25 (size_hart.trans (by rw [varr_size]))) (fun a hA => ?_)
  refine W_val hA rfl 10 rfl (by decide) _ _ (R_row hA rfl rfl LL Tryd.underlying27 (by kernel_rfl)) (fun a hA => ?_)
  refine W_callA hA (by decide) (fun _ _ => by kernel_rfl) (args2 hA rfl rfl) (dasks_any t ok l lk _) (fun w4 hw a hA => ?_)
  replace HB := HB.trans (hw.mono HB.size)
  replace HH := HH.below hw
  replace LL := LL.below hw
  replace RR := RR.below hw
  clear hw
  refine W_val hA rfl 5 rfl (by decide) _ _ (R_asg hA rfl rfl _) (fun a hA => ?_)
  refine W_nil ?_
  refine then_nrm ?_
  show Code.wp Tryd.prog _ _ _ _
  refine wp_seq ?_
  refine wp_seq ?_
  refine wp_region_list ?_
  refine W_val hA rfl 6 rfl (by decide) _ _ (R_asg hA rfl rfl _) (fun a hA => ?_)
  refine W_nil ?_
  refine then_nrm ?_
  show Code.wp Tryd.prog _ _ _ _
  refine wp_block ?_
  refine loop_cnt 6 3 (fun lv a' w' => FrA [(6, .int .i64 (lv : Int)), (5, .int .u64 (asksZ t l)), (4, .pointer (some ⟨bRR, 0, none⟩)), (2, .pointer (some ⟨bHH, 0, none⟩))] 54 a' ∧ Below w.heap.size w w' ∧ HartB w' bHH t ∧ TrB w' bRR false 0 ∧ ∀ j, j < lv → bestGo (candZ t l j) 64 = none) (fun k a' w' h => ⟨_, h.1.get 6 _ rfl⟩) ⟨FrA.add (FrA.add (FrA.add (FrA.add (FrA.nil hA.sz hA.df) 2 _ (hA.get 2 _ rfl)) 4 _ (hA.get 4 _ rfl)) 5 _ (hA.get 5 _ rfl)) 6 _ (hA.get 6 _ rfl), HB, HH, RR, fun j hj => absurd hj (Nat.not_lt_zero j)⟩ (fun lv a w5 hlv3 h => ?_)
  obtain ⟨hA, HB, HH, RR, hp⟩ := h
  refine wp_seq ?_
  refine wp_seq ?_
  refine wp_region_list ?_
  refine W_val hA rfl 12 rfl (by decide) _ _ (R_mov hA rfl rfl _) (fun a hA => ?_)
  refine W_val hA rfl 13 rfl (by decide) _ _ (R_lssI hA rfl rfl rfl _) (fun a hA => ?_)
  refine W_nil ?_
  refine then_nrm ?_
  show Code.wp Tryd.prog _ _ _ _
  refine wp_cond_split (hA.ev (x := .tmp 13) rfl) (fun c1 => ?_) (fun c1 => ?_)
  · skip
    have hlv : lv < 3 := by have := of_decide_eq_true c1; omega
    refine wp_skip ?_
    refine then_nrm ?_
    show Code.wp Tryd.prog _ _ _ _
    refine wp_seq ?_
    refine wp_block ?_
    refine wp_seq ?_
    refine wp_region_list ?_
    refine W_val hA rfl 7 rfl (by decide) _ _ (R_asg hA rfl rfl _) (fun a hA => ?_)
    refine W_nil ?_
    refine then_nrm ?_
    show Code.wp Tryd.prog _ _ _ _
    refine wp_seq ?_
    refine wp_seq ?_
    refine wp_region_list ?_
    refine W_val hA rfl 8 rfl (by decide) _ _ (R_asg hA rfl rfl _) (fun a hA => ?_)
    refine W_nil ?_
    refine then_nrm ?_
    show Code.wp Tryd.prog _ _ _ _
    refine wp_block ?_
    refine loop_cnt 8 64 (fun k a' w' => FrA [(8, .int .i64 (k : Int)), (7, .int .i64 (bestI (bestGo (candZ t l lv) k))), (6, .int .i64 (lv : Int)), (5, .int .u64 (asksZ t l)), (4, .pointer (some ⟨bRR, 0, none⟩)), (2, .pointer (some ⟨bHH, 0, none⟩))] 54 a' ∧ Below w.heap.size w w' ∧ HartB w' bHH t ∧ TrB w' bRR false 0) (fun k a' w' h => ⟨_, h.1.get 8 _ rfl⟩) ⟨FrA.add (FrA.add (FrA.add (FrA.add (FrA.add (FrA.add (FrA.nil hA.sz hA.df) 2 _ (hA.get 2 _ rfl)) 4 _ (hA.get 4 _ rfl)) 5 _ (hA.get 5 _ rfl)) 6 _ (hA.get 6 _ rfl)) 7 _ (hA.get 7 _ rfl)) 8 _ (hA.get 8 _ rfl), HB, HH, RR⟩ (fun k a w6 hk64 h => ?_)
    obtain ⟨hA, HB, HH, RR⟩ := h
    refine wp_seq ?_
    refine wp_seq ?_
    refine wp_region_list ?_
    refine W_val hA rfl 16 rfl (by decide) _ _ (R_mov hA rfl rfl _) (fun a hA => ?_)
    refine W_val hA rfl 17 rfl (by decide) _ _ (R_lssI hA rfl rfl rfl _) (fun a hA => ?_)
    refine W_nil ?_
    refine then_nrm ?_
    show Code.wp Tryd.prog _ _ _ _
    refine wp_cond_split (hA.ev (x := .tmp 17) rfl) (fun c2 => ?_) (fun c2 => ?_)
    · skip
      have hk : k < 64 := by have := of_decide_eq_true c2; omega
      refine wp_skip ?_
      refine then_nrm ?_
      show Code.wp Tryd.prog _ _ _ _
      refine wp_seq ?_
      refine wp_block ?_
      refine wp_seq ?_
      refine wp_region_list ?_
      refine W_val hA rfl 20 rfl (by decide) _ _ (R_mov hA rfl rfl _) (fun a hA => ?_)
      refine W_val hA rfl 21 rfl (by decide) _ _ (R_mov hA rfl rfl _) (fun a hA => ?_)
      refine W_callA hA (by decide) (fun _ _ => by kernel_rfl) (args2 hA rfl rfl) (dbit13_any _ (asks_in t l) k hk _) (fun w5 hw a hA => ?_)
      subst hw
      refine W_val hA rfl 23 rfl (by decide) _ _ (R_mov hA rfl rfl _) (fun a hA => ?_)
      refine W_split hA 23 rfl (fun c3 hA => ?_) (fun c3 hA => ?_)
      · skip
        refine W_gval hA rfl rfl rfl 24 rfl (by decide) _ _ (R_row hA rfl rfl HH Tryd.underlying25 (size_hart.trans (by rw [varr_size]))) (fun a hA => ?_)
        refine W_gval hA rfl rfl rfl 25 rfl (by decide) _ _ (R_mov hA rfl rfl _) (fun a hA => ?_)
        refine W_gcallB hA rfl rfl (by decide) (fun _ _ => by kernel_rfl) (args2 hA rfl rfl) (dlevel_any t ok k hk _) (fun w6 hw a hA => ?_)
        replace HB := HB.trans (hw.mono HB.size)
        replace HH := HH.below hw
        replace RR := RR.below hw
        clear hw
        refine W_gval hA rfl rfl rfl 27 rfl (by decide) _ _ (R_mov hA rfl rfl _) (fun a hA => ?_)
        refine W_gval hA rfl rfl rfl 28 rfl (by decide) _ _ (R_eqlI hA rfl rfl rfl _) (fun a hA => ?_)
        refine W_val hA rfl 29 rfl (by decide) _ _ (R_pick hA rfl rfl rfl _) (fun a hA => ?_)
        refine W_val hA rfl 30 rfl (by decide) _ _ (R_mov hA rfl rfl _) (fun a hA => ?_)
        refine W_split hA 30 rfl (fun c4 hA => ?_) (fun c4 hA => ?_)
        · skip
          refine W_gval hA rfl rfl rfl 31 rfl (by decide) _ _ (R_row hA rfl rfl HH Tryd.underlying25 (size_hart.trans (by rw [varr_size]))) (fun a hA => ?_)
          refine W_gval hA rfl rfl rfl 32 rfl (by decide) _ _ (R_mov hA rfl rfl _) (fun a hA => ?_)
          refine W_gcallB hA rfl rfl (by decide) (fun _ _ => by kernel_rfl) (args2 hA rfl rfl) (dopen_any t ok lv _) (fun w7 hw a hA => ?_)
          replace HB := HB.trans (hw.mono HB.size)
          replace HH := HH.below hw
          replace RR := RR.below hw
          clear hw
          refine W_val hA rfl 34 rfl (by decide) _ _ (R_pick hA rfl rfl rfl _) (fun a hA => ?_)
          refine W_val hA rfl 35 rfl (by decide) _ _ (R_mov hA rfl rfl _) (fun a hA => ?_)
          refine W_split hA 35 rfl (fun c5 hA => ?_) (fun c5 hA => ?_)
          · skip
            refine W_gval hA rfl rfl rfl 36 rfl (by decide) _ _ (R_mov hA rfl rfl _) (fun a hA => ?_)
            refine W_gval hA rfl rfl rfl 37 rfl (by decide) _ _ (R_lssI hA rfl rfl rfl _) (fun a hA => ?_)
            refine W_gval hA rfl rfl rfl 38 rfl (by decide) _ _ (R_mov hA rfl rfl _) (fun a hA => ?_)
            refine W_split hA 38 rfl (fun c6 hA => ?_) (fun c6 hA => ?_)
            · skip
              refine W_gskip hA rfl rfl rfl 39 rfl (by decide) (fun a hA => ?_)
              refine W_gskip hA rfl rfl rfl 40 rfl (by decide) (fun a hA => ?_)
              refine W_gskip hA rfl rfl rfl 41 rfl (by decide) (fun a hA => ?_)
              refine W_gskip hA rfl rfl rfl 42 rfl (by decide) (fun a hA => ?_)
              refine W_gskip hA rfl rfl rfl 43 rfl (by decide) (fun a hA => ?_)
              refine W_gval hA rfl rfl rfl 44 rfl (by decide) _ _ (R_pick hA rfl rfl rfl _) (fun a hA => ?_)
              refine W_val hA rfl 45 rfl (by decide) _ _ (R_pick hA rfl rfl rfl _) (fun a hA => ?_)
              refine W_nil ?_
              refine then_nrm ?_
              show Code.wp Tryd.prog _ _ _ _
              refine wp_cond_true (hA.ev (x := .tmp 45) rfl) ?_
              refine wp_region_list ?_
              refine W_val hA rfl 46 rfl (by decide) _ _ (R_mov hA rfl rfl _) (fun a hA => ?_)
              refine W_val hA rfl 7 rfl (by decide) _ _ (R_asg hA rfl rfl _) (fun a hA => ?_)
              refine W_nil ?_
              refine blk_nrm ?_
              refine then_nrm ?_
              show Code.wp Tryd.prog _ _ _ _
              refine wp_region_list ?_
              refine W_val hA rfl 18 rfl (by decide) _ _ (R_mov hA rfl rfl _) (fun a hA => ?_)
              refine W_val hA rfl 19 rfl (by decide) _ _ (R_addI hA rfl rfl rfl _) (fun a hA => ?_)
              refine W_val hA rfl 8 rfl (by decide) _ _ (R_asg hA rfl rfl _) (fun a hA => ?_)
              refine W_nil ?_
              refine then_nrm ?_
              refine ⟨hk, FrA.add (FrA.add (FrA.add (FrA.add (FrA.add (FrA.add (FrA.nil hA.sz hA.df) 2 _ (hA.get 2 _ rfl)) 4 _ (hA.get 4 _ rfl)) 5 _ (hA.get 5 _ rfl)) 6 _ (hA.get 6 _ rfl)) 7 _ ((hA.get 7 _ rfl).trans (congrArg (Value.int .i64) ((best_put (cand_yes c3 c4 c5) (.inl c6)).symm)))) 8 _ ((hA.get 8 _ rfl).trans (congrArg (Value.int .i64) (wrap_upI (by omega)))), HB, HH, RR⟩
            refine W_gval hA rfl rfl rfl 39 rfl (by decide) _ _ (R_mov hA rfl rfl _) (fun a hA => ?_)
            refine W_gcallB hA rfl rfl (by decide) (fun _ _ => by kernel_rfl) (args1 hA rfl) (drank_any k hk _) (fun w8 hw a hA => ?_)
            replace HB := HB.trans (hw.mono HB.size)
            replace HH := HH.below hw
            replace RR := RR.below hw
            clear hw
            refine W_gval hA rfl rfl rfl 41 rfl (by decide) _ _ (R_mov hA rfl rfl _) (fun a hA => ?_)
            refine W_gcallB hA rfl rfl (by decide) (fun _ _ => by kernel_rfl) (args1 hA rfl) (drank_best hk64 c6 _) (fun w9 hw a hA => ?_)
            replace HB := HB.trans (hw.mono HB.size)
            replace HH := HH.below hw
            replace RR := RR.below hw
            clear hw
            refine W_gval hA rfl rfl rfl 43 rfl (by decide) _ _ (R_lssI hA rfl rfl rfl _) (fun a hA => ?_)
            refine W_gval hA rfl rfl rfl 44 rfl (by decide) _ _ (R_pick hA rfl rfl rfl _) (fun a hA => ?_)
            refine W_val hA rfl 45 rfl (by decide) _ _ (R_pick hA rfl rfl rfl _) (fun a hA => ?_)
            refine W_nil ?_
            refine then_nrm ?_
            show Code.wp Tryd.prog _ _ _ _
            refine wp_cond_split (hA.ev (x := .tmp 45) rfl) (fun c7 => ?_) (fun c7 => ?_)
            · skip
              refine wp_region_list ?_
              refine W_val hA rfl 46 rfl (by decide) _ _ (R_mov hA rfl rfl _) (fun a hA => ?_)
              refine W_val hA rfl 7 rfl (by decide) _ _ (R_asg hA rfl rfl _) (fun a hA => ?_)
              refine W_nil ?_
              refine blk_nrm ?_
              refine then_nrm ?_
              show Code.wp Tryd.prog _ _ _ _
              refine wp_region_list ?_
              refine W_val hA rfl 18 rfl (by decide) _ _ (R_mov hA rfl rfl _) (fun a hA => ?_)
              refine W_val hA rfl 19 rfl (by decide) _ _ (R_addI hA rfl rfl rfl _) (fun a hA => ?_)
              refine W_val hA rfl 8 rfl (by decide) _ _ (R_asg hA rfl rfl _) (fun a hA => ?_)
              refine W_nil ?_
              refine then_nrm ?_
              refine ⟨hk, FrA.add (FrA.add (FrA.add (FrA.add (FrA.add (FrA.add (FrA.nil hA.sz hA.df) 2 _ (hA.get 2 _ rfl)) 4 _ (hA.get 4 _ rfl)) 5 _ (hA.get 5 _ rfl)) 6 _ (hA.get 6 _ rfl)) 7 _ ((hA.get 7 _ rfl).trans (congrArg (Value.int .i64) ((best_put (cand_yes c3 c4 c5) (.inr c7)).symm)))) 8 _ ((hA.get 8 _ rfl).trans (congrArg (Value.int .i64) (wrap_upI (by omega)))), HB, HH, RR⟩
            refine wp_skip ?_
            refine blk_nrm ?_
            refine then_nrm ?_
            show Code.wp Tryd.prog _ _ _ _
            refine wp_region_list ?_
            refine W_val hA rfl 18 rfl (by decide) _ _ (R_mov hA rfl rfl _) (fun a hA => ?_)
            refine W_val hA rfl 19 rfl (by decide) _ _ (R_addI hA rfl rfl rfl _) (fun a hA => ?_)
            refine W_val hA rfl 8 rfl (by decide) _ _ (R_asg hA rfl rfl _) (fun a hA => ?_)
            refine W_nil ?_
            refine then_nrm ?_
            refine ⟨hk, FrA.add (FrA.add (FrA.add (FrA.add (FrA.add (FrA.add (FrA.nil hA.sz hA.df) 2 _ (hA.get 2 _ rfl)) 4 _ (hA.get 4 _ rfl)) 5 _ (hA.get 5 _ rfl)) 6 _ (hA.get 6 _ rfl)) 7 _ ((hA.get 7 _ rfl).trans (congrArg (Value.int .i64) (best_keep (.inr ⟨c6, c7⟩))))) 8 _ ((hA.get 8 _ rfl).trans (congrArg (Value.int .i64) (wrap_upI (by omega)))), HB, HH, RR⟩
          refine W_gskip hA rfl rfl rfl 36 rfl (by decide) (fun a hA => ?_)
          refine W_gskip hA rfl rfl rfl 37 rfl (by decide) (fun a hA => ?_)
          refine W_gskip hA rfl rfl rfl 38 rfl (by decide) (fun a hA => ?_)
          refine W_gskipU hA rfl rfl rfl 39 rfl (by decide) (fun a hA => ?_)
          refine W_gskipU hA rfl rfl rfl 40 rfl (by decide) (fun a hA => ?_)
          refine W_gskipU hA rfl rfl rfl 41 rfl (by decide) (fun a hA => ?_)
          refine W_gskipU hA rfl rfl rfl 42 rfl (by decide) (fun a hA => ?_)
          refine W_gskipU hA rfl rfl rfl 43 rfl (by decide) (fun a hA => ?_)
          refine W_gskip hA rfl rfl rfl 44 rfl (by decide) (fun a hA => ?_)
          refine W_val hA rfl 45 rfl (by decide) _ _ (R_pick hA rfl rfl rfl _) (fun a hA => ?_)
          refine W_nil ?_
          refine then_nrm ?_
          show Code.wp Tryd.prog _ _ _ _
          refine wp_cond_false (hA.ev (x := .tmp 45) rfl) ?_
          refine wp_skip ?_
          refine blk_nrm ?_
          refine then_nrm ?_
          show Code.wp Tryd.prog _ _ _ _
          refine wp_region_list ?_
          refine W_val hA rfl 18 rfl (by decide) _ _ (R_mov hA rfl rfl _) (fun a hA => ?_)
          refine W_val hA rfl 19 rfl (by decide) _ _ (R_addI hA rfl rfl rfl _) (fun a hA => ?_)
          refine W_val hA rfl 8 rfl (by decide) _ _ (R_asg hA rfl rfl _) (fun a hA => ?_)
          refine W_nil ?_
          refine then_nrm ?_
          refine ⟨hk, FrA.add (FrA.add (FrA.add (FrA.add (FrA.add (FrA.add (FrA.nil hA.sz hA.df) 2 _ (hA.get 2 _ rfl)) 4 _ (hA.get 4 _ rfl)) 5 _ (hA.get 5 _ rfl)) 6 _ (hA.get 6 _ rfl)) 7 _ ((hA.get 7 _ rfl).trans (congrArg (Value.int .i64) (best_keep (.inl (cand_no (.inr (.inr c5)))))))) 8 _ ((hA.get 8 _ rfl).trans (congrArg (Value.int .i64) (wrap_upI (by omega)))), HB, HH, RR⟩
        refine W_gskip hA rfl rfl rfl 31 rfl (by decide) (fun a hA => ?_)
        refine W_gskip hA rfl rfl rfl 32 rfl (by decide) (fun a hA => ?_)
        refine W_gskip hA rfl rfl rfl 33 rfl (by decide) (fun a hA => ?_)
        refine W_val hA rfl 34 rfl (by decide) _ _ (R_pick hA rfl rfl rfl _) (fun a hA => ?_)
        refine W_val hA rfl 35 rfl (by decide) _ _ (R_mov hA rfl rfl _) (fun a hA => ?_)
        refine W_gskip hA rfl rfl rfl 36 rfl (by decide) (fun a hA => ?_)
        refine W_gskip hA rfl rfl rfl 37 rfl (by decide) (fun a hA => ?_)
        refine W_gskip hA rfl rfl rfl 38 rfl (by decide) (fun a hA => ?_)
        refine W_gskipU hA rfl rfl rfl 39 rfl (by decide) (fun a hA => ?_)
        refine W_gskipU hA rfl rfl rfl 40 rfl (by decide) (fun a hA => ?_)
        refine W_gskipU hA rfl rfl rfl 41 rfl (by decide) (fun a hA => ?_)
        refine W_gskipU hA rfl rfl rfl 42 rfl (by decide) (fun a hA => ?_)
        refine W_gskipU hA rfl rfl rfl 43 rfl (by decide) (fun a hA => ?_)
        refine W_gskip hA rfl rfl rfl 44 rfl (by decide) (fun a hA => ?_)
        refine W_val hA rfl 45 rfl (by decide) _ _ (R_pick hA rfl rfl rfl _) (fun a hA => ?_)
        refine W_nil ?_
        refine then_nrm ?_
        show Code.wp Tryd.prog _ _ _ _
        refine wp_cond_false (hA.ev (x := .tmp 45) rfl) ?_
        refine wp_skip ?_
        refine blk_nrm ?_
        refine then_nrm ?_
        show Code.wp Tryd.prog _ _ _ _
        refine wp_region_list ?_
        refine W_val hA rfl 18 rfl (by decide) _ _ (R_mov hA rfl rfl _) (fun a hA => ?_)
        refine W_val hA rfl 19 rfl (by decide) _ _ (R_addI hA rfl rfl rfl _) (fun a hA => ?_)
        refine W_val hA rfl 8 rfl (by decide) _ _ (R_asg hA rfl rfl _) (fun a hA => ?_)
        refine W_nil ?_
        refine then_nrm ?_
        refine ⟨hk, FrA.add (FrA.add (FrA.add (FrA.add (FrA.add (FrA.add (FrA.nil hA.sz hA.df) 2 _ (hA.get 2 _ rfl)) 4 _ (hA.get 4 _ rfl)) 5 _ (hA.get 5 _ rfl)) 6 _ (hA.get 6 _ rfl)) 7 _ ((hA.get 7 _ rfl).trans (congrArg (Value.int .i64) (best_keep (.inl (cand_no (.inr (.inl c4)))))))) 8 _ ((hA.get 8 _ rfl).trans (congrArg (Value.int .i64) (wrap_upI (by omega)))), HB, HH, RR⟩
      refine W_gskip hA rfl rfl rfl 24 rfl (by decide) (fun a hA => ?_)
      refine W_gskip hA rfl rfl rfl 25 rfl (by decide) (fun a hA => ?_)
      refine W_gskip hA rfl rfl rfl 26 rfl (by decide) (fun a hA => ?_)
      refine W_gskip hA rfl rfl rfl 27 rfl (by decide) (fun a hA => ?_)
      refine W_gskip hA rfl rfl rfl 28 rfl (by decide) (fun a hA => ?_)
      refine W_val hA rfl 29 rfl (by decide) _ _ (R_pick hA rfl rfl rfl _) (fun a hA => ?_)
      refine W_val hA rfl 30 rfl (by decide) _ _ (R_mov hA rfl rfl _) (fun a hA => ?_)
      refine W_gskip hA rfl rfl rfl 31 rfl (by decide) (fun a hA => ?_)
      refine W_gskip hA rfl rfl rfl 32 rfl (by decide) (fun a hA => ?_)
      refine W_gskip hA rfl rfl rfl 33 rfl (by decide) (fun a hA => ?_)
      refine W_val hA rfl 34 rfl (by decide) _ _ (R_pick hA rfl rfl rfl _) (fun a hA => ?_)
      refine W_val hA rfl 35 rfl (by decide) _ _ (R_mov hA rfl rfl _) (fun a hA => ?_)
      refine W_gskip hA rfl rfl rfl 36 rfl (by decide) (fun a hA => ?_)
      refine W_gskip hA rfl rfl rfl 37 rfl (by decide) (fun a hA => ?_)
      refine W_gskip hA rfl rfl rfl 38 rfl (by decide) (fun a hA => ?_)
      refine W_gskipU hA rfl rfl rfl 39 rfl (by decide) (fun a hA => ?_)
      refine W_gskipU hA rfl rfl rfl 40 rfl (by decide) (fun a hA => ?_)
      refine W_gskipU hA rfl rfl rfl 41 rfl (by decide) (fun a hA => ?_)
      refine W_gskipU hA rfl rfl rfl 42 rfl (by decide) (fun a hA => ?_)
      refine W_gskipU hA rfl rfl rfl 43 rfl (by decide) (fun a hA => ?_)
      refine W_gskip hA rfl rfl rfl 44 rfl (by decide) (fun a hA => ?_)
      refine W_val hA rfl 45 rfl (by decide) _ _ (R_pick hA rfl rfl rfl _) (fun a hA => ?_)
      refine W_nil ?_
      refine then_nrm ?_
      show Code.wp Tryd.prog _ _ _ _
      refine wp_cond_false (hA.ev (x := .tmp 45) rfl) ?_
      refine wp_skip ?_
      refine blk_nrm ?_
      refine then_nrm ?_
      show Code.wp Tryd.prog _ _ _ _
      refine wp_region_list ?_
      refine W_val hA rfl 18 rfl (by decide) _ _ (R_mov hA rfl rfl _) (fun a hA => ?_)
      refine W_val hA rfl 19 rfl (by decide) _ _ (R_addI hA rfl rfl rfl _) (fun a hA => ?_)
      refine W_val hA rfl 8 rfl (by decide) _ _ (R_asg hA rfl rfl _) (fun a hA => ?_)
      refine W_nil ?_
      refine then_nrm ?_
      refine ⟨hk, FrA.add (FrA.add (FrA.add (FrA.add (FrA.add (FrA.add (FrA.nil hA.sz hA.df) 2 _ (hA.get 2 _ rfl)) 4 _ (hA.get 4 _ rfl)) 5 _ (hA.get 5 _ rfl)) 6 _ (hA.get 6 _ rfl)) 7 _ ((hA.get 7 _ rfl).trans (congrArg (Value.int .i64) (best_keep (.inl (cand_no (.inl c3))))))) 8 _ ((hA.get 8 _ rfl).trans (congrArg (Value.int .i64) (wrap_upI (by omega)))), HB, HH, RR⟩
    have ek : k = 64 := by have := of_decide_eq_false c2; omega
    subst ek
    refine wp_exit ?_
    refine then_ext ?_
    refine then_ext ?_
    refine blk_eq ?_
    refine then_nrm ?_
    show Code.wp Tryd.prog _ _ _ _
    refine wp_seq ?_
    refine wp_region_list ?_
    refine W_val hA rfl 47 rfl (by decide) _ _ (R_mov hA rfl rfl _) (fun a hA => ?_)
    refine W_val hA rfl 48 rfl (by decide) _ _ (R_geqI hA rfl rfl rfl _) (fun a hA => ?_)
    refine W_nil ?_
    refine then_nrm ?_
    show Code.wp Tryd.prog _ _ _ _
    refine wp_cond_split (hA.ev (x := .tmp 48) rfl) (fun c8 => ?_) (fun c8 => ?_)
    · skip
      obtain ⟨b, eb, hb⟩ := best_some c8
      rw [eb] at hA
      simp only [bestI] at hA
      refine wp_seq ?_
      refine wp_region_list ?_
      refine W_val hA rfl 49 rfl (by decide) _ _ (R_mov hA rfl rfl _) (fun a hA => ?_)
      refine W_val hA rfl 50 rfl (by decide) _ _ (R_cvIQ hA rfl rfl _) (fun a hA => ?_)
      refine W_val hA rfl 51 rfl (by decide) _ _ (R_add hA rfl rfl rfl _) (fun a hA => ?_)
      refine W_val hA rfl 52 rfl (by decide) _ _ (R_build (ps := [(0, .const (.bool true)), (1, .tmp 51)]) hA rfl [(0, .bool true), (1, .int .u64 _)] rfl (bld_tr1 _) _) (fun a hA => ?_)
      refine W_cpTr hA rfl rfl rfl rfl rfl RR (fun w10 hT HN => ?_)
      replace HB := HB.trans (hT.bel _ gRR)
      replace HH := hT.hart HH (by omega)
      replace RR := HN
      clear hT HN
      refine W_nil ?_
      refine then_nrm ?_
      show Code.wp Tryd.prog _ _ _ _
      refine wp_ret ?_
      refine blk_ret ?_
      refine then_ret ?_
      refine then_ret ?_
      refine blk_ret ?_
      refine then_ret ?_
      rw [wrap_cause hb] at RR
      refine ret_tr (j := 4) (by kernel_rfl) hA rfl RR ⟨?_, HB⟩
      rw [next_at hlv hp eb]; rfl
    have en := best_none c8
    refine wp_skip ?_
    refine blk_nrm ?_
    refine then_nrm ?_
    show Code.wp Tryd.prog _ _ _ _
    refine wp_region_list ?_
    refine W_val hA rfl 14 rfl (by decide) _ _ (R_mov hA rfl rfl _) (fun a hA => ?_)
    refine W_val hA rfl 15 rfl (by decide) _ _ (R_addI hA rfl rfl rfl _) (fun a hA => ?_)
    refine W_val hA rfl 6 rfl (by decide) _ _ (R_asg hA rfl rfl _) (fun a hA => ?_)
    refine W_nil ?_
    refine then_nrm ?_
    refine ⟨hlv, FrA.add (FrA.add (FrA.add (FrA.add (FrA.nil hA.sz hA.df) 2 _ (hA.get 2 _ rfl)) 4 _ (hA.get 4 _ rfl)) 5 _ (hA.get 5 _ rfl)) 6 _ ((hA.get 6 _ rfl).trans (congrArg (Value.int .i64) (wrap_upI (by omega)))), HB, HH, RR, fun j hj => ?_⟩
    by_cases e : j = lv
    · subst e; exact en
    · exact hp j (by omega)
  have elv : lv = 3 := by have := of_decide_eq_false c1; omega
  subst elv
  refine wp_exit ?_
  refine then_ext ?_
  refine then_ext ?_
  refine blk_eq ?_
  refine then_nrm ?_
  show Code.wp Tryd.prog _ _ _ _
  refine wp_seq ?_
  refine wp_region_list ?_
  refine W_val hA rfl 53 rfl (by decide) _ _ (R_build (ps := []) hA rfl [] rfl bld_tr0 _) (fun a hA => ?_)
  refine W_cpTr hA rfl rfl rfl rfl rfl RR (fun w11 hT HN => ?_)
  replace HB := HB.trans (hT.bel _ gRR)
  replace HH := hT.hart HH (by omega)
  replace RR := HN
  clear hT HN
  refine W_nil ?_
  refine then_nrm ?_
  show Code.wp Tryd.prog _ _ _ _
  refine wp_ret ?_
  refine ret_tr (j := 4) (by kernel_rfl) hA rfl RR ⟨?_, HB⟩
  rw [next_non hp]; rfl
end Go.Proofs.YthgjgloedlkaiaaDoor
