/- Joined: DtR AsPr3 AsPa AsPb AsPc AsNm AsSz WkS AsPl AsGw Wk9S -/
import Derived.Test.YtakdhdaoklcidaaGreatDoorKV5
import Derived.Deep.MidRow
namespace Go.Proofs.YtakdhdaoklcidaaGreatDoor
open Go.RowKit
set_option linter.unusedVariables false
set_option maxRecDepth 100000
def SubA : List (Nat × Value) → List (Nat × Value) → Prop
  | [], _ => True
  | p :: t, l => l.lookup p.1 = some p.2 ∧ SubA t l
theorem sn {l : List (Nat × Value)} : SubA [] l := trivial
theorem sa {i : Nat} {v : Value} {t l : List (Nat × Value)} (h : l.lookup i = some v) (ht : SubA t l) : SubA ((i, v) :: t) l := ⟨h, ht⟩
theorem FrA.re {l l' : List (Nat × Value)} {n : Nat} {a : Act} (h : FrA l n a) (hs : SubA l' l) : FrA l' n a := by
  induction l' with
  | nil => exact FrA.nil h.sz h.df
  | cons p t ih => exact (ih hs.2).add p.1 p.2 (h.get p.1 p.2 hs.1)
theorem no_q {q : Bool} {P : Prop} (hq : q = true ↔ P) (h : ¬ P) : q = false := by
  cases q
  · rfl
  · exact absurd (hq.1 rfl) h
def rowI9 (i : Ins) : Array Value := #[.int .i64 i.op, .int .i64 i.rd, .int .i64 i.a, .int .i64 i.b, .int .i64 i.imm, .int .i64 i.csr, .bool i.aq, .bool i.rl]
def rowR9 (op k : Nat) : Array Value := #[.string (nameT op), .int .u32 (mskT op), .int .u32 (matT op), .int .u8 (letT k)]
theorem cell9 {w : World} {b : Nat} {cs : Array Value} {t : TypeId} {fr : Nat × Nat} (h : w.heap[b]? = some (.cells cs t fr)) (k : Nat) {v : Value} (hv : cs[k]? = some v) : w.cell? ⟨b, k, none⟩ = some v := by
  rw [Lib.cell_of_heap h]; exact hv
theorem ag_int9 (w : World) : (isAgg 3).run Tryz.prog w = .ok false w := by kernel_rfl
theorem ag_j9 (w : World) : (isAgg 2).run Tryz.prog w = .ok false w := by kernel_rfl
theorem fi9_0 (b : Nat) (w : World) : (Instr.fieldAt 23 (.pointer (some ⟨b, 0, none⟩)) 0).run Tryz.prog w = .ok (.pointer (some ⟨b, 0, none⟩)) w := by kernel_rfl
theorem fi9_1 (b : Nat) (w : World) : (Instr.fieldAt 23 (.pointer (some ⟨b, 0, none⟩)) 1).run Tryz.prog w = .ok (.pointer (some ⟨b, 1, none⟩)) w := by kernel_rfl
theorem fi9_2 (b : Nat) (w : World) : (Instr.fieldAt 23 (.pointer (some ⟨b, 0, none⟩)) 2).run Tryz.prog w = .ok (.pointer (some ⟨b, 2, none⟩)) w := by kernel_rfl
theorem fi9_3 (b : Nat) (w : World) : (Instr.fieldAt 23 (.pointer (some ⟨b, 0, none⟩)) 3).run Tryz.prog w = .ok (.pointer (some ⟨b, 3, none⟩)) w := by kernel_rfl
theorem fi9_4 (b : Nat) (w : World) : (Instr.fieldAt 23 (.pointer (some ⟨b, 0, none⟩)) 4).run Tryz.prog w = .ok (.pointer (some ⟨b, 4, none⟩)) w := by kernel_rfl
theorem fi9_5 (b : Nat) (w : World) : (Instr.fieldAt 23 (.pointer (some ⟨b, 0, none⟩)) 5).run Tryz.prog w = .ok (.pointer (some ⟨b, 5, none⟩)) w := by kernel_rfl
theorem fi9_6 (b : Nat) (w : World) : (Instr.fieldAt 23 (.pointer (some ⟨b, 0, none⟩)) 6).run Tryz.prog w = .ok (.pointer (some ⟨b, 6, none⟩)) w := by kernel_rfl
theorem fi9_7 (b : Nat) (w : World) : (Instr.fieldAt 23 (.pointer (some ⟨b, 0, none⟩)) 7).run Tryz.prog w = .ok (.pointer (some ⟨b, 7, none⟩)) w := by kernel_rfl
theorem fr9_3 (b : Nat) (w : World) : (Instr.fieldAt 59 (.pointer (some ⟨b, 0, none⟩)) 3).run Tryz.prog w = .ok (.pointer (some ⟨b, 3, none⟩)) w := by kernel_rfl
theorem form9 : ∀ k, k < 15 → (frm k).imm ≤ 9 := by decide +kernel
section
variable {Q : Exit → Act → World → Prop} {w : World} {ops : Array Oper} {rest : List Oper} {o : Oper} {a : Act} {l : List (Nat × Value)} {n d : Nat}
theorem R_lss9 (hA : FrA l n a) {x y : Operand} (ho : o.op = .binOp .lss 3 x y 3) {u v : Int} (hx : evL l x = some (.int .i64 u)) (hy : evL l y = some (.int .i64 v)) (q : Bool) (hq : decide (u < v) = q) (w : World) : (execOp a.eval o).run Tryz.prog w = .ok (.value (.bool q)) w := by
  subst hq; unfold execOp; simp only [ho, hA.ev hx, hA.ev hy]; simp [go_sem]
theorem R_gtr9 (hA : FrA l n a) {x y : Operand} (ho : o.op = .binOp .gtr 3 x y 3) {u v : Int} (hx : evL l x = some (.int .i64 u)) (hy : evL l y = some (.int .i64 v)) (q : Bool) (hq : decide (v < u) = q) (w : World) : (execOp a.eval o).run Tryz.prog w = .ok (.value (.bool q)) w := by
  subst hq; unfold execOp; simp only [ho, hA.ev hx, hA.ev hy]; simp [go_sem]
theorem R_lssI9 (hA : FrA l n a) {x y : Operand} (ho : o.op = .binOp .lss 3 x y 3) {u v : Int} (hx : evL l x = some (.int .i64 u)) (hy : evL l y = some (.int .i64 v)) (w : World) : (execOp a.eval o).run Tryz.prog w = .ok (.value (.bool (decide (u < v)))) w := R_lss9 hA ho hx hy _ rfl w
theorem R_gtrI9 (hA : FrA l n a) {x y : Operand} (ho : o.op = .binOp .gtr 3 x y 3) {u v : Int} (hx : evL l x = some (.int .i64 u)) (hy : evL l y = some (.int .i64 v)) (w : World) : (execOp a.eval o).run Tryz.prog w = .ok (.value (.bool (decide (v < u)))) w := R_gtr9 hA ho hx hy _ rfl w
theorem R_neqI9 (hA : FrA l n a) {x y : Operand} (ho : o.op = .binOp .neq 3 x y 3) {u v : Int} (hx : evL l x = some (.int .i64 u)) (hy : evL l y = some (.int .i64 v)) (w : World) : (execOp a.eval o).run Tryz.prog w = .ok (.value (.bool (u != v))) w := by
  unfold execOp; simp only [ho, hA.ev hx, hA.ev hy]; simp [go_sem]
theorem R_eqlI9 (hA : FrA l n a) {x y : Operand} (ho : o.op = .binOp .eql 3 x y 3) {u v : Int} (hx : evL l x = some (.int .i64 u)) (hy : evL l y = some (.int .i64 v)) (w : World) : (execOp a.eval o).run Tryz.prog w = .ok (.value (.bool (u == v))) w := by
  unfold execOp; simp only [ho, hA.ev hx, hA.ev hy]; simp [go_sem]
theorem R_eqlJ9 (hA : FrA l n a) {x y : Operand} (ho : o.op = .binOp .eql 2 x y 2) {u v : Int} (hx : evL l x = some (.int .i64 u)) (hy : evL l y = some (.int .i64 v)) (w : World) : (execOp a.eval o).run Tryz.prog w = .ok (.value (.bool (u == v))) w := by
  unfold execOp; simp only [ho, hA.ev hx, hA.ev hy]; simp [go_sem]
theorem gu9 (hA : FrA l n a) {j dj : Nat} {want : Bool} (hg : o.guard = some (j, want)) (hdj : ((ops[j]?).bind (·.dst)) = some dj) (hq : l.lookup dj = some undef) (d : Nat) (hd : o.dst = some d) (hdn : d < n)
    (h : ∀ a', FrA ((d, undef) :: l) n a' → wpList Tryz.prog ops Q rest a' w) : wpList Tryz.prog ops Q (o :: rest) a w := by
  refine wpList_step fun K hK => ?_
  have e : a.eval (.tmp dj) = undef := hA.get _ _ hq
  have e' : a.tmps.getD dj undef = undef := e
  have hw : Region.wanted o (yielded ops a.tmps) = false := by
    rw [Array.getD_eq_getD_getElem?] at e'
    simp only [Region.wanted, hg, yielded, hdj, Option.bind_some]
    cases c : a.tmps[dj]? with
    | none => cases want <;> rfl
    | some u => rw [c] at e'; simp only [Option.getD_some] at e'; subst e'; cases want <;> rfl
  rw [hw, if_neg (by simp), hd]
  exact hK _ _ (h _ (hA.put hdn undef))
theorem W_boxIn9 (hA : FrA l n a) (hg : o.guard = none) (d : Nat) (hd : o.dst = some d) (hdn : d < n) {x : Operand} (ho : o.op = .box 23 x) {i : Ins} (hx : evL l x = some (.agg (rowI9 i)))
    (h : ∀ w' b a', FrA ((d, .pointer (some ⟨b, 0, none⟩)) :: l) n a' → Below w.heap.size w w' → w'.heap[b]? = some (.cells (rowI9 i) 23 (0, 0)) → w.heap.size ≤ b → wpList Tryz.prog ops Q rest a' w') : wpList Tryz.prog ops Q (o :: rest) a w :=
  W_val hA hg d hd hdn _ _ (R_box hA ho hx w) fun a hA => h _ _ a hA ((Below.refl _ _).alloc (Nat.le_refl _) _) (heap_alloc_new w _) (Nat.le_refl _)
theorem W_allocRow (hA : FrA l n a) (hg : o.guard = none) (d : Nat) (hd : o.dst = some d) (hdn : d < n) (ho : o.op = .alloc 59)
    (h : ∀ w' b a', FrA ((d, .pointer (some ⟨b, 0, none⟩)) :: l) n a' → Below w.heap.size w w' → w'.heap[b]? = some (.cells #[.string ⟨#[]⟩, .int .u32 0, .int .u32 0, .int .u8 0] 59 (0, 0)) → w.heap.size ≤ b → wpList Tryz.prog ops Q rest a' w') : wpList Tryz.prog ops Q (o :: rest) a w :=
  W_val hA hg d hd hdn _ _ (R_alloc hA ho (fun w => by kernel_rfl) w) fun a hA => h _ _ a hA ((Below.refl _ _).alloc (Nat.le_refl _) _) (heap_alloc_new w _) (Nat.le_refl _)
theorem W_cpRow (hA : FrA l n a) (hg : o.guard = none) (hd : o.dst = none) {x y : Operand} (ho : o.op = .store 59 x y) {b op k : Nat} {old : Array Value} (hx : evL l x = some (.pointer (some ⟨b, 0, none⟩))) (hy : evL l y = some (.agg (rowR9 op k))) (hb : w.heap[b]? = some (.cells old 59 (0, 0)))
    (hold : old.size = 4) (h : ∀ w', (∀ N, N ≤ b → Below N w w') → (∀ j, ¬ j = b → w'.heap[j]? = w.heap[j]?) → w'.heap[b]? = some (.cells (rowR9 op k) 59 (0, 0)) → wpList Tryz.prog ops Q rest a w') : wpList Tryz.prog ops Q (o :: rest) a w :=
  W_strow (cs := rowR9 op k) hA hg hd ho hx hy hb (by kernel_rfl) hold (by simp [rowR9, Value.oneCell']) (h _ (fun N hN => below_setRow (Below.refl _ _) hN _) (fun j hj => Go.setRow_other w b j _ hj) (setRow_heap _ _ _ _ _ _ hb))
theorem wp_merge9 {c : Code} {K : Act → World → Prop} (I : Act → World → Prop) (h : c.wp Tryz.prog (Exit.then I Q) a w) (h2 : ∀ a' w', I a' w' → K a' w') : c.wp Tryz.prog (Exit.then K Q) a w := by
  refine wp_mono h ?_
  intro e a' w' q
  cases e with
  | normal => exact h2 _ _ q
  | _ => exact q
end
section
variable {ops : Array Oper} {md : Region.Mode} {Q : Exit → Act → World → Prop} {S : World → Prop} {l : List (Nat × Value)} {n : Nat} {fuel : Nat} {listed : Array Bool} {a : Act} {w : World}
theorem ready_callS {i f d : Nat} {xs : Array Operand} {ts : Array TypeId} {ty : TypeId} {ps : String} {af : Array Edge} {v : Value} {args : Array Value} {S' : World → Prop} {rs : List Nat} (hA : FrA l n a) (hdn : d < n)
    (hi : ops[i]? = some { dst := some d, op := .call { callee := .value (.func f), args := xs, argTypes := ts }, type := ty, pos := ps, after := af, guard := none })
    (hcf : ∀ vs w, (callFunc f vs).run Tryz.prog w = .ok (.enter f vs) w) (hargs : xs.map a.eval = args) (hc : Calls Tryz.prog f args w fun e w' => e = .returned v ∧ S' w') (hSS : ∀ w', S' w' → S w')
    (h : ∀ w', S' w' → ∀ a', FrA ((d, v) :: l) n a' → wpAnyH Tryz.prog md ops Q S fuel (listed.setIfInBounds i true) a' w') (hrs : AllReadyH Tryz.prog md ops Q S fuel listed a w rs) : AllReadyH Tryz.prog md ops Q S fuel listed a w (i :: rs) :=
  AllReadyH.cons hi (fun K hK => by
    simp only [Region.wanted, if_true]
    have e1 : execOp a.eval { dst := some d, op := .call { callee := .value (.func f), args := xs, argTypes := ts }, type := ty, pos := ps, after := af, guard := none } = callFunc f (#[] ++ xs.map a.eval ++ #[]) := rfl
    unfold Oper.wp
    rw [e1, hargs, Array.empty_append, Array.append_empty, hcf, Oper.upon_enter]
    refine hc.mono fun e w'' hh => ?_
    obtain ⟨rfl, hs⟩ := hh
    exact hK.out _ _ (hSS _ hs) (fun _ => h _ hs _ (hA.put hdn v))) hrs
end
theorem q_end {q : Bool} {k : Nat} {i : Ins} (hq : q = true ↔ Right (frm k) i) (hin : (0 ≤ i.rd ∧ i.rd ≤ 31) ∧ (0 ≤ i.a ∧ i.a ≤ 31) ∧ (0 ≤ i.b ∧ i.b ≤ 31) ∧ (0 ≤ i.csr ∧ i.csr ≤ 4095)) (h6 : ((frm k).rd = false → i.rd = 0) ∧ ((frm k).a = false → i.a = 0) ∧ ((frm k).b = false → i.b = 0)) (h8 : ((frm k).csr = false → i.csr = 0) ∧ ((frm k).ord = false → i.aq = false ∧ i.rl = false)) : q = ((formL (frm k).imm).number ((formL (frm k).imm).word i.imm) == i.imm) := by
  rw [Bool.eq_iff_iff, hq, beq_iff_eq]
  exact ⟨fun h => h.imm, fun h => ⟨hin.1, hin.2.1, hin.2.2.1, hin.2.2.2, h6.1, h6.2.1, h6.2.2, h8.1, h8.2, h⟩⟩
theorem q_end0 {q : Bool} {k : Nat} {i : Ins} (hq : q = true ↔ Right (frm k) i) (hin : (0 ≤ i.rd ∧ i.rd ≤ 31) ∧ (0 ≤ i.a ∧ i.a ≤ 31) ∧ (0 ≤ i.b ∧ i.b ≤ 31) ∧ (0 ≤ i.csr ∧ i.csr ≤ 4095)) (h6 : ((frm k).rd = false → i.rd = 0) ∧ ((frm k).a = false → i.a = 0) ∧ ((frm k).b = false → i.b = 0)) (h8 : ((frm k).csr = false → i.csr = 0) ∧ ((frm k).ord = false → i.aq = false ∧ i.rl = false)) (h0 : (frm k).imm = 0) : q = (i.imm == 0) := by
  rw [q_end hq hin h6 h8, h0, number0, Bool.eq_iff_iff, beq_iff_eq, beq_iff_eq]; exact eq_comm
set_option maxHeartbeats 8000000 in
theorem right_walk (op k : Nat) (hk : k < 15) (h1 : 1 ≤ op) (h2 : op ≤ 113) (i : Ins) (hop : i.op = op) (q : Bool) (hq : q = true ↔ Right (frm k) i) (hRow : ∀ w, Calls Tryz.prog 31 #[.int .i64 i.op] w fun e w' => e = .returned (.agg (rowR9 op k)) ∧ Below w.heap.size w w') (w : World) :
    Calls Tryz.prog 30 #[.agg (rowI9 i)] w fun e w' => e = .returned (.bool q) ∧ Below w.heap.size w w' := by
  go_enter Tryz.func30, Tryz.ntmps30
  refine begin_fr [(0, .agg (rowI9 i))] 120 ?_ (fun a hA => ?_)
  · exact FrA.add (FrA.nil (by rfl) (by rfl)) 0 _ (by rfl)
  refine wp_seq (wp_region_list ?_); refine W_boxIn9 hA rfl 1 rfl (by decide) rfl rfl (fun w0 bI a hA HB II gI => ?_); refine W_val hA rfl _ rfl (by decide) _ _ (R_asg hA rfl rfl _) (fun a hA => ?_); refine W_nil (then_nrm ?_); show Code.wp Tryz.prog _ _ _ _; refine wp_seq ?_; refine wp_seq (wp_region_list ?_); refine W_val hA rfl _ rfl (by decide) _ _ (R_fa hA rfl rfl (fun w => fi9_0 _ w) _) (fun a hA => ?_); refine W_val hA rfl _ rfl (by decide) _ _ (R_ld hA rfl rfl ag_int9 (cell9 II 0 rfl)) (fun a hA => ?_); refine W_val hA rfl _ rfl (by decide) _ _ (R_lss9 hA rfl rfl rfl false (decide_eq_false (by omega)) _) (fun a hA => ?_); refine W_val hA rfl _ rfl (by decide) _ _ (R_mov hA rfl rfl _) (fun a hA => ?_); refine W_gval hA rfl rfl rfl _ rfl (by decide) _ _ (R_fa hA rfl rfl (fun w => fi9_0 _ w) _) (fun a hA => ?_); refine W_gval hA rfl rfl rfl _ rfl (by decide) _ _ (R_ld hA rfl rfl ag_int9 (cell9 II 0 rfl)) (fun a hA => ?_); refine W_gval hA rfl rfl rfl _ rfl (by decide) _ _ (R_gtr9 hA rfl rfl rfl false (decide_eq_false (by omega)) _) (fun a hA => ?_); refine W_val hA rfl _ rfl (by decide) _ _ (R_pick hA rfl rfl rfl _) (fun a hA => ?_); refine W_nil (then_nrm ?_); show Code.wp Tryz.prog _ _ _ _; refine wp_cond_false (hA.ev (x := .tmp 11) rfl) ?_; refine wp_skip ?_; refine then_nrm ?_; show Code.wp Tryz.prog _ _ _ _; refine wp_seq (wp_region_list ?_); refine W_val hA rfl _ rfl (by decide) _ _ (R_fa hA rfl rfl (fun w => fi9_0 _ w) _) (fun a hA => ?_); refine W_val hA rfl _ rfl (by decide) _ _ (R_ld hA rfl rfl ag_int9 (cell9 II 0 rfl)) (fun a hA => ?_); refine W_callA hA (by decide) (fun _ _ => by kernel_rfl) (args1 hA rfl) (hRow _) (fun w1 hw a hA => ?_); replace II := (hw.block _ (Array.getElem?_eq_some_iff.1 II).1).trans II; replace HB := HB.trans (hw.mono HB.size); clear hw; refine W_allocRow hA rfl 3 rfl (by decide) rfl (fun w2 bR a hA hb RR gR => ?_)
  have hne : ¬ bI = bR := by have := (Array.getElem?_eq_some_iff.1 II).1; omega
  replace gR := Nat.le_trans HB.size gR; replace II := (hb.block _ (Array.getElem?_eq_some_iff.1 II).1).trans II; replace HB := HB.trans (hb.mono HB.size); clear hb; skip; refine W_cpRow hA rfl rfl rfl rfl rfl RR rfl (fun w5 hb ho HN => ?_); replace II := (ho _ hne).trans II; replace HB := HB.trans (hb _ gR); replace RR := HN; clear hb ho HN; refine W_nil (then_nrm ?_); show Code.wp Tryz.prog _ _ _ _; refine wp_seq (wp_merge9 (fun a' w' => FrA [(3, .pointer (some ⟨bR, 0, none⟩)), (1, .pointer (some ⟨bI, 0, none⟩))] 120 a' ∧ Below w.heap.size w w' ∧ w'.heap[bI]? = some (.cells (rowI9 i) 23 (0, 0)) ∧ w'.heap[bR]? = some (.cells (rowR9 op k) 59 (0, 0)) ∧ ((0 ≤ i.rd ∧ i.rd ≤ 31) ∧ (0 ≤ i.a ∧ i.a ≤ 31) ∧ (0 ≤ i.b ∧ i.b ≤ 31) ∧ (0 ≤ i.csr ∧ i.csr ≤ 4095))) ?_ (fun a w9 h => ?_))
  · skip
    refine wp_seq (wp_region_list ?_); refine W_val hA rfl _ rfl (by decide) _ _ (R_fa hA rfl rfl (fun w => fi9_1 _ w) _) (fun a hA => ?_); refine W_val hA rfl _ rfl (by decide) _ _ (R_ld hA rfl rfl ag_int9 (cell9 II 1 rfl)) (fun a hA => ?_); refine W_val hA rfl _ rfl (by decide) _ _ (R_lssI9 hA rfl rfl rfl _) (fun a hA => ?_); refine W_val hA rfl _ rfl (by decide) _ _ (R_mov hA rfl rfl _) (fun a hA => ?_); refine W_split hA 18 rfl (fun c1 hA => ?_) (fun c1 hA => ?_)
    · skip
      (iterate 3 refine W_gskip hA rfl rfl rfl _ rfl (by decide) fun a hA => ?_); refine W_val hA rfl _ rfl (by decide) _ _ (R_pick hA rfl rfl rfl _) (fun a hA => ?_); refine W_val hA rfl _ rfl (by decide) _ _ (R_mov hA rfl rfl _) (fun a hA => ?_); (iterate 3 refine W_gskip hA rfl rfl rfl _ rfl (by decide) fun a hA => ?_); refine W_val hA rfl _ rfl (by decide) _ _ (R_pick hA rfl rfl rfl _) (fun a hA => ?_); refine W_val hA rfl _ rfl (by decide) _ _ (R_mov hA rfl rfl _) (fun a hA => ?_); (iterate 3 refine W_gskip hA rfl rfl rfl _ rfl (by decide) fun a hA => ?_); refine W_val hA rfl _ rfl (by decide) _ _ (R_pick hA rfl rfl rfl _) (fun a hA => ?_); refine W_val hA rfl _ rfl (by decide) _ _ (R_mov hA rfl rfl _) (fun a hA => ?_); (iterate 3 refine W_gskip hA rfl rfl rfl _ rfl (by decide) fun a hA => ?_); refine W_val hA rfl _ rfl (by decide) _ _ (R_pick hA rfl rfl rfl _) (fun a hA => ?_); refine W_val hA rfl _ rfl (by decide) _ _ (R_mov hA rfl rfl _) (fun a hA => ?_); (iterate 3 refine W_gskip hA rfl rfl rfl _ rfl (by decide) fun a hA => ?_); refine W_val hA rfl _ rfl (by decide) _ _ (R_pick hA rfl rfl rfl _) (fun a hA => ?_); refine W_val hA rfl _ rfl (by decide) _ _ (R_mov hA rfl rfl _) (fun a hA => ?_); (iterate 3 refine W_gskip hA rfl rfl rfl _ rfl (by decide) fun a hA => ?_); refine W_val hA rfl _ rfl (by decide) _ _ (R_pick hA rfl rfl rfl _) (fun a hA => ?_); refine W_val hA rfl _ rfl (by decide) _ _ (R_mov hA rfl rfl _) (fun a hA => ?_); (iterate 3 refine W_gskip hA rfl rfl rfl _ rfl (by decide) fun a hA => ?_); refine W_val hA rfl _ rfl (by decide) _ _ (R_pick hA rfl rfl rfl _) (fun a hA => ?_); refine W_nil (then_nrm ?_); show Code.wp Tryz.prog _ _ _ _; refine wp_cond_true (hA.ev (x := .tmp 52) rfl) ?_; refine wp_seq (wp_region_list ?_); refine W_val hA rfl _ rfl (by decide) _ _ (R_asg hA rfl rfl _) (fun a hA => ?_); refine W_nil (then_nrm ?_); show Code.wp Tryz.prog _ _ _ _; refine wp_ret ?_; refine then_ret ?_
      exact ret_tmp (j := 2) (by kernel_rfl) hA (by decide) rfl ⟨by rw [no_q hq (fun h => by have r1 := h.rd; have r2 := h.a; have r3 := h.b; have r4 := h.csr; have r5 := of_decide_eq_true c1; omega)], HB⟩
    refine W_gval hA rfl rfl rfl _ rfl (by decide) _ _ (R_fa hA rfl rfl (fun w => fi9_1 _ w) _) (fun a hA => ?_); refine W_gval hA rfl rfl rfl _ rfl (by decide) _ _ (R_ld hA rfl rfl ag_int9 (cell9 II 1 rfl)) (fun a hA => ?_); refine W_gval hA rfl rfl rfl _ rfl (by decide) _ _ (R_gtrI9 hA rfl rfl rfl _) (fun a hA => ?_); refine W_val hA rfl _ rfl (by decide) _ _ (R_pick hA rfl rfl rfl _) (fun a hA => ?_); refine W_val hA rfl _ rfl (by decide) _ _ (R_mov hA rfl rfl _) (fun a hA => ?_); refine W_split hA 23 rfl (fun c2 hA => ?_) (fun c2 hA => ?_)
    · skip
      (iterate 3 refine W_gskip hA rfl rfl rfl _ rfl (by decide) fun a hA => ?_); refine W_val hA rfl _ rfl (by decide) _ _ (R_pick hA rfl rfl rfl _) (fun a hA => ?_); refine W_val hA rfl _ rfl (by decide) _ _ (R_mov hA rfl rfl _) (fun a hA => ?_); (iterate 3 refine W_gskip hA rfl rfl rfl _ rfl (by decide) fun a hA => ?_); refine W_val hA rfl _ rfl (by decide) _ _ (R_pick hA rfl rfl rfl _) (fun a hA => ?_); refine W_val hA rfl _ rfl (by decide) _ _ (R_mov hA rfl rfl _) (fun a hA => ?_); (iterate 3 refine W_gskip hA rfl rfl rfl _ rfl (by decide) fun a hA => ?_); refine W_val hA rfl _ rfl (by decide) _ _ (R_pick hA rfl rfl rfl _) (fun a hA => ?_); refine W_val hA rfl _ rfl (by decide) _ _ (R_mov hA rfl rfl _) (fun a hA => ?_); (iterate 3 refine W_gskip hA rfl rfl rfl _ rfl (by decide) fun a hA => ?_); refine W_val hA rfl _ rfl (by decide) _ _ (R_pick hA rfl rfl rfl _) (fun a hA => ?_); refine W_val hA rfl _ rfl (by decide) _ _ (R_mov hA rfl rfl _) (fun a hA => ?_); (iterate 3 refine W_gskip hA rfl rfl rfl _ rfl (by decide) fun a hA => ?_); refine W_val hA rfl _ rfl (by decide) _ _ (R_pick hA rfl rfl rfl _) (fun a hA => ?_); refine W_val hA rfl _ rfl (by decide) _ _ (R_mov hA rfl rfl _) (fun a hA => ?_); (iterate 3 refine W_gskip hA rfl rfl rfl _ rfl (by decide) fun a hA => ?_); refine W_val hA rfl _ rfl (by decide) _ _ (R_pick hA rfl rfl rfl _) (fun a hA => ?_); refine W_nil (then_nrm ?_); show Code.wp Tryz.prog _ _ _ _; refine wp_cond_true (hA.ev (x := .tmp 52) rfl) ?_; refine wp_seq (wp_region_list ?_); refine W_val hA rfl _ rfl (by decide) _ _ (R_asg hA rfl rfl _) (fun a hA => ?_); refine W_nil (then_nrm ?_); show Code.wp Tryz.prog _ _ _ _; refine wp_ret ?_; refine then_ret ?_
      exact ret_tmp (j := 2) (by kernel_rfl) hA (by decide) rfl ⟨by rw [no_q hq (fun h => by have r1 := h.rd; have r2 := h.a; have r3 := h.b; have r4 := h.csr; have r5 := of_decide_eq_true c2; omega)], HB⟩
    refine W_gval hA rfl rfl rfl _ rfl (by decide) _ _ (R_fa hA rfl rfl (fun w => fi9_2 _ w) _) (fun a hA => ?_); refine W_gval hA rfl rfl rfl _ rfl (by decide) _ _ (R_ld hA rfl rfl ag_int9 (cell9 II 2 rfl)) (fun a hA => ?_); refine W_gval hA rfl rfl rfl _ rfl (by decide) _ _ (R_lssI9 hA rfl rfl rfl _) (fun a hA => ?_); refine W_val hA rfl _ rfl (by decide) _ _ (R_pick hA rfl rfl rfl _) (fun a hA => ?_); refine W_val hA rfl _ rfl (by decide) _ _ (R_mov hA rfl rfl _) (fun a hA => ?_); refine W_split hA 28 rfl (fun c3 hA => ?_) (fun c3 hA => ?_)
    · skip
      (iterate 3 refine W_gskip hA rfl rfl rfl _ rfl (by decide) fun a hA => ?_); refine W_val hA rfl _ rfl (by decide) _ _ (R_pick hA rfl rfl rfl _) (fun a hA => ?_); refine W_val hA rfl _ rfl (by decide) _ _ (R_mov hA rfl rfl _) (fun a hA => ?_); (iterate 3 refine W_gskip hA rfl rfl rfl _ rfl (by decide) fun a hA => ?_); refine W_val hA rfl _ rfl (by decide) _ _ (R_pick hA rfl rfl rfl _) (fun a hA => ?_); refine W_val hA rfl _ rfl (by decide) _ _ (R_mov hA rfl rfl _) (fun a hA => ?_); (iterate 3 refine W_gskip hA rfl rfl rfl _ rfl (by decide) fun a hA => ?_); refine W_val hA rfl _ rfl (by decide) _ _ (R_pick hA rfl rfl rfl _) (fun a hA => ?_); refine W_val hA rfl _ rfl (by decide) _ _ (R_mov hA rfl rfl _) (fun a hA => ?_); (iterate 3 refine W_gskip hA rfl rfl rfl _ rfl (by decide) fun a hA => ?_); refine W_val hA rfl _ rfl (by decide) _ _ (R_pick hA rfl rfl rfl _) (fun a hA => ?_); refine W_val hA rfl _ rfl (by decide) _ _ (R_mov hA rfl rfl _) (fun a hA => ?_); (iterate 3 refine W_gskip hA rfl rfl rfl _ rfl (by decide) fun a hA => ?_); refine W_val hA rfl _ rfl (by decide) _ _ (R_pick hA rfl rfl rfl _) (fun a hA => ?_); refine W_nil (then_nrm ?_); show Code.wp Tryz.prog _ _ _ _; refine wp_cond_true (hA.ev (x := .tmp 52) rfl) ?_; refine wp_seq (wp_region_list ?_); refine W_val hA rfl _ rfl (by decide) _ _ (R_asg hA rfl rfl _) (fun a hA => ?_); refine W_nil (then_nrm ?_); show Code.wp Tryz.prog _ _ _ _; refine wp_ret ?_; refine then_ret ?_
      exact ret_tmp (j := 2) (by kernel_rfl) hA (by decide) rfl ⟨by rw [no_q hq (fun h => by have r1 := h.rd; have r2 := h.a; have r3 := h.b; have r4 := h.csr; have r5 := of_decide_eq_true c3; omega)], HB⟩
    refine W_gval hA rfl rfl rfl _ rfl (by decide) _ _ (R_fa hA rfl rfl (fun w => fi9_2 _ w) _) (fun a hA => ?_); refine W_gval hA rfl rfl rfl _ rfl (by decide) _ _ (R_ld hA rfl rfl ag_int9 (cell9 II 2 rfl)) (fun a hA => ?_); refine W_gval hA rfl rfl rfl _ rfl (by decide) _ _ (R_gtrI9 hA rfl rfl rfl _) (fun a hA => ?_); refine W_val hA rfl _ rfl (by decide) _ _ (R_pick hA rfl rfl rfl _) (fun a hA => ?_); refine W_val hA rfl _ rfl (by decide) _ _ (R_mov hA rfl rfl _) (fun a hA => ?_); refine W_split hA 33 rfl (fun c4 hA => ?_) (fun c4 hA => ?_)
    · skip
      (iterate 3 refine W_gskip hA rfl rfl rfl _ rfl (by decide) fun a hA => ?_); refine W_val hA rfl _ rfl (by decide) _ _ (R_pick hA rfl rfl rfl _) (fun a hA => ?_); refine W_val hA rfl _ rfl (by decide) _ _ (R_mov hA rfl rfl _) (fun a hA => ?_); (iterate 3 refine W_gskip hA rfl rfl rfl _ rfl (by decide) fun a hA => ?_); refine W_val hA rfl _ rfl (by decide) _ _ (R_pick hA rfl rfl rfl _) (fun a hA => ?_); refine W_val hA rfl _ rfl (by decide) _ _ (R_mov hA rfl rfl _) (fun a hA => ?_); (iterate 3 refine W_gskip hA rfl rfl rfl _ rfl (by decide) fun a hA => ?_); refine W_val hA rfl _ rfl (by decide) _ _ (R_pick hA rfl rfl rfl _) (fun a hA => ?_); refine W_val hA rfl _ rfl (by decide) _ _ (R_mov hA rfl rfl _) (fun a hA => ?_); (iterate 3 refine W_gskip hA rfl rfl rfl _ rfl (by decide) fun a hA => ?_); refine W_val hA rfl _ rfl (by decide) _ _ (R_pick hA rfl rfl rfl _) (fun a hA => ?_); refine W_nil (then_nrm ?_); show Code.wp Tryz.prog _ _ _ _; refine wp_cond_true (hA.ev (x := .tmp 52) rfl) ?_; refine wp_seq (wp_region_list ?_); refine W_val hA rfl _ rfl (by decide) _ _ (R_asg hA rfl rfl _) (fun a hA => ?_); refine W_nil (then_nrm ?_); show Code.wp Tryz.prog _ _ _ _; refine wp_ret ?_; refine then_ret ?_
      exact ret_tmp (j := 2) (by kernel_rfl) hA (by decide) rfl ⟨by rw [no_q hq (fun h => by have r1 := h.rd; have r2 := h.a; have r3 := h.b; have r4 := h.csr; have r5 := of_decide_eq_true c4; omega)], HB⟩
    refine W_gval hA rfl rfl rfl _ rfl (by decide) _ _ (R_fa hA rfl rfl (fun w => fi9_3 _ w) _) (fun a hA => ?_); refine W_gval hA rfl rfl rfl _ rfl (by decide) _ _ (R_ld hA rfl rfl ag_int9 (cell9 II 3 rfl)) (fun a hA => ?_); refine W_gval hA rfl rfl rfl _ rfl (by decide) _ _ (R_lssI9 hA rfl rfl rfl _) (fun a hA => ?_); refine W_val hA rfl _ rfl (by decide) _ _ (R_pick hA rfl rfl rfl _) (fun a hA => ?_); refine W_val hA rfl _ rfl (by decide) _ _ (R_mov hA rfl rfl _) (fun a hA => ?_); refine W_split hA 38 rfl (fun c5 hA => ?_) (fun c5 hA => ?_)
    · skip
      (iterate 3 refine W_gskip hA rfl rfl rfl _ rfl (by decide) fun a hA => ?_); refine W_val hA rfl _ rfl (by decide) _ _ (R_pick hA rfl rfl rfl _) (fun a hA => ?_); refine W_val hA rfl _ rfl (by decide) _ _ (R_mov hA rfl rfl _) (fun a hA => ?_); (iterate 3 refine W_gskip hA rfl rfl rfl _ rfl (by decide) fun a hA => ?_); refine W_val hA rfl _ rfl (by decide) _ _ (R_pick hA rfl rfl rfl _) (fun a hA => ?_); refine W_val hA rfl _ rfl (by decide) _ _ (R_mov hA rfl rfl _) (fun a hA => ?_); (iterate 3 refine W_gskip hA rfl rfl rfl _ rfl (by decide) fun a hA => ?_); refine W_val hA rfl _ rfl (by decide) _ _ (R_pick hA rfl rfl rfl _) (fun a hA => ?_); refine W_nil (then_nrm ?_); show Code.wp Tryz.prog _ _ _ _; refine wp_cond_true (hA.ev (x := .tmp 52) rfl) ?_; refine wp_seq (wp_region_list ?_); refine W_val hA rfl _ rfl (by decide) _ _ (R_asg hA rfl rfl _) (fun a hA => ?_); refine W_nil (then_nrm ?_); show Code.wp Tryz.prog _ _ _ _; refine wp_ret ?_; refine then_ret ?_
      exact ret_tmp (j := 2) (by kernel_rfl) hA (by decide) rfl ⟨by rw [no_q hq (fun h => by have r1 := h.rd; have r2 := h.a; have r3 := h.b; have r4 := h.csr; have r5 := of_decide_eq_true c5; omega)], HB⟩
    refine W_gval hA rfl rfl rfl _ rfl (by decide) _ _ (R_fa hA rfl rfl (fun w => fi9_3 _ w) _) (fun a hA => ?_); refine W_gval hA rfl rfl rfl _ rfl (by decide) _ _ (R_ld hA rfl rfl ag_int9 (cell9 II 3 rfl)) (fun a hA => ?_); refine W_gval hA rfl rfl rfl _ rfl (by decide) _ _ (R_gtrI9 hA rfl rfl rfl _) (fun a hA => ?_); refine W_val hA rfl _ rfl (by decide) _ _ (R_pick hA rfl rfl rfl _) (fun a hA => ?_); refine W_val hA rfl _ rfl (by decide) _ _ (R_mov hA rfl rfl _) (fun a hA => ?_); refine W_split hA 43 rfl (fun c6 hA => ?_) (fun c6 hA => ?_)
    · skip
      (iterate 3 refine W_gskip hA rfl rfl rfl _ rfl (by decide) fun a hA => ?_); refine W_val hA rfl _ rfl (by decide) _ _ (R_pick hA rfl rfl rfl _) (fun a hA => ?_); refine W_val hA rfl _ rfl (by decide) _ _ (R_mov hA rfl rfl _) (fun a hA => ?_); (iterate 3 refine W_gskip hA rfl rfl rfl _ rfl (by decide) fun a hA => ?_); refine W_val hA rfl _ rfl (by decide) _ _ (R_pick hA rfl rfl rfl _) (fun a hA => ?_); refine W_nil (then_nrm ?_); show Code.wp Tryz.prog _ _ _ _; refine wp_cond_true (hA.ev (x := .tmp 52) rfl) ?_; refine wp_seq (wp_region_list ?_); refine W_val hA rfl _ rfl (by decide) _ _ (R_asg hA rfl rfl _) (fun a hA => ?_); refine W_nil (then_nrm ?_); show Code.wp Tryz.prog _ _ _ _; refine wp_ret ?_; refine then_ret ?_
      exact ret_tmp (j := 2) (by kernel_rfl) hA (by decide) rfl ⟨by rw [no_q hq (fun h => by have r1 := h.rd; have r2 := h.a; have r3 := h.b; have r4 := h.csr; have r5 := of_decide_eq_true c6; omega)], HB⟩
    refine W_gval hA rfl rfl rfl _ rfl (by decide) _ _ (R_fa hA rfl rfl (fun w => fi9_5 _ w) _) (fun a hA => ?_); refine W_gval hA rfl rfl rfl _ rfl (by decide) _ _ (R_ld hA rfl rfl ag_int9 (cell9 II 5 rfl)) (fun a hA => ?_); refine W_gval hA rfl rfl rfl _ rfl (by decide) _ _ (R_lssI9 hA rfl rfl rfl _) (fun a hA => ?_); refine W_val hA rfl _ rfl (by decide) _ _ (R_pick hA rfl rfl rfl _) (fun a hA => ?_); refine W_val hA rfl _ rfl (by decide) _ _ (R_mov hA rfl rfl _) (fun a hA => ?_); refine W_split hA 48 rfl (fun c7 hA => ?_) (fun c7 hA => ?_)
    · skip
      (iterate 3 refine W_gskip hA rfl rfl rfl _ rfl (by decide) fun a hA => ?_); refine W_val hA rfl _ rfl (by decide) _ _ (R_pick hA rfl rfl rfl _) (fun a hA => ?_); refine W_nil (then_nrm ?_); show Code.wp Tryz.prog _ _ _ _; refine wp_cond_true (hA.ev (x := .tmp 52) rfl) ?_; refine wp_seq (wp_region_list ?_); refine W_val hA rfl _ rfl (by decide) _ _ (R_asg hA rfl rfl _) (fun a hA => ?_); refine W_nil (then_nrm ?_); show Code.wp Tryz.prog _ _ _ _; refine wp_ret ?_; refine then_ret ?_
      exact ret_tmp (j := 2) (by kernel_rfl) hA (by decide) rfl ⟨by rw [no_q hq (fun h => by have r1 := h.rd; have r2 := h.a; have r3 := h.b; have r4 := h.csr; have r5 := of_decide_eq_true c7; omega)], HB⟩
    refine W_gval hA rfl rfl rfl _ rfl (by decide) _ _ (R_fa hA rfl rfl (fun w => fi9_5 _ w) _) (fun a hA => ?_); refine W_gval hA rfl rfl rfl _ rfl (by decide) _ _ (R_ld hA rfl rfl ag_int9 (cell9 II 5 rfl)) (fun a hA => ?_); refine W_gval hA rfl rfl rfl _ rfl (by decide) _ _ (R_gtrI9 hA rfl rfl rfl _) (fun a hA => ?_); refine W_val hA rfl _ rfl (by decide) _ _ (R_pick hA rfl rfl rfl _) (fun a hA => ?_); refine W_nil (then_nrm ?_); show Code.wp Tryz.prog _ _ _ _; refine wp_cond_split (hA.ev (x := .tmp 52) rfl) (fun c8 => ?_) (fun c8 => ?_)
    · skip
      refine wp_seq (wp_region_list ?_); refine W_val hA rfl _ rfl (by decide) _ _ (R_asg hA rfl rfl _) (fun a hA => ?_); refine W_nil (then_nrm ?_); show Code.wp Tryz.prog _ _ _ _; refine wp_ret ?_; refine then_ret ?_
      exact ret_tmp (j := 2) (by kernel_rfl) hA (by decide) rfl ⟨by rw [no_q hq (fun h => by have r1 := h.rd; have r2 := h.a; have r3 := h.b; have r4 := h.csr; have r5 := of_decide_eq_true c8; omega)], HB⟩
    refine wp_skip ?_; refine then_nrm ?_
    have hin : (0 ≤ i.rd ∧ i.rd ≤ 31) ∧ (0 ≤ i.a ∧ i.a ≤ 31) ∧ (0 ≤ i.b ∧ i.b ≤ 31) ∧ (0 ≤ i.csr ∧ i.csr ≤ 4095) := by
      have r0 := of_decide_eq_false c1
      have r1 := of_decide_eq_false c2
      have r2 := of_decide_eq_false c3
      have r3 := of_decide_eq_false c4
      have r4 := of_decide_eq_false c5
      have r5 := of_decide_eq_false c6
      have r6 := of_decide_eq_false c7
      have r7 := of_decide_eq_false c8
      omega
    exact ⟨hA.re (sa rfl (sa rfl (sn))), HB, II, RR, hin⟩
  clear HB II RR hA
  obtain ⟨hA, HB, II, RR, hin⟩ := h
  refine wp_seq (wp_merge9 (fun a' w' => FrA [(3, .pointer (some ⟨bR, 0, none⟩)), (1, .pointer (some ⟨bI, 0, none⟩))] 120 a' ∧ Below w.heap.size w w' ∧ w'.heap[bI]? = some (.cells (rowI9 i) 23 (0, 0)) ∧ w'.heap[bR]? = some (.cells (rowR9 op k) 59 (0, 0)) ∧ (((frm k).rd = false → i.rd = 0) ∧ ((frm k).a = false → i.a = 0) ∧ ((frm k).b = false → i.b = 0))) ?_ (fun a w9 h => ?_))
  · skip
    refine wp_seq (wp_region_list ?_); refine W_val hA rfl _ rfl (by decide) _ _ (R_fa hA rfl rfl (fun w => fr9_3 _ w) _) (fun a hA => ?_); refine W_val hA rfl _ rfl (by decide) _ _ (R_ld hA rfl rfl ag_u8 (cell9 RR 3 rfl)) (fun a hA => ?_); refine W_callA hA (by decide) (fun _ _ => by kernel_rfl) (args2 hA rfl rfl) (has_rd k hk _) (fun w3 hw a hA => ?_); subst hw; refine W_val hA rfl _ rfl (by decide) _ _ (R_not hA rfl rfl _) (fun a hA => ?_); refine W_val hA rfl _ rfl (by decide) _ _ (R_mov hA rfl rfl _) (fun a hA => ?_); refine W_split hA 57 rfl (fun c9 hA => ?_) (fun c9 hA => ?_)
    · skip
      refine W_gval hA rfl rfl rfl _ rfl (by decide) _ _ (R_fa hA rfl rfl (fun w => fi9_1 _ w) _) (fun a hA => ?_); refine W_gval hA rfl rfl rfl _ rfl (by decide) _ _ (R_ld hA rfl rfl ag_int9 (cell9 II 1 rfl)) (fun a hA => ?_); refine W_gval hA rfl rfl rfl _ rfl (by decide) _ _ (R_neqI9 hA rfl rfl rfl _) (fun a hA => ?_); refine W_val hA rfl _ rfl (by decide) _ _ (R_pick hA rfl rfl rfl _) (fun a hA => ?_); refine W_val hA rfl _ rfl (by decide) _ _ (R_mov hA rfl rfl _) (fun a hA => ?_); refine W_split hA 62 rfl (fun c10 hA => ?_) (fun c10 hA => ?_)
      · skip
        (iterate 5 refine W_gskip hA rfl rfl rfl _ rfl (by decide) fun a hA => ?_); (iterate 3 refine gu9 hA rfl rfl rfl _ rfl (by decide) fun a hA => ?_); refine W_gskip hA rfl rfl rfl _ rfl (by decide) (fun a hA => ?_); refine W_val hA rfl _ rfl (by decide) _ _ (R_pick hA rfl rfl rfl _) (fun a hA => ?_); refine W_val hA rfl _ rfl (by decide) _ _ (R_mov hA rfl rfl _) (fun a hA => ?_); (iterate 5 refine W_gskip hA rfl rfl rfl _ rfl (by decide) fun a hA => ?_); (iterate 3 refine gu9 hA rfl rfl rfl _ rfl (by decide) fun a hA => ?_); refine W_gskip hA rfl rfl rfl _ rfl (by decide) (fun a hA => ?_); refine W_val hA rfl _ rfl (by decide) _ _ (R_pick hA rfl rfl rfl _) (fun a hA => ?_); refine W_nil (then_nrm ?_); show Code.wp Tryz.prog _ _ _ _; refine wp_cond_true (hA.ev (x := .tmp 83) rfl) ?_; refine wp_seq (wp_region_list ?_); refine W_val hA rfl _ rfl (by decide) _ _ (R_asg hA rfl rfl _) (fun a hA => ?_); refine W_nil (then_nrm ?_); show Code.wp Tryz.prog _ _ _ _; refine wp_ret ?_; refine then_ret ?_
        exact ret_tmp (j := 2) (by kernel_rfl) hA (by decide) rfl ⟨by rw [no_q hq (fun h => by have r5 := h.nrd (by simpa using c9); have r6 := c10; rw [r5] at r6; exact absurd r6 (by decide))], HB⟩
      refine W_gval hA rfl rfl rfl _ rfl (by decide) _ _ (R_fa hA rfl rfl (fun w => fr9_3 _ w) _) (fun a hA => ?_); refine W_gval hA rfl rfl rfl _ rfl (by decide) _ _ (R_ld hA rfl rfl ag_u8 (cell9 RR 3 rfl)) (fun a hA => ?_); refine W_gcall hA rfl rfl (by decide) (fun _ _ => by kernel_rfl) (args2 hA rfl rfl) (has_a k hk _) (fun w4 hw a hA => ?_); subst hw; refine W_gval hA rfl rfl rfl _ rfl (by decide) _ _ (R_not hA rfl rfl _) (fun a hA => ?_); refine W_gval hA rfl rfl rfl _ rfl (by decide) _ _ (R_mov hA rfl rfl _) (fun a hA => ?_); refine W_split hA 67 rfl (fun c11 hA => ?_) (fun c11 hA => ?_)
      · skip
        refine W_gval hA rfl rfl rfl _ rfl (by decide) _ _ (R_fa hA rfl rfl (fun w => fi9_2 _ w) _) (fun a hA => ?_); refine W_gval hA rfl rfl rfl _ rfl (by decide) _ _ (R_ld hA rfl rfl ag_int9 (cell9 II 2 rfl)) (fun a hA => ?_); refine W_gval hA rfl rfl rfl _ rfl (by decide) _ _ (R_neqI9 hA rfl rfl rfl _) (fun a hA => ?_); refine W_gval hA rfl rfl rfl _ rfl (by decide) _ _ (R_pick hA rfl rfl rfl _) (fun a hA => ?_); refine W_val hA rfl _ rfl (by decide) _ _ (R_pick hA rfl rfl rfl _) (fun a hA => ?_); refine W_val hA rfl _ rfl (by decide) _ _ (R_mov hA rfl rfl _) (fun a hA => ?_); refine W_split hA 73 rfl (fun c12 hA => ?_) (fun c12 hA => ?_)
        · skip
          (iterate 5 refine W_gskip hA rfl rfl rfl _ rfl (by decide) fun a hA => ?_); (iterate 3 refine gu9 hA rfl rfl rfl _ rfl (by decide) fun a hA => ?_); refine W_gskip hA rfl rfl rfl _ rfl (by decide) (fun a hA => ?_); refine W_val hA rfl _ rfl (by decide) _ _ (R_pick hA rfl rfl rfl _) (fun a hA => ?_); refine W_nil (then_nrm ?_); show Code.wp Tryz.prog _ _ _ _; refine wp_cond_true (hA.ev (x := .tmp 83) rfl) ?_; refine wp_seq (wp_region_list ?_); refine W_val hA rfl _ rfl (by decide) _ _ (R_asg hA rfl rfl _) (fun a hA => ?_); refine W_nil (then_nrm ?_); show Code.wp Tryz.prog _ _ _ _; refine wp_ret ?_; refine then_ret ?_
          exact ret_tmp (j := 2) (by kernel_rfl) hA (by decide) rfl ⟨by rw [no_q hq (fun h => by have r5 := h.na (by simpa using c11); have r6 := c12; rw [r5] at r6; exact absurd r6 (by decide))], HB⟩
        refine W_gval hA rfl rfl rfl _ rfl (by decide) _ _ (R_fa hA rfl rfl (fun w => fr9_3 _ w) _) (fun a hA => ?_); refine W_gval hA rfl rfl rfl _ rfl (by decide) _ _ (R_ld hA rfl rfl ag_u8 (cell9 RR 3 rfl)) (fun a hA => ?_); refine W_gcall hA rfl rfl (by decide) (fun _ _ => by kernel_rfl) (args2 hA rfl rfl) (has_b k hk _) (fun w5 hw a hA => ?_); subst hw; refine W_gval hA rfl rfl rfl _ rfl (by decide) _ _ (R_not hA rfl rfl _) (fun a hA => ?_); refine W_gval hA rfl rfl rfl _ rfl (by decide) _ _ (R_mov hA rfl rfl _) (fun a hA => ?_); refine W_split hA 78 rfl (fun c13 hA => ?_) (fun c13 hA => ?_)
        · skip
          refine W_gval hA rfl rfl rfl _ rfl (by decide) _ _ (R_fa hA rfl rfl (fun w => fi9_3 _ w) _) (fun a hA => ?_); refine W_gval hA rfl rfl rfl _ rfl (by decide) _ _ (R_ld hA rfl rfl ag_int9 (cell9 II 3 rfl)) (fun a hA => ?_); refine W_gval hA rfl rfl rfl _ rfl (by decide) _ _ (R_neqI9 hA rfl rfl rfl _) (fun a hA => ?_); refine W_gval hA rfl rfl rfl _ rfl (by decide) _ _ (R_pick hA rfl rfl rfl _) (fun a hA => ?_); refine W_val hA rfl _ rfl (by decide) _ _ (R_pick hA rfl rfl rfl _) (fun a hA => ?_); refine W_nil (then_nrm ?_); show Code.wp Tryz.prog _ _ _ _; refine wp_cond_split (hA.ev (x := .tmp 83) rfl) (fun c14 => ?_) (fun c14 => ?_)
          · skip
            refine wp_seq (wp_region_list ?_); refine W_val hA rfl _ rfl (by decide) _ _ (R_asg hA rfl rfl _) (fun a hA => ?_); refine W_nil (then_nrm ?_); show Code.wp Tryz.prog _ _ _ _; refine wp_ret ?_; refine then_ret ?_
            exact ret_tmp (j := 2) (by kernel_rfl) hA (by decide) rfl ⟨by rw [no_q hq (fun h => by have r5 := h.nb (by simpa using c13); have r6 := c14; rw [r5] at r6; exact absurd r6 (by decide))], HB⟩
          refine wp_skip ?_; refine then_nrm ?_
          exact ⟨hA.re (sa rfl (sa rfl (sn))), HB, II, RR, (fun _ => (by simpa using c10)), (fun _ => (by simpa using c12)), (fun _ => (by simpa using c14))⟩
        (iterate 3 refine W_gskip hA rfl rfl rfl _ rfl (by decide) fun a hA => ?_); refine W_gval hA rfl rfl rfl _ rfl (by decide) _ _ (R_pick hA rfl rfl rfl _) (fun a hA => ?_); refine W_val hA rfl _ rfl (by decide) _ _ (R_pick hA rfl rfl rfl _) (fun a hA => ?_); refine W_nil (then_nrm ?_); show Code.wp Tryz.prog _ _ _ _; refine wp_cond_false (hA.ev (x := .tmp 83) rfl) ?_; refine wp_skip ?_; refine then_nrm ?_
        exact ⟨hA.re (sa rfl (sa rfl (sn))), HB, II, RR, (fun _ => (by simpa using c10)), (fun _ => (by simpa using c12)), (fun h => by rw [h] at c13; exact absurd c13 (by decide))⟩
      (iterate 3 refine W_gskip hA rfl rfl rfl _ rfl (by decide) fun a hA => ?_); refine W_gval hA rfl rfl rfl _ rfl (by decide) _ _ (R_pick hA rfl rfl rfl _) (fun a hA => ?_); refine W_val hA rfl _ rfl (by decide) _ _ (R_pick hA rfl rfl rfl _) (fun a hA => ?_); refine W_val hA rfl _ rfl (by decide) _ _ (R_mov hA rfl rfl _) (fun a hA => ?_); refine W_gval hA rfl rfl rfl _ rfl (by decide) _ _ (R_fa hA rfl rfl (fun w => fr9_3 _ w) _) (fun a hA => ?_); refine W_gval hA rfl rfl rfl _ rfl (by decide) _ _ (R_ld hA rfl rfl ag_u8 (cell9 RR 3 rfl)) (fun a hA => ?_); refine W_gcall hA rfl rfl (by decide) (fun _ _ => by kernel_rfl) (args2 hA rfl rfl) (has_b k hk _) (fun w6 hw a hA => ?_); subst hw; refine W_gval hA rfl rfl rfl _ rfl (by decide) _ _ (R_not hA rfl rfl _) (fun a hA => ?_); refine W_gval hA rfl rfl rfl _ rfl (by decide) _ _ (R_mov hA rfl rfl _) (fun a hA => ?_); refine W_split hA 78 rfl (fun c15 hA => ?_) (fun c15 hA => ?_)
      · skip
        refine W_gval hA rfl rfl rfl _ rfl (by decide) _ _ (R_fa hA rfl rfl (fun w => fi9_3 _ w) _) (fun a hA => ?_); refine W_gval hA rfl rfl rfl _ rfl (by decide) _ _ (R_ld hA rfl rfl ag_int9 (cell9 II 3 rfl)) (fun a hA => ?_); refine W_gval hA rfl rfl rfl _ rfl (by decide) _ _ (R_neqI9 hA rfl rfl rfl _) (fun a hA => ?_); refine W_gval hA rfl rfl rfl _ rfl (by decide) _ _ (R_pick hA rfl rfl rfl _) (fun a hA => ?_); refine W_val hA rfl _ rfl (by decide) _ _ (R_pick hA rfl rfl rfl _) (fun a hA => ?_); refine W_nil (then_nrm ?_); show Code.wp Tryz.prog _ _ _ _; refine wp_cond_split (hA.ev (x := .tmp 83) rfl) (fun c16 => ?_) (fun c16 => ?_)
        · skip
          refine wp_seq (wp_region_list ?_); refine W_val hA rfl _ rfl (by decide) _ _ (R_asg hA rfl rfl _) (fun a hA => ?_); refine W_nil (then_nrm ?_); show Code.wp Tryz.prog _ _ _ _; refine wp_ret ?_; refine then_ret ?_
          exact ret_tmp (j := 2) (by kernel_rfl) hA (by decide) rfl ⟨by rw [no_q hq (fun h => by have r5 := h.nb (by simpa using c15); have r6 := c16; rw [r5] at r6; exact absurd r6 (by decide))], HB⟩
        refine wp_skip ?_; refine then_nrm ?_
        exact ⟨hA.re (sa rfl (sa rfl (sn))), HB, II, RR, (fun _ => (by simpa using c10)), (fun h => by rw [h] at c11; exact absurd c11 (by decide)), (fun _ => (by simpa using c16))⟩
      (iterate 3 refine W_gskip hA rfl rfl rfl _ rfl (by decide) fun a hA => ?_); refine W_gval hA rfl rfl rfl _ rfl (by decide) _ _ (R_pick hA rfl rfl rfl _) (fun a hA => ?_); refine W_val hA rfl _ rfl (by decide) _ _ (R_pick hA rfl rfl rfl _) (fun a hA => ?_); refine W_nil (then_nrm ?_); show Code.wp Tryz.prog _ _ _ _; refine wp_cond_false (hA.ev (x := .tmp 83) rfl) ?_; refine wp_skip ?_; refine then_nrm ?_
      exact ⟨hA.re (sa rfl (sa rfl (sn))), HB, II, RR, (fun _ => (by simpa using c10)), (fun h => by rw [h] at c11; exact absurd c11 (by decide)), (fun h => by rw [h] at c15; exact absurd c15 (by decide))⟩
    (iterate 3 refine W_gskip hA rfl rfl rfl _ rfl (by decide) fun a hA => ?_); refine W_val hA rfl _ rfl (by decide) _ _ (R_pick hA rfl rfl rfl _) (fun a hA => ?_); refine W_val hA rfl _ rfl (by decide) _ _ (R_mov hA rfl rfl _) (fun a hA => ?_); refine W_gval hA rfl rfl rfl _ rfl (by decide) _ _ (R_fa hA rfl rfl (fun w => fr9_3 _ w) _) (fun a hA => ?_); refine W_gval hA rfl rfl rfl _ rfl (by decide) _ _ (R_ld hA rfl rfl ag_u8 (cell9 RR 3 rfl)) (fun a hA => ?_); refine W_gcall hA rfl rfl (by decide) (fun _ _ => by kernel_rfl) (args2 hA rfl rfl) (has_a k hk _) (fun w7 hw a hA => ?_); subst hw; refine W_gval hA rfl rfl rfl _ rfl (by decide) _ _ (R_not hA rfl rfl _) (fun a hA => ?_); refine W_gval hA rfl rfl rfl _ rfl (by decide) _ _ (R_mov hA rfl rfl _) (fun a hA => ?_); refine W_split hA 67 rfl (fun c17 hA => ?_) (fun c17 hA => ?_)
    · skip
      refine W_gval hA rfl rfl rfl _ rfl (by decide) _ _ (R_fa hA rfl rfl (fun w => fi9_2 _ w) _) (fun a hA => ?_); refine W_gval hA rfl rfl rfl _ rfl (by decide) _ _ (R_ld hA rfl rfl ag_int9 (cell9 II 2 rfl)) (fun a hA => ?_); refine W_gval hA rfl rfl rfl _ rfl (by decide) _ _ (R_neqI9 hA rfl rfl rfl _) (fun a hA => ?_); refine W_gval hA rfl rfl rfl _ rfl (by decide) _ _ (R_pick hA rfl rfl rfl _) (fun a hA => ?_); refine W_val hA rfl _ rfl (by decide) _ _ (R_pick hA rfl rfl rfl _) (fun a hA => ?_); refine W_val hA rfl _ rfl (by decide) _ _ (R_mov hA rfl rfl _) (fun a hA => ?_); refine W_split hA 73 rfl (fun c18 hA => ?_) (fun c18 hA => ?_)
      · skip
        (iterate 5 refine W_gskip hA rfl rfl rfl _ rfl (by decide) fun a hA => ?_); (iterate 3 refine gu9 hA rfl rfl rfl _ rfl (by decide) fun a hA => ?_); refine W_gskip hA rfl rfl rfl _ rfl (by decide) (fun a hA => ?_); refine W_val hA rfl _ rfl (by decide) _ _ (R_pick hA rfl rfl rfl _) (fun a hA => ?_); refine W_nil (then_nrm ?_); show Code.wp Tryz.prog _ _ _ _; refine wp_cond_true (hA.ev (x := .tmp 83) rfl) ?_; refine wp_seq (wp_region_list ?_); refine W_val hA rfl _ rfl (by decide) _ _ (R_asg hA rfl rfl _) (fun a hA => ?_); refine W_nil (then_nrm ?_); show Code.wp Tryz.prog _ _ _ _; refine wp_ret ?_; refine then_ret ?_
        exact ret_tmp (j := 2) (by kernel_rfl) hA (by decide) rfl ⟨by rw [no_q hq (fun h => by have r5 := h.na (by simpa using c17); have r6 := c18; rw [r5] at r6; exact absurd r6 (by decide))], HB⟩
      refine W_gval hA rfl rfl rfl _ rfl (by decide) _ _ (R_fa hA rfl rfl (fun w => fr9_3 _ w) _) (fun a hA => ?_); refine W_gval hA rfl rfl rfl _ rfl (by decide) _ _ (R_ld hA rfl rfl ag_u8 (cell9 RR 3 rfl)) (fun a hA => ?_); refine W_gcall hA rfl rfl (by decide) (fun _ _ => by kernel_rfl) (args2 hA rfl rfl) (has_b k hk _) (fun w8 hw a hA => ?_); subst hw; refine W_gval hA rfl rfl rfl _ rfl (by decide) _ _ (R_not hA rfl rfl _) (fun a hA => ?_); refine W_gval hA rfl rfl rfl _ rfl (by decide) _ _ (R_mov hA rfl rfl _) (fun a hA => ?_); refine W_split hA 78 rfl (fun c19 hA => ?_) (fun c19 hA => ?_)
      · skip
        refine W_gval hA rfl rfl rfl _ rfl (by decide) _ _ (R_fa hA rfl rfl (fun w => fi9_3 _ w) _) (fun a hA => ?_); refine W_gval hA rfl rfl rfl _ rfl (by decide) _ _ (R_ld hA rfl rfl ag_int9 (cell9 II 3 rfl)) (fun a hA => ?_); refine W_gval hA rfl rfl rfl _ rfl (by decide) _ _ (R_neqI9 hA rfl rfl rfl _) (fun a hA => ?_); refine W_gval hA rfl rfl rfl _ rfl (by decide) _ _ (R_pick hA rfl rfl rfl _) (fun a hA => ?_); refine W_val hA rfl _ rfl (by decide) _ _ (R_pick hA rfl rfl rfl _) (fun a hA => ?_); refine W_nil (then_nrm ?_); show Code.wp Tryz.prog _ _ _ _; refine wp_cond_split (hA.ev (x := .tmp 83) rfl) (fun c20 => ?_) (fun c20 => ?_)
        · skip
          refine wp_seq (wp_region_list ?_); refine W_val hA rfl _ rfl (by decide) _ _ (R_asg hA rfl rfl _) (fun a hA => ?_); refine W_nil (then_nrm ?_); show Code.wp Tryz.prog _ _ _ _; refine wp_ret ?_; refine then_ret ?_
          exact ret_tmp (j := 2) (by kernel_rfl) hA (by decide) rfl ⟨by rw [no_q hq (fun h => by have r5 := h.nb (by simpa using c19); have r6 := c20; rw [r5] at r6; exact absurd r6 (by decide))], HB⟩
        refine wp_skip ?_; refine then_nrm ?_
        exact ⟨hA.re (sa rfl (sa rfl (sn))), HB, II, RR, (fun h => by rw [h] at c9; exact absurd c9 (by decide)), (fun _ => (by simpa using c18)), (fun _ => (by simpa using c20))⟩
      (iterate 3 refine W_gskip hA rfl rfl rfl _ rfl (by decide) fun a hA => ?_); refine W_gval hA rfl rfl rfl _ rfl (by decide) _ _ (R_pick hA rfl rfl rfl _) (fun a hA => ?_); refine W_val hA rfl _ rfl (by decide) _ _ (R_pick hA rfl rfl rfl _) (fun a hA => ?_); refine W_nil (then_nrm ?_); show Code.wp Tryz.prog _ _ _ _; refine wp_cond_false (hA.ev (x := .tmp 83) rfl) ?_; refine wp_skip ?_; refine then_nrm ?_
      exact ⟨hA.re (sa rfl (sa rfl (sn))), HB, II, RR, (fun h => by rw [h] at c9; exact absurd c9 (by decide)), (fun _ => (by simpa using c18)), (fun h => by rw [h] at c19; exact absurd c19 (by decide))⟩
    (iterate 3 refine W_gskip hA rfl rfl rfl _ rfl (by decide) fun a hA => ?_); refine W_gval hA rfl rfl rfl _ rfl (by decide) _ _ (R_pick hA rfl rfl rfl _) (fun a hA => ?_); refine W_val hA rfl _ rfl (by decide) _ _ (R_pick hA rfl rfl rfl _) (fun a hA => ?_); refine W_val hA rfl _ rfl (by decide) _ _ (R_mov hA rfl rfl _) (fun a hA => ?_); refine W_gval hA rfl rfl rfl _ rfl (by decide) _ _ (R_fa hA rfl rfl (fun w => fr9_3 _ w) _) (fun a hA => ?_); refine W_gval hA rfl rfl rfl _ rfl (by decide) _ _ (R_ld hA rfl rfl ag_u8 (cell9 RR 3 rfl)) (fun a hA => ?_); refine W_gcall hA rfl rfl (by decide) (fun _ _ => by kernel_rfl) (args2 hA rfl rfl) (has_b k hk _) (fun w9 hw a hA => ?_); subst hw; refine W_gval hA rfl rfl rfl _ rfl (by decide) _ _ (R_not hA rfl rfl _) (fun a hA => ?_); refine W_gval hA rfl rfl rfl _ rfl (by decide) _ _ (R_mov hA rfl rfl _) (fun a hA => ?_); refine W_split hA 78 rfl (fun c21 hA => ?_) (fun c21 hA => ?_)
    · skip
      refine W_gval hA rfl rfl rfl _ rfl (by decide) _ _ (R_fa hA rfl rfl (fun w => fi9_3 _ w) _) (fun a hA => ?_); refine W_gval hA rfl rfl rfl _ rfl (by decide) _ _ (R_ld hA rfl rfl ag_int9 (cell9 II 3 rfl)) (fun a hA => ?_); refine W_gval hA rfl rfl rfl _ rfl (by decide) _ _ (R_neqI9 hA rfl rfl rfl _) (fun a hA => ?_); refine W_gval hA rfl rfl rfl _ rfl (by decide) _ _ (R_pick hA rfl rfl rfl _) (fun a hA => ?_); refine W_val hA rfl _ rfl (by decide) _ _ (R_pick hA rfl rfl rfl _) (fun a hA => ?_); refine W_nil (then_nrm ?_); show Code.wp Tryz.prog _ _ _ _; refine wp_cond_split (hA.ev (x := .tmp 83) rfl) (fun c22 => ?_) (fun c22 => ?_)
      · skip
        refine wp_seq (wp_region_list ?_); refine W_val hA rfl _ rfl (by decide) _ _ (R_asg hA rfl rfl _) (fun a hA => ?_); refine W_nil (then_nrm ?_); show Code.wp Tryz.prog _ _ _ _; refine wp_ret ?_; refine then_ret ?_
        exact ret_tmp (j := 2) (by kernel_rfl) hA (by decide) rfl ⟨by rw [no_q hq (fun h => by have r5 := h.nb (by simpa using c21); have r6 := c22; rw [r5] at r6; exact absurd r6 (by decide))], HB⟩
      refine wp_skip ?_; refine then_nrm ?_
      exact ⟨hA.re (sa rfl (sa rfl (sn))), HB, II, RR, (fun h => by rw [h] at c9; exact absurd c9 (by decide)), (fun h => by rw [h] at c17; exact absurd c17 (by decide)), (fun _ => (by simpa using c22))⟩
    (iterate 3 refine W_gskip hA rfl rfl rfl _ rfl (by decide) fun a hA => ?_); refine W_gval hA rfl rfl rfl _ rfl (by decide) _ _ (R_pick hA rfl rfl rfl _) (fun a hA => ?_); refine W_val hA rfl _ rfl (by decide) _ _ (R_pick hA rfl rfl rfl _) (fun a hA => ?_); refine W_nil (then_nrm ?_); show Code.wp Tryz.prog _ _ _ _; refine wp_cond_false (hA.ev (x := .tmp 83) rfl) ?_; refine wp_skip ?_; refine then_nrm ?_
    exact ⟨hA.re (sa rfl (sa rfl (sn))), HB, II, RR, (fun h => by rw [h] at c9; exact absurd c9 (by decide)), (fun h => by rw [h] at c17; exact absurd c17 (by decide)), (fun h => by rw [h] at c21; exact absurd c21 (by decide))⟩
  clear HB II RR hA
  obtain ⟨hA, HB, II, RR, h6⟩ := h
  refine wp_seq (wp_merge9 (fun a' w' => FrA [(3, .pointer (some ⟨bR, 0, none⟩)), (1, .pointer (some ⟨bI, 0, none⟩))] 120 a' ∧ Below w.heap.size w w' ∧ w'.heap[bI]? = some (.cells (rowI9 i) 23 (0, 0)) ∧ w'.heap[bR]? = some (.cells (rowR9 op k) 59 (0, 0)) ∧ (((frm k).csr = false → i.csr = 0) ∧ ((frm k).ord = false → i.aq = false ∧ i.rl = false))) ?_ (fun a w9 h => ?_))
  · skip
    refine wp_seq (wp_region_list ?_); refine W_val hA rfl _ rfl (by decide) _ _ (R_fa hA rfl rfl (fun w => fr9_3 _ w) _) (fun a hA => ?_); refine W_val hA rfl _ rfl (by decide) _ _ (R_ld hA rfl rfl ag_u8 (cell9 RR 3 rfl)) (fun a hA => ?_); refine W_callA hA (by decide) (fun _ _ => by kernel_rfl) (args2 hA rfl rfl) (has_csr k hk _) (fun w10 hw a hA => ?_); subst hw; refine W_val hA rfl _ rfl (by decide) _ _ (R_not hA rfl rfl _) (fun a hA => ?_); refine W_val hA rfl _ rfl (by decide) _ _ (R_mov hA rfl rfl _) (fun a hA => ?_); refine W_split hA 88 rfl (fun c23 hA => ?_) (fun c23 hA => ?_)
    · skip
      refine W_gval hA rfl rfl rfl _ rfl (by decide) _ _ (R_fa hA rfl rfl (fun w => fi9_5 _ w) _) (fun a hA => ?_); refine W_gval hA rfl rfl rfl _ rfl (by decide) _ _ (R_ld hA rfl rfl ag_int9 (cell9 II 5 rfl)) (fun a hA => ?_); refine W_gval hA rfl rfl rfl _ rfl (by decide) _ _ (R_neqI9 hA rfl rfl rfl _) (fun a hA => ?_); refine W_val hA rfl _ rfl (by decide) _ _ (R_pick hA rfl rfl rfl _) (fun a hA => ?_); refine W_val hA rfl _ rfl (by decide) _ _ (R_mov hA rfl rfl _) (fun a hA => ?_); refine W_split hA 93 rfl (fun c24 hA => ?_) (fun c24 hA => ?_)
      · skip
        (iterate 5 refine W_gskip hA rfl rfl rfl _ rfl (by decide) fun a hA => ?_); (iterate 6 refine gu9 hA rfl rfl rfl _ rfl (by decide) fun a hA => ?_); refine W_gskip hA rfl rfl rfl _ rfl (by decide) (fun a hA => ?_); refine W_val hA rfl _ rfl (by decide) _ _ (R_pick hA rfl rfl rfl _) (fun a hA => ?_); refine W_nil (then_nrm ?_); show Code.wp Tryz.prog _ _ _ _; refine wp_cond_true (hA.ev (x := .tmp 106) rfl) ?_; refine wp_seq (wp_region_list ?_); refine W_val hA rfl _ rfl (by decide) _ _ (R_asg hA rfl rfl _) (fun a hA => ?_); refine W_nil (then_nrm ?_); show Code.wp Tryz.prog _ _ _ _; refine wp_ret ?_; refine then_ret ?_
        exact ret_tmp (j := 2) (by kernel_rfl) hA (by decide) rfl ⟨by rw [no_q hq (fun h => by have r5 := h.ncsr (by simpa using c23); have r6 := c24; rw [r5] at r6; exact absurd r6 (by decide))], HB⟩
      refine W_gval hA rfl rfl rfl _ rfl (by decide) _ _ (R_fa hA rfl rfl (fun w => fr9_3 _ w) _) (fun a hA => ?_); refine W_gval hA rfl rfl rfl _ rfl (by decide) _ _ (R_ld hA rfl rfl ag_u8 (cell9 RR 3 rfl)) (fun a hA => ?_); refine W_gcall hA rfl rfl (by decide) (fun _ _ => by kernel_rfl) (args2 hA rfl rfl) (has_ord k hk _) (fun w11 hw a hA => ?_); subst hw; refine W_gval hA rfl rfl rfl _ rfl (by decide) _ _ (R_not hA rfl rfl _) (fun a hA => ?_); refine W_gval hA rfl rfl rfl _ rfl (by decide) _ _ (R_mov hA rfl rfl _) (fun a hA => ?_); refine W_split hA 98 rfl (fun c25 hA => ?_) (fun c25 hA => ?_)
      · skip
        refine W_gval hA rfl rfl rfl _ rfl (by decide) _ _ (R_fa hA rfl rfl (fun w => fi9_6 _ w) _) (fun a hA => ?_); refine W_gval hA rfl rfl rfl _ rfl (by decide) _ _ (R_ld hA rfl rfl ag_bool (cell9 II 6 rfl)) (fun a hA => ?_); refine W_gval hA rfl rfl rfl _ rfl (by decide) _ _ (R_mov hA rfl rfl _) (fun a hA => ?_); refine W_split hA 101 rfl (fun c26 hA => ?_) (fun c26 hA => ?_)
        · skip
          (iterate 2 refine W_gskip hA rfl rfl rfl _ rfl (by decide) fun a hA => ?_); (iterate 2 refine W_gval hA rfl rfl rfl _ rfl (by decide) _ _ (R_pick hA rfl rfl rfl _) fun a hA => ?_); refine W_val hA rfl _ rfl (by decide) _ _ (R_pick hA rfl rfl rfl _) (fun a hA => ?_); refine W_nil (then_nrm ?_); show Code.wp Tryz.prog _ _ _ _; refine wp_cond_true (hA.ev (x := .tmp 106) rfl) ?_; refine wp_seq (wp_region_list ?_); refine W_val hA rfl _ rfl (by decide) _ _ (R_asg hA rfl rfl _) (fun a hA => ?_); refine W_nil (then_nrm ?_); show Code.wp Tryz.prog _ _ _ _; refine wp_ret ?_; refine then_ret ?_
          exact ret_tmp (j := 2) (by kernel_rfl) hA (by decide) rfl ⟨by rw [no_q hq (fun h => by have r5 := (h.nord (by simpa using c25)).1; have r6 := c26; rw [r5] at r6; exact absurd r6 (by decide))], HB⟩
        refine W_gval hA rfl rfl rfl _ rfl (by decide) _ _ (R_fa hA rfl rfl (fun w => fi9_7 _ w) _) (fun a hA => ?_); refine W_gval hA rfl rfl rfl _ rfl (by decide) _ _ (R_ld hA rfl rfl ag_bool (cell9 II 7 rfl)) (fun a hA => ?_); (iterate 2 refine W_gval hA rfl rfl rfl _ rfl (by decide) _ _ (R_pick hA rfl rfl rfl _) fun a hA => ?_); refine W_val hA rfl _ rfl (by decide) _ _ (R_pick hA rfl rfl rfl _) (fun a hA => ?_); refine W_nil (then_nrm ?_); show Code.wp Tryz.prog _ _ _ _; refine wp_cond_split (hA.ev (x := .tmp 106) rfl) (fun c27 => ?_) (fun c27 => ?_)
        · skip
          refine wp_seq (wp_region_list ?_); refine W_val hA rfl _ rfl (by decide) _ _ (R_asg hA rfl rfl _) (fun a hA => ?_); refine W_nil (then_nrm ?_); show Code.wp Tryz.prog _ _ _ _; refine wp_ret ?_; refine then_ret ?_
          exact ret_tmp (j := 2) (by kernel_rfl) hA (by decide) rfl ⟨by rw [no_q hq (fun h => by have r5 := (h.nord (by simpa using c25)).2; have r6 := c27; rw [r5] at r6; exact absurd r6 (by decide))], HB⟩
        refine wp_skip ?_; refine then_nrm ?_
        exact ⟨hA.re (sa rfl (sa rfl (sn))), HB, II, RR, (fun _ => (by simpa using c24)), (fun _ => ⟨c26, c27⟩)⟩
      (iterate 3 refine W_gskip hA rfl rfl rfl _ rfl (by decide) fun a hA => ?_); (iterate 2 refine gu9 hA rfl rfl rfl _ rfl (by decide) fun a hA => ?_); refine W_gskip hA rfl rfl rfl _ rfl (by decide) (fun a hA => ?_); refine W_gval hA rfl rfl rfl _ rfl (by decide) _ _ (R_pick hA rfl rfl rfl _) (fun a hA => ?_); refine W_val hA rfl _ rfl (by decide) _ _ (R_pick hA rfl rfl rfl _) (fun a hA => ?_); refine W_nil (then_nrm ?_); show Code.wp Tryz.prog _ _ _ _; refine wp_cond_false (hA.ev (x := .tmp 106) rfl) ?_; refine wp_skip ?_; refine then_nrm ?_
      exact ⟨hA.re (sa rfl (sa rfl (sn))), HB, II, RR, (fun _ => (by simpa using c24)), (fun h => by rw [h] at c25; exact absurd c25 (by decide))⟩
    (iterate 3 refine W_gskip hA rfl rfl rfl _ rfl (by decide) fun a hA => ?_); refine W_val hA rfl _ rfl (by decide) _ _ (R_pick hA rfl rfl rfl _) (fun a hA => ?_); refine W_val hA rfl _ rfl (by decide) _ _ (R_mov hA rfl rfl _) (fun a hA => ?_); refine W_gval hA rfl rfl rfl _ rfl (by decide) _ _ (R_fa hA rfl rfl (fun w => fr9_3 _ w) _) (fun a hA => ?_); refine W_gval hA rfl rfl rfl _ rfl (by decide) _ _ (R_ld hA rfl rfl ag_u8 (cell9 RR 3 rfl)) (fun a hA => ?_); refine W_gcall hA rfl rfl (by decide) (fun _ _ => by kernel_rfl) (args2 hA rfl rfl) (has_ord k hk _) (fun w12 hw a hA => ?_); subst hw; refine W_gval hA rfl rfl rfl _ rfl (by decide) _ _ (R_not hA rfl rfl _) (fun a hA => ?_); refine W_gval hA rfl rfl rfl _ rfl (by decide) _ _ (R_mov hA rfl rfl _) (fun a hA => ?_); refine W_split hA 98 rfl (fun c28 hA => ?_) (fun c28 hA => ?_)
    · skip
      refine W_gval hA rfl rfl rfl _ rfl (by decide) _ _ (R_fa hA rfl rfl (fun w => fi9_6 _ w) _) (fun a hA => ?_); refine W_gval hA rfl rfl rfl _ rfl (by decide) _ _ (R_ld hA rfl rfl ag_bool (cell9 II 6 rfl)) (fun a hA => ?_); refine W_gval hA rfl rfl rfl _ rfl (by decide) _ _ (R_mov hA rfl rfl _) (fun a hA => ?_); refine W_split hA 101 rfl (fun c29 hA => ?_) (fun c29 hA => ?_)
      · skip
        (iterate 2 refine W_gskip hA rfl rfl rfl _ rfl (by decide) fun a hA => ?_); (iterate 2 refine W_gval hA rfl rfl rfl _ rfl (by decide) _ _ (R_pick hA rfl rfl rfl _) fun a hA => ?_); refine W_val hA rfl _ rfl (by decide) _ _ (R_pick hA rfl rfl rfl _) (fun a hA => ?_); refine W_nil (then_nrm ?_); show Code.wp Tryz.prog _ _ _ _; refine wp_cond_true (hA.ev (x := .tmp 106) rfl) ?_; refine wp_seq (wp_region_list ?_); refine W_val hA rfl _ rfl (by decide) _ _ (R_asg hA rfl rfl _) (fun a hA => ?_); refine W_nil (then_nrm ?_); show Code.wp Tryz.prog _ _ _ _; refine wp_ret ?_; refine then_ret ?_
        exact ret_tmp (j := 2) (by kernel_rfl) hA (by decide) rfl ⟨by rw [no_q hq (fun h => by have r5 := (h.nord (by simpa using c28)).1; have r6 := c29; rw [r5] at r6; exact absurd r6 (by decide))], HB⟩
      refine W_gval hA rfl rfl rfl _ rfl (by decide) _ _ (R_fa hA rfl rfl (fun w => fi9_7 _ w) _) (fun a hA => ?_); refine W_gval hA rfl rfl rfl _ rfl (by decide) _ _ (R_ld hA rfl rfl ag_bool (cell9 II 7 rfl)) (fun a hA => ?_); (iterate 2 refine W_gval hA rfl rfl rfl _ rfl (by decide) _ _ (R_pick hA rfl rfl rfl _) fun a hA => ?_); refine W_val hA rfl _ rfl (by decide) _ _ (R_pick hA rfl rfl rfl _) (fun a hA => ?_); refine W_nil (then_nrm ?_); show Code.wp Tryz.prog _ _ _ _; refine wp_cond_split (hA.ev (x := .tmp 106) rfl) (fun c30 => ?_) (fun c30 => ?_)
      · skip
        refine wp_seq (wp_region_list ?_); refine W_val hA rfl _ rfl (by decide) _ _ (R_asg hA rfl rfl _) (fun a hA => ?_); refine W_nil (then_nrm ?_); show Code.wp Tryz.prog _ _ _ _; refine wp_ret ?_; refine then_ret ?_
        exact ret_tmp (j := 2) (by kernel_rfl) hA (by decide) rfl ⟨by rw [no_q hq (fun h => by have r5 := (h.nord (by simpa using c28)).2; have r6 := c30; rw [r5] at r6; exact absurd r6 (by decide))], HB⟩
      refine wp_skip ?_; refine then_nrm ?_
      exact ⟨hA.re (sa rfl (sa rfl (sn))), HB, II, RR, (fun h => by rw [h] at c23; exact absurd c23 (by decide)), (fun _ => ⟨c29, c30⟩)⟩
    (iterate 3 refine W_gskip hA rfl rfl rfl _ rfl (by decide) fun a hA => ?_); (iterate 2 refine gu9 hA rfl rfl rfl _ rfl (by decide) fun a hA => ?_); refine W_gskip hA rfl rfl rfl _ rfl (by decide) (fun a hA => ?_); refine W_gval hA rfl rfl rfl _ rfl (by decide) _ _ (R_pick hA rfl rfl rfl _) (fun a hA => ?_); refine W_val hA rfl _ rfl (by decide) _ _ (R_pick hA rfl rfl rfl _) (fun a hA => ?_); refine W_nil (then_nrm ?_); show Code.wp Tryz.prog _ _ _ _; refine wp_cond_false (hA.ev (x := .tmp 106) rfl) ?_; refine wp_skip ?_; refine then_nrm ?_
    exact ⟨hA.re (sa rfl (sa rfl (sn))), HB, II, RR, (fun h => by rw [h] at c23; exact absurd c23 (by decide)), (fun h => by rw [h] at c28; exact absurd c28 (by decide))⟩
  clear HB II RR hA
  obtain ⟨hA, HB, II, RR, h8⟩ := h
  refine wp_seq ?_; refine wp_seq (wp_region_list ?_); refine W_val hA rfl _ rfl (by decide) _ _ (R_fa hA rfl rfl (fun w => fr9_3 _ w) _) (fun a hA => ?_); refine W_val hA rfl _ rfl (by decide) _ _ (R_ld hA rfl rfl ag_u8 (cell9 RR 3 rfl)) (fun a hA => ?_); refine W_callA hA (by decide) (fun _ _ => by kernel_rfl) (args1 hA rfl) (refForm_any k hk _) (fun w13 hw a hA => ?_); subst hw; refine W_val hA rfl _ rfl (by decide) _ _ (R_eqlI9 hA rfl rfl rfl _) (fun a hA => ?_); refine W_nil (then_nrm ?_); show Code.wp Tryz.prog _ _ _ _; refine wp_cond_split (hA.ev (x := .tmp 110) rfl) (fun c31 => ?_) (fun c31 => ?_)
  · skip
    refine wp_seq (wp_region_list ?_); refine W_val hA rfl _ rfl (by decide) _ _ (R_fa hA rfl rfl (fun w => fi9_4 _ w) _) (fun a hA => ?_); refine W_val hA rfl _ rfl (by decide) _ _ (R_ld hA rfl rfl ag_j9 (cell9 II 4 rfl)) (fun a hA => ?_); refine W_val hA rfl _ rfl (by decide) _ _ (R_eqlJ9 hA rfl rfl rfl _) (fun a hA => ?_); refine W_val hA rfl _ rfl (by decide) _ _ (R_asg hA rfl rfl _) (fun a hA => ?_); refine W_nil (then_nrm ?_); show Code.wp Tryz.prog _ _ _ _; refine wp_ret ?_; refine then_ret ?_
    exact ret_tmp (j := 2) (by kernel_rfl) hA (by decide) rfl ⟨by rw [q_end0 hq hin h6 h8 (by simpa using c31)], HB⟩
  have him : 1 ≤ (frm k).imm := by have r5 : ¬ (frm k).imm = 0 := fun h => by rw [h] at c31; exact absurd c31 (by decide)
                                   omega
  refine wp_skip ?_; refine then_nrm ?_; show Code.wp Tryz.prog _ _ _ _; refine wp_seq ?_; refine wp_region_held_drew (S := fun wx => Below w9.heap.size w9 wx) (by kernel_rfl) ((Below.refl _ _).drew) (fun hS => ?_); refine takeF (i := 0) hA 114 rfl rfl (by decide) rfl (by kernel_rfl) (by kernel_rfl) (by kernel_rfl) (fun _ _ _ h => h) hS (fun wx hx => R_fa hA rfl rfl (fun w => fr9_3 _ w) _) (fun a hA => ?_); refine takeF (i := 1) hA 115 rfl rfl (by decide) rfl (by kernel_rfl) (by kernel_rfl) (by kernel_rfl) (fun _ _ _ h => h) hS (fun wx hx => R_ld hA rfl rfl ag_u8 (cell9 ((hx.block _ (Array.getElem?_eq_some_iff.1 RR).1).trans RR) 3 rfl)) (fun a hA => ?_); refine takeF (i := 3) hA 117 rfl rfl (by decide) rfl (by kernel_rfl) (by kernel_rfl) (by kernel_rfl) (fun _ _ _ h => h) hS (fun wx hx => R_fa hA rfl rfl (fun w => fi9_4 _ w) _) (fun a hA => ?_); refine takeF (i := 4) hA 118 rfl rfl (by decide) rfl (by kernel_rfl) (by kernel_rfl) (by kernel_rfl) (fun _ _ _ h => h) hS (fun wx hx => R_ld hA rfl rfl ag_j9 (cell9 ((hx.block _ (Array.getElem?_eq_some_iff.1 II).1).trans II) 4 rfl)) (fun a hA => ?_); refine wpAnyH_ready (rs := [2]) (by kernel_rfl) (by simp) (ready_callS (i := 2) hA (by decide) rfl (fun _ _ => by kernel_rfl) (args1 hA rfl) (refForm_any k hk _) (fun _ h => h ▸ hS) (fun w14 hw a hA => ?_) AllReadyH.nil); subst hw; refine wpAnyH_ready (rs := [5]) (by kernel_rfl) (by simp) (ready_callS (i := 5) hA (by decide) rfl (fun _ _ => by kernel_rfl) (args2 hA rfl rfl) (refFits_form (frm k).imm ⟨him, (form9 k hk)⟩ i.imm _) (fun _ h => hS.trans (h.mono hS.size)) (fun w15 hw a hA => ?_) AllReadyH.nil); replace hS := hS.trans (hw.mono hS.size); clear hw; refine takeF (i := 6) hA 2 rfl rfl (by decide) rfl (by kernel_rfl) (by kernel_rfl) (by kernel_rfl) (fun _ _ _ h => h) hS (fun wx hx => R_asg hA rfl rfl _) (fun a hA => ?_); refine wpAnyH_done (by kernel_rfl) ?_ _; replace HB := HB.trans (hS.mono HB.size); clear hS; refine then_nrm ?_; show Code.wp Tryz.prog _ _ _ _; refine wp_ret ?_
  exact ret_tmp (j := 2) (by kernel_rfl) hA (by decide) rfl ⟨by rw [q_end hq hin h6 h8], HB⟩
theorem refRight_any (op : Nat) (h1 : 1 ≤ op) (h2 : op ≤ 113) (i : Ins) (hop : i.op = op) (q : Bool) (hq : q = true ↔ Right (fT op) i) (w : World) :
    Calls Tryz.prog 30 #[.agg #[.int .i64 i.op, .int .i64 i.rd, .int .i64 i.a, .int .i64 i.b, .int .i64 i.imm, .int .i64 i.csr, .bool i.aq, .bool i.rl]] w fun e w' => e = .returned (.bool q) ∧ Below w.heap.size w w' :=
  right_walk op (frmT op) (tab_form op (by omega) h1) h1 h2 i hop q hq (fun w => by rw [hop]; exact refRow_any op h1 h2 w) w
end Go.Proofs.YtakdhdaoklcidaaGreatDoor

namespace Go.Proofs.YtakdhdaoklcidaaGreatDoor
open Go.RowKit Go.Lib
set_option linter.unusedVariables false
set_option maxRecDepth 100000
theorem bcat2 (a b : Bs) : ((⟨a.toArray⟩ : ByteArray) ++ ⟨b.toArray⟩) = ⟨(a ++ b).toArray⟩ := by
  have e := str_cat a b
  injection e
theorem refRightB (i : Ins) (w : World) : Calls Tryz.prog 30 #[insV i] w fun e w' => e = .returned (.bool (rightB i)) ∧ Below w.heap.size w w' := by
  by_cases c : 1 ≤ i.op ∧ i.op ≤ 113
  · have e : i.op = (i.op.toNat : Int) := by omega
    refine refRight_any i.op.toNat (by omega) (by omega) i e (rightB i) ⟨fun h => (rightT_of h).2.2.2, fun h => (rightB_of ⟨by omega, by omega, e, h⟩).1⟩ w
  · have h : rightB i = false := by
      cases h : rightB i
      · rfl
      · obtain ⟨h1, h2, h3, _⟩ := rightT_of h
        omega
    rw [h]; exact right_op i c w
theorem tail_snoc (s : Bs) (os : List Bs) (o : Bs) : tailT s (os ++ [o]) = tailT s os ++ (if os = [] then s else sepC) ++ o := by
  induction os generalizing s with
  | nil => simp [tailT]
  | cons p os ih =>
    show s ++ p ++ tailT sepC (os ++ [o]) = s ++ p ++ tailT sepC os ++ (if p :: os = [] then s else sepC) ++ o
    rw [ih, if_neg (by simp : ¬ p :: os = [])]
    have e : (if os = [] then sepC else sepC) = sepC := by split <;> rfl
    rw [e]; simp
theorem line_snoc (n : Bs) (os : List Bs) (o : Bs) : lineT n (os ++ [o]) = lineT n os ++ ((if os = [] then [32] else sepC) ++ o) := by unfold lineT; rw [tail_snoc]; simp
theorem sum_ops {os : List Bs} (h : ∀ o ∈ os, o.length ≤ 30) : (os.map fun o => o.length + 2).sum ≤ 32 * os.length := by
  induction os with
  | nil => simp
  | cons o os ih =>
    have h1 := h o List.mem_cons_self
    have h2 := ih (fun x hx => h x (List.mem_cons_of_mem _ hx))
    simp only [List.map_cons, List.sum_cons, List.length_cons]
    omega
theorem letters_ok : ∀ f, f < 15 → (lettersT f).length ≤ 3 ∧ ∀ c ∈ lettersT f, c = 114 ∨ c = 97 ∨ c = 98 ∨ c = 105 ∨ c = 99 := by decide +kernel
set_option maxHeartbeats 1000000 in
theorem rprint_no (i : Ins) (hr : rightB i = false) (w : World) : Calls Tryz.prog 11 #[insV i] w fun e w' => e = .returned (.tuple #[str [], .int .i64 80]) ∧ Below w.heap.size w w' := by
  have hR := fun w => refRightB i w
  rw [hr] at hR
  have HR := Lib.hid hR
  clear hR hr
  obtain ⟨op, rd, a, b, imm, csr, aq, rl⟩ := i
  go_enter Tryz.func11, Tryz.ntmps11
  go_wp2_with (go_at_call 30; (with_reducible refine (HR.out _).mono ?_); rintro e1 w1 ⟨rfl, hb1⟩; have HB := Lib.hid (((Below.refl _ _).alloc (Nat.le_refl _) (.cells #[.int .i64 op, .int .i64 rd, .int .i64 a, .int .i64 b, .int .i64 imm, .int .i64 csr, .bool aq, .bool rl] 23)).trans (hb1.mono (by simp))); clear hb1)
  go_ret2
  exact ⟨rfl, HB.out⟩
theorem frm_lt : ∀ k, k < 114 → 1 ≤ k → frmT k < 15 := by decide +kernel
theorem op_short {i : Ins} (hr : rightB i = true) (c : UInt8) : (opOf i c).length ≤ 30 := by
  obtain ⟨h1, h2, h3, h4⟩ := rightT_of hr
  have hf := (fT_ok h1 (by omega)).imm
  have hI := (right_imm hf h4).1
  have p1 := h4.rd; have p2 := h4.a; have p3 := h4.b; have p4 := h4.csr
  have l1 := itoa_length_le i.rd (by omega) (by omega)
  have l2 := itoa_length_le i.a (by omega) (by omega)
  have l3 := itoa_length_le i.b (by omega) (by omega)
  have l4 := itoa_length_le i.imm (by omega) (by omega)
  have l5 := itoa_length_le i.csr (by omega) (by omega)
  unfold opOf
  split
  · simp [xr]; omega
  · split
    · simp [xr]; omega
    · split
      · simp [xr]; omega
      · split <;> omega
end Go.Proofs.YtakdhdaoklcidaaGreatDoor

namespace Go.Proofs.YtakdhdaoklcidaaGreatDoor
open Go.RowKit Go.Lib
set_option linter.unusedVariables false
set_option maxRecDepth 100000
inductive DL
  | empty
  | mark (l : Bs)
  | one (i : Ins)
  | many (rd n : Int)
  | far (rd : Int) (l : Bs)
  | aim (i : Ins) (l : Bs)
  | raw (x : Int)
  | bad
def splA (s : Bs) : Bs := (cut (cut s [32]).2.1 [44, 32]).1
def splB (s : Bs) : Bs := (cut (cut s [32]).2.1 [44, 32]).2.1
def splQ (s : Bs) : Bool := (cut (cut s [32]).2.1 [44, 32]).2.2
def laN : Bs := [108, 97]
def liB (s : Bs) : Bool := ((cut s [32]).1 == liT) && (splQ s && ((regD (splA s)).2 && (numZD (splB s)).2))
def laZ (s : Bs) : Bool := ((cut s [32]).1 == laN) && (splQ s && (((splB s).head? == some 64) && (nameOK (splB s).tail && (regD (splA s)).2)))
def rawB (s : Bs) : Bool := ((cut s [32]).1 == wordT) && ((numZD (cut s [32]).2.1).2 && (decide (0 ≤ (numZD (cut s [32]).2.1).1) && decide ((numZD (cut s [32]).2.1).1 < 4294967296)))
def formJB (op : Int) : Bool := letK op.toNat == 74 || letK op.toNat == 66
def aimB (s : Bs) : Bool := !((guessR s).2 == []) && (nameOK (guessR s).2 && (formJB (guessR s).1.op && (rightB (guessR s).1 && ((printT (guessR s).1).dropLast ++ [64] ++ (guessR s).2 == s))))
def saidD (s : Bs) : DL :=
  if s = [] then .empty
  else if (s.getLast? == some 58 && nameOK s.dropLast) = true then .mark s.dropLast
  else if liB s = true then .many (regD (splA s)).1 (numZD (splB s)).1
  else if laZ s = true then .far (regD (splA s)).1 (splB s).tail
  else if rawB s = true then .raw (numZD (cut s [32]).2.1).1
  else if parseB s = true then .one (parseI s)
  else if aimB s = true then .aim (guessR s).1 (guessR s).2
  else .bad
def stmD : DL → Option Stm
  | .empty => some .none
  | .mark l => some (.label l)
  | .one i => some (.words [encW i])
  | .many rd n => some (.words ((liF rd 4 n).map encW))
  | .far rd l => some (.la rd l)
  | .aim i l => some (.jump i l)
  | .raw x => some (.words [x])
  | .bad => none
theorem wrap_InI (x : Int) : InI (wrap64 x) := by unfold InI wrap64; omega
theorem num_true {b : Bs} (h : (numZD b).2 = true) : b = itoa (numZD b).1 ∧ InI (numZD b).1 := by
  by_cases c : bodyR b = [] ∨ 19 < (bodyR b).length ∨ (bodyR b).all digZ = false
  · have e : numZD b = (0, false) := by unfold numZD; rw [if_pos c]
    rw [e] at h; cases h
  · obtain ⟨m, hm, hi⟩ : ∃ m, numZD b = (m, itoa m == b) ∧ InI m := by
      unfold numZD; rw [if_neg c]
      refine ⟨_, rfl, ?_⟩
      split <;> exact wrap_InI _
    rw [hm] at h ⊢
    exact ⟨(eq_of_beq h).symm, hi⟩
theorem num_back {n : Int} (h : InI n) : numZD (itoa n) = (n, true) := by
  have h1 := num_itoa n h.1 h.2
  by_cases c : bodyR (itoa n) = [] ∨ 19 < (bodyR (itoa n)).length ∨ (bodyR (itoa n)).all digZ = false
  · have e : numZD (itoa n) = (0, false) := by unfold numZD; rw [if_pos c]
    rw [e] at h1
    have h0 : n = 0 := h1.symm
    subst h0
    have : numZD (itoa 0) = (0, true) := by decide +kernel
    rw [this] at e; cases e
  · obtain ⟨m, hm⟩ : ∃ m, numZD (itoa n) = (m, itoa m == itoa n) := by
      unfold numZD; rw [if_neg c]; exact ⟨_, rfl⟩
    rw [hm] at h1 ⊢
    have e : m = n := h1
    subst e; simp
theorem in_31 {n : Int} (h : 0 ≤ n ∧ n ≤ 31) : InI n := by unfold InI; omega
theorem reg_true {a : Bs} (h : (regD a).2 = true) : a = xr (regD a).1 ∧ 0 ≤ (regD a).1 ∧ (regD a).1 ≤ 31 := by
  unfold regD at h ⊢
  by_cases c : a.head? = some 120
  · rw [if_pos c] at h ⊢
    simp only [Bool.and_eq_true, decide_eq_true_eq] at h
    obtain ⟨h1, h2, h3⟩ := h
    obtain ⟨e, _⟩ := num_true h1
    refine ⟨?_, h2, h3⟩
    cases a with
    | nil => cases c
    | cons x t =>
      simp only [List.head?_cons, Option.some.injEq] at c
      subst c
      simp only [List.tail_cons] at e ⊢
      unfold xr
      rw [← e]
  · rw [if_neg c] at h; cases h
theorem reg_back {rd : Int} (h : 0 ≤ rd ∧ rd ≤ 31) : regD (xr rd) = (rd, true) := by
  unfold regD xr
  rw [if_pos (show (120 :: itoa rd : Bs).head? = some 120 from rfl)]
  simp only [List.tail_cons, num_back (in_31 h), decide_eq_true h.1, decide_eq_true h.2, Bool.and_self]
theorem num_at (l : Bs) : numZD (64 :: l) = (0, false) := by
  have hb : bodyR (64 :: l) = 64 :: l := by unfold bodyR; rw [if_neg (by simp)]
  unfold numZD
  rw [hb, if_pos]
  right; right
  rw [List.all_cons, show digZ 64 = false from rfl, Bool.false_and]
theorem name_okB {l : Bs} (h : nameOK l = true) : (∀ b ∈ l, okB b = true) ∧ l ≠ [] := by
  unfold nameOK at h
  simp only [Bool.and_eq_true, decide_eq_true_eq] at h
  obtain ⟨⟨⟨h1, h2⟩, h3⟩, h4⟩ := h
  exact ⟨fun b hb => List.all_eq_true.1 h4 b hb, fun e => by rw [e] at h1; simp at h1⟩
theorem label_no {l : Bs} (h : nameOK l = true) {c : UInt8} (hc : okB c = false) : c ∉ l := fun hm => by
  rw [(name_okB h).1 c hm] at hc; cases hc
theorem print_nol {i : Ins} (hr : rightB i = true) {c : UInt8} (hc : inLine c = false) : c ∉ printT i := fun hm => by
  obtain ⟨h1, h2, _, _⟩ := rightT_of hr
  rw [printT_inLine (i := i) (by omega) c hm] at hc; cases hc
theorem xr_44 (n : Int) : (44 : UInt8) ∉ xr n := xr_no (by decide) (by decide)
theorem itoa_44 (n : Int) : (44 : UInt8) ∉ itoa n := num_no (by decide)
theorem line_no {nm : Bs} {os : List Bs} {c : UInt8} (hn : c ∉ nm) (ho : ∀ o ∈ os, c ∉ o) (h1 : c ≠ 32) (h2 : c ≠ 44) : c ∉ lineT nm os := by
  have ht : ∀ (os : List Bs) (sep : Bs), c ∉ sep → (∀ o ∈ os, c ∉ o) → c ∉ tailT sep os := by
    intro os
    induction os with
    | nil => intro sep _ _ hm; cases hm
    | cons o os ih =>
      intro sep hs ho hm
      unfold tailT at hm
      rcases List.mem_append.1 hm with hm | hm
      · rcases List.mem_append.1 hm with hm | hm
        · exact hs hm
        · exact ho o List.mem_cons_self hm
      · exact ih sepC (by unfold sepC; simp [h1, h2]) (fun p hp => ho p (List.mem_cons_of_mem _ hp)) hm
  unfold lineT
  intro hm
  rcases List.mem_append.1 hm with hm | hm
  · exact hn hm
  · exact ht os [32] (by simp [h1]) ho hm
theorem cut_lab {p m : Bs} (h : (64 : UInt8) ∉ p) : cut (p ++ [44, 32, 64] ++ m) [44, 32, 64] = (p, m, true) := by
  have hi : index (p ++ [44, 32, 64] ++ m) [44, 32, 64] = p.length := by
    refine index_first (by simp) ?_ ?_
    · unfold occAt
      rw [List.append_assoc, List.drop_left]
      exact List.isPrefixOf_iff_prefix.2 (List.prefix_append _ _)
    · intro j hj
      cases e : occAt (p ++ [44, 32, 64] ++ m) [44, 32, 64] j
      · rfl
      · exfalso
        obtain ⟨r, hr⟩ := List.isPrefixOf_iff_prefix.1 (show ([44, 32, 64] : Bs).isPrefixOf ((p ++ [44, 32, 64] ++ m).drop j) = true by unfold occAt at e; exact e)
        have h2 : (p ++ [44, 32, 64] ++ m)[j + 2]? = some 64 := by
          rw [← List.getElem?_drop, ← hr]; rfl
        rw [List.append_assoc] at h2
        by_cases c1 : j + 2 < p.length
        · rw [List.getElem?_append_left c1] at h2
          exact h (List.mem_of_getElem? h2)
        · rw [List.getElem?_append_right (by omega)] at h2
          rcases (show j + 2 - p.length = 0 ∨ j + 2 - p.length = 1 by omega) with c | c
          · rw [c] at h2; simp at h2
          · rw [c] at h2; simp at h2
  unfold cut
  rw [hi, if_pos (by omega)]
  simp
theorem two_ops {nm a b : Bs} (hn : (32 : UInt8) ∉ nm) (ha : (44 : UInt8) ∉ a) : (cut (lineT nm [a, b]) [32]).1 = nm ∧ splA (lineT nm [a, b]) = a ∧ splB (lineT nm [a, b]) = b ∧ splQ (lineT nm [a, b]) = true := by
  have h := cut_name hn [a, b]
  have e : remT [a, b] = a ++ [44, 32] ++ b := by simp [remT, tailT, sepC]
  have h2 := cut_hit (sep := [44, 32]) (r := b) (c := 44) (t := [32]) rfl ha
  unfold splA splB splQ
  rw [h.2, e, h2]
  exact ⟨h.1, rfl, rfl, rfl⟩
theorem cut_nil_c : cut [] [44, 32] = ([], [], false) := by decide
theorem parts2 {s : Bs} (h : splQ s = true) : s = lineT (cut s [32]).1 [splA s, splB s] := by
  have h1 : (cut s [32]).2.2 = true := by
    cases c : (cut s [32]).2.2
    · have := (cut_not s [32] c).2
      unfold splQ at h
      rw [this, cut_nil_c] at h; cases h
    · rfl
  have e1 := cut_parts s [32] h1
  have e2 := cut_parts (cut s [32]).2.1 [44, 32] h
  have e3 : (cut s [32]).2.1 = splA s ++ [44, 32] ++ splB s := e2
  have e4 : lineT (cut s [32]).1 [splA s, splB s] = (cut s [32]).1 ++ [32] ++ (splA s ++ [44, 32] ++ splB s) := by simp [lineT, tailT, sepC]
  rw [e4, ← e3]
  exact e1
theorem and5 {a b c d : Bool} (h : (a && (b && (c && d))) = true) : a = true ∧ b = true ∧ c = true ∧ d = true := by
  simp only [Bool.and_eq_true] at h; exact ⟨h.1, h.2.1, h.2.2.1, h.2.2.2⟩
theorem li_line {s : Bs} (h : liB s = true) : s = lineT liT [xr (regD (splA s)).1, itoa (numZD (splB s)).1] ∧ (0 ≤ (regD (splA s)).1 ∧ (regD (splA s)).1 ≤ 31) ∧ InI (numZD (splB s)).1 := by
  obtain ⟨h1, h2, h3, h4⟩ := and5 h
  have e := parts2 h2
  have ha := reg_true h3
  have hb := num_true h4
  rw [eq_of_beq h1] at e
  refine ⟨?_, ha.2, hb.2⟩
  rw [← ha.1, ← hb.1]; exact e
theorem li_back {rd n : Int} (hr : 0 ≤ rd ∧ rd ≤ 31) (hn : InI n) : liB (lineT liT [xr rd, itoa n]) = true ∧ (regD (splA (lineT liT [xr rd, itoa n]))).1 = rd ∧ (numZD (splB (lineT liT [xr rd, itoa n]))).1 = n := by
  obtain ⟨h1, h2, h3, h4⟩ := two_ops (nm := liT) (a := xr rd) (b := itoa n) (by decide) (xr_44 rd)
  unfold liB
  rw [h1, h2, h3, h4, reg_back hr, num_back hn]
  exact ⟨rfl, rfl, rfl⟩
theorem la_line {s : Bs} (h : laZ s = true) : s = lineT laN [xr (regD (splA s)).1, 64 :: (splB s).tail] ∧ (0 ≤ (regD (splA s)).1 ∧ (regD (splA s)).1 ≤ 31) ∧ nameOK (splB s).tail = true := by
  unfold laZ at h
  simp only [Bool.and_eq_true, beq_iff_eq] at h
  obtain ⟨h1, h2, h3, h4, h5⟩ := h
  have e := parts2 h2
  have ha := reg_true h5
  rw [h1] at e
  refine ⟨?_, ha.2, h4⟩
  have hb : splB s = 64 :: (splB s).tail := by
    cases c : splB s with
    | nil => rw [c] at h3; cases h3
    | cons x t => rw [c] at h3; simp only [List.head?_cons, Option.some.injEq] at h3; rw [h3]; rfl
  rw [← hb, ← ha.1]; exact e
theorem la_back {rd : Int} {m : Bs} (hr : 0 ≤ rd ∧ rd ≤ 31) (hm : nameOK m = true) : laZ (lineT laN [xr rd, 64 :: m]) = true ∧ (regD (splA (lineT laN [xr rd, 64 :: m]))).1 = rd ∧ (splB (lineT laN [xr rd, 64 :: m])).tail = m := by
  obtain ⟨h1, h2, h3, h4⟩ := two_ops (nm := laN) (a := xr rd) (b := 64 :: m) (by decide) (xr_44 rd)
  unfold laZ
  rw [h1, h2, h3, h4, reg_back hr]
  refine ⟨?_, rfl, rfl⟩
  simp [hm]
theorem raw_line {s : Bs} (h : rawB s = true) : s = lineT wordT [itoa (numZD (cut s [32]).2.1).1] ∧ 0 ≤ (numZD (cut s [32]).2.1).1 ∧ (numZD (cut s [32]).2.1).1 < 4294967296 := by
  obtain ⟨h1, h2, h3, h4⟩ := and5 h
  have hb := num_true h2
  have hq : (cut s [32]).2.2 = true := by
    cases c : (cut s [32]).2.2
    · have := (cut_not s [32] c).2
      rw [this] at hb
      exact absurd hb.1.symm (itoa_ne _)
    · rfl
  have e1 := cut_parts s [32] hq
  rw [eq_of_beq h1] at e1
  refine ⟨?_, of_decide_eq_true h3, of_decide_eq_true h4⟩
  rw [show lineT wordT [itoa (numZD (cut s [32]).2.1).1] = wordT ++ [32] ++ itoa (numZD (cut s [32]).2.1).1 by simp [lineT, tailT], ← hb.1]
  exact e1
theorem raw_back {n : Int} (hn : 0 ≤ n ∧ n < 4294967296) : rawB (lineT wordT [itoa n]) = true ∧ (numZD (cut (lineT wordT [itoa n]) [32]).2.1).1 = n := by
  have h := cut_name (name := wordT) (by decide) [itoa n]
  have e : remT [itoa n] = itoa n := by simp [remT, tailT]
  have hI : InI n := by unfold InI; omega
  unfold rawB
  rw [h.1, h.2, e, num_back hI]
  refine ⟨?_, rfl⟩
  simp [hn.1, hn.2]
end Go.Proofs.YtakdhdaoklcidaaGreatDoor

namespace Go.Proofs.YtakdhdaoklcidaaGreatDoor
open Go.RowKit Go.Lib
set_option linter.unusedVariables false
set_option maxRecDepth 100000
theorem jump_frm : ∀ k : Nat, k < 114 → 1 ≤ k → (jumpsZ (k : Int) = formJB (k : Int)) ∧ (jumpsZ (k : Int) = true → frmT k = 1 ∨ frmT k = 3) := by decide +kernel
def ops0 (i : Ins) : List Bs := if frmT i.op.toNat = 1 then [xr i.rd] else [xr i.a, xr i.b]
theorem ops0_ne (i : Ins) : ¬ ops0 i = [] := by unfold ops0; split <;> simp
theorem print_jump {i : Ins} (hf : frmT i.op.toNat = 1 ∨ frmT i.op.toNat = 3) : printT i = lineT (nmT i) (ops0 i ++ [itoa i.imm]) := by
  unfold printT fT ops0
  rcases hf with h | h
  · rw [h, if_pos rfl]; rfl
  · rw [h, if_neg (by decide)]; rfl
theorem head_is {i : Ins} (hr : rightB i = true) : headR (nmT i) = ⟨i.op, 0, 0, 0, 0, 0, i.aq, i.rl⟩ := by
  obtain ⟨h1, h2, h3, h4⟩ := rightT_of hr
  have hh := head_name i.op.toNat (by omega) h1 i.aq i.rl
  simp only [Bool.and_eq_true, beq_iff_eq] at hh
  obtain ⟨⟨⟨⟨⟨⟨⟨e1, e2⟩, e3⟩, e4⟩, e5⟩, e6⟩, e7⟩, e8⟩ := hh
  exact ins_ext (by rw [h3]; exact e1) e2 e3 e4 e5 e6 e7 e8
def labQ (q : Bs) : Bs := if q.head? = some 64 then q.tail else []
theorem one_r (n : Int) (h : 0 ≤ n ∧ n ≤ 31) {c : UInt8} (hc : c = 114 ∨ c = 97 ∨ c = 98) : oneN c (xr n) = n := by
  unfold oneN
  rw [if_pos ⟨rfl, hc⟩]
  have := in_31 h
  exact num_itoa n this.1 this.2
theorem one_i (q : Bs) : oneN 105 q = (numZD q).1 := by
  unfold oneN
  rw [if_neg (fun k => absurd k.2 (by decide))]
theorem put_ri (q : Bs) : putB 105 q [] = labQ q := by
  unfold putB labQ
  by_cases h : q.head? = some 64
  · rw [if_pos ⟨rfl, h⟩, if_pos h]
  · rw [if_neg (fun k => h k.2), if_neg h]
theorem guess_jump {i : Ins} (hr : rightB i = true) (hf : frmT i.op.toNat = 1 ∨ frmT i.op.toNat = 3) {q : Bs} (hq : (44 : UInt8) ∉ q) : guessR (lineT (nmT i) (ops0 i ++ [q])) = (withImm i (numZD q).1, labQ q) := by
  obtain ⟨h1, h2, h3, h4⟩ := rightT_of hr
  have hn := cut_name (nmT_no (i := i) (c := 32) (by omega) (by decide)) (ops0 i ++ [q])
  have hL : lettersK i.op.toNat = lettersT (frmT i.op.toNat) := by unfold lettersK; rw [if_neg (by omega)]
  have hfT : fT i.op.toNat = frm (frmT i.op.toNat) := rfl
  have hlast := cut_op hq []
  unfold guessR
  rw [hn.1, hn.2, head_is hr]
  show walkL (lettersK i.op.toNat) _ _ _ = _
  rw [hL]
  rcases hf with h | h
  · have e0 : ops0 i = [xr i.rd] := by unfold ops0; rw [if_pos h]
    have c1 := cut_op (xr_44 i.rd) [q]
    rw [h] at hfT
    rw [h, e0]
    show walkL [105] (cut (remT [xr i.rd, q]) [44, 32]).2.1 (putL 114 (oneN 114 (cut (remT [xr i.rd, q]) [44, 32]).1) _) (putB 114 (cut (remT [xr i.rd, q]) [44, 32]).1 []) = _
    rw [show ([44, 32] : Bs) = sepC from rfl, c1.1, c1.2, one_r _ h4.rd (.inl rfl)]
    show (putL 105 (oneN 105 (cut (remT [q]) [44, 32]).1) _, putB 105 (cut (remT [q]) [44, 32]).1 (putB 114 (xr i.rd) [])) = _
    rw [show ([44, 32] : Bs) = sepC from rfl, hlast.1, one_i, show putB 114 (xr i.rd) [] = [] from rfl, put_ri]
    refine Prod.ext ?_ rfl
    refine ins_ext rfl rfl ?_ ?_ rfl ?_ rfl rfl
    · exact (h4.na (by rw [hfT]; rfl)).symm
    · exact (h4.nb (by rw [hfT]; rfl)).symm
    · exact (h4.ncsr (by rw [hfT]; rfl)).symm
  · have e0 : ops0 i = [xr i.a, xr i.b] := by unfold ops0; rw [if_neg (by rw [h]; decide)]
    have c1 := cut_op (xr_44 i.a) [xr i.b, q]
    have c2 := cut_op (xr_44 i.b) [q]
    rw [h] at hfT
    rw [h, e0]
    show walkL [98, 105] (cut (remT [xr i.a, xr i.b, q]) [44, 32]).2.1 (putL 97 (oneN 97 (cut (remT [xr i.a, xr i.b, q]) [44, 32]).1) _) (putB 97 (cut (remT [xr i.a, xr i.b, q]) [44, 32]).1 []) = _
    rw [show ([44, 32] : Bs) = sepC from rfl, c1.1, c1.2, one_r _ h4.a (.inr (.inl rfl))]
    show walkL [105] (cut (remT [xr i.b, q]) [44, 32]).2.1 (putL 98 (oneN 98 (cut (remT [xr i.b, q]) [44, 32]).1) _) (putB 98 (cut (remT [xr i.b, q]) [44, 32]).1 (putB 97 (xr i.a) [])) = _
    rw [show ([44, 32] : Bs) = sepC from rfl, c2.1, c2.2, one_r _ h4.b (.inr (.inr rfl))]
    show (putL 105 (oneN 105 (cut (remT [q]) [44, 32]).1) _, putB 105 (cut (remT [q]) [44, 32]).1 (putB 98 (xr i.b) (putB 97 (xr i.a) []))) = _
    rw [show ([44, 32] : Bs) = sepC from rfl, hlast.1, one_i, show putB 98 (xr i.b) (putB 97 (xr i.a) []) = [] from rfl, put_ri]
    refine Prod.ext ?_ rfl
    refine ins_ext rfl ?_ rfl rfl rfl ?_ rfl rfl
    · exact (h4.nrd (by rw [hfT]; rfl)).symm
    · exact (h4.ncsr (by rw [hfT]; rfl)).symm
theorem snoc_line (i : Ins) (q : Bs) : lineT (nmT i) (ops0 i ++ [q]) = lineT (nmT i) (ops0 i) ++ sepC ++ q := by
  rw [line_snoc, if_neg (ops0_ne i)]; simp
theorem ops0_no (i : Ins) {c : UInt8} (h : isNum c = false) (h2 : c ≠ 120) : ∀ o ∈ ops0 i, c ∉ o := by
  unfold ops0
  intro o ho
  split at ho
  · simp only [List.mem_singleton] at ho; subst ho; exact xr_no h h2
  · simp only [List.mem_cons, List.not_mem_nil, or_false] at ho
    rcases ho with rfl | rfl <;> exact xr_no h h2
theorem pre_no {i : Ins} (hr : rightB i = true) {c : UInt8} (hc : (isLow c || c == 46) = false) (h : isNum c = false) (h2 : c ≠ 120) (h3 : c ≠ 32) (h4 : c ≠ 44) : c ∉ lineT (nmT i) (ops0 i) := by
  obtain ⟨h5, h6, _, _⟩ := rightT_of hr
  exact line_no (nmT_no (by omega) hc) (ops0_no i h h2) h3 h4
theorem aim_line {s : Bs} (h : aimB s = true) : ∃ i l, guessR s = (i, l) ∧ rightB i = true ∧ jumpsZ i.op = true ∧ i.imm = 0 ∧ nameOK l = true ∧ s = lineT (nmT i) (ops0 i) ++ [44, 32, 64] ++ l := by
  unfold aimB at h
  simp only [Bool.and_eq_true, Bool.not_eq_true', beq_eq_false_iff_ne] at h
  obtain ⟨h1, h2, h3, h4, h5⟩ := h
  have h5 := eq_of_beq h5
  obtain ⟨i, l, hg⟩ : ∃ i l, guessR s = (i, l) := ⟨_, _, rfl⟩
  rw [hg] at h1 h2 h3 h4 h5
  simp only at h1 h2 h3 h4 h5
  obtain ⟨k1, k2, k3, k4⟩ := rightT_of h4
  have hj := jump_frm i.op.toNat (by omega) k1
  have hop : ((i.op.toNat : Nat) : Int) = i.op := by omega
  rw [hop] at hj
  have hjz : jumpsZ i.op = true := by rw [hj.1]; exact h3
  have hf := hj.2 hjz
  rw [print_jump hf, snoc_line] at h5
  have hne : itoa i.imm ≠ [] := itoa_ne _
  rw [List.dropLast_append_of_ne_nil hne] at h5
  obtain ⟨q, hq⟩ : ∃ q, q = (itoa i.imm).dropLast ++ 64 :: l := ⟨_, rfl⟩
  have hs : s = lineT (nmT i) (ops0 i ++ [q]) := by rw [snoc_line, ← h5, hq]; simp
  have hq44 : (44 : UInt8) ∉ q := by
    rw [hq]
    intro hm
    rcases List.mem_append.1 hm with hm | hm
    · exact itoa_44 _ ((List.dropLast_sublist _).subset hm)
    · rcases List.mem_cons.1 hm with hm | hm
      · cases hm
      · exact label_no h2 (by decide) hm
  have hG := guess_jump h4 hf hq44
  rw [← hs, hg] at hG
  have e1 : i = withImm i (numZD q).1 := congrArg Prod.fst hG
  have e2 : l = labQ q := congrArg Prod.snd hG
  have hh : q.head? = some 64 := by
    by_cases c : q.head? = some 64
    · exact c
    · unfold labQ at e2; rw [if_neg c] at e2; exact absurd e2 h1
  have hd : (itoa i.imm).dropLast = [] := by
    cases c : (itoa i.imm).dropLast with
    | nil => rfl
    | cons x t =>
      rw [hq, c] at hh
      simp only [List.cons_append, List.head?_cons, Option.some.injEq] at hh
      have := itoa_all i.imm x ((List.dropLast_sublist _).subset (by rw [c]; exact List.mem_cons_self))
      rw [hh] at this; cases this
  rw [hd, List.nil_append] at hq
  refine ⟨i, l, hg, h4, hjz, ?_, h2, ?_⟩
  · rw [hq, num_at] at e1
    rw [e1]; rfl
  · rw [← h5, hd]; simp [sepC]
theorem itoa_zero : itoa 0 = [48] := by decide +kernel
theorem aim_back {i : Ins} {l : Bs} (hr : rightB i = true) (hj : jumpsZ i.op = true) (hi : i.imm = 0) (hl : nameOK l = true) : guessR (lineT (nmT i) (ops0 i) ++ [44, 32, 64] ++ l) = (i, l) ∧ aimB (lineT (nmT i) (ops0 i) ++ [44, 32, 64] ++ l) = true := by
  obtain ⟨k1, k2, k3, k4⟩ := rightT_of hr
  have hop : ((i.op.toNat : Nat) : Int) = i.op := by omega
  have hjf := jump_frm i.op.toNat (by omega) k1
  rw [hop] at hjf
  have hf := hjf.2 hj
  have hs : lineT (nmT i) (ops0 i) ++ [44, 32, 64] ++ l = lineT (nmT i) (ops0 i ++ [64 :: l]) := by rw [snoc_line]; simp [sepC]
  have h44 : (44 : UInt8) ∉ (64 :: l : Bs) := by
    intro hm
    rcases List.mem_cons.1 hm with hm | hm
    · cases hm
    · exact label_no hl (by decide) hm
  have hG := guess_jump hr hf h44
  have e : (withImm i (numZD (64 :: l)).1, labQ (64 :: l)) = (i, l) := by
    rw [num_at]
    refine Prod.ext ?_ rfl
    refine ins_ext rfl rfl rfl rfl hi.symm rfl rfl rfl
  rw [hs, hG, e]
  refine ⟨rfl, ?_⟩
  unfold aimB
  rw [hG, e]
  have e2 : (printT i).dropLast ++ [64] ++ l = lineT (nmT i) (ops0 i ++ [64 :: l]) := by
    rw [print_jump hf, snoc_line, hi, itoa_zero, List.dropLast_append_of_ne_nil (by simp), snoc_line]
    simp [sepC]
  simp only [e2, beq_self_eq_true, hr, hl, Bool.and_true, Bool.true_and]
  rw [← hjf.1, hj]
  simp only [Bool.and_true, Bool.not_eq_true', beq_eq_false_iff_ne]
  exact (name_okB hl).2
theorem parse_print {i : Ins} (hr : rightB i = true) : parseB (printT i) = true ∧ parseI (printT i) = i := by
  have h : parseB (printT i) = true := by unfold parseB; rw [guessP_print hr, hr]; simp
  refine ⟨h, ?_⟩
  unfold parseI; rw [if_pos h, guessP_print hr]
theorem parse_is {l : Bs} (h : parseB l = true) : rightB (parseI l) = true ∧ printT (parseI l) = l := by
  have e : parseI l = guessP l := by unfold parseI; rw [if_pos h]
  unfold parseB at h
  rw [Bool.and_eq_true, beq_iff_eq] at h
  rw [e]; exact h
theorem tail_num {A h x : Bs} (hx : ∀ b ∈ x, isNum b = true) (hne : x ≠ []) (e : A ++ sepC ++ x = h ++ [44, 32, 48]) : x = [48] ∧ A = h := by
  have e1 := congrArg List.reverse e
  simp only [List.reverse_append, sepC, List.reverse_cons, List.reverse_nil, List.nil_append, List.cons_append] at e1
  have hx' : ∀ b ∈ x.reverse, isNum b = true := fun b hb => hx b (List.mem_reverse.1 hb)
  cases c : x.reverse with
  | nil => exact absurd (List.reverse_eq_nil_iff.1 c) hne
  | cons y t =>
    rw [c] at e1 hx'
    simp only [List.cons_append, List.cons.injEq] at e1
    obtain ⟨rfl, e2⟩ := e1
    cases t with
    | nil =>
      have hxe : x = [48] := by rw [← List.reverse_reverse x, c]; rfl
      simp only [List.nil_append, List.cons.injEq, true_and] at e2
      exact ⟨hxe, List.reverse_inj.1 e2⟩
    | cons z t2 =>
      simp only [List.cons_append, List.cons.injEq] at e2
      have := hx' z (by simp)
      rw [e2.1] at this; cases this
theorem jump_of {h : Bs} (hj : jumpB h = true) : ∃ i, rightB i = true ∧ jumpsZ i.op = true ∧ i.imm = 0 ∧ h = lineT (nmT i) (ops0 i) ∧ jumpI h = i := by
  unfold jumpB at hj
  rw [Bool.and_eq_true] at hj
  obtain ⟨h1, h2⟩ := hj
  have hp := parse_is h1
  obtain ⟨i, hi⟩ : ∃ i, i = jumpI h := ⟨_, rfl⟩
  have hr : rightB i = true := by rw [hi]; exact hp.1
  have hpr : printT i = h ++ [44, 32, 48] := by rw [hi]; exact hp.2
  rw [← hi] at h2
  obtain ⟨k1, k2, k3, k4⟩ := rightT_of hr
  have hop : ((i.op.toNat : Nat) : Int) = i.op := by omega
  have hjf := jump_frm i.op.toNat (by omega) k1
  rw [hop] at hjf
  have hf := hjf.2 h2
  rw [print_jump hf, snoc_line] at hpr
  obtain ⟨e1, e2⟩ := tail_num (itoa_all i.imm) (itoa_ne _) hpr
  have hI := (right_imm (fT_ok k1 (by omega)).imm k4).1
  have h0 : i.imm = 0 := itoa_inj (by omega) (by omega) (by omega) (by omega) (by rw [e1, itoa_zero])
  exact ⟨i, hr, h2, h0, e2.symm, hi.symm⟩
theorem jump_back {i : Ins} (hr : rightB i = true) (hj : jumpsZ i.op = true) (hi : i.imm = 0) : jumpB (lineT (nmT i) (ops0 i)) = true ∧ jumpI (lineT (nmT i) (ops0 i)) = i := by
  obtain ⟨k1, k2, k3, k4⟩ := rightT_of hr
  have hop : ((i.op.toNat : Nat) : Int) = i.op := by omega
  have hjf := jump_frm i.op.toNat (by omega) k1
  rw [hop] at hjf
  have e : lineT (nmT i) (ops0 i) ++ [44, 32, 48] = printT i := by
    rw [print_jump (hjf.2 hj), snoc_line, hi, itoa_zero]; simp [sepC]
  unfold jumpB jumpI
  rw [e, (parse_print hr).1, (parse_print hr).2, hj]
  exact ⟨rfl, rfl⟩
end Go.Proofs.YtakdhdaoklcidaaGreatDoor

namespace Go.Proofs.YtakdhdaoklcidaaGreatDoor
open Go.RowKit Go.Lib
set_option linter.unusedVariables false
set_option maxRecDepth 100000
theorem suffix_58 (s : Bs) : hasSuffix s [58] = (s.getLast? == some 58) := by
  rw [Bool.eq_iff_iff]
  show ([58] : Bs).isSuffixOf s = true ↔ _
  rw [List.isSuffixOf_iff_suffix, beq_iff_eq, List.getLast?_eq_some_iff]
  constructor
  · rintro ⟨t, rfl⟩; exact ⟨t, rfl⟩
  · rintro ⟨t, rfl⟩; exact ⟨t, rfl⟩
theorem trim_58 {s : Bs} (h : s.getLast? = some 58) : trimSuffix s [58] = s.dropLast := by
  unfold trimSuffix
  rw [suffix_58, h]
  simp [List.dropLast_eq_take]
theorem nm_not : ∀ k, k < 114 → nameB k ≠ liT ∧ nameB k ≠ laN ∧ nameB k ≠ wordT := by decide +kernel
theorem nmT_not {i : Ins} (hr : rightB i = true) : nmT i ≠ liT ∧ nmT i ≠ laN ∧ nmT i ≠ wordT := by
  obtain ⟨h1, h2, _, _⟩ := rightT_of hr
  have hu := unmark_name i.op.toNat (by omega) i.aq i.rl
  have hn := nm_not i.op.toNat (by omega)
  have u1 : unmark liT = (liT, false, false) := by decide
  have u2 : unmark laN = (laN, false, false) := by decide
  have u3 : unmark wordT = (wordT, false, false) := by decide
  refine ⟨fun e => ?_, fun e => ?_, fun e => ?_⟩
  · have e' : nameB i.op.toNat ++ markT i.aq i.rl = liT := e
    rw [e', u1] at hu; exact hn.1 (congrArg Prod.fst hu).symm
  · have e' : nameB i.op.toNat ++ markT i.aq i.rl = laN := e
    rw [e', u2] at hu; exact hn.2.1 (congrArg Prod.fst hu).symm
  · have e' : nameB i.op.toNat ++ markT i.aq i.rl = wordT := e
    rw [e', u3] at hu; exact hn.2.2 (congrArg Prod.fst hu).symm
theorem print_head {i : Ins} (hr : rightB i = true) : (cut (printT i) [32]).1 = nmT i := by
  obtain ⟨h1, h2, _, _⟩ := rightT_of hr
  unfold printT
  exact (cut_name (nmT_no (i := i) (c := 32) (by omega) (by decide)) _).1
theorem parse_head {s : Bs} (h : parseB s = true) : (cut s [32]).1 ≠ liT ∧ (cut s [32]).1 ≠ laN ∧ (cut s [32]).1 ≠ wordT := by
  obtain ⟨h1, h2⟩ := parse_is h
  have := print_head h1
  rw [h2] at this
  rw [this]; exact nmT_not h1
theorem li_no {s : Bs} (h : liB s = true) {c : UInt8} (hc : c = 58 ∨ c = 64) : c ∉ s := by
  rw [(li_line h).1]
  rcases hc with rfl | rfl
  · exact line_no (by decide) (fun o ho => by simp only [List.mem_cons, List.not_mem_nil, or_false] at ho; rcases ho with rfl | rfl; exact xr_no (by decide) (by decide); exact num_no (by decide)) (by decide) (by decide)
  · exact line_no (by decide) (fun o ho => by simp only [List.mem_cons, List.not_mem_nil, or_false] at ho; rcases ho with rfl | rfl; exact xr_no (by decide) (by decide); exact num_no (by decide)) (by decide) (by decide)
theorem raw_no {s : Bs} (h : rawB s = true) {c : UInt8} (hc : c = 58 ∨ c = 64) : c ∉ s := by
  rw [(raw_line h).1]
  rcases hc with rfl | rfl
  · exact line_no (by decide) (fun o ho => by simp only [List.mem_singleton] at ho; subst ho; exact num_no (by decide)) (by decide) (by decide)
  · exact line_no (by decide) (fun o ho => by simp only [List.mem_singleton] at ho; subst ho; exact num_no (by decide)) (by decide) (by decide)
theorem parse_no {s : Bs} (h : parseB s = true) {c : UInt8} (hc : c = 58 ∨ c = 64) : c ∉ s := by
  obtain ⟨h1, h2⟩ := parse_is h
  rw [← h2]
  rcases hc with rfl | rfl <;> exact print_nol h1 (by decide)
theorem la_no {s : Bs} (h : laZ s = true) : (58 : UInt8) ∉ s := by
  obtain ⟨e, _, hn⟩ := la_line h
  rw [e]
  refine line_no (by decide) (fun o ho => ?_) (by decide) (by decide)
  simp only [List.mem_cons, List.not_mem_nil, or_false] at ho
  rcases ho with rfl | rfl
  · exact xr_no (by decide) (by decide)
  · intro hm
    rcases List.mem_cons.1 hm with hm | hm
    · cases hm
    · exact label_no hn (by decide) hm
theorem aim_no {s : Bs} (h : aimB s = true) : (58 : UInt8) ∉ s := by
  obtain ⟨i, l, _, hr, _, _, hl, e⟩ := aim_line h
  rw [e]
  intro hm
  rcases List.mem_append.1 hm with hm | hm
  · rcases List.mem_append.1 hm with hm | hm
    · exact pre_no hr (by decide) (by decide) (by decide) (by decide) (by decide) hm
    · revert hm; decide
  · exact label_no hl (by decide) hm
theorem la_pre (rd : Int) (m : Bs) : lineT laN [xr rd, 64 :: m] = lineT laN [xr rd] ++ [44, 32, 64] ++ m := by simp [lineT, tailT, sepC]
theorem la_64 (rd : Int) : (64 : UInt8) ∉ lineT laN [xr rd] := line_no (by decide) (fun o ho => by simp only [List.mem_singleton] at ho; subst ho; exact xr_no (by decide) (by decide)) (by decide) (by decide)
theorem la_cut {s : Bs} (h : laZ s = true) : cut s [44, 32, 64] = (lineT laN [xr (regD (splA s)).1], (splB s).tail, true) := by
  have e := (la_line h).1
  rw [la_pre] at e
  conv => lhs; rw [e]
  exact cut_lab (la_64 _)
theorem aim_64 {i : Ins} (hr : rightB i = true) : (64 : UInt8) ∉ lineT (nmT i) (ops0 i) := pre_no hr (by decide) (by decide) (by decide) (by decide) (by decide)
theorem laB_of (rd : Int) (h : 0 ≤ rd ∧ rd ≤ 31) : laB (lineT laN [xr rd]) = true ∧ laRd (lineT laN [xr rd]) = rd := by
  have hn := cut_name (name := laN) (by decide) [xr rd]
  have e : remT [xr rd] = xr rd := by simp [remT, tailT]
  have hc : cut (xr rd) sepC = (xr rd, [], false) := cut_none (c := 44) (by simp [sepC]) (xr_44 rd)
  have h1 : laRd (lineT laN [xr rd]) = rd := by
    unfold laRd
    rw [hn.2, e, hc]
    exact regP_xr rd (by omega) (by omega)
  refine ⟨?_, h1⟩
  unfold laB
  rw [h1, hn.1]
  simp [laN]
theorem laL_right {rd : Int} : (laL rd 0).all rightB = true ↔ 0 ≤ rd ∧ rd ≤ 31 := by
  constructor
  · intro h
    have h1 := List.all_eq_true.1 h (auipcI rd (0 - lowZ 0)) (by unfold laL; simp)
    exact (rightT_of h1).2.2.2.rd
  · intro h
    unfold laL
    have e : lowZ 0 = 0 := by decide
    rw [e]
    obtain ⟨k, hk, hk2⟩ : ∃ k : Nat, rd = (k : Int) ∧ k < 32 := ⟨rd.toNat, by omega, by omega⟩
    subst hk
    have : ∀ k : Nat, k < 32 → ([auipcI k (0 - 0), addI k k 0].all rightB) = true := by decide +kernel
    exact this k hk2
theorem said_read (s : Bs) : readS s = stmD (saidD s) := by
  unfold readS saidD
  by_cases h0 : s = []
  · rw [if_pos h0, if_pos h0]; rfl
  rw [if_neg h0, if_neg h0, suffix_58]
  by_cases h58 : s.getLast? = some 58
  · have b58 : (s.getLast? == some 58) = true := by rw [h58]; rfl
    rw [if_pos b58, trim_58 h58, b58, Bool.true_and]
    have hm : (58 : UInt8) ∈ s := List.mem_of_getLast? h58
    cases hn : nameOK s.dropLast
    · rw [if_neg (by decide), if_neg (by decide), if_neg (fun h => li_no h (.inl rfl) hm), if_neg (fun h => la_no h hm), if_neg (fun h => raw_no h (.inl rfl) hm), if_neg (fun h => parse_no h (.inl rfl) hm), if_neg (fun h => aim_no h hm)]
      rfl
    · rw [if_pos rfl, if_pos rfl]; rfl
  · have b58 : (s.getLast? == some 58) = false := beq_eq_false_iff_ne.2 h58
    rw [b58, Bool.false_and, if_neg Bool.false_ne_true, if_neg Bool.false_ne_true]
    by_cases hc : (cut s [44, 32, 64]).2.2 = true
    · rw [if_pos hc]
      have hp := cut_parts s _ hc
      have h64 : (64 : UInt8) ∈ s := by rw [hp]; simp
      rw [if_neg (fun h => li_no h (.inr rfl) h64), if_neg (show ¬ rawB s = true from fun h => raw_no h (.inr rfl) h64), if_neg (show ¬ parseB s = true from fun h => parse_no h (.inr rfl) h64)]
      have hla : laZ s = true → (cut s [44, 32, 64]).1 = lineT laN [xr (regD (splA s)).1] ∧ (cut s [44, 32, 64]).2.1 = (splB s).tail := fun h => by rw [la_cut h]; exact ⟨rfl, rfl⟩
      have haim : aimB s = true → ∃ i l, guessR s = (i, l) ∧ rightB i = true ∧ jumpsZ i.op = true ∧ i.imm = 0 ∧ nameOK l = true ∧ (cut s [44, 32, 64]).1 = lineT (nmT i) (ops0 i) ∧ (cut s [44, 32, 64]).2.1 = l := fun h => by
        obtain ⟨i, l, h1, h2, h3, h4, h5, h6⟩ := aim_line h
        refine ⟨i, l, h1, h2, h3, h4, h5, ?_, ?_⟩
        · conv => lhs; rw [h6]
          rw [cut_lab (aim_64 h2)]
        · conv => lhs; rw [h6]
          rw [cut_lab (aim_64 h2)]
      generalize (cut s [44, 32, 64]).1 = h at *
      generalize (cut s [44, 32, 64]).2.1 = m at *
      unfold namingS
      cases hn : nameOK m
      · have hnl : ¬ laZ s = true := by
          intro k
          have := (la_line k).2.2
          rw [← (hla k).2, hn] at this; cases this
        have hna : ¬ aimB s = true := by
          intro k
          obtain ⟨i, l, _, _, _, _, k5, _, k7⟩ := haim k
          rw [← k7, hn] at k5; cases k5
        rw [if_neg Bool.false_ne_true, if_neg hnl, if_neg hna]; rfl
      · rw [if_pos rfl]
        by_cases hl : laB h = true
        · rw [if_pos hl]
          have hl2 := hl
          unfold laB at hl2
          rw [Bool.and_eq_true, beq_iff_eq, beq_iff_eq] at hl2
          have hs : s = lineT laN [xr (laRd h), 64 :: m] := by rw [la_pre, hp]; exact congrArg (fun q => q ++ [44, 32, 64] ++ m) hl2.2.symm
          have hin := numP_in (trimPrefix (cut (cut h [32]).2.1 sepC).1 [120])
          have hin2 : -9223372036854775808 ≤ laRd h ∧ laRd h ≤ 9223372036854775807 := hin
          by_cases hr : 0 ≤ laRd h ∧ laRd h ≤ 31
          · have hb := la_back hr hn
            rw [← hs] at hb
            rw [if_pos (laL_right.2 hr), if_pos hb.1, hb.2.1, hb.2.2]; rfl
          · have hnl : ¬ laZ s = true := by
              intro k
              have k1 := (la_line k).2.1
              have k2 := (hla k).1
              have e2 : lineT laN [xr (laRd h)] = h := hl2.2
              rw [k2] at e2
              have e3 : xr (laRd (lineT laN [xr (regD (splA s)).1])) = xr (regD (splA s)).1 := by simpa [lineT, tailT] using e2
              have e4 : itoa (laRd (lineT laN [xr (regD (splA s)).1])) = itoa (regD (splA s)).1 := (List.cons.inj (show (120 :: itoa (laRd (lineT laN [xr (regD (splA s)).1])) : Bs) = 120 :: itoa (regD (splA s)).1 from e3)).2
              rw [← k2] at e4
              have := itoa_inj hin2.1 hin2.2 (by omega) (by omega) e4
              rw [this] at hr; exact hr k1
            have hna : ¬ aimB s = true := by
              intro k
              obtain ⟨i, l, _, k2, _, _, _, k6, _⟩ := haim k
              have e1 : (cut h [32]).1 = nmT i := by
                rw [k6]
                obtain ⟨q1, q2, _, _⟩ := rightT_of k2
                exact (cut_name (nmT_no (i := i) (c := 32) (by omega) (by decide)) _).1
              rw [hl2.1] at e1
              exact (nmT_not k2).2.1 e1.symm
            rw [if_neg (fun k => hr (laL_right.1 k)), if_neg hnl, if_neg hna]; rfl
        · have hnl : ¬ laZ s = true := by
            intro k
            have := (laB_of _ (la_line k).2.1).1
            rw [← (hla k).1] at this; exact hl this
          rw [if_neg hl, if_neg hnl]
          by_cases hj : jumpB h = true
          · obtain ⟨i, k1, k2, k3, k4, k5⟩ := jump_of hj
            have hb := aim_back (l := m) k1 k2 k3 hn
            rw [← k4, ← hp] at hb
            rw [if_pos hj, if_pos hb.2, hb.1, k5]
            have e : withImm i 0 = i := ins_ext rfl rfl rfl rfl k3.symm rfl rfl rfl
            rw [e, if_pos k1]; rfl
          · have hna : ¬ aimB s = true := by
              intro k
              obtain ⟨i, l, _, k2, k3, k4, _, k6, _⟩ := haim k
              have := (jump_back k2 k3 k4).1
              rw [← k6] at this; exact hj this
            rw [if_neg hj, if_neg hna]; rfl
    · rw [if_neg hc]
      rw [if_neg (show ¬ laZ s = true from fun h => by rw [la_cut h] at hc; exact hc rfl), if_neg (show ¬ aimB s = true from fun h => by
        obtain ⟨i, l, _, h2, _, _, _, h6⟩ := aim_line h
        rw [h6, cut_lab (aim_64 h2)] at hc; exact hc rfl)]
      unfold wordsS wordsG
      by_cases hn : (cut s [32]).1 = liT
      · rw [if_pos hn, if_neg (show ¬ rawB s = true from fun h => by
          unfold rawB at h; rw [Bool.and_eq_true, beq_iff_eq] at h; rw [hn] at h; exact absurd h.1 (by decide)), if_neg (show ¬ parseB s = true from fun h => (parse_head h).1 hn)]
        by_cases hl : liB s = true
        · obtain ⟨e, hr, hI⟩ := li_line hl
          rw [if_pos hl]
          generalize (regD (splA s)).1 = rd at *
          generalize (numZD (splB s)).1 = n at *
          obtain ⟨t1, t2, t3, t4⟩ := two_ops (nm := liT) (a := xr rd) (b := itoa n) (by decide) (xr_44 rd)
          rw [← e] at t2 t3
          have t2' : (cut (cut s [32]).2.1 sepC).1 = xr rd := t2
          have t3' : (cut (cut s [32]).2.1 sepC).2.1 = itoa n := t3
          have hcn : cut (itoa n) sepC = (itoa n, [], false) := cut_none (c := 44) (by simp [sepC]) (itoa_44 n)
          rw [t2', t3', hcn, regP_xr rd (by omega) (by omega), numP_itoa n hI.1 hI.2, if_pos hr, if_pos e.symm]
          have hall : (liF rd 4 n).all rightB = true := by
            obtain ⟨h, t, e1, e2, e3⟩ := liF_shape rd hr 4 n (by omega) hI (by unfold InI at hI; simp only [bF]; omega)
            rw [e1, List.all_cons, e2.2.2.2.2, Bool.true_and]
            exact List.all_eq_true.2 fun k hk => (e3 k hk).2.2.2.2.2
          rw [if_pos hall]; rfl
        · rw [if_neg hl]
          have hno : ∀ rd n, 0 ≤ rd ∧ rd ≤ 31 → InI n → ¬ lineT liT [xr rd, itoa n] = s := fun rd n hr hI e => by
            have := (li_back hr hI).1
            rw [e] at this; exact hl this
          split
          · rename_i hr
            rw [if_neg (hno _ _ hr (numP_in _))]; rfl
          · rfl
      · rw [if_neg hn, if_neg (show ¬ liB s = true from fun h => by
          unfold liB at h; rw [Bool.and_eq_true, beq_iff_eq] at h; exact hn h.1)]
        by_cases hw : (cut s [32]).1 = wordT
        · rw [if_pos hw, if_neg (show ¬ parseB s = true from fun h => (parse_head h).2.2 hw)]
          by_cases hl : rawB s = true
          · obtain ⟨e, hr⟩ := raw_line hl
            rw [if_pos hl]
            generalize (numZD (cut s [32]).2.1).1 = n at *
            have hcn : cut (itoa n) sepC = (itoa n, [], false) := cut_none (c := 44) (by simp [sepC]) (itoa_44 n)
            have hq := (cut_name (name := wordT) (by decide) [itoa n]).2
            rw [← e, show remT [itoa n] = itoa n by simp [remT, tailT]] at hq
            rw [hq, hcn, numP_itoa n (by omega) (by omega), if_pos (by omega), if_pos e.symm]; rfl
          · rw [if_neg hl]
            have hno : ∀ n, 0 ≤ n ∧ n ≤ 4294967295 → ¬ lineT wordT [itoa n] = s := fun n hr e => by
              have := (raw_back (n := n) (by omega)).1
              rw [e] at this; exact hl this
            split
            · rename_i hr
              rw [if_neg (hno _ hr)]; rfl
            · rfl
        · rw [if_neg hw, if_neg (show ¬ rawB s = true from fun h => by
            unfold rawB at h; rw [Bool.and_eq_true, beq_iff_eq] at h; exact hw h.1)]
          by_cases hp : parseB s = true
          · rw [if_pos hp, if_pos hp, if_pos (parse_is hp).1]; rfl
          · rw [if_neg hp, if_neg hp]; rfl
end Go.Proofs.YtakdhdaoklcidaaGreatDoor

namespace Go.Proofs.YtakdhdaoklcidaaGreatDoor
open Go.RowKit Go.Lib
set_option linter.unusedVariables false
set_option maxRecDepth 100000
theorem low_iff {b : UInt8} : isLow b = true ↔ 97 ≤ b.toNat ∧ b.toNat ≤ 122 := by
  unfold isLow
  simp [UInt8.le_iff_toNat_le]
theorem okB_iff {b : UInt8} : okB b = true ↔ (97 ≤ b.toNat ∧ b.toNat ≤ 122) ∨ (48 ≤ b.toNat ∧ b.toNat ≤ 57) ∨ b.toNat = 95 := by
  unfold okB
  rw [Bool.or_eq_true, Bool.or_eq_true, low_iff, dig_nat, beq_iff_eq, ← UInt8.toNat_inj]
  show _ ∨ b.toNat = 95 ↔ _
  omega
theorem name_bad0 {s : Bs} (h : 0 < s.length) (hb : ¬ (97 ≤ s[0].toNat ∧ s[0].toNat ≤ 122)) : nameOK s = false := by
  unfold nameOK
  have e : s.getD 0 0 = s[0] := by simp [h]
  rw [e]
  cases c : isLow s[0]
  · simp
  · exact absurd (low_iff.1 c) hb
theorem name_badj {s : Bs} {j : Nat} (h : j < s.length) (hb : ¬ ((97 ≤ s[j].toNat ∧ s[j].toNat ≤ 122) ∨ (48 ≤ s[j].toNat ∧ s[j].toNat ≤ 57) ∨ s[j].toNat = 95)) : nameOK s = false := by
  unfold nameOK
  cases c : s.all okB
  · simp
  · exact absurd (okB_iff.1 (List.all_eq_true.1 c s[j] (List.getElem_mem h))) hb
theorem name_good {s : Bs} (h1 : 1 ≤ s.length) (h2 : s.length ≤ 32) (h0 : isLow (s.getD 0 0) = true) (h : ∀ k (hk : k < s.length), okB s[k] = true) : nameOK s = true := by
  unfold nameOK
  rw [h0, decide_eq_true h1, decide_eq_true h2, List.all_eq_true.2 fun x hx => by obtain ⟨k, hk, rfl⟩ := List.getElem_of_mem hx; exact h k hk]
  rfl
theorem named_short (w : World) : Calls Tryz.prog 76 #[str []] w fun e w' => e = .returned (.bool false) ∧ w = w' := by
  go_enter Tryz.func76, Tryz.ntmps76
  go_wp2
  go_ret
  exact ⟨rfl, rfl⟩
theorem named_long (s : Bs) (h : 32 < s.length) (hl : s.length ≤ 100000) (w : World) : Calls Tryz.prog 76 #[str s] w fun e w' => e = .returned (.bool false) ∧ w = w' := by
  have h0 : ((s.length : Int) == 0) = false := beq_eq_false_iff_ne.2 (by omega)
  have h1 : (32 : Int) < (s.length : Int) := by omega
  go_enter Tryz.func76, Tryz.ntmps76
  go_wp2
  go_ret
  exact ⟨rfl, rfl⟩
set_option maxHeartbeats 8000000 in
theorem named_mid (s : Bs) (h1 : 1 ≤ s.length) (h2 : s.length ≤ 32) (w : World) : Calls Tryz.prog 76 #[str s] w fun e w' => e = .returned (.bool (nameOK s)) ∧ w = w' := by
  have z0 : ((s.length : Int) == 0) = false := beq_eq_false_iff_ne.2 (by omega)
  have z1 : ¬ (32 : Int) < (s.length : Int) := by omega
  obtain ⟨R, hR⟩ : ∃ R, R = nameOK s := ⟨_, rfl⟩
  rw [← hR]
  have HR := Lib.hid hR
  clear hR
  go_enter Tryz.func76, Tryz.ntmps76
  go_wp2
  go_loopw [3] (fun i wr => ∃ j : Nat, j ≤ s.length ∧ i = .int .i64 j ∧ (∀ k (hk : k < s.length), k < j → okB s[k] = true) ∧ (0 < j → isLow (s.getD 0 0) = true) ∧ wr = w) (fun i _ => s.length - (RowKit.intOf i).toNat)
  case atStart => exact ⟨0, Nat.zero_le _, rfl, fun k _ hk => by omega, fun h => by omega, rfl⟩
  case round =>
    obtain ⟨j, hj, rfl, hall, hlow, rfl⟩ := hrel
    by_cases hlt : j < s.length
    · have hix : ((⟨s.toArray⟩ : ByteArray)[j]'(by show j < s.toArray.size; rw [List.size_toArray]; exact hlt)) = s[j] := rfl
      have HALL := Lib.hid hall
      have HLOW := Lib.hid hlow
      have HD0 : Hid (j = 0 → s.getD 0 0 = s[j]) := Lib.hid (fun e => by subst e; simp [hlt])
      have HB0 : Hid (j = 0 → ¬ (97 ≤ s[j].toNat ∧ s[j].toNat ≤ 122) → R = false) := Lib.hid (fun e hb => by subst e; rw [HR.out]; exact name_bad0 hlt hb)
      have HBJ : Hid (¬ ((97 ≤ s[j].toNat ∧ s[j].toNat ≤ 122) ∨ (48 ≤ s[j].toNat ∧ s[j].toNat ≤ 57) ∨ s[j].toNat = 95) → R = false) := Lib.hid (fun hb => by rw [HR.out]; exact name_badj hlt hb)
      have HJ : Hid (∀ k (hk : k < s.length), k = j → s[k] = s[j]) := Lib.hid (fun k hk e => by subst e; rfl)
      clear hall hlow
      generalize s[j] = c at *
      have hcl : c.toNat < 48 ∨ (48 ≤ c.toNat ∧ c.toNat ≤ 57) ∨ (58 ≤ c.toNat ∧ c.toNat ≤ 94) ∨ c.toNat = 95 ∨ c.toNat = 96 ∨ (97 ≤ c.toNat ∧ c.toNat ≤ 122) ∨ 123 ≤ c.toNat := by omega
      by_cases hj0 : j = 0
      · subst hj0
        rcases hcl with q | q | q | q | q | q | q
        · have f1 : ¬ (97 : Int) ≤ (c.toNat : Int) := by omega
          have f2 : (c.toNat : Int) ≤ 122 := by omega
          have f3 : ¬ (48 : Int) ≤ (c.toNat : Int) := by omega
          have f4 : (c.toNat : Int) ≤ 57 := by omega
          have f5 : ((c.toNat : Int) == 95) = false := beq_eq_false_iff_ne.2 (by omega)
          have HF : Hid (R = false) := Lib.hid (HB0.out rfl (by omega))
          clear HB0 HBJ HD0 HALL HLOW HJ HR q
          go_wp2
          go_ret
          exact ⟨by rw [HF.out]; rfl, rfl⟩
        · have f1 : ¬ (97 : Int) ≤ (c.toNat : Int) := by omega
          have f2 : (c.toNat : Int) ≤ 122 := by omega
          have f3 : (48 : Int) ≤ (c.toNat : Int) := by omega
          have f4 : (c.toNat : Int) ≤ 57 := by omega
          have f5 : ((c.toNat : Int) == 95) = false := beq_eq_false_iff_ne.2 (by omega)
          have HF : Hid (R = false) := Lib.hid (HB0.out rfl (by omega))
          clear HB0 HBJ HD0 HALL HLOW HJ HR q
          go_wp2
          go_ret
          exact ⟨by rw [HF.out]; rfl, rfl⟩
        · have f1 : ¬ (97 : Int) ≤ (c.toNat : Int) := by omega
          have f2 : (c.toNat : Int) ≤ 122 := by omega
          have f3 : (48 : Int) ≤ (c.toNat : Int) := by omega
          have f4 : ¬ (c.toNat : Int) ≤ 57 := by omega
          have f5 : ((c.toNat : Int) == 95) = false := beq_eq_false_iff_ne.2 (by omega)
          have HF : Hid (R = false) := Lib.hid (HB0.out rfl (by omega))
          clear HB0 HBJ HD0 HALL HLOW HJ HR q
          go_wp2
          go_ret
          exact ⟨by rw [HF.out]; rfl, rfl⟩
        · have f1 : ¬ (97 : Int) ≤ (c.toNat : Int) := by omega
          have f2 : (c.toNat : Int) ≤ 122 := by omega
          have f3 : (48 : Int) ≤ (c.toNat : Int) := by omega
          have f4 : ¬ (c.toNat : Int) ≤ 57 := by omega
          have f5 : ((c.toNat : Int) == 95) = true := by rw [beq_iff_eq]; omega
          have HF : Hid (R = false) := Lib.hid (HB0.out rfl (by omega))
          clear HB0 HBJ HD0 HALL HLOW HJ HR q
          go_wp2
          go_ret
          exact ⟨by rw [HF.out]; rfl, rfl⟩
        · have f1 : ¬ (97 : Int) ≤ (c.toNat : Int) := by omega
          have f2 : (c.toNat : Int) ≤ 122 := by omega
          have f3 : (48 : Int) ≤ (c.toNat : Int) := by omega
          have f4 : ¬ (c.toNat : Int) ≤ 57 := by omega
          have f5 : ((c.toNat : Int) == 95) = false := beq_eq_false_iff_ne.2 (by omega)
          have HF : Hid (R = false) := Lib.hid (HB0.out rfl (by omega))
          clear HB0 HBJ HD0 HALL HLOW HJ HR q
          go_wp2
          go_ret
          exact ⟨by rw [HF.out]; rfl, rfl⟩
        · have f1 : (97 : Int) ≤ (c.toNat : Int) := by omega
          have f2 : (c.toNat : Int) ≤ 122 := by omega
          have f3 : (48 : Int) ≤ (c.toNat : Int) := by omega
          have f4 : ¬ (c.toNat : Int) ≤ 57 := by omega
          have f5 : ((c.toNat : Int) == 95) = false := beq_eq_false_iff_ne.2 (by omega)
          have HO : Hid (okB c = true) := Lib.hid (okB_iff.2 (by omega))
          have HL : Hid (isLow (s.getD 0 0) = true) := Lib.hid (by rw [HD0.out rfl]; exact low_iff.2 (by omega))
          clear HB0 HBJ HD0 HLOW q
          go_wp2
          case roundEnd => exact ⟨⟨0 + 1, by omega, congrArg (Value.int .i64) (by omega), fun k hk hkj => by
            by_cases e : k < 0
            · exact HALL.out k hk e
            · rw [HJ.out k hk (by omega)]; exact HO.out, fun _ => HL.out, trivial⟩, by simp [RowKit.intOf]; omega⟩
        · have f1 : (97 : Int) ≤ (c.toNat : Int) := by omega
          have f2 : ¬ (c.toNat : Int) ≤ 122 := by omega
          have f3 : (48 : Int) ≤ (c.toNat : Int) := by omega
          have f4 : ¬ (c.toNat : Int) ≤ 57 := by omega
          have f5 : ((c.toNat : Int) == 95) = false := beq_eq_false_iff_ne.2 (by omega)
          have HF : Hid (R = false) := Lib.hid (HB0.out rfl (by omega))
          clear HB0 HBJ HD0 HALL HLOW HJ HR q
          go_wp2
          go_ret
          exact ⟨by rw [HF.out]; rfl, rfl⟩
      · have hjb : ((j : Int) == 0) = false := beq_eq_false_iff_ne.2 (by omega)
        rcases hcl with q | q | q | q | q | q | q
        · have f1 : ¬ (97 : Int) ≤ (c.toNat : Int) := by omega
          have f2 : (c.toNat : Int) ≤ 122 := by omega
          have f3 : ¬ (48 : Int) ≤ (c.toNat : Int) := by omega
          have f4 : (c.toNat : Int) ≤ 57 := by omega
          have f5 : ((c.toNat : Int) == 95) = false := beq_eq_false_iff_ne.2 (by omega)
          have HF : Hid (R = false) := Lib.hid (HBJ.out (by omega))
          clear HB0 HBJ HD0 HALL HLOW HJ HR q
          go_wp2
          go_ret
          exact ⟨by rw [HF.out]; rfl, rfl⟩
        · have f1 : ¬ (97 : Int) ≤ (c.toNat : Int) := by omega
          have f2 : (c.toNat : Int) ≤ 122 := by omega
          have f3 : (48 : Int) ≤ (c.toNat : Int) := by omega
          have f4 : (c.toNat : Int) ≤ 57 := by omega
          have f5 : ((c.toNat : Int) == 95) = false := beq_eq_false_iff_ne.2 (by omega)
          have HO : Hid (okB c = true) := Lib.hid (okB_iff.2 (by omega))
          have HL : Hid (isLow (s.getD 0 0) = true) := Lib.hid (HLOW.out (by omega))
          clear HB0 HBJ HD0 HLOW q
          go_wp2
          case roundEnd => exact ⟨⟨j + 1, by omega, congrArg (Value.int .i64) (by omega), fun k hk hkj => by
            by_cases e : k < j
            · exact HALL.out k hk e
            · rw [HJ.out k hk (by omega)]; exact HO.out, fun _ => HL.out, trivial⟩, by simp [RowKit.intOf]; omega⟩
        · have f1 : ¬ (97 : Int) ≤ (c.toNat : Int) := by omega
          have f2 : (c.toNat : Int) ≤ 122 := by omega
          have f3 : (48 : Int) ≤ (c.toNat : Int) := by omega
          have f4 : ¬ (c.toNat : Int) ≤ 57 := by omega
          have f5 : ((c.toNat : Int) == 95) = false := beq_eq_false_iff_ne.2 (by omega)
          have HF : Hid (R = false) := Lib.hid (HBJ.out (by omega))
          clear HB0 HBJ HD0 HALL HLOW HJ HR q
          go_wp2
          go_ret
          exact ⟨by rw [HF.out]; rfl, rfl⟩
        · have f1 : ¬ (97 : Int) ≤ (c.toNat : Int) := by omega
          have f2 : (c.toNat : Int) ≤ 122 := by omega
          have f3 : (48 : Int) ≤ (c.toNat : Int) := by omega
          have f4 : ¬ (c.toNat : Int) ≤ 57 := by omega
          have f5 : ((c.toNat : Int) == 95) = true := by rw [beq_iff_eq]; omega
          have HO : Hid (okB c = true) := Lib.hid (okB_iff.2 (by omega))
          have HL : Hid (isLow (s.getD 0 0) = true) := Lib.hid (HLOW.out (by omega))
          clear HB0 HBJ HD0 HLOW q
          go_wp2
          case roundEnd => exact ⟨⟨j + 1, by omega, congrArg (Value.int .i64) (by omega), fun k hk hkj => by
            by_cases e : k < j
            · exact HALL.out k hk e
            · rw [HJ.out k hk (by omega)]; exact HO.out, fun _ => HL.out, trivial⟩, by simp [RowKit.intOf]; omega⟩
        · have f1 : ¬ (97 : Int) ≤ (c.toNat : Int) := by omega
          have f2 : (c.toNat : Int) ≤ 122 := by omega
          have f3 : (48 : Int) ≤ (c.toNat : Int) := by omega
          have f4 : ¬ (c.toNat : Int) ≤ 57 := by omega
          have f5 : ((c.toNat : Int) == 95) = false := beq_eq_false_iff_ne.2 (by omega)
          have HF : Hid (R = false) := Lib.hid (HBJ.out (by omega))
          clear HB0 HBJ HD0 HALL HLOW HJ HR q
          go_wp2
          go_ret
          exact ⟨by rw [HF.out]; rfl, rfl⟩
        · have f1 : (97 : Int) ≤ (c.toNat : Int) := by omega
          have f2 : (c.toNat : Int) ≤ 122 := by omega
          have f3 : (48 : Int) ≤ (c.toNat : Int) := by omega
          have f4 : ¬ (c.toNat : Int) ≤ 57 := by omega
          have f5 : ((c.toNat : Int) == 95) = false := beq_eq_false_iff_ne.2 (by omega)
          have HO : Hid (okB c = true) := Lib.hid (okB_iff.2 (by omega))
          have HL : Hid (isLow (s.getD 0 0) = true) := Lib.hid (HLOW.out (by omega))
          clear HB0 HBJ HD0 HLOW q
          go_wp2
          case roundEnd => exact ⟨⟨j + 1, by omega, congrArg (Value.int .i64) (by omega), fun k hk hkj => by
            by_cases e : k < j
            · exact HALL.out k hk e
            · rw [HJ.out k hk (by omega)]; exact HO.out, fun _ => HL.out, trivial⟩, by simp [RowKit.intOf]; omega⟩
        · have f1 : (97 : Int) ≤ (c.toNat : Int) := by omega
          have f2 : ¬ (c.toNat : Int) ≤ 122 := by omega
          have f3 : (48 : Int) ≤ (c.toNat : Int) := by omega
          have f4 : ¬ (c.toNat : Int) ≤ 57 := by omega
          have f5 : ((c.toNat : Int) == 95) = false := beq_eq_false_iff_ne.2 (by omega)
          have HF : Hid (R = false) := Lib.hid (HBJ.out (by omega))
          clear HB0 HBJ HD0 HALL HLOW HJ HR q
          go_wp2
          go_ret
          exact ⟨by rw [HF.out]; rfl, rfl⟩
    · obtain rfl : j = s.length := by omega
      have HG : Hid (R = true) := Lib.hid (by rw [HR.out]; exact name_good h1 h2 (hlow (by omega)) (fun k hk => hall k hk hk))
      clear hall hlow hlt HR
      go_wp2
      go_ret
      exact ⟨by rw [HG.out]; rfl, rfl⟩
theorem refNamed_any (s : Bs) (hl : s.length ≤ 100000) (w : World) : Calls Tryz.prog 76 #[str s] w fun e w' => e = .returned (.bool (nameOK s)) ∧ w = w' := by
  by_cases h0 : s.length = 0
  · obtain rfl := List.eq_nil_of_length_eq_zero h0
    exact named_short w
  by_cases h1 : 32 < s.length
  · have e : nameOK s = false := by unfold nameOK; rw [decide_eq_false (p := s.length ≤ 32) (by omega)]; simp
    rw [e]; exact named_long s h1 hl w
  · exact named_mid s (by omega) (by omega) w
end Go.Proofs.YtakdhdaoklcidaaGreatDoor

namespace Go.Proofs.YtakdhdaoklcidaaGreatDoor
open Go.RowKit Go.Lib
set_option linter.unusedVariables false
set_option maxRecDepth 100000
def lineD (k : Int) (lb : Bs) (i : Ins) (a : Option Addr) (n c : Nat) (rd wd : Int) : Value := .agg #[.int .i64 k, str lb, .int .i64 i.op, .int .i64 i.rd, .int .i64 i.a, .int .i64 i.b, .int .i64 i.imm, .int .i64 i.csr, .bool i.aq, .bool i.rl, .slice a n c, .int .i64 rd, .int .u32 wd]
def sizeD (k : Nat) (n : Nat) : Int := if k = 2 ∨ k = 5 then 1 else if k = 3 then n else if k = 4 then 2 else 0
set_option maxHeartbeats 2000000 in
theorem refSize_any (k : Nat) (hk : k < 7) (lb : Bs) (i : Ins) (a : Option Addr) (n c : Nat) (hn : n ≤ 100000) (rd wd : Int) (w : World) : Calls Tryz.prog 52 #[lineD k lb i a n c rd wd] w fun e w' => e = .returned (.int .u64 (sizeD k n)) ∧ Below w.heap.size w w' := by
  have hw : IntKind.u64.wrap (n : Int) = (n : Int) := by rw [IntKind.wrap_u64]; omega
  have HB : Hid (Below w.heap.size w (w.alloc (.cells #[.int .i64 k, str lb, .int .i64 i.op, .int .i64 i.rd, .int .i64 i.a, .int .i64 i.b, .int .i64 i.imm, .int .i64 i.csr, .bool i.aq, .bool i.rl, .slice a n c, .int .i64 rd, .int .u32 wd] 85))) := Lib.hid ((Below.refl _ _).alloc (Nat.le_refl _) _)
  unfold lineD
  match k, hk with
  | 0, _ =>
    go_enter Tryz.func52, Tryz.ntmps52
    go_wp2
    go_ret
    exact ⟨rfl, HB.out⟩
  | 1, _ =>
    go_enter Tryz.func52, Tryz.ntmps52
    go_wp2
    go_ret
    exact ⟨rfl, HB.out⟩
  | 2, _ =>
    go_enter Tryz.func52, Tryz.ntmps52
    go_wp2
    go_ret
    exact ⟨rfl, HB.out⟩
  | 3, _ =>
    go_enter Tryz.func52, Tryz.ntmps52
    go_wp2
    go_ret
    exact ⟨rfl, HB.out⟩
  | 4, _ =>
    go_enter Tryz.func52, Tryz.ntmps52
    go_wp2
    go_ret
    exact ⟨rfl, HB.out⟩
  | 5, _ =>
    go_enter Tryz.func52, Tryz.ntmps52
    go_wp2
    go_ret
    exact ⟨rfl, HB.out⟩
  | 6, _ =>
    go_enter Tryz.func52, Tryz.ntmps52
    go_wp2
    go_ret
    exact ⟨rfl, HB.out⟩
end Go.Proofs.YtakdhdaoklcidaaGreatDoor

namespace Go.Proofs.YtakdhdaoklcidaaGreatDoor
open Go.RowKit
set_option linter.unusedVariables false
set_option maxRecDepth 100000
section
variable {Q : Exit → Act → World → Prop} {w : World} {ops : Array Oper} {rest : List Oper} {o : Oper} {a : Act} {l : List (Nat × Value)} {n d : Nat}
theorem R_extract (hA : FrA l n a) {x : Operand} {i : Nat} (ho : o.op = .extract x i) {vs : Array Value} {v : Value} (hx : evL l x = some (.tuple vs)) (hv : vs[i]? = some v) (w : World) : (execOp a.eval o).run Tryz.prog w = .ok (.value v) w := by
  unfold execOp; simp only [ho, hA.ev hx]; simp [go_sem, Instr.extract, hv]
theorem R_lenStr (hA : FrA l n a) {x : Operand} (ho : o.op = .call { callee := .builtin .len, args := #[x], argTypes := #[9] }) {s : ByteArray} (hx : evL l x = some (.string s)) (w : World) : (execOp a.eval o).run Tryz.prog w = .ok (.value (.int .i64 s.size)) w := by
  unfold execOp
  simp only [ho, resolve, List.map_toArray, List.map_cons, List.map_nil, hA.ev hx, Sem.run_bind, Sem.run_pure, Result.andThen_ok, invoke]
  simp [go_sem, Builtin.len_]
theorem R_gtrI (hA : FrA l n a) {x y : Operand} (ho : o.op = .binOp .gtr 3 x y 3) {u v : Int} (hx : evL l x = some (.int .i64 u)) (hy : evL l y = some (.int .i64 v)) (w : World) : (execOp a.eval o).run Tryz.prog w = .ok (.value (.bool (decide (v < u)))) w := by
  unfold execOp; simp only [ho, hA.ev hx, hA.ev hy]; simp [go_sem]
theorem R_eqlStr (hA : FrA l n a) {x y : Operand} (ho : o.op = .binOp .eql 9 x y 9) {u v : ByteArray} (hx : evL l x = some (.string u)) (hy : evL l y = some (.string v)) (w : World) : (execOp a.eval o).run Tryz.prog w = .ok (.value (.bool (u.toList == v.toList))) w := by
  unfold execOp; simp only [ho, hA.ev hx, hA.ev hy]; simp [go_sem]
theorem R_neqStr (hA : FrA l n a) {x y : Operand} (ho : o.op = .binOp .neq 9 x y 9) {u v : ByteArray} (hx : evL l x = some (.string u)) (hy : evL l y = some (.string v)) (w : World) : (execOp a.eval o).run Tryz.prog w = .ok (.value (.bool (!(u.toList == v.toList)))) w := by
  unfold execOp; simp only [ho, hA.ev hx, hA.ev hy]; simp [go_sem]
theorem R_addStr (hA : FrA l n a) {x y : Operand} (ho : o.op = .binOp .add 9 x y 9) {u v : ByteArray} (hx : evL l x = some (.string u)) (hy : evL l y = some (.string v)) (hs : u.size + v.size ≤ 9223372036854775807) (w : World) : (execOp a.eval o).run Tryz.prog w = .ok (.value (.string (u ++ v))) w := by
  unfold execOp; simp only [ho, hA.ev hx, hA.ev hy]; simp [go_sem, hs]
theorem R_sliceLo (hA : FrA l n a) {x y : Operand} (ho : o.op = .slice 9 x (some y) none none) {u : ByteArray} {v r : Value} (hx : evL l x = some (.string u)) (hy : evL l y = some v) (hT : ∀ w, (Instr.slice 9 (.string u) (some v) none none).run Tryz.prog w = .ok r w) (w : World) : (execOp a.eval o).run Tryz.prog w = .ok (.value r) w := by
  unfold execOp; simp only [ho, hA.ev hx, hA.ev hy, Option.map_some, Option.map_none, Instr.sliceAt, run_underlying Tryz.underlying9, Sem.run_bind, Sem.run_pure, hT, Result.andThen_ok, Sem.run_pure]
theorem R_sliceHi (hA : FrA l n a) {x y : Operand} (ho : o.op = .slice 9 x none (some y) none) {u : ByteArray} {v r : Value} (hx : evL l x = some (.string u)) (hy : evL l y = some v) (hT : ∀ w, (Instr.slice 9 (.string u) none (some v) none).run Tryz.prog w = .ok r w) (w : World) : (execOp a.eval o).run Tryz.prog w = .ok (.value r) w := by
  unfold execOp; simp only [ho, hA.ev hx, hA.ev hy, Option.map_some, Option.map_none, Instr.sliceAt, run_underlying Tryz.underlying9, Sem.run_bind, Sem.run_pure, hT, Result.andThen_ok, Sem.run_pure]
end
end Go.Proofs.YtakdhdaoklcidaaGreatDoor

namespace Go.Proofs.YtakdhdaoklcidaaGreatDoor
open Go.RowKit Go.Lib
set_option linter.unusedVariables false
set_option maxRecDepth 100000
structure LD where
  k : Nat
  lb : Bs
  i : Ins
  a : Option Addr
  n : Nat
  c : Nat
  rd : Int
  wd : Int
def lineC (d : LD) : Array Value := #[.int .i64 d.k, str d.lb, .int .i64 d.i.op, .int .i64 d.i.rd, .int .i64 d.i.a, .int .i64 d.i.b, .int .i64 d.i.imm, .int .i64 d.i.csr, .bool d.i.aq, .bool d.i.rl, .slice d.a d.n d.c, .int .i64 d.rd, .int .u32 d.wd]
theorem lineC_D (d : LD) : Value.agg (lineC d) = lineD d.k d.lb d.i d.a d.n d.c d.rd d.wd := rfl
structure LDOk (d : LD) : Prop where
  k : d.k < 7
  n : d.n ≤ 100000
structure LinesR (w : World) (b : Nat) (L : List LD) : Prop where
  lt : b < w.heap.size
  row : ∀ j d, L[j]? = some d → w.rangeAt b (j * 13) (lineC d).toList
theorem LinesR.below {w w' : World} {b : Nat} {L : List LD} (h : LinesR w b L) (o : Below w.heap.size w w') : LinesR w' b L :=
  ⟨Nat.lt_of_lt_of_le h.lt o.size, fun j d hd => fun q v hv => by
    rw [World.cell?_of_block (w := w) (o.block b h.lt)]; exact h.row j d hd q v hv⟩
theorem ix_line (b n c j : Nat) (hj : j < n) (w : World) : (Instr.indexAt 83 (.slice (some ⟨b, 0, none⟩) n c) (.int .i64 j)).run Tryz.prog w = .ok (.pointer (some ⟨b, j * 13, none⟩)) w := by
  have hs : ∀ w, (sizeOf 85).run Tryz.prog w = .ok 13 w := fun _ => by kernel_rfl
  have ha : ((⟨b, 0, none⟩ : Addr).add (j * 13)) = ⟨b, j * 13, none⟩ := by rw [Addr.add_mid]; simp
  unfold Instr.indexAt
  simp [go_sem, run_underlying Tryz.underlying83, hs, ha, hj]
theorem fa_line0 (b o : Nat) (w : World) : (Instr.fieldAt 85 (.pointer (some ⟨b, o, none⟩)) 0).run Tryz.prog w = .ok (.pointer (some ⟨b, o + 0, none⟩)) w := by kernel_rfl
theorem fa_line1 (b o : Nat) (w : World) : (Instr.fieldAt 85 (.pointer (some ⟨b, o, none⟩)) 1).run Tryz.prog w = .ok (.pointer (some ⟨b, o + 1, none⟩)) w := by kernel_rfl
theorem size_lineR (d : LD) : (Tryz.prog.info? 85).map (·.size) = some (lineC d).toList.length := by kernel_rfl
theorem ag_i (w : World) : (isAgg 3).run Tryz.prog w = .ok false w := by kernel_rfl
theorem ag_s (w : World) : (isAgg 9).run Tryz.prog w = .ok false w := by kernel_rfl
theorem str_toList (l : Bs) : (⟨l.toArray⟩ : ByteArray).toList = l := by rw [ByteArray.toList_eq]
section
variable {w : World} {o : Oper} {a : Act} {l : List (Nat × Value)} {n : Nat}
theorem R_eqlS (hA : FrA l n a) {x y : Operand} (ho : o.op = .binOp .eql 9 x y 9) {u v : Bs} (hx : evL l x = some (str u)) (hy : evL l y = some (str v)) (w : World) : (execOp a.eval o).run Tryz.prog w = .ok (.value (.bool (u == v))) w := by
  have := R_eqlStr hA ho hx hy w
  rw [str_toList, str_toList] at this; exact this
theorem R_lenR (hA : FrA l n a) {x : Operand} (ho : o.op = .call { callee := .builtin .len, args := #[x], argTypes := #[83] }) {p : Option Addr} {k c : Nat} (hx : evL l x = some (.slice p k c)) (w : World) : (execOp a.eval o).run Tryz.prog w = .ok (.value (.int .i64 k)) w := by
  unfold execOp
  simp only [ho, resolve, List.map_toArray, List.map_cons, List.map_nil, hA.ev hx, Sem.run_bind, Sem.run_pure, Result.andThen_ok, invoke]
  simp [go_sem, Builtin.len_]
theorem R_line (hA : FrA l n a) {x : Operand} (ho : o.op = .load 85 x) {b q : Nat} (hx : evL l x = some (.pointer (some ⟨b, q, none⟩))) {d : LD} (hr : w.rangeAt b q (lineC d).toList) : (execOp a.eval o).run Tryz.prog w = .ok (.value (.agg (lineC d))) w := by
  unfold execOp
  simp only [ho, hA.ev hx, Sem.run_bind, Sem.run_pure, Result.andThen_ok, run_loadAt_mid (P := Tryz.prog) w b q 85 (lineC d).toList _ hr Tryz.underlying85 rfl (size_lineR d)]
theorem ret_twoF {fn : Func} {R : Ending → World → Prop} {i j : Nat} {u v : Value} (hr : fn.results = #[.tmp i, .tmp j]) (hA : FrA l n a) (hu : l.lookup i = some u) (hv : l.lookup j = some v) (hR : R (.returned (.tuple #[u, v])) w) : bodyPost Tryz.prog fn R .ret a w := by
  refine bodyPost_ret (v := .tuple #[u, v]) ?_ hA.df hR
  have e1 : a.tmps.getD i undef = u := hA.get _ _ hu
  have e2 : a.tmps.getD j undef = v := hA.get _ _ hv
  rw [Array.getD_eq_getD_getElem?] at e1 e2
  simp [results, hr, go_sem, e1, e2]
end
theorem wrap_upL {k : Nat} (h : k < 1000000) : IntKind.i64.wrap ((k : Int) + 1) = ((k + 1 : Nat) : Int) := by
  rw [show (k : Int) + 1 = ((k + 1 : Nat) : Int) by omega]
  exact IntWalk.i64_in _ (by omega)
def placeGo (lb : Bs) : List LD → Int → Option Int
  | [], _ => none
  | d :: t, at_ => if (((d.k : Int) == 1) && (d.lb == lb)) = true then some at_ else placeGo lb t (IntKind.u64.wrap (at_ + IntKind.u64.wrap (4 * sizeD d.k d.n)))
def placeV : Option Int → Value
  | some x => .tuple #[.int .u64 x, .bool true]
  | none => .tuple #[.int .u64 0, .bool false]
theorem placeGo_drop (lb : Bs) (L : List LD) {k : Nat} {d : LD} (h : L[k]? = some d) (x : Int) : placeGo lb (L.drop k) x = if (((d.k : Int) == 1) && (d.lb == lb)) = true then some x else placeGo lb (L.drop (k + 1)) (IntKind.u64.wrap (x + IntKind.u64.wrap (4 * sizeD d.k d.n))) := by
  have hk : k < L.length := (List.getElem?_eq_some_iff.1 h).1
  rw [List.drop_eq_getElem_cons hk]
  have e : L[k] = d := (List.getElem?_eq_some_iff.1 h).2
  rw [e]; rfl
theorem size_d (d : LD) (ok : LDOk d) (w : World) : Calls Tryz.prog 52 #[.agg (lineC d)] w fun e w' => e = .returned (.int .u64 (sizeD d.k d.n)) ∧ Below w.heap.size w w' := by
  rw [lineC_D]; exact refSize_any d.k ok.k d.lb d.i d.a d.n d.c ok.n d.rd d.wd w
theorem R_index2 {o : Oper} {a : Act} {l : List (Nat × Value)} {n : Nat} (hA : FrA l n a) {T : TypeId} {x y : Operand} (ho : o.op = .indexAddr T x y) {u v r : Value} (hx : evL l x = some u) (hy : evL l y = some v) (hT : ∀ w, (Instr.indexAt T u v).run Tryz.prog w = .ok r w) (w : World) : (execOp a.eval o).run Tryz.prog w = .ok (.value r) w := by
  unfold execOp; simp only [ho, hA.ev hx, hA.ev hy, Sem.run_bind, hT, Result.andThen_ok, Sem.run_pure]
set_option maxHeartbeats 4000000 in
theorem refPlace_any (L : List LD) (hL : ∀ d ∈ L, LDOk d) (hn : L.length < 100000) (b cp : Nat) (base : Int) (lb : Bs) (w : World) (LL : LinesR w b L) : Calls Tryz.prog 48 #[.slice (some ⟨b, 0, none⟩) L.length cp, .int .u64 base, str lb] w fun e w' => e = .returned (placeV (placeGo lb L base)) ∧ Below w.heap.size w w' := by
  have HB := Below.refl w.heap.size w
  go_enter Tryz.func48, Tryz.ntmps48
  refine begin_fr [(2, str lb), (1, .int .u64 base), (0, .slice (some ⟨b, 0, none⟩) L.length cp)] 41 ?_ (fun a hA => ?_)
  · exact FrA.add (FrA.add (FrA.add (FrA.nil (by rfl) (by rfl)) 0 _ (by rfl)) 1 _ (by rfl)) 2 _ (by rfl)
  refine wp_seq (wp_region_list ?_); (iterate 2 refine W_val hA rfl _ rfl (by decide) _ _ (R_asg hA rfl rfl _) fun a hA => ?_); refine W_nil (then_nrm ?_); show Code.wp Tryz.prog _ _ _ _; refine wp_seq (wp_region_list ?_); refine W_val hA rfl _ rfl (by decide) _ _ (R_mov hA rfl rfl _) (fun a hA => ?_); refine W_val hA rfl _ rfl (by decide) _ _ (R_asg hA rfl rfl _) (fun a hA => ?_); refine W_nil (then_nrm ?_); show Code.wp Tryz.prog _ _ _ _; refine wp_seq ?_; refine wp_seq (wp_region_list ?_); refine W_val hA rfl _ rfl (by decide) _ _ (R_asg hA rfl rfl _) (fun a hA => ?_); refine W_nil (then_nrm ?_); show Code.wp Tryz.prog _ _ _ _; refine wp_block ?_; refine loop_cnt 9 L.length (fun k a' w' => ∃ x : Int, FrA [(9, .int .i64 (k : Int)), (8, .int .u64 x), (2, str lb), (0, .slice (some ⟨b, 0, none⟩) L.length cp)] 41 a' ∧ Below w.heap.size w w' ∧ LinesR w' b L ∧ placeGo lb (L.drop k) x = placeGo lb L base) (fun k a' w' h => by obtain ⟨x, h, _⟩ := h; exact ⟨_, h.get 9 _ rfl⟩) ⟨base, FrA.add (FrA.add (FrA.add (FrA.add (FrA.nil hA.sz hA.df) 0 _ (hA.get 0 _ rfl)) 2 _ (hA.get 2 _ rfl)) 8 _ (hA.get 8 _ rfl)) 9 _ (hA.get 9 _ rfl), HB, LL, rfl⟩ (fun k a w3 hk h => ?_)
  obtain ⟨x, hA, HB, LL, hp⟩ := h
  refine wp_seq ?_; refine wp_seq (wp_region_list ?_); (iterate 2 refine W_val hA rfl _ rfl (by decide) _ _ (R_mov hA rfl rfl _) fun a hA => ?_); refine W_val hA rfl _ rfl (by decide) _ _ (R_lenR hA rfl rfl _) (fun a hA => ?_); refine W_val hA rfl _ rfl (by decide) _ _ (R_lssI hA rfl rfl rfl _) (fun a hA => ?_); refine W_nil (then_nrm ?_); show Code.wp Tryz.prog _ _ _ _; refine wp_cond_split (hA.ev (x := .tmp 14) rfl) (fun c1 => ?_) (fun c1 => ?_)
  · skip
    have ck : k < L.length := by have := of_decide_eq_true c1; omega
    obtain ⟨d, hd⟩ : ∃ d, L[k]? = some d := ⟨_, List.getElem?_eq_getElem ck⟩
    obtain ⟨okd, _⟩ := (⟨hL d (List.mem_of_getElem? hd), trivial⟩ : LDOk d ∧ True)
    rw [placeGo_drop lb L hd] at hp
    refine wp_skip ?_; refine then_nrm ?_; show Code.wp Tryz.prog _ _ _ _; refine wp_seq ?_; refine wp_block ?_; refine wp_seq ?_; refine wp_seq (wp_region_list ?_); (iterate 2 refine W_val hA rfl _ rfl (by decide) _ _ (R_mov hA rfl rfl _) fun a hA => ?_); refine W_val hA rfl _ rfl (by decide) _ _ (R_index2 hA rfl rfl rfl (fun w => ix_line b L.length cp k ck w) _) (fun a hA => ?_); refine W_val hA rfl _ rfl (by decide) _ _ (R_fa hA rfl rfl (fun w => fa_line0 _ _ w) _) (fun a hA => ?_); refine W_val hA rfl _ rfl (by decide) _ _ (R_ld hA rfl rfl ag_i (LL.row k d hd 0 _ rfl)) (fun a hA => ?_); refine W_val hA rfl _ rfl (by decide) _ _ (R_eqlI hA rfl rfl rfl _) (fun a hA => ?_); refine W_val hA rfl _ rfl (by decide) _ _ (R_mov hA rfl rfl _) (fun a hA => ?_); refine W_split hA 23 rfl (fun c2 hA => ?_) (fun c2 hA => ?_)
    · skip
      (iterate 2 refine W_gval hA rfl rfl rfl _ rfl (by decide) _ _ (R_mov hA rfl rfl _) fun a hA => ?_); refine W_gval hA rfl rfl rfl _ rfl (by decide) _ _ (R_index2 hA rfl rfl rfl (fun w => ix_line b L.length cp k ck w) _) (fun a hA => ?_); refine W_gval hA rfl rfl rfl _ rfl (by decide) _ _ (R_fa hA rfl rfl (fun w => fa_line1 _ _ w) _) (fun a hA => ?_); refine W_gval hA rfl rfl rfl _ rfl (by decide) _ _ (R_ld hA rfl rfl ag_s (LL.row k d hd 1 _ rfl)) (fun a hA => ?_); refine W_gval hA rfl rfl rfl _ rfl (by decide) _ _ (R_mov hA rfl rfl _) (fun a hA => ?_); refine W_gval hA rfl rfl rfl _ rfl (by decide) _ _ (R_eqlS hA rfl rfl rfl _) (fun a hA => ?_); refine W_val hA rfl _ rfl (by decide) _ _ (R_pick hA rfl rfl rfl _) (fun a hA => ?_); refine W_nil (then_nrm ?_); show Code.wp Tryz.prog _ _ _ _; refine wp_cond_split (hA.ev (x := .tmp 31) rfl) (fun c3 => ?_) (fun c3 => ?_)
      · skip
        refine wp_seq (wp_region_list ?_); refine W_val hA rfl _ rfl (by decide) _ _ (R_mov hA rfl rfl _) (fun a hA => ?_); (iterate 2 refine W_val hA rfl _ rfl (by decide) _ _ (R_asg hA rfl rfl _) fun a hA => ?_); refine W_nil (then_nrm ?_); show Code.wp Tryz.prog _ _ _ _; refine wp_ret ?_; refine then_ret ?_; refine blk_ret ?_; refine then_ret ?_; refine then_ret ?_; refine blk_ret ?_; refine then_ret ?_
        rw [if_pos (show (((d.k : Int) == 1) && (d.lb == lb)) = true from by rw [c2, Bool.true_and]; exact c3)] at hp
        exact ret_twoF (i := 6) (j := 7) (by kernel_rfl) hA rfl rfl ⟨by rw [← hp]; rfl, HB⟩
      refine wp_skip ?_; refine then_nrm ?_; show Code.wp Tryz.prog _ _ _ _; refine wp_region_list ?_; (iterate 3 refine W_val hA rfl _ rfl (by decide) _ _ (R_mov hA rfl rfl _) fun a hA => ?_); refine W_val hA rfl _ rfl (by decide) _ _ (R_index2 hA rfl rfl rfl (fun w => ix_line b L.length cp k ck w) _) (fun a hA => ?_); refine W_val hA rfl _ rfl (by decide) _ _ (R_line hA rfl rfl (LL.row k d hd)) (fun a hA => ?_); refine W_call1 hA (by decide) (fun _ _ => by kernel_rfl) rfl (size_d d okd _) (fun w1 hw a hA => ?_); replace HB := HB.trans (hw.mono HB.size); replace LL := LL.below hw; clear hw; refine W_val hA rfl _ rfl (by decide) _ _ (R_mul hA rfl rfl rfl _) (fun a hA => ?_); refine W_val hA rfl _ rfl (by decide) _ _ (R_add hA rfl rfl rfl _) (fun a hA => ?_); refine W_val hA rfl _ rfl (by decide) _ _ (R_asg hA rfl rfl _) (fun a hA => ?_); refine W_nil ?_; refine blk_nrm ?_; refine then_nrm ?_; show Code.wp Tryz.prog _ _ _ _; refine wp_region_list ?_; refine W_val hA rfl _ rfl (by decide) _ _ (R_mov hA rfl rfl _) (fun a hA => ?_); refine W_val hA rfl _ rfl (by decide) _ _ (R_addI hA rfl rfl rfl _) (fun a hA => ?_); refine W_val hA rfl _ rfl (by decide) _ _ (R_asg hA rfl rfl _) (fun a hA => ?_); refine W_nil ?_; refine then_nrm ?_
      rw [if_neg (show ¬ (((d.k : Int) == 1) && (d.lb == lb)) = true from fun q => by rw [show (((d.k : Int) == 1) && (d.lb == lb)) = false from by rw [c2, Bool.true_and]; exact c3] at q; cases q)] at hp
      refine ⟨ck, ⟨_, FrA.add (FrA.add (FrA.add (FrA.add (FrA.nil hA.sz hA.df) 0 _ (hA.get 0 _ rfl)) 2 _ (hA.get 2 _ rfl)) 8 _ (hA.get 8 _ rfl)) 9 _ ((hA.get 9 _ rfl).trans (congrArg (Value.int .i64) (wrap_upL (by omega)))), HB, LL, hp⟩⟩
    (iterate 7 refine W_gskip hA rfl rfl rfl _ rfl (by decide) fun a hA => ?_); refine W_val hA rfl _ rfl (by decide) _ _ (R_pick hA rfl rfl rfl _) (fun a hA => ?_); refine W_nil (then_nrm ?_); show Code.wp Tryz.prog _ _ _ _; refine wp_cond_split (hA.ev (x := .tmp 31) rfl) (fun c4 => ?_) (fun c4 => ?_)
    · skip
      refine wp_seq (wp_region_list ?_); refine W_val hA rfl _ rfl (by decide) _ _ (R_mov hA rfl rfl _) (fun a hA => ?_); (iterate 2 refine W_val hA rfl _ rfl (by decide) _ _ (R_asg hA rfl rfl _) fun a hA => ?_); refine W_nil (then_nrm ?_); show Code.wp Tryz.prog _ _ _ _; refine wp_ret ?_; refine then_ret ?_; refine blk_ret ?_; refine then_ret ?_; refine then_ret ?_; refine blk_ret ?_; refine then_ret ?_
      cases c4
    refine wp_skip ?_; refine then_nrm ?_; show Code.wp Tryz.prog _ _ _ _; refine wp_region_list ?_; (iterate 3 refine W_val hA rfl _ rfl (by decide) _ _ (R_mov hA rfl rfl _) fun a hA => ?_); refine W_val hA rfl _ rfl (by decide) _ _ (R_index2 hA rfl rfl rfl (fun w => ix_line b L.length cp k ck w) _) (fun a hA => ?_); refine W_val hA rfl _ rfl (by decide) _ _ (R_line hA rfl rfl (LL.row k d hd)) (fun a hA => ?_); refine W_call1 hA (by decide) (fun _ _ => by kernel_rfl) rfl (size_d d okd _) (fun w2 hw a hA => ?_); replace HB := HB.trans (hw.mono HB.size); replace LL := LL.below hw; clear hw; refine W_val hA rfl _ rfl (by decide) _ _ (R_mul hA rfl rfl rfl _) (fun a hA => ?_); refine W_val hA rfl _ rfl (by decide) _ _ (R_add hA rfl rfl rfl _) (fun a hA => ?_); refine W_val hA rfl _ rfl (by decide) _ _ (R_asg hA rfl rfl _) (fun a hA => ?_); refine W_nil ?_; refine blk_nrm ?_; refine then_nrm ?_; show Code.wp Tryz.prog _ _ _ _; refine wp_region_list ?_; refine W_val hA rfl _ rfl (by decide) _ _ (R_mov hA rfl rfl _) (fun a hA => ?_); refine W_val hA rfl _ rfl (by decide) _ _ (R_addI hA rfl rfl rfl _) (fun a hA => ?_); refine W_val hA rfl _ rfl (by decide) _ _ (R_asg hA rfl rfl _) (fun a hA => ?_); refine W_nil ?_; refine then_nrm ?_
    rw [if_neg (show ¬ (((d.k : Int) == 1) && (d.lb == lb)) = true from fun q => by rw [show (((d.k : Int) == 1) && (d.lb == lb)) = false from by rw [c2]; rfl] at q; cases q)] at hp
    refine ⟨ck, ⟨_, FrA.add (FrA.add (FrA.add (FrA.add (FrA.nil hA.sz hA.df) 0 _ (hA.get 0 _ rfl)) 2 _ (hA.get 2 _ rfl)) 8 _ (hA.get 8 _ rfl)) 9 _ ((hA.get 9 _ rfl).trans (congrArg (Value.int .i64) (wrap_upL (by omega)))), HB, LL, hp⟩⟩
  refine wp_exit ?_; refine then_ext ?_; refine then_ext ?_; refine blk_eq ?_; refine then_nrm ?_; show Code.wp Tryz.prog _ _ _ _; refine wp_seq (wp_region_list ?_); (iterate 2 refine W_val hA rfl _ rfl (by decide) _ _ (R_asg hA rfl rfl _) fun a hA => ?_); refine W_nil (then_nrm ?_); show Code.wp Tryz.prog _ _ _ _; refine wp_ret ?_
  have ek : k = L.length := by have := of_decide_eq_false c1; omega
  subst ek
  rw [List.drop_length] at hp
  exact ret_twoF (i := 6) (j := 7) (by kernel_rfl) hA rfl rfl ⟨by rw [← hp]; rfl, HB⟩
end Go.Proofs.YtakdhdaoklcidaaGreatDoor

namespace Go.Proofs.YtakdhdaoklcidaaGreatDoor
open Go.RowKit Go.Lib
set_option linter.unusedVariables false
set_option maxRecDepth 100000
theorem head_a {nm : Bs} (h : ¬ opL nm = 0) : headR nm = ⟨opL nm, 0, 0, 0, 0, 0, false, false⟩ := by unfold headR; rw [if_pos h]
theorem head_b {nm : Bs} (h : opL nm = 0) (h5 : 5 < nm.length) (hs : nm.drop (nm.length - 5) = [46, 97, 113, 114, 108]) : headR nm = ⟨opL (nm.take (nm.length - 5)), 0, 0, 0, 0, 0, true, true⟩ := by unfold headR; rw [if_neg (by omega), if_pos ⟨h5, hs⟩]
theorem head_c {nm : Bs} (h : opL nm = 0) (h5 : ¬ (5 < nm.length ∧ nm.drop (nm.length - 5) = [46, 97, 113, 114, 108])) (h3 : 3 < nm.length) (hs : nm.drop (nm.length - 3) = [46, 97, 113]) : headR nm = ⟨opL (nm.take (nm.length - 3)), 0, 0, 0, 0, 0, true, false⟩ := by unfold headR; rw [if_neg (by omega), if_neg h5, if_pos ⟨h3, hs⟩]
theorem head_d {nm : Bs} (h : opL nm = 0) (h5 : ¬ (5 < nm.length ∧ nm.drop (nm.length - 5) = [46, 97, 113, 114, 108])) (h3 : 3 < nm.length) (hq : ¬ nm.drop (nm.length - 3) = [46, 97, 113]) (hs : nm.drop (nm.length - 3) = [46, 114, 108]) : headR nm = ⟨opL (nm.take (nm.length - 3)), 0, 0, 0, 0, 0, false, true⟩ := by unfold headR; rw [if_neg (by omega), if_neg h5, if_neg (fun c => hq c.2), if_pos ⟨h3, hs⟩]
theorem head_e {nm : Bs} (h : opL nm = 0) (h5 : ¬ (5 < nm.length ∧ nm.drop (nm.length - 5) = [46, 97, 113, 114, 108])) (h3 : ¬ (3 < nm.length ∧ (nm.drop (nm.length - 3) = [46, 97, 113] ∨ nm.drop (nm.length - 3) = [46, 114, 108]))) : headR nm = ⟨opL nm, 0, 0, 0, 0, 0, false, false⟩ := by unfold headR; rw [if_neg (by omega), if_neg h5, if_neg (fun c => h3 ⟨c.1, .inl c.2⟩), if_neg (fun c => h3 ⟨c.1, .inr c.2⟩)]
set_option maxHeartbeats 16000000 in
theorem rguess_any (l : Bs) (hl : l.length ≤ 100000) (w : World) : Calls Tryz.prog 38 #[str l] w fun e w' => e = .returned (.tuple #[insV (guessR l).1, str (guessR l).2]) ∧ Below w.heap.size w w' := by
  have hCUT : ∀ w, Calls Tryz.prog 46 #[str l, .string ⟨#[32]⟩] w fun e w' => e = .returned (.tuple #[str (cut l [32]).1, str (cut l [32]).2.1, .bool (cut l [32]).2.2]) ∧ Below w.heap.size w w' := fun w => refCut_any l [32] hl (by simp) w
  have hCUT2 : ∀ (r : Bs) w, r.length ≤ 100000 → Calls Tryz.prog 46 #[str r, .string ⟨#[44, 32]⟩] w fun e w' => e = .returned (.tuple #[str (cut r [44, 32]).1, str (cut r [44, 32]).2.1, .bool (cut r [44, 32]).2.2]) ∧ Below w.heap.size w w' := fun r w hr => refCut_any r [44, 32] hr (by simp) w
  have hOP : ∀ (s : Bs) w, Calls Tryz.prog 70 #[str s] w fun e w' => e = .returned (.int .i64 (opL s)) ∧ Below w.heap.size w w' := fun s w => by
    have := refop_is ⟨s.toArray⟩ w
    rw [opF_L] at this; exact this
  have hlen := cut_len l [32]
  have HGU : Hid (guessR l = walkL (lettersK (headR (cut l [32]).1).op.toNat) (cut l [32]).2.1 (headR (cut l [32]).1) []) := Lib.hid rfl
  obtain ⟨kk, hkk, hko⟩ := head_op (cut l [32]).1
  have hN0 : (cut l [32]).1.length ≤ 100000 := by omega
  have hR0 : (cut l [32]).2.1.length ≤ 100000 := by omega
  generalize (cut l [32]).2.2 = qq at *
  generalize (cut l [32]).2.1 = r0 at *
  generalize (cut l [32]).1 = nm at *
  generalize guessR l = GR at *
  have HCUT := Lib.hid hCUT; have HCUT2 := Lib.hid hCUT2; have HOP := Lib.hid hOP; have HR0 := Lib.hid hR0; have HN0 := Lib.hid hN0; have HKO := Lib.hid hko; have HKK := Lib.hid hkk
  clear hCUT hCUT2 hOP hR0 hN0 hl hlen hko hkk
  go_enter Tryz.func38, Tryz.ntmps38
  go_wp2_with (fail)
  (with_reducible refine (HCUT.out _).mono ?_)
  rintro e w1 ⟨rfl, hb1⟩
  have HB1 := Lib.hid (((Below.refl w.heap.size w).alloc (Nat.le_refl _) (.cells #[.int .i64 0, .int .i64 0, .int .i64 0, .int .i64 0, .int .i64 0, .int .i64 0, .bool false, .bool false] 23)).trans (hb1.mono (by simp)))
  have HR1 : Hid (w1.heap[w.heap.size]? = some (.cells #[.int .i64 0, .int .i64 0, .int .i64 0, .int .i64 0, .int .i64 0, .int .i64 0, .bool false, .bool false] 23 (0, 0))) := Lib.hid ((hb1.block _ (by simp)).trans (heap_alloc_new _ _))
  have HZ1 : Hid (w.heap.size < w1.heap.size) := Lib.hid (by have := hb1.size; simp at this; omega)
  clear hb1 HCUT
  have HG1 : Hid (GS w (w1.alloc (.cells #[.int .i64 0, .int .i64 0, .int .i64 0, .int .i64 0, .int .i64 0, .int .i64 0, .bool false, .bool false] 23)) w1.heap.size ⟨0, 0, 0, 0, 0, 0, false, false⟩) := Lib.hid ⟨heap_alloc_new _ _, (Lib.alloc_old _ _ _ HZ1.out).trans HR1.out, HB1.out.alloc HB1.out.size _, HZ1.out⟩
  go_wp2_with (fail)
  (with_reducible refine (HOP.out nm _).mono ?_)
  rintro e w2 ⟨rfl, hb2⟩
  have HG2 := Lib.hid (HG1.out.below hb2)
  clear hb2 HG1 HR1 HB1 HZ1
  generalize w1.heap.size = bi at *
  have hc0 : w2.cell? ⟨bi, 0, none⟩ = some (.int .i64 0) := HG2.out.cell 0
  have hf := HG2.out.free
  have HG3 := Lib.hid (HG2.out.op (opL nm))
  go_upto_if 25 with (fail)
  clear hc0
  go_cut [] (fun wx => GS w wx bi (headR nm))
  case first =>
    by_cases hk : opL nm = 0
    · have hkz : ((opL nm : Nat) : Int) = 0 := by omega
      have hN := HN0.out
      have hw5 : wrap64 ((nm.length : Int) - 5) = (nm.length : Int) - 5 := wrap64_id (by omega) (by omega)
      have hw3 : wrap64 ((nm.length : Int) - 3) = (nm.length : Int) - 3 := wrap64_id (by omega) (by omega)
      have hwn : wrap64 (nm.length : Int) = (nm.length : Int) := wrap64_id (by omega) (by omega)
      have hsf5 : 5 < nm.length → ∀ wx, (Instr.slice 9 (str nm) (some (.int .i64 ((nm.length : Int) - 5))) none none).run Tryz.prog wx = .ok (str (nm.drop (nm.length - 5))) wx := fun h wx => by
        have := slice_from nm ((nm.length : Int) - 5) (by omega) (by omega) wx
        rw [show ((nm.length : Int) - 5).toNat = nm.length - 5 by omega] at this; exact this
      have hst5 : 5 < nm.length → ∀ wx, (Instr.slice 9 (str nm) none (some (.int .i64 ((nm.length : Int) - 5))) none).run Tryz.prog wx = .ok (str (nm.take (nm.length - 5))) wx := fun h wx => by
        have := slice_to nm ((nm.length : Int) - 5) (by omega) (by omega) wx
        rw [show ((nm.length : Int) - 5).toNat = nm.length - 5 by omega] at this; exact this
      have hsf3 : 3 < nm.length → ∀ wx, (Instr.slice 9 (str nm) (some (.int .i64 ((nm.length : Int) - 3))) none none).run Tryz.prog wx = .ok (str (nm.drop (nm.length - 3))) wx := fun h wx => by
        have := slice_from nm ((nm.length : Int) - 3) (by omega) (by omega) wx
        rw [show ((nm.length : Int) - 3).toNat = nm.length - 3 by omega] at this; exact this
      have hst3 : 3 < nm.length → ∀ wx, (Instr.slice 9 (str nm) none (some (.int .i64 ((nm.length : Int) - 3))) none).run Tryz.prog wx = .ok (str (nm.take (nm.length - 3))) wx := fun h wx => by
        have := slice_to nm ((nm.length : Int) - 3) (by omega) (by omega) wx
        rw [show ((nm.length : Int) - 3).toNat = nm.length - 3 by omega] at this; exact this
      have HOP5 := Lib.hid (HOP.out (nm.take (nm.length - 5)))
      have HOP3 := Lib.hid (HOP.out (nm.take (nm.length - 3)))
      have HOP0 := Lib.hid (HOP.out nm)
      have HK0 := Lib.hid hk
      have hc6 : w2.cell? ⟨bi, 6, none⟩ = some (.bool false) := HG2.out.cell 6
      have hc7 : w2.cell? ⟨bi, 7, none⟩ = some (.bool false) := HG2.out.cell 7
      clear HG3
      by_cases hn3 : 3 < nm.length
      · have hi3 : (3 : Int) < (nm.length : Int) := by omega
        have a3 := hsf3 hn3; have b3 := hst3 hn3
        by_cases hn5 : 5 < nm.length
        · have hi5 : (5 : Int) < (nm.length : Int) := by omega
          have a5 := hsf5 hn5; have b5 := hst5 hn5
          clear hsf5 hst5 hsf3 hst3
          by_cases hs5 : nm.drop (nm.length - 5) = [46, 97, 113, 114, 108]
          · have HH := Lib.hid (head_b hk hn5 hs5)
            rw [hs5] at a5
            clear hk a3 b3
            generalize nm.take (nm.length - 5) = np at *
            go_wp2_with fail
            (with_reducible refine (HOP5.out _).mono ?_)
            rintro e w4 ⟨rfl, hb4⟩
            have HG4 := Lib.hid ((((HG2.out.op 0).aq true).rl true).below hb4)
            clear hb4 hc6 hc7 hf
            have hc0 := HG4.out.cell 0
            rw [show (InsC _)[0]? = some (.int .i64 0) from rfl] at hc0
            have hf := HG4.out.free
            have HG5 := Lib.hid (HG4.out.op (opL np))
            clear HG4
            go_wp2_with fail
            go_meet
            rw [HH.out]; exact HG5.out
          · have hno : ¬ (5 < nm.length ∧ nm.drop (nm.length - 5) = [46, 97, 113, 114, 108]) := fun h => hs5 h.2
            have hq5 : (nm.drop (nm.length - 5) == [46, 97, 113, 114, 108]) = false := beq_eq_false_iff_ne.2 hs5
            by_cases hs3 : nm.drop (nm.length - 3) = [46, 97, 113]
            · have HH := Lib.hid (head_c hk hno hn3 hs3)
              rw [hs3] at a3
              clear hk hno hs5
              generalize nm.drop (nm.length - 5) = d5 at *
              generalize nm.take (nm.length - 3) = np at *
              go_wp2_with fail
              (with_reducible refine (HOP3.out _).mono ?_)
              rintro e w4 ⟨rfl, hb4⟩
              have HG4 := Lib.hid (((HG2.out.op 0).aq true).below hb4)
              clear hb4 hc6 hc7 hf
              have hc0 := HG4.out.cell 0
              rw [show (InsC _)[0]? = some (.int .i64 0) from rfl] at hc0
              have hf := HG4.out.free
              have HG5 := Lib.hid (HG4.out.op (opL np))
              clear HG4
              go_wp2_with fail
              go_meet
              rw [HH.out]; exact HG5.out
            · by_cases hr3 : nm.drop (nm.length - 3) = [46, 114, 108]
              · have HH := Lib.hid (head_d hk hno hn3 hs3 hr3)
                rw [hr3] at a3
                clear hk hno hs5 hs3
                generalize nm.drop (nm.length - 5) = d5 at *
                generalize nm.take (nm.length - 3) = np at *
                go_wp2_with fail
                (with_reducible refine (HOP3.out _).mono ?_)
                rintro e w4 ⟨rfl, hb4⟩
                have HG4 := Lib.hid (((HG2.out.op 0).rl true).below hb4)
                clear hb4 hc6 hc7 hf
                have hc0 := HG4.out.cell 0
                rw [show (InsC _)[0]? = some (.int .i64 0) from rfl] at hc0
                have hf := HG4.out.free
                have HG5 := Lib.hid (HG4.out.op (opL np))
                clear HG4
                go_wp2_with fail
                go_meet
                rw [HH.out]; exact HG5.out
              · have HH := Lib.hid (head_e hk hno (fun h => h.2.elim hs3 hr3))
                have hq3 : (nm.drop (nm.length - 3) == [46, 97, 113]) = false := beq_eq_false_iff_ne.2 hs3
                have hr3b : (nm.drop (nm.length - 3) == [46, 114, 108]) = false := beq_eq_false_iff_ne.2 hr3
                clear hk hno hs5
                generalize nm.drop (nm.length - 5) = d5 at *
                generalize nm.drop (nm.length - 3) = d3 at *
                go_wp2_with fail
                (with_reducible refine (HOP0.out _).mono ?_)
                rintro e w4 ⟨rfl, hb4⟩
                have HG4 := Lib.hid ((HG2.out.op 0).below hb4)
                clear hb4 hc6 hc7 hf
                have hc0 := HG4.out.cell 0
                rw [show (InsC _)[0]? = some (.int .i64 0) from rfl] at hc0
                have hf := HG4.out.free
                have HG5 := Lib.hid (HG4.out.op 0)
                clear HG4
                go_wp2_with fail
                go_meet
                rw [HH.out, HK0.out]; exact HG5.out
        · have hi5 : ¬ (5 : Int) < (nm.length : Int) := by omega
          clear hsf5 hst5 hsf3 hst3
          have hno : ¬ (5 < nm.length ∧ nm.drop (nm.length - 5) = [46, 97, 113, 114, 108]) := fun h => hn5 h.1
          by_cases hs3 : nm.drop (nm.length - 3) = [46, 97, 113]
          · have HH := Lib.hid (head_c hk hno hn3 hs3)
            rw [hs3] at a3
            clear hk hno
            generalize nm.take (nm.length - 3) = np at *
            go_wp2_with fail
            (with_reducible refine (HOP3.out _).mono ?_)
            rintro e w4 ⟨rfl, hb4⟩
            have HG4 := Lib.hid (((HG2.out.op 0).aq true).below hb4)
            clear hb4 hc6 hc7 hf
            have hc0 := HG4.out.cell 0
            rw [show (InsC _)[0]? = some (.int .i64 0) from rfl] at hc0
            have hf := HG4.out.free
            have HG5 := Lib.hid (HG4.out.op (opL np))
            clear HG4
            go_wp2_with fail
            go_meet
            rw [HH.out]; exact HG5.out
          · by_cases hr3 : nm.drop (nm.length - 3) = [46, 114, 108]
            · have HH := Lib.hid (head_d hk hno hn3 hs3 hr3)
              rw [hr3] at a3
              clear hk hno hs3
              generalize nm.take (nm.length - 3) = np at *
              go_wp2_with fail
              (with_reducible refine (HOP3.out _).mono ?_)
              rintro e w4 ⟨rfl, hb4⟩
              have HG4 := Lib.hid (((HG2.out.op 0).rl true).below hb4)
              clear hb4 hc6 hc7 hf
              have hc0 := HG4.out.cell 0
              rw [show (InsC _)[0]? = some (.int .i64 0) from rfl] at hc0
              have hf := HG4.out.free
              have HG5 := Lib.hid (HG4.out.op (opL np))
              clear HG4
              go_wp2_with fail
              go_meet
              rw [HH.out]; exact HG5.out
            · have HH := Lib.hid (head_e hk hno (fun h => h.2.elim hs3 hr3))
              have hq3 : (nm.drop (nm.length - 3) == [46, 97, 113]) = false := beq_eq_false_iff_ne.2 hs3
              have hr3b : (nm.drop (nm.length - 3) == [46, 114, 108]) = false := beq_eq_false_iff_ne.2 hr3
              clear hk hno
              generalize nm.drop (nm.length - 3) = d3 at *
              go_wp2_with fail
              (with_reducible refine (HOP0.out _).mono ?_)
              rintro e w4 ⟨rfl, hb4⟩
              have HG4 := Lib.hid ((HG2.out.op 0).below hb4)
              clear hb4 hc6 hc7 hf
              have hc0 := HG4.out.cell 0
              rw [show (InsC _)[0]? = some (.int .i64 0) from rfl] at hc0
              have hf := HG4.out.free
              have HG5 := Lib.hid (HG4.out.op 0)
              clear HG4
              go_wp2_with fail
              go_meet
              rw [HH.out, HK0.out]; exact HG5.out
      · have hi3 : ¬ (3 : Int) < (nm.length : Int) := by omega
        have hi5 : ¬ (5 : Int) < (nm.length : Int) := by omega
        have HH := Lib.hid (head_e hk (fun h => by omega) (fun h => hn3 h.1))
        clear hsf5 hst5 hsf3 hst3 hk
        go_wp2_with fail
        (with_reducible refine (HOP0.out _).mono ?_)
        rintro e w4 ⟨rfl, hb4⟩
        have HG4 := Lib.hid ((HG2.out.op 0).below hb4)
        clear hb4 hc6 hc7 hf
        have hc0 := HG4.out.cell 0
        rw [show (InsC _)[0]? = some (.int .i64 0) from rfl] at hc0
        have hf := HG4.out.free
        have HG5 := Lib.hid (HG4.out.op 0)
        clear HG4
        go_wp2_with fail
        go_meet
        rw [HH.out, HK0.out]; exact HG5.out
    · have hkz : ¬ ((opL nm : Nat) : Int) = 0 := by omega
      have hkb : (((opL nm : Nat) : Int) == 0) = false := beq_eq_false_iff_ne.2 hkz
      have HH := Lib.hid (head_a hk)
      clear hk
      go_wp2_with fail
      go_meet
      rw [HH.out]; exact HG3.out
  case rest =>
  have HG := Lib.hid hcut
  clear hcut HG2 HG3 hf
  generalize wc = w3 at *
  obtain ⟨rs, rm, rt, hrow⟩ := rowK kk HKK.out
  have hle := letters_K kk HKK.out
  have hlk := letters_Kok kk HKK.out
  have HLT : Hid (lettersK (headR nm).op.toNat = lettersK kk) := Lib.hid (by rw [HKO.out]; rfl)
  have hc0 : w3.cell? ⟨bi, 0, none⟩ = some (.int .i64 kk) := by rw [HG.out.cell 0, ← HKO.out]; rfl
  have hform := field_form rs rm rt (letK kk)
  rw [HLT.out] at HGU
  generalize lettersK kk = LT at *
  generalize letK kk = lk at *
  generalize headR nm = I0 at *
  have HROW := Lib.hid hrow; have HLE := Lib.hid hle; have HLC := Lib.hid hlk.2
  have hl3 : LT.length ≤ 3 := hlk.1
  clear hrow hle hlk HLT HKO HOP HN0
  go_wp2_with (fail)
  (with_reducible refine (HROW.out _).mono ?_)
  rintro e w4 ⟨rfl, hb4⟩
  have HG4 := Lib.hid (HG.out.below hb4)
  clear hb4 HG hc0 HROW
  go_wp2_with (fail)
  (with_reducible refine (HLE.out _).mono ?_)
  rintro e w5 ⟨rfl, rfl⟩
  clear HLE hform
  go_wp2
  go_loopw [5, 10, 11] (fun u5 u10 u11 wr => ∃ (j : Nat) (R Lb : Bs) (I : Ins), j ≤ LT.length ∧ u11 = .int .i64 j ∧ u5 = str R ∧ u10 = str Lb ∧ R.length ≤ 100000 ∧ GS w wr bi I ∧ GR = walkL (LT.drop j) R I Lb) (fun _ _ k _ => LT.length - (RowKit.intOf k).toNat)
  case atStart => exact ⟨0, r0, [], I0, Nat.zero_le _, rfl, rfl, rfl, HR0.out, HG4.out, HGU.out⟩
  case round =>
    obtain ⟨j, R, Lb, I, hj, rfl, rfl, rfl, hR, hg, hgr⟩ := hrel
    have HRL := Lib.hid hR; have HG := Lib.hid hg; have HGR := Lib.hid hgr
    clear hR hg hgr
    by_cases hlt : j < LT.length
    · have hix : ((⟨LT.toArray⟩ : ByteArray)[j]'(by show j < LT.toArray.size; rw [List.size_toArray]; exact hlt)) = LT[j] := rfl
      have hcc := HLC.out LT[j] (List.getElem_mem hlt)
      have hdr : LT.drop j = LT[j] :: LT.drop (j + 1) := List.drop_eq_getElem_cons hlt
      have hgr := HGR.out
      rw [hdr] at hgr
      have hcl := cut_len R [44, 32]
      have hgr2 : GR = walkL (LT.drop (j + 1)) (cut R [44, 32]).2.1 (putL LT[j] (oneN LT[j] (cut R [44, 32]).1) I) (putB LT[j] (cut R [44, 32]).1 Lb) := hgr
      have HC2 := Lib.hid (fun wx => HCUT2.out R wx HRL.out)
      have HRL2 : Hid ((cut R [44, 32]).2.1.length ≤ 100000) := Lib.hid (by have := HRL.out; omega)
      have HOL : Hid ((cut R [44, 32]).1.length ≤ 100000) := Lib.hid (by have := HRL.out; omega)
      generalize (cut R [44, 32]).2.2 = q2 at *
      generalize (cut R [44, 32]).2.1 = R2 at *
      generalize (cut R [44, 32]).1 = one at *
      generalize LT[j] = c at *
      have HGR2 := Lib.hid hgr2
      clear hgr hgr2 hdr hcl HRL HGR
      rcases hcc with rfl | rfl | rfl | rfl | rfl
      · cases one with
        | nil =>
          have HNU := Lib.hid (fun wx => refNumber_any [] (by simp) wx)
          have HON : Hid (oneN 114 [] = (numZD []).1) := Lib.hid (by unfold oneN; simp)
          have HPB : Hid (putB 114 [] Lb = Lb) := Lib.hid (by unfold putB; simp)
          have HEQ : Hid (GR = walkL (LT.drop (j + 1)) R2 { I with rd := (numZD []).1 } Lb) := Lib.hid (by rw [HGR2.out, HON.out, HPB.out]; rfl)
          clear HON HPB HGR2 HCUT2
          generalize (numZD []).2 = nb at *
          generalize (numZD []).1 = nn at *
          go_wp2_with (fail)
          (with_reducible refine (HC2.out _).mono ?_)
          rintro e w6 ⟨rfl, hb6⟩
          replace HG := Lib.hid (HG.out.below hb6)
          clear hb6 HC2
          go_wp2_with (fail)
          (with_reducible refine (HNU.out _).mono ?_)
          rintro e w7 ⟨rfl, hb7⟩
          replace HG := Lib.hid (HG.out.below hb7)
          clear hb7 HNU
          have hcx := HG.out.cell 1
          rw [show (InsC I)[1]? = some (.int .i64 I.rd) from rfl] at hcx
          have hfz := HG.out.free
          have HGN := Lib.hid (HG.out.rd nn)
          clear HG
          go_wp2
          go_roundw
          case rel => exact ⟨j + 1, R2, Lb, { I with rd := nn }, by omega, by go_num, rfl, rfl, HRL2.out, HGN.out, HEQ.out⟩
          case measure => simp [RowKit.intOf]; omega
        | cons x t =>
          by_cases hx : x = 120
          · subst hx
            have h0x : ((⟨(120 :: t).toArray⟩ : ByteArray)[0]'(by show 0 < (120 :: t).toArray.size; simp)) = 120 := rfl
            have hlp : (0 : Int) < ((120 :: t).length : Int) := by simp
            have hsl : (⟨(120 :: t).toArray⟩ : ByteArray).extract 1 (t.length + 1) = ⟨t.toArray⟩ := by rw [ext_str]; simp
            have HNU := Lib.hid (fun wx => refNumber_any t (by have := HOL.out; simp at this; omega) wx)
            have HON : Hid (oneN 114 (120 :: t) = (numZD t).1) := Lib.hid (by unfold oneN; simp)
            have HPB : Hid (putB 114 (120 :: t) Lb = Lb) := Lib.hid (by unfold putB; simp)
            have HEQ : Hid (GR = walkL (LT.drop (j + 1)) R2 { I with rd := (numZD t).1 } Lb) := Lib.hid (by rw [HGR2.out, HON.out, HPB.out]; rfl)
            clear HON HPB HGR2 HCUT2
            generalize (numZD t).2 = nb at *
            generalize (numZD t).1 = nn at *
            go_wp2_with (fail)
            (with_reducible refine (HC2.out _).mono ?_)
            rintro e w6 ⟨rfl, hb6⟩
            replace HG := Lib.hid (HG.out.below hb6)
            clear hb6 HC2
            go_wp2_with (fail)
            (with_reducible refine (HNU.out _).mono ?_)
            rintro e w7 ⟨rfl, hb7⟩
            replace HG := Lib.hid (HG.out.below hb7)
            clear hb7 HNU
            have hcx := HG.out.cell 1
            rw [show (InsC I)[1]? = some (.int .i64 I.rd) from rfl] at hcx
            have hfz := HG.out.free
            have HGN := Lib.hid (HG.out.rd nn)
            clear HG
            go_wp2
            go_roundw
            case rel => exact ⟨j + 1, R2, Lb, { I with rd := nn }, by omega, by go_num, rfl, rfl, HRL2.out, HGN.out, HEQ.out⟩
            case measure => simp [RowKit.intOf]; omega
          · have hxb : (((x.toNat : Nat) : Int) == 120) = false := beq_eq_false_iff_ne.2 (fun h => hx (UInt8.toNat_inj.1 (by have h2 : ((x.toNat : Nat) : Int) = 120 := h; show x.toNat = 120; omega)))
            have h0x : ((⟨(x :: t).toArray⟩ : ByteArray)[0]'(by show 0 < (x :: t).toArray.size; simp)) = x := rfl
            have hlp : (0 : Int) < ((x :: t).length : Int) := by simp
            have HNU := Lib.hid (fun wx => refNumber_any (x :: t) HOL.out wx)
            have HON : Hid (oneN 114 (x :: t) = (numZD (x :: t)).1) := Lib.hid (by unfold oneN; simp [hx])
            have HPB : Hid (putB 114 (x :: t) Lb = Lb) := Lib.hid (by unfold putB; simp)
            have HEQ : Hid (GR = walkL (LT.drop (j + 1)) R2 { I with rd := (numZD (x :: t)).1 } Lb) := Lib.hid (by rw [HGR2.out, HON.out, HPB.out]; rfl)
            clear HON HPB HGR2 HCUT2
            generalize (numZD (x :: t)).2 = nb at *
            generalize (numZD (x :: t)).1 = nn at *
            go_wp2_with (fail)
            (with_reducible refine (HC2.out _).mono ?_)
            rintro e w6 ⟨rfl, hb6⟩
            replace HG := Lib.hid (HG.out.below hb6)
            clear hb6 HC2
            go_wp2_with (fail)
            (with_reducible refine (HNU.out _).mono ?_)
            rintro e w7 ⟨rfl, hb7⟩
            replace HG := Lib.hid (HG.out.below hb7)
            clear hb7 HNU
            have hcx := HG.out.cell 1
            rw [show (InsC I)[1]? = some (.int .i64 I.rd) from rfl] at hcx
            have hfz := HG.out.free
            have HGN := Lib.hid (HG.out.rd nn)
            clear HG
            go_wp2
            go_roundw
            case rel => exact ⟨j + 1, R2, Lb, { I with rd := nn }, by omega, by go_num, rfl, rfl, HRL2.out, HGN.out, HEQ.out⟩
            case measure => simp [RowKit.intOf]; omega
      · cases one with
        | nil =>
          have HNU := Lib.hid (fun wx => refNumber_any [] (by simp) wx)
          have HON : Hid (oneN 97 [] = (numZD []).1) := Lib.hid (by unfold oneN; simp)
          have HPB : Hid (putB 97 [] Lb = Lb) := Lib.hid (by unfold putB; simp)
          have HEQ : Hid (GR = walkL (LT.drop (j + 1)) R2 { I with a := (numZD []).1 } Lb) := Lib.hid (by rw [HGR2.out, HON.out, HPB.out]; rfl)
          clear HON HPB HGR2 HCUT2
          generalize (numZD []).2 = nb at *
          generalize (numZD []).1 = nn at *
          go_wp2_with (fail)
          (with_reducible refine (HC2.out _).mono ?_)
          rintro e w6 ⟨rfl, hb6⟩
          replace HG := Lib.hid (HG.out.below hb6)
          clear hb6 HC2
          go_wp2_with (fail)
          (with_reducible refine (HNU.out _).mono ?_)
          rintro e w7 ⟨rfl, hb7⟩
          replace HG := Lib.hid (HG.out.below hb7)
          clear hb7 HNU
          have hcx := HG.out.cell 2
          rw [show (InsC I)[2]? = some (.int .i64 I.a) from rfl] at hcx
          have hfz := HG.out.free
          have HGN := Lib.hid (HG.out.a nn)
          clear HG
          go_wp2
          go_roundw
          case rel => exact ⟨j + 1, R2, Lb, { I with a := nn }, by omega, by go_num, rfl, rfl, HRL2.out, HGN.out, HEQ.out⟩
          case measure => simp [RowKit.intOf]; omega
        | cons x t =>
          by_cases hx : x = 120
          · subst hx
            have h0x : ((⟨(120 :: t).toArray⟩ : ByteArray)[0]'(by show 0 < (120 :: t).toArray.size; simp)) = 120 := rfl
            have hlp : (0 : Int) < ((120 :: t).length : Int) := by simp
            have hsl : (⟨(120 :: t).toArray⟩ : ByteArray).extract 1 (t.length + 1) = ⟨t.toArray⟩ := by rw [ext_str]; simp
            have HNU := Lib.hid (fun wx => refNumber_any t (by have := HOL.out; simp at this; omega) wx)
            have HON : Hid (oneN 97 (120 :: t) = (numZD t).1) := Lib.hid (by unfold oneN; simp)
            have HPB : Hid (putB 97 (120 :: t) Lb = Lb) := Lib.hid (by unfold putB; simp)
            have HEQ : Hid (GR = walkL (LT.drop (j + 1)) R2 { I with a := (numZD t).1 } Lb) := Lib.hid (by rw [HGR2.out, HON.out, HPB.out]; rfl)
            clear HON HPB HGR2 HCUT2
            generalize (numZD t).2 = nb at *
            generalize (numZD t).1 = nn at *
            go_wp2_with (fail)
            (with_reducible refine (HC2.out _).mono ?_)
            rintro e w6 ⟨rfl, hb6⟩
            replace HG := Lib.hid (HG.out.below hb6)
            clear hb6 HC2
            go_wp2_with (fail)
            (with_reducible refine (HNU.out _).mono ?_)
            rintro e w7 ⟨rfl, hb7⟩
            replace HG := Lib.hid (HG.out.below hb7)
            clear hb7 HNU
            have hcx := HG.out.cell 2
            rw [show (InsC I)[2]? = some (.int .i64 I.a) from rfl] at hcx
            have hfz := HG.out.free
            have HGN := Lib.hid (HG.out.a nn)
            clear HG
            go_wp2
            go_roundw
            case rel => exact ⟨j + 1, R2, Lb, { I with a := nn }, by omega, by go_num, rfl, rfl, HRL2.out, HGN.out, HEQ.out⟩
            case measure => simp [RowKit.intOf]; omega
          · have hxb : (((x.toNat : Nat) : Int) == 120) = false := beq_eq_false_iff_ne.2 (fun h => hx (UInt8.toNat_inj.1 (by have h2 : ((x.toNat : Nat) : Int) = 120 := h; show x.toNat = 120; omega)))
            have h0x : ((⟨(x :: t).toArray⟩ : ByteArray)[0]'(by show 0 < (x :: t).toArray.size; simp)) = x := rfl
            have hlp : (0 : Int) < ((x :: t).length : Int) := by simp
            have HNU := Lib.hid (fun wx => refNumber_any (x :: t) HOL.out wx)
            have HON : Hid (oneN 97 (x :: t) = (numZD (x :: t)).1) := Lib.hid (by unfold oneN; simp [hx])
            have HPB : Hid (putB 97 (x :: t) Lb = Lb) := Lib.hid (by unfold putB; simp)
            have HEQ : Hid (GR = walkL (LT.drop (j + 1)) R2 { I with a := (numZD (x :: t)).1 } Lb) := Lib.hid (by rw [HGR2.out, HON.out, HPB.out]; rfl)
            clear HON HPB HGR2 HCUT2
            generalize (numZD (x :: t)).2 = nb at *
            generalize (numZD (x :: t)).1 = nn at *
            go_wp2_with (fail)
            (with_reducible refine (HC2.out _).mono ?_)
            rintro e w6 ⟨rfl, hb6⟩
            replace HG := Lib.hid (HG.out.below hb6)
            clear hb6 HC2
            go_wp2_with (fail)
            (with_reducible refine (HNU.out _).mono ?_)
            rintro e w7 ⟨rfl, hb7⟩
            replace HG := Lib.hid (HG.out.below hb7)
            clear hb7 HNU
            have hcx := HG.out.cell 2
            rw [show (InsC I)[2]? = some (.int .i64 I.a) from rfl] at hcx
            have hfz := HG.out.free
            have HGN := Lib.hid (HG.out.a nn)
            clear HG
            go_wp2
            go_roundw
            case rel => exact ⟨j + 1, R2, Lb, { I with a := nn }, by omega, by go_num, rfl, rfl, HRL2.out, HGN.out, HEQ.out⟩
            case measure => simp [RowKit.intOf]; omega
      · cases one with
        | nil =>
          have HNU := Lib.hid (fun wx => refNumber_any [] (by simp) wx)
          have HON : Hid (oneN 98 [] = (numZD []).1) := Lib.hid (by unfold oneN; simp)
          have HPB : Hid (putB 98 [] Lb = Lb) := Lib.hid (by unfold putB; simp)
          have HEQ : Hid (GR = walkL (LT.drop (j + 1)) R2 { I with b := (numZD []).1 } Lb) := Lib.hid (by rw [HGR2.out, HON.out, HPB.out]; rfl)
          clear HON HPB HGR2 HCUT2
          generalize (numZD []).2 = nb at *
          generalize (numZD []).1 = nn at *
          go_wp2_with (fail)
          (with_reducible refine (HC2.out _).mono ?_)
          rintro e w6 ⟨rfl, hb6⟩
          replace HG := Lib.hid (HG.out.below hb6)
          clear hb6 HC2
          go_wp2_with (fail)
          (with_reducible refine (HNU.out _).mono ?_)
          rintro e w7 ⟨rfl, hb7⟩
          replace HG := Lib.hid (HG.out.below hb7)
          clear hb7 HNU
          have hcx := HG.out.cell 3
          rw [show (InsC I)[3]? = some (.int .i64 I.b) from rfl] at hcx
          have hfz := HG.out.free
          have HGN := Lib.hid (HG.out.b nn)
          clear HG
          go_wp2
          go_roundw
          case rel => exact ⟨j + 1, R2, Lb, { I with b := nn }, by omega, by go_num, rfl, rfl, HRL2.out, HGN.out, HEQ.out⟩
          case measure => simp [RowKit.intOf]; omega
        | cons x t =>
          by_cases hx : x = 120
          · subst hx
            have h0x : ((⟨(120 :: t).toArray⟩ : ByteArray)[0]'(by show 0 < (120 :: t).toArray.size; simp)) = 120 := rfl
            have hlp : (0 : Int) < ((120 :: t).length : Int) := by simp
            have hsl : (⟨(120 :: t).toArray⟩ : ByteArray).extract 1 (t.length + 1) = ⟨t.toArray⟩ := by rw [ext_str]; simp
            have HNU := Lib.hid (fun wx => refNumber_any t (by have := HOL.out; simp at this; omega) wx)
            have HON : Hid (oneN 98 (120 :: t) = (numZD t).1) := Lib.hid (by unfold oneN; simp)
            have HPB : Hid (putB 98 (120 :: t) Lb = Lb) := Lib.hid (by unfold putB; simp)
            have HEQ : Hid (GR = walkL (LT.drop (j + 1)) R2 { I with b := (numZD t).1 } Lb) := Lib.hid (by rw [HGR2.out, HON.out, HPB.out]; rfl)
            clear HON HPB HGR2 HCUT2
            generalize (numZD t).2 = nb at *
            generalize (numZD t).1 = nn at *
            go_wp2_with (fail)
            (with_reducible refine (HC2.out _).mono ?_)
            rintro e w6 ⟨rfl, hb6⟩
            replace HG := Lib.hid (HG.out.below hb6)
            clear hb6 HC2
            go_wp2_with (fail)
            (with_reducible refine (HNU.out _).mono ?_)
            rintro e w7 ⟨rfl, hb7⟩
            replace HG := Lib.hid (HG.out.below hb7)
            clear hb7 HNU
            have hcx := HG.out.cell 3
            rw [show (InsC I)[3]? = some (.int .i64 I.b) from rfl] at hcx
            have hfz := HG.out.free
            have HGN := Lib.hid (HG.out.b nn)
            clear HG
            go_wp2
            go_roundw
            case rel => exact ⟨j + 1, R2, Lb, { I with b := nn }, by omega, by go_num, rfl, rfl, HRL2.out, HGN.out, HEQ.out⟩
            case measure => simp [RowKit.intOf]; omega
          · have hxb : (((x.toNat : Nat) : Int) == 120) = false := beq_eq_false_iff_ne.2 (fun h => hx (UInt8.toNat_inj.1 (by have h2 : ((x.toNat : Nat) : Int) = 120 := h; show x.toNat = 120; omega)))
            have h0x : ((⟨(x :: t).toArray⟩ : ByteArray)[0]'(by show 0 < (x :: t).toArray.size; simp)) = x := rfl
            have hlp : (0 : Int) < ((x :: t).length : Int) := by simp
            have HNU := Lib.hid (fun wx => refNumber_any (x :: t) HOL.out wx)
            have HON : Hid (oneN 98 (x :: t) = (numZD (x :: t)).1) := Lib.hid (by unfold oneN; simp [hx])
            have HPB : Hid (putB 98 (x :: t) Lb = Lb) := Lib.hid (by unfold putB; simp)
            have HEQ : Hid (GR = walkL (LT.drop (j + 1)) R2 { I with b := (numZD (x :: t)).1 } Lb) := Lib.hid (by rw [HGR2.out, HON.out, HPB.out]; rfl)
            clear HON HPB HGR2 HCUT2
            generalize (numZD (x :: t)).2 = nb at *
            generalize (numZD (x :: t)).1 = nn at *
            go_wp2_with (fail)
            (with_reducible refine (HC2.out _).mono ?_)
            rintro e w6 ⟨rfl, hb6⟩
            replace HG := Lib.hid (HG.out.below hb6)
            clear hb6 HC2
            go_wp2_with (fail)
            (with_reducible refine (HNU.out _).mono ?_)
            rintro e w7 ⟨rfl, hb7⟩
            replace HG := Lib.hid (HG.out.below hb7)
            clear hb7 HNU
            have hcx := HG.out.cell 3
            rw [show (InsC I)[3]? = some (.int .i64 I.b) from rfl] at hcx
            have hfz := HG.out.free
            have HGN := Lib.hid (HG.out.b nn)
            clear HG
            go_wp2
            go_roundw
            case rel => exact ⟨j + 1, R2, Lb, { I with b := nn }, by omega, by go_num, rfl, rfl, HRL2.out, HGN.out, HEQ.out⟩
            case measure => simp [RowKit.intOf]; omega
      · cases one with
        | nil =>
          have HNU := Lib.hid (fun wx => refNumber_any [] (by simp) wx)
          have HON : Hid (oneN 105 [] = (numZD []).1) := Lib.hid (by unfold oneN; simp)
          have HPB : Hid (putB 105 [] Lb = Lb) := Lib.hid (by unfold putB; simp)
          have HEQ : Hid (GR = walkL (LT.drop (j + 1)) R2 { I with imm := (numZD []).1 } Lb) := Lib.hid (by rw [HGR2.out, HON.out, HPB.out]; rfl)
          clear HON HPB HGR2 HCUT2
          generalize (numZD []).2 = nb at *
          generalize (numZD []).1 = nn at *
          go_wp2_with (fail)
          (with_reducible refine (HC2.out _).mono ?_)
          rintro e w6 ⟨rfl, hb6⟩
          replace HG := Lib.hid (HG.out.below hb6)
          clear hb6 HC2
          go_wp2_with (fail)
          (with_reducible refine (HNU.out _).mono ?_)
          rintro e w7 ⟨rfl, hb7⟩
          replace HG := Lib.hid (HG.out.below hb7)
          clear hb7 HNU
          have hcx := HG.out.cell 4
          rw [show (InsC I)[4]? = some (.int .i64 I.imm) from rfl] at hcx
          have hfz := HG.out.free
          have HGN := Lib.hid (HG.out.imm nn)
          clear HG
          go_wp2
          go_roundw
          case rel => exact ⟨j + 1, R2, Lb, { I with imm := nn }, by omega, by go_num, rfl, rfl, HRL2.out, HGN.out, HEQ.out⟩
          case measure => simp [RowKit.intOf]; omega
        | cons x t =>
          by_cases hx : x = 120
          · subst hx
            have h0x : ((⟨(120 :: t).toArray⟩ : ByteArray)[0]'(by show 0 < (120 :: t).toArray.size; simp)) = 120 := rfl
            have hlp : (0 : Int) < ((120 :: t).length : Int) := by simp
            have HNU := Lib.hid (fun wx => refNumber_any (120 :: t) HOL.out wx)
            have HON : Hid (oneN 105 (120 :: t) = (numZD (120 :: t)).1) := Lib.hid (by unfold oneN; simp)
            have HPB : Hid (putB 105 (120 :: t) Lb = Lb) := Lib.hid (by unfold putB; simp)
            have HEQ : Hid (GR = walkL (LT.drop (j + 1)) R2 { I with imm := (numZD (120 :: t)).1 } Lb) := Lib.hid (by rw [HGR2.out, HON.out, HPB.out]; rfl)
            clear HON HPB HGR2 HCUT2
            generalize (numZD (120 :: t)).2 = nb at *
            generalize (numZD (120 :: t)).1 = nn at *
            go_wp2_with (fail)
            (with_reducible refine (HC2.out _).mono ?_)
            rintro e w6 ⟨rfl, hb6⟩
            replace HG := Lib.hid (HG.out.below hb6)
            clear hb6 HC2
            go_wp2_with (fail)
            (with_reducible refine (HNU.out _).mono ?_)
            rintro e w7 ⟨rfl, hb7⟩
            replace HG := Lib.hid (HG.out.below hb7)
            clear hb7 HNU
            have hcx := HG.out.cell 4
            rw [show (InsC I)[4]? = some (.int .i64 I.imm) from rfl] at hcx
            have hfz := HG.out.free
            have HGN := Lib.hid (HG.out.imm nn)
            clear HG
            go_wp2
            go_roundw
            case rel => exact ⟨j + 1, R2, Lb, { I with imm := nn }, by omega, by go_num, rfl, rfl, HRL2.out, HGN.out, HEQ.out⟩
            case measure => simp [RowKit.intOf]; omega
          by_cases hx2 : x = 64
          · subst hx2
            clear hx
            have h0x : ((⟨(64 :: t).toArray⟩ : ByteArray)[0]'(by show 0 < (64 :: t).toArray.size; simp)) = 64 := rfl
            have hlp : (0 : Int) < ((64 :: t).length : Int) := by simp
            have hsl : (⟨(64 :: t).toArray⟩ : ByteArray).extract 1 (t.length + 1) = ⟨t.toArray⟩ := by rw [ext_str]; simp
            have HNU := Lib.hid (fun wx => refNumber_any (64 :: t) HOL.out wx)
            have HON : Hid (oneN 105 (64 :: t) = (numZD (64 :: t)).1) := Lib.hid (by unfold oneN; simp)
            have HPB : Hid (putB 105 (64 :: t) Lb = t) := Lib.hid (by unfold putB; simp)
            have HEQ : Hid (GR = walkL (LT.drop (j + 1)) R2 { I with imm := (numZD (64 :: t)).1 } t) := Lib.hid (by rw [HGR2.out, HON.out, HPB.out]; rfl)
            clear HON HPB HGR2 HCUT2
            generalize (numZD (64 :: t)).2 = nb at *
            generalize (numZD (64 :: t)).1 = nn at *
            go_wp2_with (fail)
            (with_reducible refine (HC2.out _).mono ?_)
            rintro e w6 ⟨rfl, hb6⟩
            replace HG := Lib.hid (HG.out.below hb6)
            clear hb6 HC2
            go_wp2_with (fail)
            (with_reducible refine (HNU.out _).mono ?_)
            rintro e w7 ⟨rfl, hb7⟩
            replace HG := Lib.hid (HG.out.below hb7)
            clear hb7 HNU
            have hcx := HG.out.cell 4
            rw [show (InsC I)[4]? = some (.int .i64 I.imm) from rfl] at hcx
            have hfz := HG.out.free
            have HGN := Lib.hid (HG.out.imm nn)
            clear HG
            go_wp2
            go_roundw
            case rel => exact ⟨j + 1, R2, t, { I with imm := nn }, by omega, by go_num, rfl, rfl, HRL2.out, HGN.out, HEQ.out⟩
            case measure => simp [RowKit.intOf]; omega
          · have hxb : (((x.toNat : Nat) : Int) == 120) = false := beq_eq_false_iff_ne.2 (fun h => hx (UInt8.toNat_inj.1 (by have h2 : ((x.toNat : Nat) : Int) = 120 := h; show x.toNat = 120; omega)))
            have hxc : (((x.toNat : Nat) : Int) == 64) = false := beq_eq_false_iff_ne.2 (fun h => hx2 (UInt8.toNat_inj.1 (by have h2 : ((x.toNat : Nat) : Int) = 64 := h; show x.toNat = 64; omega)))
            have h0x : ((⟨(x :: t).toArray⟩ : ByteArray)[0]'(by show 0 < (x :: t).toArray.size; simp)) = x := rfl
            have hlp : (0 : Int) < ((x :: t).length : Int) := by simp
            have HNU := Lib.hid (fun wx => refNumber_any (x :: t) HOL.out wx)
            have HON : Hid (oneN 105 (x :: t) = (numZD (x :: t)).1) := Lib.hid (by unfold oneN; simp)
            have HPB : Hid (putB 105 (x :: t) Lb = Lb) := Lib.hid (by unfold putB; simp [hx2])
            have HEQ : Hid (GR = walkL (LT.drop (j + 1)) R2 { I with imm := (numZD (x :: t)).1 } Lb) := Lib.hid (by rw [HGR2.out, HON.out, HPB.out]; rfl)
            clear HON HPB HGR2 HCUT2
            generalize (numZD (x :: t)).2 = nb at *
            generalize (numZD (x :: t)).1 = nn at *
            go_wp2_with (fail)
            (with_reducible refine (HC2.out _).mono ?_)
            rintro e w6 ⟨rfl, hb6⟩
            replace HG := Lib.hid (HG.out.below hb6)
            clear hb6 HC2
            go_wp2_with (fail)
            (with_reducible refine (HNU.out _).mono ?_)
            rintro e w7 ⟨rfl, hb7⟩
            replace HG := Lib.hid (HG.out.below hb7)
            clear hb7 HNU
            have hcx := HG.out.cell 4
            rw [show (InsC I)[4]? = some (.int .i64 I.imm) from rfl] at hcx
            have hfz := HG.out.free
            have HGN := Lib.hid (HG.out.imm nn)
            clear HG
            go_wp2
            go_roundw
            case rel => exact ⟨j + 1, R2, Lb, { I with imm := nn }, by omega, by go_num, rfl, rfl, HRL2.out, HGN.out, HEQ.out⟩
            case measure => simp [RowKit.intOf]; omega
      · cases one with
        | nil =>
          have HNU := Lib.hid (fun wx => refNumber_any [] (by simp) wx)
          have HON : Hid (oneN 99 [] = (numZD []).1) := Lib.hid (by unfold oneN; simp)
          have HPB : Hid (putB 99 [] Lb = Lb) := Lib.hid (by unfold putB; simp)
          have HEQ : Hid (GR = walkL (LT.drop (j + 1)) R2 { I with csr := (numZD []).1 } Lb) := Lib.hid (by rw [HGR2.out, HON.out, HPB.out]; rfl)
          clear HON HPB HGR2 HCUT2
          generalize (numZD []).2 = nb at *
          generalize (numZD []).1 = nn at *
          go_wp2_with (fail)
          (with_reducible refine (HC2.out _).mono ?_)
          rintro e w6 ⟨rfl, hb6⟩
          replace HG := Lib.hid (HG.out.below hb6)
          clear hb6 HC2
          go_wp2_with (fail)
          (with_reducible refine (HNU.out _).mono ?_)
          rintro e w7 ⟨rfl, hb7⟩
          replace HG := Lib.hid (HG.out.below hb7)
          clear hb7 HNU
          have hcx := HG.out.cell 5
          rw [show (InsC I)[5]? = some (.int .i64 I.csr) from rfl] at hcx
          have hfz := HG.out.free
          have HGN := Lib.hid (HG.out.csr nn)
          clear HG
          go_wp2
          go_roundw
          case rel => exact ⟨j + 1, R2, Lb, { I with csr := nn }, by omega, by go_num, rfl, rfl, HRL2.out, HGN.out, HEQ.out⟩
          case measure => simp [RowKit.intOf]; omega
        | cons x t =>
          by_cases hx : x = 120
          · subst hx
            have h0x : ((⟨(120 :: t).toArray⟩ : ByteArray)[0]'(by show 0 < (120 :: t).toArray.size; simp)) = 120 := rfl
            have hlp : (0 : Int) < ((120 :: t).length : Int) := by simp
            have HNU := Lib.hid (fun wx => refNumber_any (120 :: t) HOL.out wx)
            have HON : Hid (oneN 99 (120 :: t) = (numZD (120 :: t)).1) := Lib.hid (by unfold oneN; simp)
            have HPB : Hid (putB 99 (120 :: t) Lb = Lb) := Lib.hid (by unfold putB; simp)
            have HEQ : Hid (GR = walkL (LT.drop (j + 1)) R2 { I with csr := (numZD (120 :: t)).1 } Lb) := Lib.hid (by rw [HGR2.out, HON.out, HPB.out]; rfl)
            clear HON HPB HGR2 HCUT2
            generalize (numZD (120 :: t)).2 = nb at *
            generalize (numZD (120 :: t)).1 = nn at *
            go_wp2_with (fail)
            (with_reducible refine (HC2.out _).mono ?_)
            rintro e w6 ⟨rfl, hb6⟩
            replace HG := Lib.hid (HG.out.below hb6)
            clear hb6 HC2
            go_wp2_with (fail)
            (with_reducible refine (HNU.out _).mono ?_)
            rintro e w7 ⟨rfl, hb7⟩
            replace HG := Lib.hid (HG.out.below hb7)
            clear hb7 HNU
            have hcx := HG.out.cell 5
            rw [show (InsC I)[5]? = some (.int .i64 I.csr) from rfl] at hcx
            have hfz := HG.out.free
            have HGN := Lib.hid (HG.out.csr nn)
            clear HG
            go_wp2
            go_roundw
            case rel => exact ⟨j + 1, R2, Lb, { I with csr := nn }, by omega, by go_num, rfl, rfl, HRL2.out, HGN.out, HEQ.out⟩
            case measure => simp [RowKit.intOf]; omega
          · have hxb : (((x.toNat : Nat) : Int) == 120) = false := beq_eq_false_iff_ne.2 (fun h => hx (UInt8.toNat_inj.1 (by have h2 : ((x.toNat : Nat) : Int) = 120 := h; show x.toNat = 120; omega)))
            have h0x : ((⟨(x :: t).toArray⟩ : ByteArray)[0]'(by show 0 < (x :: t).toArray.size; simp)) = x := rfl
            have hlp : (0 : Int) < ((x :: t).length : Int) := by simp
            have HNU := Lib.hid (fun wx => refNumber_any (x :: t) HOL.out wx)
            have HON : Hid (oneN 99 (x :: t) = (numZD (x :: t)).1) := Lib.hid (by unfold oneN; simp)
            have HPB : Hid (putB 99 (x :: t) Lb = Lb) := Lib.hid (by unfold putB; simp)
            have HEQ : Hid (GR = walkL (LT.drop (j + 1)) R2 { I with csr := (numZD (x :: t)).1 } Lb) := Lib.hid (by rw [HGR2.out, HON.out, HPB.out]; rfl)
            clear HON HPB HGR2 HCUT2
            generalize (numZD (x :: t)).2 = nb at *
            generalize (numZD (x :: t)).1 = nn at *
            go_wp2_with (fail)
            (with_reducible refine (HC2.out _).mono ?_)
            rintro e w6 ⟨rfl, hb6⟩
            replace HG := Lib.hid (HG.out.below hb6)
            clear hb6 HC2
            go_wp2_with (fail)
            (with_reducible refine (HNU.out _).mono ?_)
            rintro e w7 ⟨rfl, hb7⟩
            replace HG := Lib.hid (HG.out.below hb7)
            clear hb7 HNU
            have hcx := HG.out.cell 5
            rw [show (InsC I)[5]? = some (.int .i64 I.csr) from rfl] at hcx
            have hfz := HG.out.free
            have HGN := Lib.hid (HG.out.csr nn)
            clear HG
            go_wp2
            go_roundw
            case rel => exact ⟨j + 1, R2, Lb, { I with csr := nn }, by omega, by go_num, rfl, rfl, HRL2.out, HGN.out, HEQ.out⟩
            case measure => simp [RowKit.intOf]; omega
    · obtain rfl : j = LT.length := by omega
      have hfin : GR = (I, Lb) := by
        have := HGR.out
        rw [List.drop_length] at this
        exact this
      have hfz := HG.out.free
      clear hlt hj HGR HLC HGU
      go_wp2_with (first
        | (refine wpList_load_row rfl _ _ rfl bi rfl 23 _ _ _ HG.out.inst Tryz.underlying23 rfl size_ins ?_)
        | (refine wpList_store_row rfl _ _ _ rfl w.heap.size _ rfl rfl 23 _ HG.out.res size_ins rfl (by simp [InsC, Value.oneCell']) ?_))
      exact bodyPost_ret (v := .tuple #[.agg (InsC I), str Lb]) (results_cell_tmp (show Tryz.f38.results = #[.cell 2 23, .tmp 3] by kernel_rfl) _ _ w.heap.size 23 _ _ _ rfl (setRow_heap _ _ _ _ _ _ HG.out.res) Tryz.underlying23 rfl size_ins) rfl ⟨by rw [hfin]; rfl, below_setRow HG.out.bel (Nat.le_refl _) _⟩
end Go.Proofs.YtakdhdaoklcidaaGreatDoor

namespace Go.Proofs.YtakdhdaoklcidaaGreatDoor
open Go.RowKit Go.Lib
set_option linter.unusedVariables false
set_option maxRecDepth 100000
structure Tch (b : Nat) (w w' : World) : Prop where
  bel : ∀ N, N ≤ b → Below N w w'
  oth : ∀ j, ¬ j = b → w'.heap[j]? = w.heap[j]?
  sz : w'.heap.size = w.heap.size
theorem Tch.setCell {b k : Nat} {w : World} (v : Value) : Tch b w (w.setCell ⟨b, k, none⟩ v) :=
  ⟨fun N hN => (Below.refl _ _).setCell hN v, fun j hj => Below.heap_setCell _ _ _ _ hj, by simp [World.setCell]⟩
theorem Tch.setRow {b : Nat} {w : World} (cs : Array Value) : Tch b w (w.setRow b cs) :=
  ⟨fun N hN => below_setRow (Below.refl _ _) hN cs, fun j hj => Go.setRow_other w b j cs hj, by rw [size_setRow]⟩
theorem idx0 {r : Bs} (h : decide ((0 : Int) < (r.length : Int)) = true) (w : World) : (Instr.index 9 (str r) (.int .i64 0)).run Tryz.prog w = .ok (.int .u8 ((r.headD 0).toNat : Int)) w := by
  cases r with
  | nil => exact absurd (of_decide_eq_true h) (by simp)
  | cons x t =>
    have h0 : ((⟨(x :: t).toArray⟩ : ByteArray)[0]'(by show 0 < (x :: t).toArray.size; simp)) = x := rfl
    unfold Instr.index
    simp [go_sem, run_underlying Tryz.underlying9, h0]
theorem wrap_sub {m : Nat} (h : 1 ≤ m) (h2 : m ≤ 1000000) : IntKind.i64.wrap ((m : Int) - 1) = ((m - 1 : Nat) : Int) := by
  rw [show (m : Int) - 1 = ((m - 1 : Nat) : Int) by omega]
  exact IntWalk.i64_in _ (by omega)
theorem idxL {r : Bs} (h : decide ((0 : Int) < (r.length : Int)) = true) (h2 : r.length ≤ 1000000) (w : World) : (Instr.index 9 (str r) (.int .i64 (IntKind.i64.wrap ((r.length : Int) - 1)))).run Tryz.prog w = .ok (.int .u8 ((r.getLast?.getD 0).toNat : Int)) w := by
  have h1 : 1 ≤ r.length := by have := of_decide_eq_true h; omega
  rw [wrap_sub h1 h2]
  have hlt : r.length - 1 < r.length := by omega
  have e : r.getLast?.getD 0 = r[r.length - 1] := by rw [List.getLast?_eq_getElem?, List.getElem?_eq_getElem hlt]; rfl
  have h0 : ((⟨r.toArray⟩ : ByteArray)[r.length - 1]'(by show r.length - 1 < r.toArray.size; simpa using hlt)) = r[r.length - 1] := rfl
  rw [e]
  unfold Instr.index
  simp [go_sem, run_underlying Tryz.underlying9, h0, hlt]
theorem slice1 {r : Bs} (h : decide ((0 : Int) < (r.length : Int)) = true) (w : World) : (Instr.slice 9 (str r) (some (.int .i64 1)) none none).run Tryz.prog w = .ok (str r.tail) w := by
  have h1 : 1 ≤ r.length := by have := of_decide_eq_true h; omega
  rw [slice_from r 1 (by omega) (by omega) w]
  simp
theorem sliceL {r : Bs} (h : decide ((0 : Int) < (r.length : Int)) = true) (h2 : r.length ≤ 1000000) (w : World) : (Instr.slice 9 (str r) none (some (.int .i64 (IntKind.i64.wrap ((r.length : Int) - 1)))) none).run Tryz.prog w = .ok (str r.dropLast) w := by
  have h1 : 1 ≤ r.length := by have := of_decide_eq_true h; omega
  rw [wrap_sub h1 h2, slice_to r _ (by omega) (by omega) w, List.dropLast_eq_take]
  simp
section
variable {Q : Exit → Act → World → Prop} {w : World} {ops : Array Oper} {rest : List Oper} {o : Oper} {a : Act} {l : List (Nat × Value)} {n d : Nat}
theorem R_lenL (hA : FrA l n a) {x : Operand} (ho : o.op = .call { callee := .builtin .len, args := #[x], argTypes := #[9] }) {s : Bs} (hx : evL l x = some (str s)) (w : World) : (execOp a.eval o).run Tryz.prog w = .ok (.value (.int .i64 (s.length : Int))) w := by
  have := R_lenStr hA ho hx w
  have e : (((⟨s.toArray⟩ : ByteArray).size : Nat) : Int) = (s.length : Int) := by
    show ((s.toArray.size : Nat) : Int) = _
    rw [List.size_toArray]
  rw [e] at this; exact this
theorem R_eqlL (hA : FrA l n a) {x y : Operand} (ho : o.op = .binOp .eql 9 x y 9) {u v : Bs} (hx : evL l x = some (str u)) (hy : evL l y = some (str v)) (w : World) : (execOp a.eval o).run Tryz.prog w = .ok (.value (.bool (u == v))) w := R_eqlS hA ho hx hy w
theorem R_neqL (hA : FrA l n a) {x y : Operand} (ho : o.op = .binOp .neq 9 x y 9) {u v : Bs} (hx : evL l x = some (str u)) (hy : evL l y = some (str v)) (w : World) : (execOp a.eval o).run Tryz.prog w = .ok (.value (.bool (!(u == v)))) w := by
  have := R_neqStr hA ho hx hy w
  rw [str_toList, str_toList] at this; exact this
theorem R_addL (hA : FrA l n a) {x y : Operand} (ho : o.op = .binOp .add 9 x y 9) {u v : Bs} (hx : evL l x = some (str u)) (hy : evL l y = some (str v)) (hs : u.length + v.length ≤ 10000000) (w : World) : (execOp a.eval o).run Tryz.prog w = .ok (.value (str (u ++ v))) w := by
  have := R_addStr hA ho hx hy (by show u.toArray.size + v.toArray.size ≤ _; rw [List.size_toArray, List.size_toArray]; omega) w
  rw [bcat2] at this; exact this
theorem R_eqlB10 (hA : FrA l n a) {x y : Operand} (ho : o.op = .binOp .eql 5 x y 5) {u v : Int} (hx : evL l x = some (.int .u8 u)) (hy : evL l y = some (.int .u8 v)) (w : World) : (execOp a.eval o).run Tryz.prog w = .ok (.value (.bool (u == v))) w := by
  unfold execOp; simp only [ho, hA.ev hx, hA.ev hy]; simp [go_sem]
theorem R_eqlE (hA : FrA l n a) {x y : Operand} (ho : o.op = .binOp .eql 24 x y 24) {u v : Int} (hx : evL l x = some (.int .i64 u)) (hy : evL l y = some (.int .i64 v)) (w : World) : (execOp a.eval o).run Tryz.prog w = .ok (.value (.bool (u == v))) w := by
  unfold execOp; simp only [ho, hA.ev hx, hA.ev hy]; simp [go_sem]
theorem R_geqJ (hA : FrA l n a) {x y : Operand} (ho : o.op = .binOp .geq 2 x y 2) {u v : Int} (hx : evL l x = some (.int .i64 u)) (hy : evL l y = some (.int .i64 v)) (w : World) : (execOp a.eval o).run Tryz.prog w = .ok (.value (.bool (decide (v ≤ u)))) w := by
  unfold execOp; simp only [ho, hA.ev hx, hA.ev hy]; simp [go_sem]
theorem R_lssJ (hA : FrA l n a) {x y : Operand} (ho : o.op = .binOp .lss 2 x y 2) {u v : Int} (hx : evL l x = some (.int .i64 u)) (hy : evL l y = some (.int .i64 v)) (w : World) : (execOp a.eval o).run Tryz.prog w = .ok (.value (.bool (decide (u < v)))) w := by
  unfold execOp; simp only [ho, hA.ev hx, hA.ev hy]; simp [go_sem]
theorem R_gtrJ (hA : FrA l n a) {x y : Operand} (ho : o.op = .binOp .gtr 2 x y 2) {u v : Int} (hx : evL l x = some (.int .i64 u)) (hy : evL l y = some (.int .i64 v)) (w : World) : (execOp a.eval o).run Tryz.prog w = .ok (.value (.bool (decide (v < u)))) w := by
  unfold execOp; simp only [ho, hA.ev hx, hA.ev hy]; simp [go_sem]
theorem R_cv32 (hA : FrA l n a) {x : Operand} (ho : o.op = .convert 2 43 x) {u : Int} (hu : 0 ≤ u ∧ u < 4294967296) (hx : evL l x = some (.int .i64 u)) (w : World) : (execOp a.eval o).run Tryz.prog w = .ok (.value (.int .u32 u)) w := by
  have e : IntKind.u32.wrap u = u := by simp [IntKind.wrap, IntKind.bits, IntKind.signed]; omega
  unfold execOp; simp only [ho, hA.ev hx]; simp [go_sem, e]
theorem R_fld (hA : FrA l n a) {T : TypeId} {x : Operand} {i : Nat} (ho : o.op = .field T x i) {u r : Value} (hx : evL l x = some u) (hT : ∀ w, (Instr.field T u i).run Tryz.prog w = .ok r w) (w : World) : (execOp a.eval o).run Tryz.prog w = .ok (.value r) w := by
  unfold execOp; simp only [ho, hA.ev hx, Sem.run_bind, hT, Result.andThen_ok, Sem.run_pure]
theorem W_callE {f : Nat} {xs : Array Operand} {ts : Array TypeId} {ty : TypeId} {ps : String} {af : Array Edge} (hA : FrA l n a) (hdn : d < n) {args : Array Value} {S : Value → World → Prop} (hcf : ∀ vs w, (callFunc f vs).run Tryz.prog w = .ok (.enter f vs) w) (hargs : xs.map a.eval = args)
    (hc : Calls Tryz.prog f args w fun e w' => ∃ v, e = .returned v ∧ S v w') (h : ∀ v w', S v w' → ∀ a', FrA ((d, v) :: l) n a' → wpList Tryz.prog ops Q rest a' w') :
    wpList Tryz.prog ops Q ({ dst := some d, op := .call { callee := .value (.func f), args := xs, argTypes := ts }, type := ty, pos := ps, after := af, guard := none } :: rest) a w := by
  refine wpList_plain rfl fun K hK => ?_
  have e1 : execOp a.eval { dst := some d, op := .call { callee := .value (.func f), args := xs, argTypes := ts }, type := ty, pos := ps, after := af, guard := none } = callFunc f (#[] ++ xs.map a.eval ++ #[]) := rfl
  unfold Oper.wp
  rw [e1, hargs, Array.empty_append, Array.append_empty, hcf, Oper.upon_enter]
  refine hc.mono fun e w'' hh => ?_
  obtain ⟨v, rfl, hs⟩ := hh
  exact hK _ _ (h _ _ hs _ (hA.put hdn v))
theorem W_gskipU (hA : FrA l n a) {j dj : Nat} {want : Bool} (hg : o.guard = some (j, want)) (hdj : ((ops[j]?).bind (·.dst)) = some dj) (hq : l.lookup dj = some undef) (d : Nat) (hd : o.dst = some d) (hdn : d < n)
    (h : ∀ a', FrA ((d, undef) :: l) n a' → wpList Tryz.prog ops Q rest a' w) : wpList Tryz.prog ops Q (o :: rest) a w := by
  refine wpList_step fun K hK => ?_
  have e : a.eval (.tmp dj) = undef := hA.get _ _ hq
  have e' : a.tmps.getD dj undef = undef := e
  have hw : Region.wanted o (yielded ops a.tmps) = false := by
    rw [Array.getD_eq_getD_getElem?] at e'
    simp only [Region.wanted, hg, yielded, hdj, Option.bind_some]
    cases c : a.tmps[dj]? with
    | none => cases want <;> rfl
    | some u => rw [c] at e'; simp only [Option.getD_some] at e'; subst e'; cases want <;> rfl
  rw [hw, if_neg (by simp), hd]
  exact hK _ _ (h _ (hA.put hdn undef))
theorem wp_merge {c : Code} {K : Act → World → Prop} (I : Act → World → Prop) (h : c.wp Tryz.prog (Exit.then I Q) a w) (h2 : ∀ a' w', I a' w' → K a' w') : c.wp Tryz.prog (Exit.then K Q) a w := by
  refine wp_mono h ?_
  intro e a' w' q
  cases e with
  | normal => exact h2 _ _ q
  | _ => exact q
end
end Go.Proofs.YtakdhdaoklcidaaGreatDoor
