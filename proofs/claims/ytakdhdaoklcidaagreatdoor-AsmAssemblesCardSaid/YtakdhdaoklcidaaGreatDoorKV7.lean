/- Joined: AsPq AsRp AsLr AsLr2 AsSb AsPd AsSe AsSc DtK AsTa -/
import Derived.Test.YtakdhdaoklcidaaGreatDoorKV6
import Derived.Great.Walk
namespace Go.Proofs.YtakdhdaoklcidaaGreatDoor
open Go.RowKit Go.Lib
set_option linter.unusedVariables false
set_option maxRecDepth 100000
theorem fr9_0 (b : Nat) (w : World) : (Instr.fieldAt 59 (.pointer (some ⟨b, 0, none⟩)) 0).run Tryz.prog w = .ok (.pointer (some ⟨b, 0, none⟩)) w := by kernel_rfl
theorem idxJ {r : Bs} {j : Nat} {c : UInt8} (h : r[j]? = some c) (w : World) : (Instr.index 9 (str r) (.int .i64 (j : Int))).run Tryz.prog w = .ok (.int .u8 (c.toNat : Int)) w := by
  obtain ⟨hj, e⟩ := List.getElem?_eq_some_iff.1 h
  subst e
  have h0 : ((⟨r.toArray⟩ : ByteArray)[j]'(by show j < r.toArray.size; simpa using hj)) = r[j] := rfl
  unfold Instr.index
  simp [go_sem, run_underlying Tryz.underlying9, h0, hj]
theorem line_next {nm : Bs} {L : Bs} {O : UInt8 → Bs} {j : Nat} {c : UInt8} (h : L[j]? = some c) : lineT nm ((L.map O).take (j + 1)) = lineT nm ((L.map O).take j) ++ (if j = 0 then ([32] : Bs) else [44, 32]) ++ O c := by
  obtain ⟨hj, e⟩ := List.getElem?_eq_some_iff.1 h
  subst e
  rw [List.take_succ_eq_append_getElem (by rw [List.length_map]; exact hj), List.getElem_map, line_snoc]
  by_cases h0 : j = 0
  · subst h0; simp
  · rw [if_neg h0, if_neg (by intro h; have := congrArg List.length h; rw [List.length_take, List.length_map] at this; simp only [List.length_nil] at this; omega)]; simp [sepC]
theorem take_len (i : Ins) (L : Bs) (hL : L.length ≤ 3) (hop : ∀ c, (opOf i c).length ≤ 30) (hnb : (nameB i.op.toNat).length ≤ 12) (j : Nat) : (lineT (nmT i) ((L.map (opOf i)).take j)).length ≤ 1000 := by
  have h1 := lineT_len (nmT i) ((L.map (opOf i)).take j)
  have h2 := sum_ops (os := (L.map (opOf i)).take j) (fun o ho => by
    obtain ⟨c, _, rfl⟩ := List.mem_map.1 (List.mem_of_mem_take ho); exact hop c)
  have h3 : ((L.map (opOf i)).take j).length ≤ 3 := by rw [List.length_take, List.length_map]; omega
  have h4 : (nmT i).length = (nameB i.op.toNat).length + (markT i.aq i.rl).length := by unfold nmT; simp
  have h5 := mark_short i.aq i.rl
  omega
section
variable {Q : Exit → Act → World → Prop} {w : World} {ops : Array Oper} {rest : List Oper} {o : Oper} {a : Act} {l : List (Nat × Value)} {n d : Nat}
theorem W_cpR4 (hA : FrA l n a) (hg : o.guard = none) (hd : o.dst = none) {x y : Operand} (ho : o.op = .store 59 x y) {b : Nat} {cs old : Array Value} (hx : evL l x = some (.pointer (some ⟨b, 0, none⟩))) (hy : evL l y = some (.agg cs)) (hb : w.heap[b]? = some (.cells old 59 (0, 0)))
    (hold : old.size = 4) (hcs : cs.size = 4) (h1 : cs.all (·.oneCell') = true) (h : ∀ w', (∀ N, N ≤ b → Below N w w') → (∀ j, ¬ j = b → w'.heap[j]? = w.heap[j]?) → w'.heap[b]? = some (.cells cs 59 (0, 0)) → wpList Tryz.prog ops Q rest a w') : wpList Tryz.prog ops Q (o :: rest) a w :=
  W_strow (cs := cs) hA hg hd ho hx hy hb (by rw [hcs]; kernel_rfl) (by rw [hcs]; exact hold) h1 (h _ (fun N hN => below_setRow (Below.refl _ _) hN _) (fun j hj => Go.setRow_other w b j _ hj) (setRow_heap _ _ _ _ _ _ hb))
end
set_option maxHeartbeats 8000000 in
theorem rprint_walk (i : Ins) (mk mt lt : Int) (l1 : (lettersT (frmT i.op.toNat)).length ≤ 3) (l2 : ∀ c ∈ (lettersT (frmT i.op.toNat)), c = 114 ∨ c = 97 ∨ c = 98 ∨ c = 105 ∨ c = 99) (hop : ∀ c, (opOf i c).length ≤ 30) (hnb : (nameB i.op.toNat).length ≤ 12) (hP : printT i = lineT (nmT i) ((lettersT (frmT i.op.toNat)).map (opOf i)))
    (hb : (0 ≤ i.rd ∧ i.rd ≤ 31) ∧ (0 ≤ i.a ∧ i.a ≤ 31) ∧ (0 ≤ i.b ∧ i.b ≤ 31) ∧ (0 ≤ i.csr ∧ i.csr ≤ 4095) ∧ -17592186044416 ≤ i.imm ∧ i.imm ≤ 17592186044416)
    (hR : ∀ w, Calls Tryz.prog 30 #[.agg (rowI9 i)] w fun e w' => e = .returned (.bool true) ∧ Below w.heap.size w w')
    (hW : ∀ w, Calls Tryz.prog 31 #[.int .i64 i.op] w fun e w' => e = .returned (.agg #[str (nameB i.op.toNat), .int .u32 mk, .int .u32 mt, .int .u8 lt]) ∧ Below w.heap.size w w')
    (hL : ∀ w, Calls Tryz.prog 32 #[.int .u8 lt] w fun e w' => e = .returned (str (lettersT (frmT i.op.toNat))) ∧ w = w') (w : World) :
    Calls Tryz.prog 11 #[.agg (rowI9 i)] w fun e w' => e = .returned (.tuple #[str (printT i), .int .i64 0]) ∧ Below w.heap.size w w' := by
  have hdl : ∀ c, (opOf i c).length ≤ 30 := hop
  have e1 := itoa_length_le i.rd (by omega) (by omega)
  have e2 := itoa_length_le i.a (by omega) (by omega)
  have e3 := itoa_length_le i.b (by omega) (by omega)
  have e4 := itoa_length_le i.imm (by omega) (by omega)
  have e5 := itoa_length_le i.csr (by omega) (by omega)
  go_enter Tryz.func11, Tryz.ntmps11
  refine begin_fr [(0, .agg (rowI9 i))] 89 ?_ (fun a hA => ?_)
  · exact FrA.add (FrA.nil (by rfl) (by rfl)) 0 _ (by rfl)
  refine wp_seq (wp_region_list ?_); refine W_boxIn9 hA rfl 1 rfl (by decide) rfl rfl (fun w0 bI a hA HB II gI => ?_); (iterate 2 refine W_val hA rfl _ rfl (by decide) _ _ (R_asg hA rfl rfl _) fun a hA => ?_); refine W_nil (then_nrm ?_); show Code.wp Tryz.prog _ _ _ _; refine wp_seq ?_; refine wp_seq (wp_region_list ?_); refine W_val hA rfl _ rfl (by decide) _ _ (R_row hA rfl rfl II Tryz.underlying23 (by kernel_rfl)) (fun a hA => ?_); refine W_callA hA (by decide) (fun _ _ => by kernel_rfl) (args1 hA rfl) (hR _) (fun w1 hw a hA => ?_); replace II := (hw.block _ (Array.getElem?_eq_some_iff.1 II).1).trans II; replace HB := HB.trans (hw.mono HB.size); clear hw; refine W_val hA rfl _ rfl (by decide) _ _ (R_not hA rfl rfl _) (fun a hA => ?_); refine W_nil (then_nrm ?_); show Code.wp Tryz.prog _ _ _ _; refine wp_cond_false (hA.ev (x := .tmp 10) rfl) ?_; refine wp_skip ?_; refine then_nrm ?_; show Code.wp Tryz.prog _ _ _ _; refine wp_seq (wp_region_list ?_); refine W_val hA rfl _ rfl (by decide) _ _ (R_fa hA rfl rfl (fun w => fi9_0 _ w) _) (fun a hA => ?_); refine W_val hA rfl _ rfl (by decide) _ _ (R_ld hA rfl rfl ag_int9 (cell9 II 0 rfl)) (fun a hA => ?_); refine W_callA hA (by decide) (fun _ _ => by kernel_rfl) (args1 hA rfl) (hW _) (fun w2 hw a hA => ?_); replace II := (hw.block _ (Array.getElem?_eq_some_iff.1 II).1).trans II; replace HB := HB.trans (hw.mono HB.size); clear hw; refine W_allocRow hA rfl 4 rfl (by decide) rfl (fun w3 bR a hA hb RR gR => ?_)
  have hne : ¬ bI = bR := by have := (Array.getElem?_eq_some_iff.1 II).1; omega
  replace gR := Nat.le_trans HB.size gR; replace II := (hb.block _ (Array.getElem?_eq_some_iff.1 II).1).trans II; replace HB := HB.trans (hb.mono HB.size); clear hb; refine W_cpR4 hA rfl rfl rfl rfl rfl RR rfl rfl (by simp [Value.oneCell']) (fun w5 hb ho HN => ?_); replace II := (ho _ hne).trans II; replace HB := HB.trans (hb _ gR); replace RR := HN; clear hb ho HN; refine W_nil (then_nrm ?_); show Code.wp Tryz.prog _ _ _ _; refine wp_seq (wp_region_list ?_); refine W_val hA rfl _ rfl (by decide) _ _ (R_fa hA rfl rfl (fun w => fr9_0 _ w) _) (fun a hA => ?_); refine W_val hA rfl _ rfl (by decide) _ _ (R_ld hA rfl rfl ag_s (cell9 RR 0 rfl)) (fun a hA => ?_); refine W_val hA rfl _ rfl (by decide) _ _ (R_asg hA rfl rfl _) (fun a hA => ?_); refine W_nil (then_nrm ?_); show Code.wp Tryz.prog _ _ _ _; refine wp_seq (wp_merge9 (fun a' w' => FrA [(5, str (nmT i)), (4, .pointer (some ⟨bR, 0, none⟩)), (1, .pointer (some ⟨bI, 0, none⟩))] 89 a' ∧ Below w.heap.size w w' ∧ w'.heap[bI]? = some (.cells (rowI9 i) 23 (0, 0)) ∧ w'.heap[bR]? = some (.cells #[str (nameB i.op.toNat), .int .u32 mk, .int .u32 mt, .int .u8 lt] 59 (0, 0))) ?_ (fun a w9 h => ?_))
  · skip
    refine wp_seq (wp_region_list ?_); refine W_val hA rfl _ rfl (by decide) _ _ (R_fa hA rfl rfl (fun w => fi9_6 _ w) _) (fun a hA => ?_); refine W_val hA rfl _ rfl (by decide) _ _ (R_ld hA rfl rfl ag_bool (cell9 II 6 rfl)) (fun a hA => ?_); refine W_val hA rfl _ rfl (by decide) _ _ (R_mov hA rfl rfl _) (fun a hA => ?_); refine W_split hA 18 rfl (fun c1 hA => ?_) (fun c1 hA => ?_)
    · skip
      refine W_gval hA rfl rfl rfl _ rfl (by decide) _ _ (R_fa hA rfl rfl (fun w => fi9_7 _ w) _) (fun a hA => ?_); refine W_gval hA rfl rfl rfl _ rfl (by decide) _ _ (R_ld hA rfl rfl ag_bool (cell9 II 7 rfl)) (fun a hA => ?_); refine W_val hA rfl _ rfl (by decide) _ _ (R_pick hA rfl rfl rfl _) (fun a hA => ?_); refine W_nil (then_nrm ?_); show Code.wp Tryz.prog _ _ _ _; refine wp_cond_split (hA.ev (x := .tmp 21) rfl) (fun c2 => ?_) (fun c2 => ?_)
      · skip
        refine wp_region_list ?_; refine W_val hA rfl _ rfl (by decide) _ _ (R_mov hA rfl rfl _) (fun a hA => ?_); refine W_val hA rfl _ rfl (by decide) _ _ (R_addL hA rfl rfl rfl (by simp only [List.length_append, List.length_cons, List.length_nil]; omega) _) (fun a hA => ?_); refine W_val hA rfl _ rfl (by decide) _ _ (R_asg hA rfl rfl _) (fun a hA => ?_); refine W_nil ?_; refine then_nrm ?_
        have ha : i.aq = true := c1
        have hr2 : i.rl = true := c2
        exact ⟨FrA.add (hA.re (sa rfl (sa rfl (sn)))) 5 _ ((hA.get 5 _ rfl).trans (congrArg (fun q : Bs => str q) (by unfold nmT; rw [ha, hr2]; first | rfl | simp [markT]))), HB, II, RR⟩
      refine wp_seq (wp_region_list ?_); refine W_val hA rfl _ rfl (by decide) _ _ (R_fa hA rfl rfl (fun w => fi9_6 _ w) _) (fun a hA => ?_); refine W_val hA rfl _ rfl (by decide) _ _ (R_ld hA rfl rfl ag_bool (cell9 II 6 rfl)) (fun a hA => ?_); refine W_nil (then_nrm ?_); show Code.wp Tryz.prog _ _ _ _; refine wp_cond_split (hA.ev (x := .tmp 25) rfl) (fun c3 => ?_) (fun c3 => ?_)
      · skip
        refine wp_region_list ?_; refine W_val hA rfl _ rfl (by decide) _ _ (R_mov hA rfl rfl _) (fun a hA => ?_); refine W_val hA rfl _ rfl (by decide) _ _ (R_addL hA rfl rfl rfl (by simp only [List.length_append, List.length_cons, List.length_nil]; omega) _) (fun a hA => ?_); refine W_val hA rfl _ rfl (by decide) _ _ (R_asg hA rfl rfl _) (fun a hA => ?_); refine W_nil ?_; refine then_nrm ?_
        have ha : i.aq = true := c1
        have hr2 : i.rl = false := c2
        exact ⟨FrA.add (hA.re (sa rfl (sa rfl (sn)))) 5 _ ((hA.get 5 _ rfl).trans (congrArg (fun q : Bs => str q) (by unfold nmT; rw [ha, hr2]; first | rfl | simp [markT]))), HB, II, RR⟩
      refine wp_seq (wp_region_list ?_); refine W_val hA rfl _ rfl (by decide) _ _ (R_fa hA rfl rfl (fun w => fi9_7 _ w) _) (fun a hA => ?_); refine W_val hA rfl _ rfl (by decide) _ _ (R_ld hA rfl rfl ag_bool (cell9 II 7 rfl)) (fun a hA => ?_); refine W_nil (then_nrm ?_); show Code.wp Tryz.prog _ _ _ _; refine wp_cond_split (hA.ev (x := .tmp 29) rfl) (fun c4 => ?_) (fun c4 => ?_)
      · skip
        refine wp_region_list ?_; refine W_val hA rfl _ rfl (by decide) _ _ (R_mov hA rfl rfl _) (fun a hA => ?_); refine W_val hA rfl _ rfl (by decide) _ _ (R_addL hA rfl rfl rfl (by simp only [List.length_append, List.length_cons, List.length_nil]; omega) _) (fun a hA => ?_); refine W_val hA rfl _ rfl (by decide) _ _ (R_asg hA rfl rfl _) (fun a hA => ?_); refine W_nil ?_; refine then_nrm ?_
        exact absurd (c1.symm.trans c3) (by decide)
      refine wp_skip ?_; refine then_nrm ?_
      exact absurd (c1.symm.trans c3) (by decide)
    (iterate 2 refine W_gskip hA rfl rfl rfl _ rfl (by decide) fun a hA => ?_); refine W_val hA rfl _ rfl (by decide) _ _ (R_pick hA rfl rfl rfl _) (fun a hA => ?_); refine W_nil (then_nrm ?_); show Code.wp Tryz.prog _ _ _ _; refine wp_cond_false (hA.ev (x := .tmp 21) rfl) ?_; refine wp_seq (wp_region_list ?_); refine W_val hA rfl _ rfl (by decide) _ _ (R_fa hA rfl rfl (fun w => fi9_6 _ w) _) (fun a hA => ?_); refine W_val hA rfl _ rfl (by decide) _ _ (R_ld hA rfl rfl ag_bool (cell9 II 6 rfl)) (fun a hA => ?_); refine W_nil (then_nrm ?_); show Code.wp Tryz.prog _ _ _ _; refine wp_cond_split (hA.ev (x := .tmp 25) rfl) (fun c5 => ?_) (fun c5 => ?_)
    · skip
      refine wp_region_list ?_; refine W_val hA rfl _ rfl (by decide) _ _ (R_mov hA rfl rfl _) (fun a hA => ?_); refine W_val hA rfl _ rfl (by decide) _ _ (R_addL hA rfl rfl rfl (by simp only [List.length_append, List.length_cons, List.length_nil]; omega) _) (fun a hA => ?_); refine W_val hA rfl _ rfl (by decide) _ _ (R_asg hA rfl rfl _) (fun a hA => ?_); refine W_nil ?_; refine then_nrm ?_
      exact absurd (c1.symm.trans c5) (by decide)
    refine wp_seq (wp_region_list ?_); refine W_val hA rfl _ rfl (by decide) _ _ (R_fa hA rfl rfl (fun w => fi9_7 _ w) _) (fun a hA => ?_); refine W_val hA rfl _ rfl (by decide) _ _ (R_ld hA rfl rfl ag_bool (cell9 II 7 rfl)) (fun a hA => ?_); refine W_nil (then_nrm ?_); show Code.wp Tryz.prog _ _ _ _; refine wp_cond_split (hA.ev (x := .tmp 29) rfl) (fun c6 => ?_) (fun c6 => ?_)
    · skip
      refine wp_region_list ?_; refine W_val hA rfl _ rfl (by decide) _ _ (R_mov hA rfl rfl _) (fun a hA => ?_); refine W_val hA rfl _ rfl (by decide) _ _ (R_addL hA rfl rfl rfl (by simp only [List.length_append, List.length_cons, List.length_nil]; omega) _) (fun a hA => ?_); refine W_val hA rfl _ rfl (by decide) _ _ (R_asg hA rfl rfl _) (fun a hA => ?_); refine W_nil ?_; refine then_nrm ?_
      have ha : i.aq = false := c1
      have hr2 : i.rl = true := c6
      exact ⟨FrA.add (hA.re (sa rfl (sa rfl (sn)))) 5 _ ((hA.get 5 _ rfl).trans (congrArg (fun q : Bs => str q) (by unfold nmT; rw [ha, hr2]; first | rfl | simp [markT]))), HB, II, RR⟩
    refine wp_skip ?_; refine then_nrm ?_
    have ha : i.aq = false := c1
    have hr2 : i.rl = false := c6
    exact ⟨FrA.add (hA.re (sa rfl (sa rfl (sn)))) 5 _ ((hA.get 5 _ rfl).trans (congrArg (fun q : Bs => str q) (by unfold nmT; rw [ha, hr2]; first | rfl | simp [markT]))), HB, II, RR⟩
  clear HB II RR hA
  obtain ⟨hA, HB, II, RR⟩ := h
  refine wp_seq (wp_region_list ?_); refine W_val hA rfl _ rfl (by decide) _ _ (R_fa hA rfl rfl (fun w => fr9_3 _ w) _) (fun a hA => ?_); refine W_val hA rfl _ rfl (by decide) _ _ (R_ld hA rfl rfl ag_u8 (cell9 RR 3 rfl)) (fun a hA => ?_); refine W_callA hA (by decide) (fun _ _ => by kernel_rfl) (args1 hA rfl) (hL _) (fun w4 hw a hA => ?_); subst hw; refine W_val hA rfl _ rfl (by decide) _ _ (R_asg hA rfl rfl _) (fun a hA => ?_); refine W_nil (then_nrm ?_); show Code.wp Tryz.prog _ _ _ _; refine wp_seq ?_; refine wp_seq (wp_region_list ?_); refine W_val hA rfl _ rfl (by decide) _ _ (R_asg hA rfl rfl _) (fun a hA => ?_); refine W_nil (then_nrm ?_); show Code.wp Tryz.prog _ _ _ _; refine wp_block ?_; refine loop_cnt 7 (lettersT (frmT i.op.toNat)).length (fun j a' w' => FrA [(7, .int .i64 (j : Int)), (6, str (lettersT (frmT i.op.toNat))), (5, str (lineT (nmT i) (((lettersT (frmT i.op.toNat)).map (opOf i)).take j))), (1, .pointer (some ⟨bI, 0, none⟩))] 89 a' ∧ Below w.heap.size w w' ∧ w'.heap[bI]? = some (.cells (rowI9 i) 23 (0, 0))) (fun j a' w' h => ⟨_, h.1.get 7 _ rfl⟩) ⟨FrA.add (FrA.add (FrA.add (hA.re (sa rfl (sn))) 5 _ ((hA.get 5 _ rfl).trans (congrArg (fun q : Bs => str q) (by simp [lineT, tailT])))) 6 _ (hA.get 6 _ rfl)) 7 _ (hA.get 7 _ rfl), HB, II⟩ (fun j a wl hj h => ?_); clear HB II hA
  obtain ⟨hA, HB, II⟩ := h
  have htl := take_len i (lettersT (frmT i.op.toNat)) l1 hop hnb j
  refine wp_seq ?_; refine wp_seq (wp_region_list ?_); (iterate 2 refine W_val hA rfl _ rfl (by decide) _ _ (R_mov hA rfl rfl _) fun a hA => ?_); refine W_val hA rfl _ rfl (by decide) _ _ (R_lenL hA rfl rfl _) (fun a hA => ?_); refine W_val hA rfl _ rfl (by decide) _ _ (R_lssI hA rfl rfl rfl _) (fun a hA => ?_); refine W_nil (then_nrm ?_); show Code.wp Tryz.prog _ _ _ _; refine wp_cond_split (hA.ev (x := .tmp 38) rfl) (fun c7 => ?_) (fun c7 => ?_)
  · skip
    have cj : j < (lettersT (frmT i.op.toNat)).length := by have := of_decide_eq_true c7; omega
    obtain ⟨ch, hc⟩ : ∃ ch, (lettersT (frmT i.op.toNat))[j]? = some ch := ⟨_, List.getElem?_eq_getElem cj⟩
    refine wp_skip ?_; refine then_nrm ?_; show Code.wp Tryz.prog _ _ _ _; refine wp_seq ?_; refine wp_block ?_; refine wp_seq (wp_merge9 (fun a' w' => FrA [(7, .int .i64 (j : Int)), (6, str (lettersT (frmT i.op.toNat))), (5, str ((lineT (nmT i) (((lettersT (frmT i.op.toNat)).map (opOf i)).take j)) ++ (if j = 0 then ([32] : Bs) else [44, 32]))), (1, .pointer (some ⟨bI, 0, none⟩))] 89 a' ∧ Below w.heap.size w w' ∧ w'.heap[bI]? = some (.cells (rowI9 i) 23 (0, 0))) ?_ (fun a w9 h => ?_))
    · skip
      refine wp_seq (wp_region_list ?_); refine W_val hA rfl _ rfl (by decide) _ _ (R_mov hA rfl rfl _) (fun a hA => ?_); refine W_val hA rfl _ rfl (by decide) _ _ (R_eqlI hA rfl rfl rfl _) (fun a hA => ?_); refine W_nil (then_nrm ?_); show Code.wp Tryz.prog _ _ _ _; refine wp_cond_split (hA.ev (x := .tmp 42) rfl) (fun c8 => ?_) (fun c8 => ?_)
      · skip
        refine wp_region_list ?_; refine W_val hA rfl _ rfl (by decide) _ _ (R_mov hA rfl rfl _) (fun a hA => ?_); refine W_val hA rfl _ rfl (by decide) _ _ (R_addL hA rfl rfl rfl (by simp only [List.length_append, List.length_cons, List.length_nil]; omega) _) (fun a hA => ?_); refine W_val hA rfl _ rfl (by decide) _ _ (R_asg hA rfl rfl _) (fun a hA => ?_); refine W_nil ?_; refine then_nrm ?_
        exact ⟨FrA.add (FrA.add (FrA.add (hA.re (sa rfl (sn))) 5 _ ((hA.get 5 _ rfl).trans (congrArg (fun q : Bs => str ((lineT (nmT i) (((lettersT (frmT i.op.toNat)).map (opOf i)).take j)) ++ q)) (show ([32] : Bs) = (if j = 0 then ([32] : Bs) else [44, 32]) from by rw [if_pos (by have := eq_of_beq c8; omega)])))) 6 _ (hA.get 6 _ rfl)) 7 _ (hA.get 7 _ rfl), HB, II⟩
      refine wp_region_list ?_; refine W_val hA rfl _ rfl (by decide) _ _ (R_mov hA rfl rfl _) (fun a hA => ?_); refine W_val hA rfl _ rfl (by decide) _ _ (R_addL hA rfl rfl rfl (by simp only [List.length_append, List.length_cons, List.length_nil]; omega) _) (fun a hA => ?_); refine W_val hA rfl _ rfl (by decide) _ _ (R_asg hA rfl rfl _) (fun a hA => ?_); refine W_nil ?_; refine then_nrm ?_
      exact ⟨FrA.add (FrA.add (FrA.add (hA.re (sa rfl (sn))) 5 _ ((hA.get 5 _ rfl).trans (congrArg (fun q : Bs => str ((lineT (nmT i) (((lettersT (frmT i.op.toNat)).map (opOf i)).take j)) ++ q)) (show ([44, 32] : Bs) = (if j = 0 then ([32] : Bs) else [44, 32]) from by rw [if_neg (by intro h9; subst h9; exact absurd c8 (by decide))])))) 6 _ (hA.get 6 _ rfl)) 7 _ (hA.get 7 _ rfl), HB, II⟩
    clear HB II hA
    obtain ⟨hA, HB, II⟩ := h
    have hsl : (if j = 0 then ([32] : Bs) else [44, 32]).length ≤ 2 := by split <;> simp
    refine wp_seq (wp_region_list ?_); (iterate 2 refine W_val hA rfl _ rfl (by decide) _ _ (R_mov hA rfl rfl _) fun a hA => ?_); refine W_val hA rfl _ rfl (by decide) _ _ (R_index hA rfl rfl rfl (fun w => idxJ hc w) _) (fun a hA => ?_); refine W_nil (then_nrm ?_); show Code.wp Tryz.prog _ _ _ _; refine wp_block ?_; refine wp_seq (wp_region_list ?_); refine W_val hA rfl _ rfl (by decide) _ _ (R_eqlB10 hA rfl rfl rfl _) (fun a hA => ?_); refine W_val hA rfl _ rfl (by decide) _ _ (R_asg hA rfl rfl _) (fun a hA => ?_); refine W_nil (then_nrm ?_); show Code.wp Tryz.prog _ _ _ _; refine wp_cond_split (hA.ev (x := .tmp 50) rfl) (fun c9 => ?_) (fun c9 => ?_)
    · skip
      refine wp_region_list ?_; refine W_val hA rfl _ rfl (by decide) _ _ (R_mov hA rfl rfl _) (fun a hA => ?_); refine W_val hA rfl _ rfl (by decide) _ _ (R_addL hA rfl rfl rfl (by simp only [List.length_append, List.length_cons, List.length_nil]; omega) _) (fun a hA => ?_); refine W_val hA rfl _ rfl (by decide) _ _ (R_fa hA rfl rfl (fun w => fi9_1 _ w) _) (fun a hA => ?_); refine W_val hA rfl _ rfl (by decide) _ _ (R_ld hA rfl rfl ag_int9 (cell9 II 1 rfl)) (fun a hA => ?_); refine W_callA hA (by decide) (fun _ _ => by kernel_rfl) (args1 hA rfl) (digits_any i.rd (by omega) (by omega) _) (fun w5 hw a hA => ?_); replace II := (hw.block _ (Array.getElem?_eq_some_iff.1 II).1).trans II; replace HB := HB.trans (hw.mono HB.size); clear hw; refine W_val hA rfl _ rfl (by decide) _ _ (R_addL hA rfl rfl rfl (by simp only [List.length_append, List.length_cons, List.length_nil]; omega) _) (fun a hA => ?_); refine W_val hA rfl _ rfl (by decide) _ _ (R_asg hA rfl rfl _) (fun a hA => ?_); refine W_nil ?_; refine blk_nrm ?_; refine blk_nrm ?_; refine then_nrm ?_; show Code.wp Tryz.prog _ _ _ _; refine wp_region_list ?_; refine W_val hA rfl _ rfl (by decide) _ _ (R_mov hA rfl rfl _) (fun a hA => ?_); refine W_val hA rfl _ rfl (by decide) _ _ (R_addI hA rfl rfl rfl _) (fun a hA => ?_); refine W_val hA rfl _ rfl (by decide) _ _ (R_asg hA rfl rfl _) (fun a hA => ?_); refine W_nil ?_; refine then_nrm ?_
      obtain rfl : ch = 114 := UInt8.toNat_inj.1 (by have := eq_of_beq c9; show ch.toNat = 114; omega)
      exact ⟨cj, FrA.add (FrA.add (FrA.add (hA.re (sa rfl (sn))) 5 _ ((hA.get 5 _ rfl).trans (congrArg (fun q : Bs => str q) ((line_next hc).trans (by simp [opOf, xr])).symm))) 6 _ (hA.get 6 _ rfl)) 7 _ ((hA.get 7 _ rfl).trans (congrArg (Value.int .i64) (wrap_upL (by omega)))), HB, II⟩
    refine wp_seq (wp_region_list ?_); refine W_val hA rfl _ rfl (by decide) _ _ (R_eqlB10 hA rfl rfl rfl _) (fun a hA => ?_); refine W_val hA rfl _ rfl (by decide) _ _ (R_asg hA rfl rfl _) (fun a hA => ?_); refine W_nil (then_nrm ?_); show Code.wp Tryz.prog _ _ _ _; refine wp_cond_split (hA.ev (x := .tmp 58) rfl) (fun c10 => ?_) (fun c10 => ?_)
    · skip
      refine wp_region_list ?_; refine W_val hA rfl _ rfl (by decide) _ _ (R_mov hA rfl rfl _) (fun a hA => ?_); refine W_val hA rfl _ rfl (by decide) _ _ (R_addL hA rfl rfl rfl (by simp only [List.length_append, List.length_cons, List.length_nil]; omega) _) (fun a hA => ?_); refine W_val hA rfl _ rfl (by decide) _ _ (R_fa hA rfl rfl (fun w => fi9_2 _ w) _) (fun a hA => ?_); refine W_val hA rfl _ rfl (by decide) _ _ (R_ld hA rfl rfl ag_int9 (cell9 II 2 rfl)) (fun a hA => ?_); refine W_callA hA (by decide) (fun _ _ => by kernel_rfl) (args1 hA rfl) (digits_any i.a (by omega) (by omega) _) (fun w6 hw a hA => ?_); replace II := (hw.block _ (Array.getElem?_eq_some_iff.1 II).1).trans II; replace HB := HB.trans (hw.mono HB.size); clear hw; refine W_val hA rfl _ rfl (by decide) _ _ (R_addL hA rfl rfl rfl (by simp only [List.length_append, List.length_cons, List.length_nil]; omega) _) (fun a hA => ?_); refine W_val hA rfl _ rfl (by decide) _ _ (R_asg hA rfl rfl _) (fun a hA => ?_); refine W_nil ?_; refine blk_nrm ?_; refine blk_nrm ?_; refine then_nrm ?_; show Code.wp Tryz.prog _ _ _ _; refine wp_region_list ?_; refine W_val hA rfl _ rfl (by decide) _ _ (R_mov hA rfl rfl _) (fun a hA => ?_); refine W_val hA rfl _ rfl (by decide) _ _ (R_addI hA rfl rfl rfl _) (fun a hA => ?_); refine W_val hA rfl _ rfl (by decide) _ _ (R_asg hA rfl rfl _) (fun a hA => ?_); refine W_nil ?_; refine then_nrm ?_
      obtain rfl : ch = 97 := UInt8.toNat_inj.1 (by have := eq_of_beq c10; show ch.toNat = 97; omega)
      exact ⟨cj, FrA.add (FrA.add (FrA.add (hA.re (sa rfl (sn))) 5 _ ((hA.get 5 _ rfl).trans (congrArg (fun q : Bs => str q) ((line_next hc).trans (by simp [opOf, xr])).symm))) 6 _ (hA.get 6 _ rfl)) 7 _ ((hA.get 7 _ rfl).trans (congrArg (Value.int .i64) (wrap_upL (by omega)))), HB, II⟩
    refine wp_seq (wp_region_list ?_); refine W_val hA rfl _ rfl (by decide) _ _ (R_eqlB10 hA rfl rfl rfl _) (fun a hA => ?_); refine W_val hA rfl _ rfl (by decide) _ _ (R_asg hA rfl rfl _) (fun a hA => ?_); refine W_nil (then_nrm ?_); show Code.wp Tryz.prog _ _ _ _; refine wp_cond_split (hA.ev (x := .tmp 66) rfl) (fun c11 => ?_) (fun c11 => ?_)
    · skip
      refine wp_region_list ?_; refine W_val hA rfl _ rfl (by decide) _ _ (R_mov hA rfl rfl _) (fun a hA => ?_); refine W_val hA rfl _ rfl (by decide) _ _ (R_addL hA rfl rfl rfl (by simp only [List.length_append, List.length_cons, List.length_nil]; omega) _) (fun a hA => ?_); refine W_val hA rfl _ rfl (by decide) _ _ (R_fa hA rfl rfl (fun w => fi9_3 _ w) _) (fun a hA => ?_); refine W_val hA rfl _ rfl (by decide) _ _ (R_ld hA rfl rfl ag_int9 (cell9 II 3 rfl)) (fun a hA => ?_); refine W_callA hA (by decide) (fun _ _ => by kernel_rfl) (args1 hA rfl) (digits_any i.b (by omega) (by omega) _) (fun w7 hw a hA => ?_); replace II := (hw.block _ (Array.getElem?_eq_some_iff.1 II).1).trans II; replace HB := HB.trans (hw.mono HB.size); clear hw; refine W_val hA rfl _ rfl (by decide) _ _ (R_addL hA rfl rfl rfl (by simp only [List.length_append, List.length_cons, List.length_nil]; omega) _) (fun a hA => ?_); refine W_val hA rfl _ rfl (by decide) _ _ (R_asg hA rfl rfl _) (fun a hA => ?_); refine W_nil ?_; refine blk_nrm ?_; refine blk_nrm ?_; refine then_nrm ?_; show Code.wp Tryz.prog _ _ _ _; refine wp_region_list ?_; refine W_val hA rfl _ rfl (by decide) _ _ (R_mov hA rfl rfl _) (fun a hA => ?_); refine W_val hA rfl _ rfl (by decide) _ _ (R_addI hA rfl rfl rfl _) (fun a hA => ?_); refine W_val hA rfl _ rfl (by decide) _ _ (R_asg hA rfl rfl _) (fun a hA => ?_); refine W_nil ?_; refine then_nrm ?_
      obtain rfl : ch = 98 := UInt8.toNat_inj.1 (by have := eq_of_beq c11; show ch.toNat = 98; omega)
      exact ⟨cj, FrA.add (FrA.add (FrA.add (hA.re (sa rfl (sn))) 5 _ ((hA.get 5 _ rfl).trans (congrArg (fun q : Bs => str q) ((line_next hc).trans (by simp [opOf, xr])).symm))) 6 _ (hA.get 6 _ rfl)) 7 _ ((hA.get 7 _ rfl).trans (congrArg (Value.int .i64) (wrap_upL (by omega)))), HB, II⟩
    refine wp_seq (wp_region_list ?_); refine W_val hA rfl _ rfl (by decide) _ _ (R_eqlB10 hA rfl rfl rfl _) (fun a hA => ?_); refine W_val hA rfl _ rfl (by decide) _ _ (R_asg hA rfl rfl _) (fun a hA => ?_); refine W_nil (then_nrm ?_); show Code.wp Tryz.prog _ _ _ _; refine wp_cond_split (hA.ev (x := .tmp 74) rfl) (fun c12 => ?_) (fun c12 => ?_)
    · skip
      refine wp_region_list ?_; refine W_val hA rfl _ rfl (by decide) _ _ (R_mov hA rfl rfl _) (fun a hA => ?_); refine W_val hA rfl _ rfl (by decide) _ _ (R_fa hA rfl rfl (fun w => fi9_4 _ w) _) (fun a hA => ?_); refine W_val hA rfl _ rfl (by decide) _ _ (R_ld hA rfl rfl ag_j9 (cell9 II 4 rfl)) (fun a hA => ?_); refine W_callA hA (by decide) (fun _ _ => by kernel_rfl) (args1 hA rfl) (digits_any i.imm (by omega) (by omega) _) (fun w8 hw a hA => ?_); replace II := (hw.block _ (Array.getElem?_eq_some_iff.1 II).1).trans II; replace HB := HB.trans (hw.mono HB.size); clear hw; refine W_val hA rfl _ rfl (by decide) _ _ (R_addL hA rfl rfl rfl (by simp only [List.length_append, List.length_cons, List.length_nil]; omega) _) (fun a hA => ?_); refine W_val hA rfl _ rfl (by decide) _ _ (R_asg hA rfl rfl _) (fun a hA => ?_); refine W_nil ?_; refine blk_nrm ?_; refine blk_nrm ?_; refine then_nrm ?_; show Code.wp Tryz.prog _ _ _ _; refine wp_region_list ?_; refine W_val hA rfl _ rfl (by decide) _ _ (R_mov hA rfl rfl _) (fun a hA => ?_); refine W_val hA rfl _ rfl (by decide) _ _ (R_addI hA rfl rfl rfl _) (fun a hA => ?_); refine W_val hA rfl _ rfl (by decide) _ _ (R_asg hA rfl rfl _) (fun a hA => ?_); refine W_nil ?_; refine then_nrm ?_
      obtain rfl : ch = 105 := UInt8.toNat_inj.1 (by have := eq_of_beq c12; show ch.toNat = 105; omega)
      exact ⟨cj, FrA.add (FrA.add (FrA.add (hA.re (sa rfl (sn))) 5 _ ((hA.get 5 _ rfl).trans (congrArg (fun q : Bs => str q) ((line_next hc).trans (by simp [opOf, xr])).symm))) 6 _ (hA.get 6 _ rfl)) 7 _ ((hA.get 7 _ rfl).trans (congrArg (Value.int .i64) (wrap_upL (by omega)))), HB, II⟩
    refine wp_seq (wp_region_list ?_); refine W_val hA rfl _ rfl (by decide) _ _ (R_eqlB10 hA rfl rfl rfl _) (fun a hA => ?_); refine W_val hA rfl _ rfl (by decide) _ _ (R_asg hA rfl rfl _) (fun a hA => ?_); refine W_nil (then_nrm ?_); show Code.wp Tryz.prog _ _ _ _; refine wp_cond_split (hA.ev (x := .tmp 81) rfl) (fun c13 => ?_) (fun c13 => ?_)
    · skip
      refine wp_region_list ?_; refine W_val hA rfl _ rfl (by decide) _ _ (R_mov hA rfl rfl _) (fun a hA => ?_); refine W_val hA rfl _ rfl (by decide) _ _ (R_fa hA rfl rfl (fun w => fi9_5 _ w) _) (fun a hA => ?_); refine W_val hA rfl _ rfl (by decide) _ _ (R_ld hA rfl rfl ag_int9 (cell9 II 5 rfl)) (fun a hA => ?_); refine W_callA hA (by decide) (fun _ _ => by kernel_rfl) (args1 hA rfl) (digits_any i.csr (by omega) (by omega) _) (fun w9 hw a hA => ?_); replace II := (hw.block _ (Array.getElem?_eq_some_iff.1 II).1).trans II; replace HB := HB.trans (hw.mono HB.size); clear hw; refine W_val hA rfl _ rfl (by decide) _ _ (R_addL hA rfl rfl rfl (by simp only [List.length_append, List.length_cons, List.length_nil]; omega) _) (fun a hA => ?_); refine W_val hA rfl _ rfl (by decide) _ _ (R_asg hA rfl rfl _) (fun a hA => ?_); refine W_nil ?_; refine blk_nrm ?_; refine blk_nrm ?_; refine then_nrm ?_; show Code.wp Tryz.prog _ _ _ _; refine wp_region_list ?_; refine W_val hA rfl _ rfl (by decide) _ _ (R_mov hA rfl rfl _) (fun a hA => ?_); refine W_val hA rfl _ rfl (by decide) _ _ (R_addI hA rfl rfl rfl _) (fun a hA => ?_); refine W_val hA rfl _ rfl (by decide) _ _ (R_asg hA rfl rfl _) (fun a hA => ?_); refine W_nil ?_; refine then_nrm ?_
      obtain rfl : ch = 99 := UInt8.toNat_inj.1 (by have := eq_of_beq c13; show ch.toNat = 99; omega)
      exact ⟨cj, FrA.add (FrA.add (FrA.add (hA.re (sa rfl (sn))) 5 _ ((hA.get 5 _ rfl).trans (congrArg (fun q : Bs => str q) ((line_next hc).trans (by simp [opOf, xr])).symm))) 6 _ (hA.get 6 _ rfl)) 7 _ ((hA.get 7 _ rfl).trans (congrArg (Value.int .i64) (wrap_upL (by omega)))), HB, II⟩
    refine wp_skip ?_; refine blk_nrm ?_; refine blk_nrm ?_; refine then_nrm ?_; show Code.wp Tryz.prog _ _ _ _; refine wp_region_list ?_; refine W_val hA rfl _ rfl (by decide) _ _ (R_mov hA rfl rfl _) (fun a hA => ?_); refine W_val hA rfl _ rfl (by decide) _ _ (R_addI hA rfl rfl rfl _) (fun a hA => ?_); refine W_val hA rfl _ rfl (by decide) _ _ (R_asg hA rfl rfl _) (fun a hA => ?_); refine W_nil ?_; refine then_nrm ?_
    exfalso
    have hcc := l2 ch (List.mem_of_getElem? hc)
    rcases hcc with rfl | rfl | rfl | rfl | rfl
    · exact absurd c9 (by decide)
    · exact absurd c10 (by decide)
    · exact absurd c11 (by decide)
    · exact absurd c12 (by decide)
    · exact absurd c13 (by decide)
  obtain rfl : j = (lettersT (frmT i.op.toNat)).length := by have := of_decide_eq_false c7; omega
  have hfin : (lineT (nmT i) (((lettersT (frmT i.op.toNat)).map (opOf i)).take (lettersT (frmT i.op.toNat)).length)) = printT i := by rw [hP, List.take_of_length_le (by rw [List.length_map]; exact Nat.le_refl _)]
  refine wp_exit ?_; refine then_ext ?_; refine then_ext ?_; refine blk_eq ?_; refine then_nrm ?_; show Code.wp Tryz.prog _ _ _ _; refine wp_seq (wp_region_list ?_); refine W_val hA rfl _ rfl (by decide) _ _ (R_mov hA rfl rfl _) (fun a hA => ?_); (iterate 2 refine W_val hA rfl _ rfl (by decide) _ _ (R_asg hA rfl rfl _) fun a hA => ?_); refine W_nil (then_nrm ?_); show Code.wp Tryz.prog _ _ _ _; refine wp_ret ?_
  exact ret_twoF (i := 2) (j := 3) (by kernel_rfl) hA rfl rfl ⟨by rw [hfin], HB⟩
theorem rprint_yes (i : Ins) (hr : rightB i = true) (w : World) : Calls Tryz.prog 11 #[insV i] w fun e w' => e = .returned (.tuple #[str (printT i), .int .i64 0]) ∧ Below w.heap.size w w' := by
  obtain ⟨h1, h2, h3, h4⟩ := rightT_of hr
  have hf := (fT_ok h1 (by omega)).imm
  have hI := (right_imm hf h4).1
  have hfl := frm_lt i.op.toNat (by omega) h1
  obtain ⟨l1, l2⟩ := letters_ok _ hfl
  refine rprint_walk i (mskT i.op.toNat) (matT i.op.toNat) (letT (frmT i.op.toNat)) l1 l2 (op_short hr) (name_short i.op.toNat (by omega)) ?_ ⟨h4.rd, h4.a, h4.b, h4.csr, hI⟩ (fun w => ?_) (fun w => ?_) (fun w => letters_any (frmT i.op.toNat) hfl w) w
  · unfold printT
    rw [show fT i.op.toNat = frm (frmT i.op.toNat) from rfl, ops_letters _ hfl]
  · have h := refRightB i w
    rw [hr] at h; exact h
  · have h := refRow_any i.op.toNat h1 (by omega) w
    rw [← h3] at h; exact h
end Go.Proofs.YtakdhdaoklcidaaGreatDoor

namespace Go.Proofs.YtakdhdaoklcidaaGreatDoor
open Go.RowKit Go.Lib
set_option linter.unusedVariables false
set_option maxRecDepth 100000
set_option maxHeartbeats 4000000 in
theorem rparse_gen (l Lb : Bs) (op rd a b imm csr : Int) (aq rl : Bool) (RI : Ins) (RE : Int) (c : Bool)
    (hc : c = (rightB ⟨op, rd, a, b, imm, csr, aq, rl⟩ && (printT ⟨op, rd, a, b, imm, csr, aq, rl⟩ == l))) (hRI : RI = if c then ⟨op, rd, a, b, imm, csr, aq, rl⟩ else insZ) (hRE : RE = if c then 0 else 100)
    (hGU : ∀ w, Calls Tryz.prog 38 #[str l] w fun e w' => e = .returned (.tuple #[.agg #[.int .i64 op, .int .i64 rd, .int .i64 a, .int .i64 b, .int .i64 imm, .int .i64 csr, .bool aq, .bool rl], str Lb]) ∧ Below w.heap.size w w') (w : World) :
    Calls Tryz.prog 14 #[str l] w fun e w' => e = .returned (.tuple #[insV RI, .int .i64 RE]) ∧ Below w.heap.size w w' := by
  have HGU := Lib.hid hGU; have HC := Lib.hid hc; have HRI := Lib.hid hRI; have HRE := Lib.hid hRE
  clear hGU hc hRI hRE
  go_enter Tryz.func14, Tryz.ntmps14
  go_wp2_with (fail)
  (with_reducible refine (HGU.out _).mono ?_)
  rintro e w1 ⟨rfl, hb1⟩
  have HB1 := Lib.hid (((Below.refl w.heap.size w).alloc (Nat.le_refl _) (.cells #[.int .i64 0, .int .i64 0, .int .i64 0, .int .i64 0, .int .i64 0, .int .i64 0, .bool false, .bool false] 23)).trans (hb1.mono (by simp)))
  have HR1 : Hid (w1.heap[w.heap.size]? = some (.cells #[.int .i64 0, .int .i64 0, .int .i64 0, .int .i64 0, .int .i64 0, .int .i64 0, .bool false, .bool false] 23 (0, 0))) := Lib.hid ((hb1.block _ (by simp)).trans (heap_alloc_new _ _))
  have HZ1 : Hid (w.heap.size < w1.heap.size) := Lib.hid (by have := hb1.size; simp at this; omega)
  clear hb1 HGU
  have HI2 : Hid ((w1.alloc (.cells #[.int .i64 op, .int .i64 rd, .int .i64 a, .int .i64 b, .int .i64 imm, .int .i64 csr, .bool aq, .bool rl] 23)).heap[w1.heap.size]? = some (.cells #[.int .i64 op, .int .i64 rd, .int .i64 a, .int .i64 b, .int .i64 imm, .int .i64 csr, .bool aq, .bool rl] 23 (0, 0))) := Lib.hid (heap_alloc_new _ _)
  have HR2 : Hid ((w1.alloc (.cells #[.int .i64 op, .int .i64 rd, .int .i64 a, .int .i64 b, .int .i64 imm, .int .i64 csr, .bool aq, .bool rl] 23)).heap[w.heap.size]? = some (.cells #[.int .i64 0, .int .i64 0, .int .i64 0, .int .i64 0, .int .i64 0, .int .i64 0, .bool false, .bool false] 23 (0, 0))) := Lib.hid ((Lib.alloc_old _ _ _ HZ1.out).trans HR1.out)
  have HB2 : Hid (Below w.heap.size w (w1.alloc (.cells #[.int .i64 op, .int .i64 rd, .int .i64 a, .int .i64 b, .int .i64 imm, .int .i64 csr, .bool aq, .bool rl] 23))) := Lib.hid (HB1.out.alloc HB1.out.size _)
  cases hr : rightB ⟨op, rd, a, b, imm, csr, aq, rl⟩
  · have hC : c = false := by rw [HC.out, hr]; rfl
    have eRI : RI = insZ := by rw [HRI.out, hC]; rfl
    have eRE : RE = 100 := by rw [HRE.out, hC]; rfl
    subst eRI eRE
    have HPR := Lib.hid (fun w => rprint_no ⟨op, rd, a, b, imm, csr, aq, rl⟩ hr w)
    clear hC HC HRI HRE hr HR1 HB1
    go_wp2_with (refine wpList_load_row rfl _ _ rfl w1.heap.size rfl 23 _ _ _ HI2.out Tryz.underlying23 rfl size_ins ?_)
    (with_reducible refine (HPR.out _).mono ?_)
    rintro e wp ⟨rfl, hbp⟩
    have HBP : Hid (Below w.heap.size w wp) := Lib.hid (HB2.out.trans (hbp.mono HB2.out.size))
    have HRS : Hid (wp.heap[w.heap.size]? = some (.cells #[.int .i64 0, .int .i64 0, .int .i64 0, .int .i64 0, .int .i64 0, .int .i64 0, .bool false, .bool false] 23 (0, 0))) := Lib.hid ((hbp.block _ (Array.getElem?_eq_some_iff.1 HR2.out).1).trans HR2.out)
    clear hbp
    go_wp2_with (refine wpList_store_row rfl _ _ _ rfl w.heap.size _ rfl rfl 23 _ HRS.out size_ins rfl (by simp [Value.oneCell']) ?_)
    exact bodyPost_ret (v := .tuple #[.agg #[.int .i64 0, .int .i64 0, .int .i64 0, .int .i64 0, .int .i64 0, .int .i64 0, .bool false, .bool false], .int .i64 100]) (results_cell_tmp (show Tryz.f14.results = #[.cell 2 23, .tmp 3] by kernel_rfl) _ _ w.heap.size 23 _ _ _ rfl (setRow_heap _ _ _ _ _ _ HRS.out) Tryz.underlying23 rfl size_ins) rfl ⟨rfl, below_setRow HBP.out (Nat.le_refl _) _⟩
  · by_cases hp : printT ⟨op, rd, a, b, imm, csr, aq, rl⟩ = l
    · have hC : c = true := by rw [HC.out, hr, hp]; simp
      have eRI : RI = ⟨op, rd, a, b, imm, csr, aq, rl⟩ := by rw [HRI.out, hC]; rfl
      have eRE : RE = 0 := by rw [HRE.out, hC]; rfl
      subst eRI eRE
      have HPR := Lib.hid (fun w => rprint_yes ⟨op, rd, a, b, imm, csr, aq, rl⟩ hr w)
      rw [hp] at HPR
      clear hC HC HRI HRE hr hp HR1 HB1
      go_wp2_with (refine wpList_load_row rfl _ _ rfl w1.heap.size rfl 23 _ _ _ HI2.out Tryz.underlying23 rfl size_ins ?_)
      (with_reducible refine (HPR.out _).mono ?_)
      rintro e wp ⟨rfl, hbp⟩
      have HBP : Hid (Below w.heap.size w wp) := Lib.hid (HB2.out.trans (hbp.mono HB2.out.size))
      have HRS : Hid (wp.heap[w.heap.size]? = some (.cells #[.int .i64 0, .int .i64 0, .int .i64 0, .int .i64 0, .int .i64 0, .int .i64 0, .bool false, .bool false] 23 (0, 0))) := Lib.hid ((hbp.block _ (Array.getElem?_eq_some_iff.1 HR2.out).1).trans HR2.out)
      have HIS : Hid (wp.heap[w1.heap.size]? = some (.cells #[.int .i64 op, .int .i64 rd, .int .i64 a, .int .i64 b, .int .i64 imm, .int .i64 csr, .bool aq, .bool rl] 23 (0, 0))) := Lib.hid ((hbp.block _ (Array.getElem?_eq_some_iff.1 HI2.out).1).trans HI2.out)
      clear hbp
      go_wp2_with (first
        | (refine wpList_load_row rfl _ _ rfl w1.heap.size rfl 23 _ _ _ HIS.out Tryz.underlying23 rfl size_ins ?_)
        | (refine wpList_store_row rfl _ _ _ rfl w.heap.size _ rfl rfl 23 _ HRS.out size_ins rfl (by simp [Value.oneCell']) ?_))
      exact bodyPost_ret (v := .tuple #[.agg #[.int .i64 op, .int .i64 rd, .int .i64 a, .int .i64 b, .int .i64 imm, .int .i64 csr, .bool aq, .bool rl], .int .i64 0]) (results_cell_tmp (show Tryz.f14.results = #[.cell 2 23, .tmp 3] by kernel_rfl) _ _ w.heap.size 23 _ _ _ rfl (setRow_heap _ _ _ _ _ _ HRS.out) Tryz.underlying23 rfl size_ins) rfl ⟨rfl, below_setRow HBP.out (Nat.le_refl _) _⟩
    · have hC : c = false := by rw [HC.out, hr, Bool.true_and]; exact beq_eq_false_iff_ne.2 hp
      have eRI : RI = insZ := by rw [HRI.out, hC]; rfl
      have eRE : RE = 100 := by rw [HRE.out, hC]; rfl
      subst eRI eRE
      have HPR := Lib.hid (fun w => rprint_yes ⟨op, rd, a, b, imm, csr, aq, rl⟩ hr w)
      have hq : (printT ⟨op, rd, a, b, imm, csr, aq, rl⟩ == l) = false := beq_eq_false_iff_ne.2 hp
      clear hC HC HRI HRE hr hp HR1 HB1
      generalize printT ⟨op, rd, a, b, imm, csr, aq, rl⟩ = tx at *
      go_wp2_with (refine wpList_load_row rfl _ _ rfl w1.heap.size rfl 23 _ _ _ HI2.out Tryz.underlying23 rfl size_ins ?_)
      (with_reducible refine (HPR.out _).mono ?_)
      rintro e wp ⟨rfl, hbp⟩
      have HBP : Hid (Below w.heap.size w wp) := Lib.hid (HB2.out.trans (hbp.mono HB2.out.size))
      have HRS : Hid (wp.heap[w.heap.size]? = some (.cells #[.int .i64 0, .int .i64 0, .int .i64 0, .int .i64 0, .int .i64 0, .int .i64 0, .bool false, .bool false] 23 (0, 0))) := Lib.hid ((hbp.block _ (Array.getElem?_eq_some_iff.1 HR2.out).1).trans HR2.out)
      clear hbp
      go_wp2_with (refine wpList_store_row rfl _ _ _ rfl w.heap.size _ rfl rfl 23 _ HRS.out size_ins rfl (by simp [Value.oneCell']) ?_)
      exact bodyPost_ret (v := .tuple #[.agg #[.int .i64 0, .int .i64 0, .int .i64 0, .int .i64 0, .int .i64 0, .int .i64 0, .bool false, .bool false], .int .i64 100]) (results_cell_tmp (show Tryz.f14.results = #[.cell 2 23, .tmp 3] by kernel_rfl) _ _ w.heap.size 23 _ _ _ rfl (setRow_heap _ _ _ _ _ _ HRS.out) Tryz.underlying23 rfl size_ins) rfl ⟨rfl, below_setRow HBP.out (Nat.le_refl _) _⟩
theorem rparse_any (l : Bs) (hl : l.length ≤ 100000) (w : World) : Calls Tryz.prog 14 #[str l] w fun e w' => e = .returned (.tuple #[insV (parseI l), .int .i64 (parseE l)]) ∧ Below w.heap.size w w' := by
  obtain ⟨h1, h2⟩ := parse_one l
  have hg := fun w => rguess_any l hl w
  refine rparse_gen l (guessR l).2 (guessR l).1.op (guessR l).1.rd (guessR l).1.a (guessR l).1.b (guessR l).1.imm (guessR l).1.csr (guessR l).1.aq (guessR l).1.rl (parseI l) (parseE l) (parseB l) ?_ ?_ rfl hg w
  · exact h1.symm
  · unfold parseI
    cases hb : parseB l
    · rfl
    · rw [if_pos rfl, if_pos rfl, ← h2 hb]
end Go.Proofs.YtakdhdaoklcidaaGreatDoor

namespace Go.Proofs.YtakdhdaoklcidaaGreatDoor
open Go.RowKit Go.Lib
set_option linter.unusedVariables false
set_option maxRecDepth 100000
theorem and_one64 {y : Int} : bits .and .i64 y 1 = y % 2 := by
  show IntKind.i64.wrap ((BitVec.ofInt 64 y &&& 1#64).toNat : Int) = _
  have h : (BitVec.ofInt 64 y &&& 1#64).toNat = (y % 2).toNat := by
    rw [BitVec.toNat_and, show (1#64).toNat = 1 from rfl, Nat.and_one_is_mod, BitVec.toNat_ofInt]; omega
  rw [h]
  simp [IntKind.wrap, IntKind.bits, IntKind.signed]; omega
theorem and_4095 {n : Int} : bits .and .i64 n 4095 = n % 4096 := by
  show IntKind.i64.wrap ((BitVec.ofInt 64 n &&& BitVec.ofInt 64 4095).toNat : Int) = _
  have e : (BitVec.ofInt 64 n &&& BitVec.ofInt 64 4095).toNat = (BitVec.ofInt 64 n).toNat % 4096 := by
    rw [BitVec.toNat_and]
    show (BitVec.ofInt 64 n).toNat &&& (2 ^ 12 - 1) = _
    rw [Nat.and_two_pow_sub_one_eq_mod]
  rw [e, BitVec.toNat_ofInt]
  have hk : ((((n % (2 ^ 64 : Nat)).toNat % 4096 : Nat) : Int)) = n % 4096 := by
    have h1 : ((n % (2 ^ 64 : Nat)).toNat : Int) = n % (2 ^ 64 : Nat) := Int.toNat_of_nonneg (Int.emod_nonneg _ (by decide))
    omega
  rw [hk]
  unfold IntKind.wrap
  simp [IntKind.signed, IntKind.bits]
  omega
theorem refLow_any (n : Int) (w : World) : Calls Tryz.prog 42 #[.int .i64 n] w fun e w' => e = .returned (.int .i64 (lowZ n)) ∧ w = w' := by
  have ha := @and_4095 n
  by_cases c : 2048 ≤ n % 4096
  · have e : lowZ n = n % 4096 - 4096 := by unfold lowZ; omega
    rw [e]
    have h0 : 0 ≤ n % 4096 ∧ n % 4096 < 4096 := by omega
    generalize n % 4096 = x at *
    obtain ⟨x0, x1⟩ := h0
    clear e
    go_enter Tryz.func42, Tryz.ntmps42
    go_wp2
    go_ret
    exact ⟨by go_num, rfl⟩
  · have e : lowZ n = n % 4096 := by unfold lowZ; omega
    rw [e]
    have h0 : 0 ≤ n % 4096 ∧ n % 4096 < 4096 := by omega
    generalize n % 4096 = x at *
    obtain ⟨x0, x1⟩ := h0
    clear e
    go_enter Tryz.func42, Tryz.ntmps42
    go_wp2
    go_ret
    exact ⟨rfl, rfl⟩
theorem pourI (w : World) (B B' : Nat) (v vm : Value) (l m : List Ins) (n k : Nat) (hn : l.length = n) (hk : m.length = k) (h : OwnI w B v l) (hm : OwnI w B' vm m) (hl : n + k ≤ 70000) (hB : B ≤ w.heap.size) (ty : TypeId) :
    ∃ A C w', (Builtin.append_ #[33, 33] ty #[v, vm]).run Tryz.prog w = .ok (.slice A (n + k) C) w' ∧ OwnI w' B (.slice A (n + k) C) (l ++ m) ∧ Only (fun k => v.ownBlock = some k) w w' := by
  obtain ⟨i0, hi, hz0, hz1, hz2⟩ := info_parts info_insP
  rcases hm.2 with ⟨rfl, h0⟩ | ⟨g, cap, cur, rfl, hb, hg, hn1, hn2, hn3, ht⟩
  · have hm0 := List.eq_nil_of_length_eq_zero h0
    subst hm0
    subst hn
    subst hk
    have hr := run_append_owned_none (P := Tryz.prog) (w := w) B 33 ty 23 i0 8 Tryz.underlying33 hi v l.length _ h
    obtain ⟨A, C, rfl⟩ := ownI_slice h
    exact ⟨A, C, w, hr, by simpa using h, Only.refl _ _⟩
  · subst hn
    subst hk
    have hl8 : (insCs m).length = m.length * 8 := by
      unfold insCs
      induction m with
      | nil => rfl
      | cons a m ih =>
        rw [List.flatMap_cons, List.length_append]
        have e : (insC a).length = 8 := rfl
        have e2 : (List.flatMap insC m).length = m.length * 8 := by
          clear ih ht hn1 hn3 hm hl
          induction m with
          | nil => rfl
          | cons b m ih2 => rw [List.flatMap_cons, List.length_append, ih2, List.length_cons]; show 8 + _ = _; omega
        rw [e, e2, List.length_cons]; omega
    have hnn : ∀ j u, (insCs m)[j]? = some u → w.cell? ((⟨g, 0, none⟩ : Addr).add j) = some u := by
      intro j u hj
      rw [Lib.add_plain, Nat.zero_add, Lib.cell_of_heap hg]
      rw [← ht, List.getElem?_take] at hj
      split at hj
      · simpa using hj
      · cases hj
    have h1 : ∀ u ∈ insCs m, u.oneCell' = true := by
      intro u hu
      obtain ⟨i, _, hu⟩ := List.mem_flatMap.1 hu
      unfold insC at hu; simp at hu; rcases hu with rfl | rfl | rfl | rfl | rfl | rfl | rfl | rfl <;> rfl
    obtain ⟨v', w', hr, h2, h3, _, h5⟩ := run_append_own_at (P := Tryz.prog) w B 33 ty 23 i0 _ 8 56 Tryz.underlying33 hi hz0 hz1 hz2 rfl (by decide) v l.length _ h ⟨g, 0, none⟩ m.length cap (insCs m) hl8 hnn h1 (by unfold maxLen; omega) (by omega) hB
    have ho : OwnI w' B v' (l ++ m) := by
      unfold OwnI
      rw [insCs_app, List.length_append]
      simpa using h2
    obtain ⟨A, C, rfl⟩ := ownI_slice ho
    rw [List.length_append] at hr ho
    exact ⟨A, C, w', hr, by simpa using ho, (Only.refl _ w).grown h3 (fun k hk => .inl hk)⟩
theorem ownI_nil (w : World) (B : Nat) : OwnI w B (.slice none 0 0) [] := ⟨rfl, .inl ⟨rfl, rfl⟩⟩
theorem rli_small (rd n : Int) (hr : 0 ≤ rd ∧ rd ≤ 31) (h : -2048 ≤ n ∧ n ≤ 2047) (w : World) : Calls Tryz.prog 17 #[.int .i64 rd, .int .i64 n] w (LiEnd w [addI rd 0 n]) := by
  obtain ⟨A, C, w', hr0, ho, hb⟩ := push_new w w (.slice none 0 0) [] (addI rd 0 n) 0 rfl (ownI_nil _ _) (by simp) (Below.refl _ _) 33
  obtain ⟨r0, r1⟩ := hr
  obtain ⟨n0, n1⟩ := h
  have hd1 : ¬ rd < 0 := by omega
  have hd2 : ¬ 31 < rd := by omega
  have HR := Lib.hid hr0; have HO := Lib.hid ho; have HB := Lib.hid hb
  clear hr0 ho hb
  go_enter Tryz.func17, Tryz.ntmps17
  go_wp2_with (at_builtin; refine wpList_append_run rfl _ _ _ rfl (.slice none 0 0) (.slice (some ⟨w.heap.size, 0, none⟩) 1 1) (.slice A (0 + 1) C) w' rfl rfl HR.out ?_)
  go_ret
  exact ⟨_, rfl, HO.out, HB.out⟩
end Go.Proofs.YtakdhdaoklcidaaGreatDoor

namespace Go.Proofs.YtakdhdaoklcidaaGreatDoor
open Go.RowKit Go.Lib
set_option linter.unusedVariables false
set_option maxRecDepth 100000
set_option maxHeartbeats 2000000 in
theorem rli_mid0 (rd n : Int) (hr : 0 ≤ rd ∧ rd ≤ 31) (h : ¬ (-2048 ≤ n ∧ n ≤ 2047)) (h2 : -2147483648 ≤ n ∧ n ≤ 2147483647) (hl : lowZ n = 0) (w : World) : Calls Tryz.prog 17 #[.int .i64 rd, .int .i64 n] w (LiEnd w [luiI rd n]) := by
  have HL := Lib.hid (fun w => refLow_any n w)
  rw [hl] at HL
  obtain ⟨r0, r1⟩ := hr
  obtain ⟨n0, n1⟩ := h2
  have hd1 : ¬ rd < 0 := by omega
  have hd2 : ¬ 31 < rd := by omega
  have hor : n < -2048 ∨ 2047 < n := by omega
  have hn2 : n < 2147483648 := by omega
  have hm : (n == 2147483648) = false := beq_eq_false_iff_ne.2 (by omega)
  clear h hl
  obtain ⟨A, C, w1, hr1, ho1, hb1⟩ := push_new w w (.slice none 0 0) [] (luiI rd n) 0 rfl (ownI_nil _ _) (by simp) (Below.refl _ _) 33
  have HR1 := Lib.hid hr1; have HO1 := Lib.hid ho1; have HB1 := Lib.hid hb1
  clear hr1 ho1 hb1
  rcases hor with hor | hor
  all_goals
    go_enter Tryz.func17, Tryz.ntmps17
    go_wp2_with (fail)
    (with_reducible refine (HL.out _).mono ?_)
    rintro e wu ⟨rfl, rfl⟩
    go_wp2_with (at_builtin; refine wpList_append_run rfl _ _ _ rfl (.slice none 0 0) (.slice (some ⟨w.heap.size, 0, none⟩) 1 1) (.slice A (0 + 1) C) w1 rfl rfl HR1.out ?_)
    go_ret
    exact ⟨_, rfl, HO1.out, HB1.out⟩
set_option maxHeartbeats 2000000 in
theorem rli_mid1 (rd n lo M : Int) (hr : 0 ≤ rd ∧ rd ≤ 31) (hor : n < -2048 ∨ 2047 < n) (h2 : -2147483648 ≤ n ∧ n ≤ 2147483647) (hl : lowZ n = lo) (hl0 : ¬ lo = 0) (m : Int) (hm : wrap64 (n - lo) = m) (hs : (m = 2147483648 ∧ M = -2147483648) ∨ ((m == 2147483648) = false ∧ M = m)) (w : World) : Calls Tryz.prog 17 #[.int .i64 rd, .int .i64 n] w (LiEnd w [luiI rd M, addiwI rd rd lo]) := by
  have HL := Lib.hid (fun w => refLow_any n w)
  rw [hl] at HL
  obtain ⟨r0, r1⟩ := hr
  obtain ⟨n0, n1⟩ := h2
  have hd1 : ¬ rd < 0 := by omega
  have hd2 : ¬ 31 < rd := by omega
  have hn2 : n < 2147483648 := by omega
  have hq : (lo != 0) = true := by simpa using hl0
  clear hl
  obtain ⟨A, C, w1, hr1, ho1, hb1⟩ := push_new w w (.slice none 0 0) [] (luiI rd M) 0 rfl (ownI_nil _ _) (by simp) (Below.refl _ _) 33
  obtain ⟨A2, C2, w2, hr2, ho2, hb2⟩ := push_new w w1 _ _ (addiwI rd rd lo) (0 + 1) rfl ho1 (by simp) hb1 33
  have HR1 := Lib.hid hr1; have HR2 := Lib.hid hr2; have HO2 := Lib.hid ho2; have HB2 := Lib.hid hb2
  clear hr1 ho1 hb1 hr2 ho2 hb2
  rcases hs with ⟨rfl, rfl⟩ | ⟨hmb, rfl⟩ <;> rcases hor with hor | hor
  all_goals
    go_enter Tryz.func17, Tryz.ntmps17
    go_wp2_with (fail)
    (with_reducible refine (HL.out _).mono ?_)
    rintro e wu ⟨rfl, rfl⟩
    go_wp2_with (at_builtin; first
      | (refine wpList_append_run rfl _ _ _ rfl (.slice none 0 0) (.slice (some ⟨w.heap.size, 0, none⟩) 1 1) (.slice A (0 + 1) C) w1 rfl rfl HR1.out ?_)
      | (refine wpList_append_run rfl _ _ _ rfl (.slice A (0 + 1) C) (.slice (some ⟨w1.heap.size, 0, none⟩) 1 1) (.slice A2 (0 + 1 + 1) C2) w2 rfl rfl HR2.out ?_))
    go_ret
    exact ⟨_, rfl, HO2.out, HB2.out⟩
theorem rli_mid (rd n : Int) (hr : 0 ≤ rd ∧ rd ≤ 31) (h : ¬ (-2048 ≤ n ∧ n ≤ 2047)) (h2 : -2147483648 ≤ n ∧ n ≤ 2147483647) (w : World) : Calls Tryz.prog 17 #[.int .i64 rd, .int .i64 n] w (LiEnd w (luiI rd (s32 (n - lowZ n)) :: moreI (addiwI rd rd (lowZ n)))) := by
  obtain ⟨lo0, lo1⟩ := lowZ_bd n
  by_cases hl : lowZ n = 0
  · have e : luiI rd (s32 (n - lowZ n)) :: moreI (addiwI rd rd (lowZ n)) = [luiI rd n] := by
      rw [hl, Int.sub_zero, show s32 n = n by unfold s32 RowKit.wrap32; omega]; rfl
    rw [e]; exact rli_mid0 rd n hr h h2 hl w
  · have e : luiI rd (s32 (n - lowZ n)) :: moreI (addiwI rd rd (lowZ n)) = [luiI rd (s32 (n - lowZ n)), addiwI rd rd (lowZ n)] := by
      unfold moreI; rw [if_neg (show ¬ (addiwI rd rd (lowZ n)).imm = 0 from hl)]
    rw [e]
    refine rli_mid1 rd n _ _ hr (by omega) h2 rfl hl _ rfl ?_ w
    have hlm := lowZ_mod n
    have hs0 : (wrap64 (n - lowZ n) = 2147483648 ∧ s32 (n - lowZ n) = -2147483648) ∨ (¬ wrap64 (n - lowZ n) = 2147483648 ∧ s32 (n - lowZ n) = wrap64 (n - lowZ n)) := by unfold s32 RowKit.wrap32 wrap64; omega
    rcases hs0 with h | h
    · exact .inl h
    · exact .inr ⟨beq_eq_false_iff_ne.2 h.1, h.2⟩
theorem shift_at {m : Int} {z : Nat} {q : Int} (hz : m = 2 ^ z * (2 * q + 1)) (j : Nat) (hj : j ≤ z) : m / 2 ^ j = 2 ^ (z - j) * (2 * q + 1) := by
  have e : (2 : Int) ^ z = 2 ^ j * 2 ^ (z - j) := by rw [← Int.pow_add, show j + (z - j) = z by omega]
  have hp := two_pow_pos j
  rw [hz, e, Int.mul_assoc]
  exact Int.mul_ediv_cancel_left _ (by omega)
theorem shift_even {m : Int} {z : Nat} {q : Int} (hz : m = 2 ^ z * (2 * q + 1)) (j : Nat) (hj : j < z) : (m / 2 ^ j) % 2 = 0 := by
  rw [shift_at hz j (by omega), show z - j = (z - j - 1) + 1 by omega, Int.pow_succ, Int.mul_assoc, Int.mul_comm, Int.mul_assoc]
  exact Int.mul_emod_right _ _
theorem shift_odd {m : Int} {z : Nat} {q : Int} (hz : m = 2 ^ z * (2 * q + 1)) : (m / 2 ^ z) % 2 = 1 := by
  rw [shift_at hz z (Nat.le_refl _), Nat.sub_self]; omega
theorem shift_next (m : Int) (j : Nat) : m / 2 ^ j / 2 = m / 2 ^ (j + 1) := by
  have hp := two_pow_pos j
  rw [Int.pow_succ, Int.ediv_ediv_of_nonneg (by omega)]
set_option maxHeartbeats 4000000 in
theorem rli_big (rd n : Int) (L : List Ins) (hL : L.length ≤ 1000) (hr : 0 ≤ rd ∧ rd ≤ 31) (h : ¬ (-2048 ≤ n ∧ n ≤ 2047)) (h2 : ¬ (-2147483648 ≤ n ∧ n ≤ 2147483647)) (n0 : -9223372036854775808 ≤ n) (n1 : n ≤ 9223372036854775807)
    (hih : ∀ w, Calls Tryz.prog 17 #[.int .i64 rd, .int .i64 (nextL n)] w (LiEnd w L)) (w : World) :
    Calls Tryz.prog 17 #[.int .i64 rd, .int .i64 n] w (LiEnd w (L ++ (slliI rd (ctzI (wrap64 (n - lowZ n))) :: moreI (addI rd rd (lowZ n))))) := by
  have HL := Lib.hid (fun w => refLow_any n w)
  have hne := high_ne h n0 n1
  have hwi := wrap64_in (n - lowZ n)
  obtain ⟨hcz, q, hzq⟩ := ctzI_spec _ hne.1 hwi.1 hwi.2
  obtain ⟨lo0, lo1⟩ := lowZ_bd n
  obtain ⟨r0, r1⟩ := hr
  have hd1 : ¬ rd < 0 := by omega
  have hd2 : ¬ 31 < rd := by omega
  have hnx : nextL n = wrap64 (n - lowZ n) / 2 ^ ctzI (wrap64 (n - lowZ n)) := rfl
  rw [hnx] at hih
  have HIH := Lib.hid hih
  have HZQ := Lib.hid hzq
  clear h hih hne hnx hzq
  generalize hlw : lowZ n = lo at *
  clear hlw
  generalize hm : wrap64 (n - lo) = m at *
  have HWI := Lib.hid hwi
  generalize ctzI m = z at *
  clear hwi
  have hor : n < -2147483648 ∨ 2147483647 < n := by omega
  have hlo2 : (lo = 0 ∧ (lo != 0) = false) ∨ (¬ lo = 0 ∧ (lo != 0) = true) := by by_cases c : lo = 0 <;> simp [c]
  have HMN : Hid (lo = 0 → n = m) := Lib.hid (fun h => by rw [← hm, h, Int.sub_zero]; exact (wrap64_id n0 (by omega)).symm)
  clear h2
  rcases hor with hor | hor <;> rcases hlo2 with ⟨hl, hq⟩ | ⟨hl, hq⟩
  all_goals
    go_enter Tryz.func17, Tryz.ntmps17
    go_wp2_with (fail)
    (with_reducible refine (HL.out _).mono ?_)
    rintro e wu ⟨rfl, rfl⟩
    go_wp2
    go_loopw [7, 8] (fun x k wr => ∃ (j : Nat), j ≤ z ∧ x = .int .i64 (m / 2 ^ j) ∧ k = .int .i64 j ∧ wr = w) (fun _ k _ => z - (RowKit.intOf k).toNat)
    case atStart => exact ⟨0, Nat.zero_le _, by first | (simp; done) | (simp; exact HMN.out hl), rfl, rfl⟩
    case round =>
      obtain ⟨j, hj, rfl, rfl, rfl⟩ := hrel
      by_cases hlt : j < z
      · have ha : bits .and .i64 (m / 2 ^ j) 1 = 0 := by rw [and_one64]; exact shift_even HZQ.out j hlt
        have hnx := shift_next m j
        have HNX := Lib.hid hnx
        clear hnx
        generalize m / 2 ^ j = x at *
        go_wp2
        case roundEnd => exact ⟨⟨j + 1, by omega, by rw [HNX.out], rfl, trivial⟩, by simp [RowKit.intOf]; omega⟩
      · obtain rfl : j = z := by omega
        have ha : bits .and .i64 (m / 2 ^ j) 1 = 1 := by rw [and_one64]; exact shift_odd HZQ.out
        generalize m / 2 ^ j = x at *
        go_wp2_with (fail)
        (with_reducible refine (HIH.out _).mono ?_)
        rintro e w2 ⟨v, rfl, ho2, hb2⟩
        obtain ⟨A0, C0, rfl⟩ := ownI_slice ho2
        obtain ⟨A1, C1, w3, hr3, ho3, hon3⟩ := pourI w2 wr.heap.size wr.heap.size (.slice none 0 0) (.slice A0 L.length C0) [] L 0 L.length rfl rfl (ownI_nil _ _) ho2 (by omega) hb2.size 33
        rw [Nat.zero_add] at hr3 ho3
        have hb3 : Below wr.heap.size wr w3 := Below.thenOnly hb2 hon3 (fun k hk => by simp [Value.ownBlock] at hk) hb2.size
        obtain ⟨A2, C2, w4, hr4, ho4, hb4⟩ := push_new wr w3 _ _ (slliI rd j) L.length (by simp) ho3 (by simp; omega) hb3 33
        obtain ⟨A3, C3, w5, hr5, ho5, hb5⟩ := push_new wr w4 _ _ (addI rd rd lo) (L.length + 1) (by simp) ho4 (by simp; omega) hb4 33
        have HR3 := Lib.hid hr3; have HR4 := Lib.hid hr4; have HR5 := Lib.hid hr5; have HO4 := Lib.hid ho4; have HB4 := Lib.hid hb4; have HO5 := Lib.hid ho5; have HB5 := Lib.hid hb5
        clear ho2 hb2 hr3 ho3 hon3 hb3 hr4 ho4 hb4 hr5 ho5 hb5
        go_wp2_with (at_builtin; first
          | (refine wpList_append_run rfl _ _ _ rfl (.slice none 0 0) (.slice A0 L.length C0) (.slice A1 L.length C1) w3 rfl rfl HR3.out ?_)
          | (refine wpList_append_run rfl _ _ _ rfl (.slice A1 L.length C1) (.slice (some ⟨w3.heap.size, 0, none⟩) 1 1) (.slice A2 (L.length + 1) C2) w4 rfl rfl HR4.out ?_)
          | (refine wpList_append_run rfl _ _ _ rfl (.slice A2 (L.length + 1) C2) (.slice (some ⟨w4.heap.size, 0, none⟩) 1 1) (.slice A3 (L.length + 1 + 1) C3) w5 rfl rfl HR5.out ?_))
        go_ret
        first
        | exact ⟨_, rfl, by simpa [moreI, addI, hl] using HO4.out, HB4.out⟩
        | exact ⟨_, rfl, by simpa [moreI, addI, hl] using HO5.out, HB5.out⟩
theorem rli_gen (rd : Int) (hr : 0 ≤ rd ∧ rd ≤ 31) : ∀ f n, 1 ≤ f → f ≤ 4 → -9223372036854775808 ≤ n → n ≤ 9223372036854775807 → (-bF f ≤ n ∧ n < bF f) → ∀ w, Calls Tryz.prog 17 #[.int .i64 rd, .int .i64 n] w (LiEnd w (liF rd f n)) := by
  intro f
  induction f with
  | zero => intro n h; omega
  | succ f ih =>
    intro n h1 h4 n0 n1 hb w
    unfold liF
    by_cases c1 : -2048 ≤ n ∧ n ≤ 2047
    · rw [if_pos c1]; exact rli_small rd n hr c1 w
    · rw [if_neg c1]
      by_cases c2 : -2147483648 ≤ n ∧ n ≤ 2147483647
      · rw [if_pos c2]; exact rli_mid rd n hr c1 c2 w
      · rw [if_neg c2]
        have hf : 1 ≤ f := by
          rcases Nat.eq_zero_or_pos f with h | h
          · subst h; rw [bF1] at hb; omega
          · exact h
        have hx := next_in hf c1 n0 n1 hb
        exact rli_big rd n _ (by have := liF_len rd f (nextL n); omega) hr c1 c2 n0 n1 (ih (nextL n) hf (by omega) hx.2.2.1 hx.2.2.2 ⟨hx.1, hx.2.1⟩) w
theorem refLi_any (rd n : Int) (hr : 0 ≤ rd ∧ rd ≤ 31) (n0 : -9223372036854775808 ≤ n) (n1 : n ≤ 9223372036854775807) (w : World) : Calls Tryz.prog 17 #[.int .i64 rd, .int .i64 n] w (LiEnd w (liF rd 4 n)) :=
  rli_gen rd hr 4 n (by decide) (by decide) n0 n1 (by rw [bF4]; omega) w
end Go.Proofs.YtakdhdaoklcidaaGreatDoor

namespace Go.Proofs.YtakdhdaoklcidaaGreatDoor
open Go.RowKit Go.Lib
set_option linter.unusedVariables false
set_option maxRecDepth 100000
theorem trim_comm (p : UInt8 → Bool) : ∀ l : Bs, (l.dropWhile p).reverse.dropWhile p = ((l.reverse.dropWhile p).reverse.dropWhile p).reverse
  | [] => rfl
  | a :: t => by
    by_cases h : p a = true
    · rw [List.dropWhile_cons_of_pos h, trim_comm p t, List.reverse_cons, List.dropWhile_append]
      by_cases c : (t.reverse.dropWhile p).isEmpty = true
      · rw [if_pos c]
        have e : t.reverse.dropWhile p = [] := List.isEmpty_iff.1 c
        rw [e, List.dropWhile_cons_of_pos h]; rfl
      · rw [if_neg c, List.reverse_append]
        show _ = ((([a] : Bs).reverse ++ (t.reverse.dropWhile p).reverse).dropWhile p).reverse
        rw [List.reverse_singleton, List.singleton_append, List.dropWhile_cons_of_pos h]
    · rw [List.dropWhile_cons_of_neg h, List.reverse_cons, List.dropWhile_append]
      by_cases c : (t.reverse.dropWhile p).isEmpty = true
      · rw [if_pos c, List.dropWhile_cons_of_neg h, List.reverse_singleton, List.dropWhile_cons_of_neg h, List.reverse_singleton]
      · rw [if_neg c, List.reverse_append, List.reverse_singleton, List.singleton_append, List.dropWhile_cons_of_neg h, List.reverse_cons, List.reverse_reverse]
def trimR (l : Bs) : Bs := trimRightS (trimLeftS l [32, 9]) [32, 9]
theorem trim_either (l : Bs) : trimR l = trimS l [32, 9] := by
  unfold trimR trimS trimRightS trimLeftS
  rw [trim_comm]
  simp
theorem left_step {r : Bs} {x : UInt8} (h0 : decide ((0 : Int) < (r.length : Int)) = true) (hx : r.headD 0 = x) (h : ([32, 9] : Bs).contains x = true) : trimLeftS r.tail [32, 9] = trimLeftS r [32, 9] ∧ r.tail.length < r.length := by
  cases r with
  | nil => exact absurd (of_decide_eq_true h0) (by simp)
  | cons y t =>
    simp only [List.headD_cons] at hx
    subst hx
    refine ⟨?_, by simp⟩
    unfold trimLeftS
    rw [List.dropWhile_cons_of_pos h]; rfl
theorem left_end {r : Bs} (h : decide ((0 : Int) < (r.length : Int)) = false ∨ ([32, 9] : Bs).contains (r.headD 0) = false) : trimLeftS r [32, 9] = r := by
  cases r with
  | nil => rfl
  | cons y t =>
    rcases h with h | h
    · exact absurd (of_decide_eq_false h) (by simp <;> omega)
    · unfold trimLeftS
      rw [List.dropWhile_cons_of_neg (by simpa using h)]
theorem right_step {r : Bs} (h0 : decide ((0 : Int) < (r.length : Int)) = true) (h : ([32, 9] : Bs).contains (r.getLast?.getD 0) = true) : trimRightS r.dropLast [32, 9] = trimRightS r [32, 9] ∧ r.dropLast.length < r.length := by
  have hne : r ≠ [] := fun e => by rw [e] at h0; exact absurd (of_decide_eq_true h0) (by simp)
  obtain ⟨t, y, rfl⟩ : ∃ t y, r = t ++ [y] := ⟨r.dropLast, r.getLast hne, (List.dropLast_concat_getLast hne).symm⟩
  simp only [List.getLast?_append, List.getLast?_singleton, Option.some_or, Option.getD_some] at h
  refine ⟨?_, by simp⟩
  unfold trimRightS
  rw [List.dropLast_concat, List.reverse_append, List.reverse_singleton, List.singleton_append, List.dropWhile_cons_of_pos h]
theorem right_end {r : Bs} (h : decide ((0 : Int) < (r.length : Int)) = false ∨ ([32, 9] : Bs).contains (r.getLast?.getD 0) = false) : trimRightS r [32, 9] = r := by
  by_cases hne : r = []
  · rw [hne]; rfl
  · rcases h with h | h
    · exfalso
      have := of_decide_eq_false h
      cases r with
      | nil => exact hne rfl
      | cons y t => simp at this <;> omega
    · obtain ⟨t, y, rfl⟩ : ∃ t y, r = t ++ [y] := ⟨r.dropLast, r.getLast hne, (List.dropLast_concat_getLast hne).symm⟩
      simp only [List.getLast?_append, List.getLast?_singleton, Option.some_or, Option.getD_some] at h
      unfold trimRightS
      rw [List.reverse_append, List.reverse_singleton, List.singleton_append, List.dropWhile_cons_of_neg (by simpa using h)]
      simp
theorem con_32 {x : UInt8} (h : ((x.toNat : Int) == 32) = true) : ([32, 9] : Bs).contains x = true := by
  have e : x = 32 := UInt8.toNat_inj.1 (by have := eq_of_beq h; show x.toNat = 32; omega)
  subst e; rfl
theorem con_9 {x : UInt8} (h : ((x.toNat : Int) == 9) = true) : ([32, 9] : Bs).contains x = true := by
  have e : x = 9 := UInt8.toNat_inj.1 (by have := eq_of_beq h; show x.toNat = 9; omega)
  subst e; rfl
theorem con_no {x : UInt8} (h : ((x.toNat : Int) == 32) = false) (h2 : ((x.toNat : Int) == 9) = false) : ([32, 9] : Bs).contains x = false := by
  have e1 : x ≠ 32 := fun e => by subst e; exact absurd h (by decide)
  have e2 : x ≠ 9 := fun e => by subst e; exact absurd h2 (by decide)
  simp [e1, e2]
def len0 (a : Act) : Nat := match a.eval (.tmp 0) with | .string s => s.size | _ => 0
theorem loop_str {Q : Exit → Act → World → Prop} {a : Act} {w : World} {c : Code} (I : Bs → Act → World → Prop) (hI : ∀ r a w, I r a w → a.eval (.tmp 0) = str r) (r0 : Bs) (h0 : I r0 a w) (round : ∀ r a w, I r a w → c.wp Tryz.prog (Exit.then (fun a' w' => ∃ r', r'.length < r.length ∧ I r' a' w') Q) a w) : (Code.loop c).wp Tryz.prog Q a w := by
  have hc : ∀ r a w, I r a w → len0 a = r.length := fun r a w h => by
    unfold len0; rw [hI r a w h]
    show r.toArray.size = _
    rw [List.size_toArray]
  refine wp_loop (fun a w => ∃ r, I r a w) (fun a w => len0 a) ⟨r0, h0⟩ (fun a w h => ?_)
  obtain ⟨r, h⟩ := h
  refine wp_mono (round r a w h) ?_
  intro e a' w' q
  cases e with
  | normal =>
    obtain ⟨r', h1, h2⟩ := q
    exact ⟨⟨r', h2⟩, by rw [hc _ _ _ h, hc _ _ _ h2]; exact h1⟩
  | _ => exact q
def LnD (w : World) (b : Nat) (d : LD) : Prop := w.heap[b]? = some (.cells (lineC d) 85 (0, 0))
theorem LnD.lt {w : World} {b : Nat} {d : LD} (h : LnD w b d) : b < w.heap.size := (Array.getElem?_eq_some_iff.1 h).1
theorem LnD.below {w w' : World} {b : Nat} {d : LD} (h : LnD w b d) (o : Below w.heap.size w w') : LnD w' b d := (o.block b h.lt).trans h
theorem Tch.line {b j : Nat} {w w' : World} {d : LD} (h : Tch b w w') (hj : LnD w j d) (hn : ¬ j = b) : LnD w' j d := (h.oth j hn).trans hj
def InB (w : World) (b : Nat) (i : Ins) : Prop := w.heap[b]? = some (.cells (InsC i) 23 (0, 0))
theorem InB.lt {w : World} {b : Nat} {i : Ins} (h : InB w b i) : b < w.heap.size := (Array.getElem?_eq_some_iff.1 h).1
theorem InB.below {w w' : World} {b : Nat} {i : Ins} (h : InB w b i) (o : Below w.heap.size w w') : InB w' b i := (o.block b h.lt).trans h
theorem Tch.insB {b j : Nat} {w w' : World} {i : Ins} (h : Tch b w w') (hj : InB w j i) (hn : ¬ j = b) : InB w' j i := (h.oth j hn).trans hj
theorem insB_op {w : World} {b : Nat} {i : Ins} (h : InB w b i) : w.cell? ⟨b, 0, none⟩ = some (.int .i64 i.op) := by rw [cell_of_row w b 0 _ _ _ h]; rfl
theorem fa_ins0 (b : Nat) (w : World) : (Instr.fieldAt 23 (.pointer (some ⟨b, 0, none⟩)) 0).run Tryz.prog w = .ok (.pointer (some ⟨b, 0, none⟩)) w := by kernel_rfl
theorem size_insB (i : Ins) : (Tryz.prog.info? 23).map (·.size) = some (InsC i).size := by kernel_rfl
theorem size_lnD (d : LD) : (Tryz.prog.info? 85).map (·.size) = some (lineC d).size := by kernel_rfl
theorem zero_ins (w : World) : (zeroValue 23).run Tryz.prog w = .ok (.agg (InsC insZ)) w := by kernel_rfl
def ldZ : LD := ⟨0, [], insZ, none, 0, 0, 0, 0⟩
theorem zero_ln (w : World) : (zeroValue 85).run Tryz.prog w = .ok (.agg (lineC ldZ)) w := by kernel_rfl
theorem one_ins (i : Ins) : (InsC i).all (·.oneCell') = true := by simp [InsC, Value.oneCell']
theorem one_ln (d : LD) : (lineC d).all (·.oneCell') = true := by simp [lineC, Value.oneCell']
section
variable {Q : Exit → Act → World → Prop} {w : World} {ops : Array Oper} {rest : List Oper} {o : Oper} {a : Act} {l : List (Nat × Value)} {n d : Nat}
theorem W_allocIn (hA : FrA l n a) (hg : o.guard = none) (d : Nat) (hd : o.dst = some d) (hdn : d < n) (ho : o.op = .alloc 23)
    (h : ∀ w' b a', FrA ((d, .pointer (some ⟨b, 0, none⟩)) :: l) n a' → Below w.heap.size w w' → InB w' b insZ → w.heap.size ≤ b → wpList Tryz.prog ops Q rest a' w') : wpList Tryz.prog ops Q (o :: rest) a w :=
  W_val hA hg d hd hdn _ _ (R_alloc hA ho zero_ins w) fun a hA => h _ _ a hA ((Below.refl _ _).alloc (Nat.le_refl _) _) (heap_alloc_new w _) (Nat.le_refl _)
theorem W_allocLn (hA : FrA l n a) (hg : o.guard = none) (d : Nat) (hd : o.dst = some d) (hdn : d < n) (ho : o.op = .alloc 85)
    (h : ∀ w' b a', FrA ((d, .pointer (some ⟨b, 0, none⟩)) :: l) n a' → Below w.heap.size w w' → LnD w' b ldZ → w.heap.size ≤ b → wpList Tryz.prog ops Q rest a' w') : wpList Tryz.prog ops Q (o :: rest) a w :=
  W_val hA hg d hd hdn _ _ (R_alloc hA ho zero_ln w) fun a hA => h _ _ a hA ((Below.refl _ _).alloc (Nat.le_refl _) _) (heap_alloc_new w _) (Nat.le_refl _)
theorem W_cpIn (hA : FrA l n a) (hg : o.guard = none) (hd : o.dst = none) {x y : Operand} (ho : o.op = .store 23 x y) {b : Nat} {i j : Ins} (hx : evL l x = some (.pointer (some ⟨b, 0, none⟩))) (hy : evL l y = some (insV j)) (hb : InB w b i)
    (h : ∀ w', Tch b w w' → InB w' b j → wpList Tryz.prog ops Q rest a w') : wpList Tryz.prog ops Q (o :: rest) a w :=
  W_strow (cs := InsC j) hA hg hd ho hx hy hb (size_insB j) rfl (one_ins j) (h _ (Tch.setRow _) (setRow_heap _ _ _ _ _ _ hb))
theorem W_cpLn (hA : FrA l n a) (hg : o.guard = none) (hd : o.dst = none) {x y : Operand} (ho : o.op = .store 85 x y) {b : Nat} {i j : LD} (hx : evL l x = some (.pointer (some ⟨b, 0, none⟩))) (hy : evL l y = some (.agg (lineC j))) (hb : LnD w b i)
    (h : ∀ w', Tch b w w' → LnD w' b j → wpList Tryz.prog ops Q rest a w') : wpList Tryz.prog ops Q (o :: rest) a w :=
  W_strow hA hg hd ho hx hy hb (size_lnD j) rfl (one_ln j) (h _ (Tch.setRow _) (setRow_heap _ _ _ _ _ _ hb))
theorem ret_ln {fn : Func} {R : Ending → World → Prop} {j b : Nat} {d : LD} (hr : fn.results = #[.cell j 85]) (hA : FrA l n a) (hv : l.lookup j = some (.pointer (some ⟨b, 0, none⟩))) (hw : LnD w b d) (hR : R (.returned (.agg (lineC d))) w) : bodyPost Tryz.prog fn R .ret a w :=
  ret_row hr hA hv hw Tryz.underlying85 (size_lnD d) hR
end
def ldOf (d : DL) (p : Option Addr) (c : Nat) : LD :=
  match d with
  | .empty => ldZ
  | .mark l => ⟨1, l, insZ, none, 0, 0, 0, 0⟩
  | .one i => ⟨2, [], i, none, 0, 0, 0, 0⟩
  | .many rd n => ⟨3, [], insZ, p, (liF rd 4 n).length, c, 0, 0⟩
  | .far rd l => ⟨4, l, insZ, none, 0, 0, rd, 0⟩
  | .aim i l => ⟨2, l, i, none, 0, 0, 0, 0⟩
  | .raw x => ⟨5, [], insZ, none, 0, 0, 0, x⟩
  | .bad => ⟨6, [], insZ, none, 0, 0, 0, 0⟩
def RowD (w : World) (B : Nat) (d : DL) (p : Option Addr) (c : Nat) : Prop :=
  match d with
  | .many rd n => OwnI w B (.slice p (liF rd 4 n).length c) (liF rd 4 n)
  | _ => True
def SaidEnd (w : World) (d : DL) (e : Ending) (w' : World) : Prop := ∃ p c, e = .returned (.agg (lineC (ldOf d p c))) ∧ RowD w' w.heap.size d p c ∧ Below w.heap.size w w'
theorem bld_l0 : Tryz.prog.built 85 [] = some (lineC ldZ) := by kernel_rfl
theorem bld_l1 (l : Bs) : Tryz.prog.built 85 [(0, .int .i64 1), (1, str l)] = some (lineC ⟨1, l, insZ, none, 0, 0, 0, 0⟩) := by kernel_rfl
theorem bld_l3 (p : Option Addr) (n c : Nat) : Tryz.prog.built 85 [(0, .int .i64 3), (3, .slice p n c)] = some (lineC ⟨3, [], insZ, p, n, c, 0, 0⟩) := by kernel_rfl
theorem bld_l4 (rd : Int) (l : Bs) : Tryz.prog.built 85 [(0, .int .i64 4), (4, .int .i64 rd), (1, str l)] = some (lineC ⟨4, l, insZ, none, 0, 0, rd, 0⟩) := by kernel_rfl
theorem bld_l5 (x : Int) : Tryz.prog.built 85 [(0, .int .i64 5), (5, .int .u32 x)] = some (lineC ⟨5, [], insZ, none, 0, 0, 0, x⟩) := by kernel_rfl
theorem bld_l2 (i : Ins) : Tryz.prog.built 85 [(0, .int .i64 2), (2, insV i)] = some (lineC ⟨2, [], i, none, 0, 0, 0, 0⟩) := by kernel_rfl
theorem bld_l2l (i : Ins) (l : Bs) : Tryz.prog.built 85 [(0, .int .i64 2), (2, insV i), (1, str l)] = some (lineC ⟨2, l, i, none, 0, 0, 0, 0⟩) := by kernel_rfl
theorem bld_l6 : Tryz.prog.built 85 [(0, .int .i64 6)] = some (lineC ⟨6, [], insZ, none, 0, 0, 0, 0⟩) := by kernel_rfl
theorem ownI_tch {w w' : World} {B b : Nat} {v : Value} {l : List Ins} {d : LD} (h : OwnI w B v l) (hT : Tch b w w') (hb : LnD w b d) : OwnI w' B v l := by
  refine ⟨h.1, ?_⟩
  rcases h.2 with hn | ⟨g, cap, cur, rfl, hB, hg, rest⟩
  · exact .inl hn
  · refine .inr ⟨g, cap, cur, rfl, hB, (hT.oth g (fun e => ?_)).trans hg, rest⟩
    subst e
    have h2 := hg.symm.trans hb
    simp only [Option.some.injEq, Obj.cells.injEq] at h2
    exact absurd h2.2.1 (by decide)
def prT (i : Ins) : Bs := if rightB i then printT i else []
def prE (i : Ins) : Int := if rightB i then 0 else 80
theorem rprint_any (i : Ins) (w : World) : Calls Tryz.prog 11 #[insV i] w fun e w' => e = .returned (.tuple #[str (prT i), .int .i64 (prE i)]) ∧ Below w.heap.size w w' := by
  unfold prT prE
  cases h : rightB i
  · exact rprint_no i h w
  · exact rprint_yes i h w
def markB (T : Bs) : Bool := T.getLast? == some 58 && nameOK T.dropLast
theorem said_1 {T : Bs} (h0 : ¬ T = []) (h : markB T = true) : saidD T = .mark T.dropLast := by unfold saidD; rw [if_neg h0, if_pos (show (T.getLast? == some 58 && nameOK T.dropLast) = true from h)]
theorem said_3 {T : Bs} (h0 : ¬ T = []) (h : ¬ markB T = true) (h1 : liB T = true) : saidD T = .many (regD (splA T)).1 (numZD (splB T)).1 := by unfold saidD; rw [if_neg h0, if_neg (show ¬ (T.getLast? == some 58 && nameOK T.dropLast) = true from h), if_pos h1]
theorem said_4 {T : Bs} (h0 : ¬ T = []) (h : ¬ markB T = true) (h1 : ¬ liB T = true) (h2 : laZ T = true) : saidD T = .far (regD (splA T)).1 (splB T).tail := by unfold saidD; rw [if_neg h0, if_neg (show ¬ (T.getLast? == some 58 && nameOK T.dropLast) = true from h), if_neg h1, if_pos h2]
theorem said_5 {T : Bs} (h0 : ¬ T = []) (h : ¬ markB T = true) (h1 : ¬ liB T = true) (h2 : ¬ laZ T = true) (h3 : rawB T = true) : saidD T = .raw (numZD (cut T [32]).2.1).1 := by unfold saidD; rw [if_neg h0, if_neg (show ¬ (T.getLast? == some 58 && nameOK T.dropLast) = true from h), if_neg h1, if_neg h2, if_pos h3]
theorem said_2 {T : Bs} (h0 : ¬ T = []) (h : ¬ markB T = true) (h1 : ¬ liB T = true) (h2 : ¬ laZ T = true) (h3 : ¬ rawB T = true) (h4 : parseB T = true) : saidD T = .one (parseI T) := by unfold saidD; rw [if_neg h0, if_neg (show ¬ (T.getLast? == some 58 && nameOK T.dropLast) = true from h), if_neg h1, if_neg h2, if_neg h3, if_pos h4]
theorem said_7 {T : Bs} (h0 : ¬ T = []) (h : ¬ markB T = true) (h1 : ¬ liB T = true) (h2 : ¬ laZ T = true) (h3 : ¬ rawB T = true) (h4 : ¬ parseB T = true) (h5 : aimB T = true) : saidD T = .aim (guessR T).1 (guessR T).2 := by unfold saidD; rw [if_neg h0, if_neg (show ¬ (T.getLast? == some 58 && nameOK T.dropLast) = true from h), if_neg h1, if_neg h2, if_neg h3, if_neg h4, if_pos h5]
theorem said_6 {T : Bs} (h0 : ¬ T = []) (h : ¬ markB T = true) (h1 : ¬ liB T = true) (h2 : ¬ laZ T = true) (h3 : ¬ rawB T = true) (h4 : ¬ parseB T = true) (h5 : ¬ aimB T = true) : saidD T = .bad := by unfold saidD; rw [if_neg h0, if_neg (show ¬ (T.getLast? == some 58 && nameOK T.dropLast) = true from h), if_neg h1, if_neg h2, if_neg h3, if_neg h4, if_neg h5]
theorem print_100a {i : Ins} (hr : rightB i = true) : (printT i).length ≤ 1000 := by
  obtain ⟨h1, h2, h3, h4⟩ := rightT_of hr
  have hf := (fT_ok h1 (by omega)).imm
  have hI := (right_imm hf h4).1
  have p1 := h4.rd; have p2 := h4.a; have p3 := h4.b; have p4 := h4.csr
  have hnl := name_short i.op.toNat (by omega)
  have hml := mark_short i.aq i.rl
  have l1 := itoa_length_le i.rd (by omega) (by omega)
  have l2 := itoa_length_le i.a (by omega) (by omega)
  have l3 := itoa_length_le i.b (by omega) (by omega)
  have l4 := itoa_length_le i.imm (by omega) (by omega)
  have l5 := itoa_length_le i.csr (by omega) (by omega)
  have hs : ∀ f : Frm, ((opsF f i).map fun o => o.length + 2).sum ≤ 500 := fun f => by
    unfold opsF
    generalize f.rd = q1
    generalize f.a = q2
    generalize f.b = q3
    generalize (f.imm != 0) = q4
    generalize f.csr = q5
    cases q1 <;> cases q2 <;> cases q3 <;> cases q4 <;> cases q5 <;> simp [xr] <;> omega
  have h := lineT_len (nmT i) (opsF (fT i.op.toNat) i)
  have h2 := hs (fT i.op.toNat)
  have h3 : (nmT i).length = (nameB i.op.toNat).length + (markT i.aq i.rl).length := by unfold nmT; simp
  show (lineT (nmT i) (opsF (fT i.op.toNat) i)).length ≤ 1000
  omega
theorem li_n1 {T : Bs} (h : ((cut T [32]).1 == liT) = false) : ¬ liB T = true := by unfold liB; rw [h]; simp
theorem li_n2 {T : Bs} (h : splQ T = false) : ¬ liB T = true := by unfold liB; rw [h]; simp
theorem li_n3 {T : Bs} (h : (regD (splA T)).2 = false) : ¬ liB T = true := by unfold liB; rw [h]; simp
theorem li_n4 {T : Bs} (h : (numZD (splB T)).2 = false) : ¬ liB T = true := by unfold liB; rw [h]; simp
theorem li_y {T : Bs} (h1 : ((cut T [32]).1 == liT) = true) (h2 : splQ T = true) (h3 : (regD (splA T)).2 = true) (h4 : (numZD (splB T)).2 = true) : liB T = true := by unfold liB; rw [h1, h2, h3, h4]; rfl
theorem la_n1 {T : Bs} (h : ((cut T [32]).1 == laN) = false) : ¬ laZ T = true := by unfold laZ; rw [h]; simp
theorem la_n2 {T : Bs} (h : splQ T = false) : ¬ laZ T = true := by unfold laZ; rw [h]; simp
theorem la_n3 {T : Bs} (h : decide ((0 : Int) < ((splB T).length : Int)) = false) : ¬ laZ T = true := by
  have e : splB T = [] := by
    cases c : splB T with
    | nil => rfl
    | cons x t => rw [c] at h; simp at h <;> omega
  unfold laZ; rw [e]; simp
theorem la_n4 {T : Bs} (h0 : decide ((0 : Int) < ((splB T).length : Int)) = true) (h : ((((splB T).headD 0).toNat : Int) == 64) = false) : ¬ laZ T = true := by
  have e : ((splB T).head? == some 64) = false := by
    cases c : splB T with
    | nil => rfl
    | cons x t =>
      rw [c] at h
      simp only [List.headD_cons] at h
      have : x ≠ 64 := fun e => by subst e; exact absurd h (by decide)
      simpa using this
  unfold laZ; rw [e]; simp
theorem la_n5 {T : Bs} (h : nameOK (splB T).tail = false) : ¬ laZ T = true := by unfold laZ; rw [h]; simp
theorem la_n6 {T : Bs} (h : (regD (splA T)).2 = false) : ¬ laZ T = true := by unfold laZ; rw [h]; simp
theorem la_y {T : Bs} (h1 : ((cut T [32]).1 == laN) = true) (h2 : splQ T = true) (h0 : decide ((0 : Int) < ((splB T).length : Int)) = true) (h3 : ((((splB T).headD 0).toNat : Int) == 64) = true) (h4 : nameOK (splB T).tail = true) (h5 : (regD (splA T)).2 = true) : laZ T = true := by
  have e : ((splB T).head? == some 64) = true := by
    cases c : splB T with
    | nil => rw [c] at h0; exact absurd (of_decide_eq_true h0) (by simp)
    | cons x t =>
      rw [c] at h3
      simp only [List.headD_cons] at h3
      have : x = 64 := UInt8.toNat_inj.1 (by have := eq_of_beq h3; show x.toNat = 64; omega)
      rw [this]; rfl
  unfold laZ; rw [h1, h2, e, h4, h5]; rfl
theorem raw_n1 {T : Bs} (h : ((cut T [32]).1 == wordT) = false) : ¬ rawB T = true := by unfold rawB; rw [h]; simp
theorem raw_n2 {T : Bs} (h : (numZD (cut T [32]).2.1).2 = false) : ¬ rawB T = true := by unfold rawB; rw [h]; simp
theorem raw_n3 {T : Bs} (h : decide (0 ≤ (numZD (cut T [32]).2.1).1) = false) : ¬ rawB T = true := by unfold rawB; rw [h]; simp
theorem raw_n4 {T : Bs} (h : decide ((numZD (cut T [32]).2.1).1 < 4294967296) = false) : ¬ rawB T = true := by unfold rawB; rw [h]; simp
theorem raw_y {T : Bs} (h1 : ((cut T [32]).1 == wordT) = true) (h2 : (numZD (cut T [32]).2.1).2 = true) (h3 : decide (0 ≤ (numZD (cut T [32]).2.1).1) = true) (h4 : decide ((numZD (cut T [32]).2.1).1 < 4294967296) = true) : rawB T = true := by unfold rawB; rw [h1, h2, h3, h4]; rfl
theorem par_y {T : Bs} (h : (parseE T == 0) = true) : parseB T = true := by
  unfold parseE at h
  cases c : parseB T
  · rw [c] at h; exact absurd h (by decide)
  · rfl
theorem par_n {T : Bs} (h : (parseE T == 0) = false) : ¬ parseB T = true := fun c => by
  unfold parseE at h; rw [if_pos c] at h; exact absurd h (by decide)
theorem walk_op : ∀ (cs r : Bs) (i : Ins) (lb : Bs), (walkL cs r i lb).1.op = i.op
  | [], r, i, lb => rfl
  | c :: cs, r, i, lb => by
    show (walkL cs (cut r [44, 32]).2.1 (putL c (oneN c (cut r [44, 32]).1) i) (putB c (cut r [44, 32]).1 lb)).1.op = i.op
    rw [walk_op]
    unfold putL
    split; rfl
    split; rfl
    split; rfl
    split <;> rfl
theorem guess_op (l : Bs) : ∃ k : Nat, k ≤ 113 ∧ (guessR l).1.op = (k : Int) := by
  obtain ⟨k, hk, e⟩ := head_op (cut l [32]).1
  exact ⟨k, hk, by unfold guessR; rw [walk_op, e]⟩
theorem guess_len (l : Bs) : (guessR l).2.length ≤ l.length := by
  have hp : ∀ c o lb, (putB c o lb).length ≤ max o.length lb.length := fun c o lb => by
    unfold putB; split
    · rw [List.length_tail]; omega
    · omega
  have key : ∀ (cs r : Bs) (i : Ins) (lb : Bs) (m : Nat), r.length ≤ m → lb.length ≤ m → (walkL cs r i lb).2.length ≤ m := by
    intro cs
    induction cs with
    | nil => intro r i lb m h1 h2; exact h2
    | cons c cs ih =>
      intro r i lb m h1 h2
      have := cut_len r [44, 32]
      have h3 := hp c (cut r [44, 32]).1 lb
      exact ih _ _ _ m (by omega) (by omega)
  have := cut_len l [32]
  unfold guessR
  exact key _ _ _ _ _ this.2 (by simp)
theorem aim_n1 {T : Bs} (h : (!((guessR T).2 == [])) = false) : ¬ aimB T = true := by unfold aimB; rw [h]; simp
theorem aim_n2 {T : Bs} (h : nameOK (guessR T).2 = false) : ¬ aimB T = true := by unfold aimB; rw [h]; simp
theorem aim_n3 {T : Bs} {k : Nat} (e : (guessR T).1.op = (k : Int)) (h1 : (letK k == 74) = false) (h2 : (letK k == 66) = false) : ¬ aimB T = true := by
  have : formJB (guessR T).1.op = false := by unfold formJB; rw [e, Int.toNat_natCast, h1, h2]; rfl
  unfold aimB; rw [this]; simp
theorem pr_r {i : Ins} (h : (prE i == 0) = true) : rightB i = true := by
  unfold prE at h
  cases c : rightB i
  · rw [c] at h; exact absurd h (by decide)
  · rfl
theorem pr_n {i : Ins} (h : (prE i == 0) = false) : rightB i = false := by
  unfold prE at h
  cases c : rightB i
  · rfl
  · rw [c] at h; exact absurd h (by decide)
theorem aim_n4 {T : Bs} (h : (prE (guessR T).1 == 0) = false) : ¬ aimB T = true := by unfold aimB; rw [pr_n h]; simp
theorem aim_n5 {T : Bs} (h0 : (prE (guessR T).1 == 0) = true) (h : decide ((0 : Int) < ((prT (guessR T).1).length : Int)) = false) : ¬ aimB T = true := by
  exfalso
  obtain ⟨b, r, e, _⟩ := printT_first (pr_r h0)
  unfold prT at h
  rw [if_pos (pr_r h0), e] at h
  simp at h <;> omega
theorem aim_n6 {T : Bs} (h0 : (prE (guessR T).1 == 0) = true) (h : ((prT (guessR T).1).dropLast ++ [64] ++ (guessR T).2 == T) = false) : ¬ aimB T = true := by
  unfold prT at h
  rw [if_pos (pr_r h0)] at h
  unfold aimB; rw [h]; simp
theorem aim_y {T : Bs} {k : Nat} (e : (guessR T).1.op = (k : Int)) (h1 : (!((guessR T).2 == [])) = true) (h2 : nameOK (guessR T).2 = true) (h3 : (letK k == 74) = true ∨ (letK k == 66) = true) (h4 : (prE (guessR T).1 == 0) = true) (h5 : ((prT (guessR T).1).dropLast ++ [64] ++ (guessR T).2 == T) = true) : aimB T = true := by
  have hf : formJB (guessR T).1.op = true := by
    unfold formJB; rw [e, Int.toNat_natCast]
    rcases h3 with h | h <;> rw [h] <;> simp
  unfold prT at h5
  rw [if_pos (pr_r h4)] at h5
  unfold aimB; rw [h1, h2, hf, pr_r h4, h5]; rfl
theorem pos_of {T : Bs} (h : ¬ T = []) : decide ((0 : Int) < (T.length : Int)) = true := by
  cases T with
  | nil => exact absurd rfl h
  | cons x t => simp <;> omega
theorem last_58 {T : Bs} (h0 : decide ((0 : Int) < (T.length : Int)) = true) (h : (((T.getLast?.getD 0).toNat : Int) == 58) = true) : (T.getLast? == some 58) = true := by
  cases c : T.getLast? with
  | none => rw [List.getLast?_eq_none_iff.1 c] at h0; exact absurd (of_decide_eq_true h0) (by simp)
  | some x =>
    rw [c] at h
    simp only [Option.getD_some] at h
    have : x = 58 := UInt8.toNat_inj.1 (by have := eq_of_beq h; show x.toNat = 58; omega)
    rw [this]; rfl
theorem last_no {T : Bs} (h : (((T.getLast?.getD 0).toNat : Int) == 58) = false) : (T.getLast? == some 58) = false := by
  cases c : T.getLast? with
  | none => rfl
  | some x =>
    rw [c] at h
    simp only [Option.getD_some] at h
    have : x ≠ 58 := fun e => by subst e; exact absurd h (by decide)
    simpa using this
theorem prT_len {i : Ins} (h : (prE i == 0) = true) : (prT i).length ≤ 1000000 := by
  have hr := pr_r h
  unfold prT; rw [if_pos hr]
  have := print_100a hr
  omega
end Go.Proofs.YtakdhdaoklcidaaGreatDoor

namespace Go.Proofs.YtakdhdaoklcidaaGreatDoor
open Go.RowKit Go.Lib
set_option linter.unusedVariables false
set_option maxRecDepth 100000
def stmG (d : DL) : Stm := (stmD d).getD .none
theorem size_G (d : DL) (p : Option Addr) (c : Nat) : sizeD (ldOf d p c).k (ldOf d p c).n = ((sizeS (stmG d) : Nat) : Int) := by
  cases d with
  | empty => rfl
  | mark l => rfl
  | one i => rfl
  | many rd n =>
    show ((liF rd 4 n).length : Int) = ((((liF rd 4 n).map encW).length : Nat) : Int)
    rw [List.length_map]
  | far rd l => rfl
  | aim i l => rfl
  | raw x => rfl
  | bad => rfl
theorem mark_G (d : DL) (p : Option Addr) (c : Nat) (l : Bs) (hl : l ≠ []) : ((((ldOf d p c).k : Int) == 1) && ((ldOf d p c).lb == l)) = (labOf (stmG d) == l) := by
  cases d with
  | mark m => rfl
  | empty => simp [ldOf, ldZ, stmG, stmD, labOf, hl]
  | one i => simp [ldOf, stmG, stmD, labOf, hl]
  | many rd n => simp [ldOf, stmG, stmD, labOf, hl]
  | far rd m => simp [ldOf, stmG, stmD, labOf, hl]
  | aim i m => simp [ldOf, stmG, stmD, labOf, hl]
  | raw x => simp [ldOf, stmG, stmD, labOf, hl]
  | bad => simp [ldOf, stmG, stmD, labOf, hl]
theorem labF_none {ss : List Stm} {base : Int} {l : Bs} : ∀ k, (∀ j, j < k → labOf (ss.getD j .none) ≠ l) → labF ss base k l = none
  | 0, _ => rfl
  | k + 1, h => by
    show (if labOf (ss.getD k .none) ≠ [] ∧ l = labOf (ss.getD k .none) then some (atK ss base k) else labF ss base k l) = none
    rw [if_neg (fun c => h k (by omega) c.2.symm)]
    exact labF_none k (fun j hj => h j (by omega))
theorem labF_at {ss : List Stm} {base : Int} {l : Bs} (hl : l ≠ []) {j : Nat} (hj : labOf (ss.getD j .none) = l) : ∀ k, j < k → (∀ i, j < i → i < k → labOf (ss.getD i .none) ≠ l) → labF ss base k l = some (atK ss base j)
  | 0, h, _ => absurd h (Nat.not_lt_zero _)
  | k + 1, h, hn => by
    show (if labOf (ss.getD k .none) ≠ [] ∧ l = labOf (ss.getD k .none) then some (atK ss base k) else labF ss base k l) = _
    by_cases e : j = k
    · subst e
      rw [if_pos ⟨by rw [hj]; exact hl, hj.symm⟩]
    · rw [if_neg (fun c => hn k (by omega) (by omega) c.2.symm)]
      exact labF_at hl hj k (by omega) (fun i h1 h2 => hn i h1 (by omega))
theorem dup_of {ss : List Stm} {base : Int} {k j : Nat} (hj : j < k) (h0 : labOf (ss.getD k .none) ≠ []) (h : labOf (ss.getD j .none) = labOf (ss.getD k .none)) : dupAt ss base k = true := by
  have key : ∀ m, j < m → (labF ss base m (labOf (ss.getD k .none))).isSome = true := by
    intro m
    induction m with
    | zero => intro q; omega
    | succ m ih =>
      intro q
      show (if labOf (ss.getD m .none) ≠ [] ∧ labOf (ss.getD k .none) = labOf (ss.getD m .none) then some (atK ss base m) else labF ss base m (labOf (ss.getD k .none))).isSome = true
      split
      · rfl
      · rename_i hno
        by_cases e : j = m
        · subst e; exact absurd ⟨by rw [h]; exact h0, h.symm⟩ hno
        · exact ih (by omega)
  have hs := key k hj
  unfold dupAt
  rw [hs, Bool.and_true]
  cases e : labOf (ss.getD k .none) with
  | nil => exact absurd e h0
  | cons x t => rfl
theorem dup_none {ss : List Stm} {base : Int} {k : Nat} (h : labOf (ss.getD k .none) = [] ∨ ∀ j, j < k → labOf (ss.getD j .none) ≠ labOf (ss.getD k .none)) : dupAt ss base k = false := by
  unfold dupAt
  rcases h with h | h
  · rw [h]; rfl
  · rw [labF_none k h]; simp
theorem dup_apart {ss : List Stm} {base : Int} {n : Nat} (hd : ∀ i, i < n → dupAt ss base i = false) {j k : Nat} (hj : j < k) (hk : k < n) (h0 : labOf (ss.getD k .none) ≠ []) : labOf (ss.getD j .none) ≠ labOf (ss.getD k .none) := fun e => by
  have := dup_of (base := base) hj h0 e
  rw [hd k hk] at this; cases this
theorem at_step (x : Int) (m : Nat) (hx : 0 ≤ x ∧ x < 18446744073709551616) (hm : m ≤ 1000000) : IntKind.u64.wrap (x + IntKind.u64.wrap (4 * ((m : Nat) : Int))) = (x + 4 * ((m : Nat) : Int)) % 18446744073709551616 := by
  rw [IntKind.wrap_u64, IntKind.wrap_u64]; omega
theorem place_from {D : List DL} {L : List LD} {base : Int} {l : Bs} (hl : l ≠ []) (hbase : 0 ≤ base ∧ base < 18446744073709551616) (hlen : L.length = D.length) (hL : ∀ (k : Nat) (d : DL), D[k]? = some d → ∃ p c, L[k]? = some (ldOf d p c)) (hsz : ∀ d ∈ D, sizeS (stmG d) ≤ 1000000) : ∀ m k, k + m = D.length →
    placeGo l (L.drop k) (atK (D.map stmG) base k) = match (List.range m).find? (fun j => labOf ((D.map stmG).getD (k + j) .none) == l) with
      | some j => some (atK (D.map stmG) base (k + j))
      | none => none
  | 0, k, h => by
    rw [List.drop_eq_nil_of_le (by omega)]
    rfl
  | m + 1, k, h => by
    have hk : k < D.length := by omega
    obtain ⟨d, hd⟩ : ∃ d, D[k]? = some d := ⟨_, List.getElem?_eq_getElem hk⟩
    obtain ⟨p, c, hLk⟩ := hL k d hd
    have hss : (D.map stmG).getD k .none = stmG d := by
      rw [List.getD_eq_getElem?_getD, List.getElem?_map, hd]; rfl
    rw [placeGo_drop l L hLk, mark_G d p c l hl, size_G, at_step _ _ (atK_in _ _ hbase k) (hsz d (List.mem_of_getElem? hd))]
    have hat : atK (D.map stmG) base (k + 1) = (atK (D.map stmG) base k + 4 * ((sizeS (stmG d) : Nat) : Int)) % 18446744073709551616 := by
      show (atK (D.map stmG) base k + 4 * ((sizeS ((D.map stmG).getD k .none) : Nat) : Int)) % 18446744073709551616 = _
      rw [hss]
    rw [← hat, List.range_succ_eq_map, List.find?_cons]
    simp only [Nat.add_zero, hss]
    by_cases e : (labOf (stmG d) == l) = true
    · rw [if_pos e, e]; rfl
    · rw [if_neg e]
      have e' : (labOf (stmG d) == l) = false := by simpa using e
      rw [e', place_from hl hbase hlen hL hsz m (k + 1) (by omega), List.find?_map]
      simp only [Function.comp_def, Nat.succ_eq_add_one]
      have hf : (fun j => labOf ((D.map stmG).getD (k + 1 + j) .none) == l) = (fun j => labOf ((D.map stmG).getD (k + (j + 1)) .none) == l) := by
        funext j; rw [show k + 1 + j = k + (j + 1) by omega]
      rw [hf]
      cases (List.range m).find? (fun j => labOf ((D.map stmG).getD (k + (j + 1)) .none) == l) with
      | none => rfl
      | some j => show some _ = some _; rw [show k + 1 + j = k + (j + 1) by omega]
theorem place_lab {D : List DL} {L : List LD} {base : Int} {l : Bs} (hl : l ≠ []) (hbase : 0 ≤ base ∧ base < 18446744073709551616) (hlen : L.length = D.length) (hL : ∀ (k : Nat) (d : DL), D[k]? = some d → ∃ p c, L[k]? = some (ldOf d p c)) (hsz : ∀ d ∈ D, sizeS (stmG d) ≤ 1000000) (hd : ∀ i, i < D.length → dupAt (D.map stmG) base i = false) : placeGo l L base = labF (D.map stmG) base D.length l := by
  have h := place_from hl hbase hlen hL hsz D.length 0 (by omega)
  simp only [List.drop_zero, Nat.zero_add] at h
  have h0 : atK (D.map stmG) base 0 = base := rfl
  rw [h0] at h
  rw [h]
  cases c : (List.range D.length).find? (fun j => labOf ((D.map stmG).getD j .none) == l) with
  | none =>
    rw [List.find?_eq_none] at c
    rw [labF_none D.length (fun j hj => by have := c j (List.mem_range.2 hj); simpa using this)]
  | some j =>
    have h1 := List.find?_some c
    have h2 := List.mem_range.1 (List.mem_of_find?_eq_some c)
    have h3 : labOf ((D.map stmG).getD j .none) = l := eq_of_beq h1
    rw [labF_at hl h3 D.length h2 (fun i hi hin e => by
      have := dup_apart hd hi hin (by rw [e]; exact hl)
      rw [h3, e] at this; exact this rfl)]
theorem right_fits {i : Ins} (hr : rightB i = true) (hj : jumpsZ i.op = true) (x : Int) : rightB (withImm i x) = fitsD x true (formP (if frmT i.op.toNat = 1 then 5 else 3)) := by
  obtain ⟨k1, k2, k3, k4⟩ := rightT_of hr
  have hop : ((i.op.toNat : Nat) : Int) = i.op := by omega
  have hjf := jump_frm i.op.toNat (by omega) k1
  rw [hop] at hjf
  have key : ∀ f q : Nat, frmT i.op.toNat = f → (frm f).imm = q → 1 ≤ q ∧ q ≤ 5 → rightB (withImm i x) = fitsD x true (formP q) := fun f q hf hq hq5 => by
    have hfT : fT i.op.toNat = frm f := by unfold fT; rw [hf]
    have h := (formOk q (by omega)).fits (form_len q (by omega)) x
    rw [form_sg q (by omega), decide_eq_true (show q ≤ 5 by omega)] at h
    rw [← h, Bool.eq_iff_iff, beq_iff_eq]
    constructor
    · intro hrr
      obtain ⟨_, _, _, m4⟩ := rightT_of hrr
      have e := m4.imm
      rw [show fT (withImm i x).op.toNat = frm f from hfT, hq] at e
      exact e
    · intro e
      refine (rightB_of (i := withImm i x) (k := i.op.toNat) ⟨k1, k2, k3, ?_⟩).1
      exact ⟨k4.rd, k4.a, k4.b, k4.csr, k4.nrd, k4.na, k4.nb, k4.ncsr, k4.nord, by rw [hfT, hq]; exact e⟩
  rcases hjf.2 hj with h | h
  · rw [if_pos h]; exact key 1 5 h rfl (by omega)
  · rw [if_neg (by rw [h]; decide)]; exact key 3 3 h rfl (by omega)
end Go.Proofs.YtakdhdaoklcidaaGreatDoor

namespace Go.Proofs.YtakdhdaoklcidaaGreatDoor
open Go.RowKit Go.Lib
set_option linter.unusedVariables false
set_option maxRecDepth 100000
def lnC (d : LD) : List Value := (lineC d).toList
theorem lnC_len (d : LD) : (lnC d).length = 13 := rfl
def lnCs (L : List LD) : List Value := L.flatMap lnC
theorem lnCs_app (a b : List LD) : lnCs (a ++ b) = lnCs a ++ lnCs b := by unfold lnCs; exact List.flatMap_append
abbrev OwnL (w : World) (B : Nat) (v : Value) (L : List LD) : Prop := w.ownsRow B 85 13 v L.length (lnCs L)
theorem info_lnP : (Tryz.prog.info? 85).map (fun i => (i.zero, i.size, i.bytes)) = some (some (.agg (lineC ldZ)), 13, 120) := by kernel_rfl
theorem lnCs_at : ∀ (L : List LD) (k j : Nat) (d : LD), L[k]? = some d → j < 13 → (lnCs L)[k * 13 + j]? = (lnC d)[j]?
  | [], k, j, d, hk, hj => by simp at hk
  | e :: L, 0, j, d, hk, hj => by
    have he : lnCs (e :: L) = lnC e ++ lnCs L := by simp [lnCs]
    simp only [List.getElem?_cons_zero, Option.some.injEq] at hk
    subst hk
    rw [he, Nat.zero_mul, Nat.zero_add, List.getElem?_append_left (by rw [lnC_len]; exact hj)]
  | e :: L, k + 1, j, d, hk, hj => by
    have he : lnCs (e :: L) = lnC e ++ lnCs L := by simp [lnCs]
    rw [he, List.getElem?_append_right (by rw [lnC_len]; omega), lnC_len, show (k + 1) * 13 + j - 13 = k * 13 + j by omega]
    exact lnCs_at L k j d (by simpa using hk) hj
theorem ownL_slice {w : World} {B : Nat} {v : Value} {L : List LD} (h : OwnL w B v L) : ∃ A C, v = .slice A L.length C := own_slice' h
theorem ownL_lt {w : World} {B : Nat} {v : Value} {L : List LD} (h : OwnL w B v L) : ∀ g, v.ownBlock = some g → B ≤ g ∧ g < w.heap.size ∧ ∃ cs fr, w.heap[g]? = some (.cells cs 85 fr) := by
  intro g hg
  rcases h.2 with ⟨rfl, _⟩ | ⟨g', cap, cur, rfl, hb, hc, _⟩
  · simp [Value.ownBlock] at hg
  · simp [Value.ownBlock] at hg
    subst hg
    exact ⟨hb, (Array.getElem?_eq_some_iff.1 hc).1, _, _, hc⟩
theorem ownL_below {w w' : World} {B : Nat} {v : Value} {L : List LD} (h : OwnL w B v L) (hb : Below w.heap.size w w') : OwnL w' B v L :=
  ⟨h.1, by
    rcases h.2 with hn | ⟨g, cap, cur, rfl, hb2, hg, rest⟩
    · exact .inl hn
    · exact .inr ⟨g, cap, cur, rfl, hb2, (hb.block g (Array.getElem?_eq_some_iff.1 hg).1).trans hg, rest⟩⟩
theorem ownL_nil (w : World) (B : Nat) : OwnL w B (.slice none 0 0) [] := ⟨rfl, .inl ⟨rfl, rfl⟩⟩
theorem run_pushLn (w : World) (B : Nat) (v : Value) (L : List LD) (d : LD) (h : OwnL w B v L) (hl : L.length ≤ 70000) (hB : B ≤ w.heap.size) (g : Nat) (c : Nat) (hc : w.heap[g]? = some (.cells (lineC d) 85 (0, 0))) (ty : TypeId) :
    ∃ v' w', (Builtin.append_ #[83, 83] ty #[v, .slice (some ⟨g, 0, none⟩) 1 c]).run Tryz.prog w = .ok v' w' ∧ OwnL w' B v' (L ++ [d]) ∧ Only (fun k => v.ownBlock = some k) w w' := by
  obtain ⟨i0, hi, hz0, hz1, hz2⟩ := info_parts info_lnP
  have hn : ∀ j u, (lnC d)[j]? = some u → w.cell? ((⟨g, 0, none⟩ : Addr).add j) = some u := by
    intro j u hj
    rw [Lib.add_plain, Nat.zero_add, Lib.cell_of_heap hc]
    simpa [lnC] using hj
  have h1 : ∀ u ∈ lnC d, u.oneCell' = true := by
    intro u hu
    have := one_ln d
    rw [Array.all_eq_true_iff_forall_mem] at this
    exact this u (by simpa [lnC] using hu)
  obtain ⟨v', w', hr, h2, h3, _, h5⟩ := run_append_own_at (P := Tryz.prog) w B 83 ty 85 i0 _ 13 120 Tryz.underlying83 hi hz0 hz1 hz2 rfl (by decide) v L.length _ h ⟨g, 0, none⟩ 1 c (lnC d) rfl hn h1 (by unfold maxLen; omega) (by omega) hB
  refine ⟨v', w', hr, ?_, (Only.refl _ w).grown h3 (fun k hk => .inl hk)⟩
  unfold OwnL
  rw [lnCs_app, List.length_append]
  simpa [lnCs] using h2
theorem own_lines {w : World} {B : Nat} {v : Value} {L : List LD} (h : OwnL w B v L) (hL : L ≠ []) : ∃ g C, v = .slice (some ⟨g, 0, none⟩) L.length C ∧ LinesR w g L := by
  rcases h.2 with ⟨rfl, h0⟩ | ⟨g, cap, cur, rfl, hb, hc, hn, _, hcs, ht⟩
  · exact absurd (List.eq_nil_of_length_eq_zero h0) hL
  · refine ⟨g, cap, rfl, (Array.getElem?_eq_some_iff.1 hc).1, fun j d hd q v hv => ?_⟩
    have hq : q < 13 := by
      have := (List.getElem?_eq_some_iff.1 hv).1
      exact this
    rw [Lib.cell_of_heap hc]
    have h1 := lnCs_at L j q d hd hq
    have hj : j < L.length := (List.getElem?_eq_some_iff.1 hd).1
    rw [← ht, List.getElem?_take, if_pos (by omega)] at h1
    have h2 : (lnC d)[q]? = some v := hv
    rw [h2] at h1
    simpa using h1
theorem lines_cut (l : Bs) : linesT l = if (cut l [10]).2.2 = true then (cut l [10]).1 :: linesT (cut l [10]).2.1 else [l] := by
  rcases index_spec l [10] with ⟨h1, hno⟩ | ⟨i, h1, h2, h3, h4⟩
  · have hc : cut l [10] = (l, [], false) := by unfold cut; rw [h1]; simp
    rw [hc, if_neg (show ¬ ((l, [], false) : Bs × Bs × Bool).2.2 = true from Bool.false_ne_true)]
    show splitK [10] 0 (Lib.count l [10]) l = [l]
    cases Lib.count l [10] with
    | zero => rfl
    | succ k => unfold splitK; rw [h1]; rfl
  · have hc : cut l [10] = (l.take i, l.drop (i + 1), true) := by unfold cut; rw [h1, if_pos (by omega)]; simp
    obtain ⟨r, hr⟩ := List.isPrefixOf_iff_prefix.1 (show ([10] : Bs).isPrefixOf (l.drop i) = true from h3)
    have hl : l = l.take i ++ 10 :: l.drop (i + 1) := by
      have e1 : l = l.take i ++ l.drop i := (List.take_append_drop i l).symm
      have e2 : l.drop (i + 1) = r := by rw [← List.drop_drop, ← hr]; rfl
      rw [e2]
      conv => lhs; rw [e1, ← hr]
      rfl
    have hx : (10 : UInt8) ∉ l.take i := by
      intro hm
      obtain ⟨j, hj, e⟩ := List.getElem_of_mem hm
      have hj2 : j < i := by rw [List.length_take] at hj; omega
      have := h4 j hj2
      have ho : occAt l [10] j = true := by
        unfold occAt
        have hjl : j < l.length := by omega
        rw [List.drop_eq_getElem_cons hjl]
        have e3 : l[j] = 10 := by rw [List.getElem_take] at e; exact e
        rw [e3]; rfl
      rw [ho] at this; cases this
    have hcnt : Lib.count l [10] = Lib.count (l.drop (i + 1)) [10] + 1 := by
      rw [Lib.count_one, Lib.count_one]
      conv => lhs; rw [hl]
      rw [List.count_append, List.count_cons_self, List.count_eq_zero_of_not_mem hx]; omega
    rw [hc, if_pos rfl]
    show splitK [10] 0 (Lib.count l [10]) l = l.take i :: splitK [10] 0 (Lib.count (l.drop (i + 1)) [10]) (l.drop (i + 1))
    rw [hcnt]
    conv => lhs; unfold splitK
    rw [h1, if_neg (by simp)]
    simp
end Go.Proofs.YtakdhdaoklcidaaGreatDoor

namespace Go.Proofs.YtakdhdaoklcidaaGreatDoor
open Go.RowKit Go.Lib
set_option linter.unusedVariables false
set_option maxRecDepth 100000
set_option maxHeartbeats 16000000 in
theorem said_any (s : Bs) (hl : s.length ≤ 100000) (w : World) : Calls Tryz.prog 47 #[str s] w (SaidEnd w (saidD (coreS s))) := by
  have hL1 : (cut s [35]).1.length ≤ 100000 := by have := cut_len s [35]; omega
  have hL2 : (trimLeftS (cut s [35]).1 [32, 9]).length ≤ 100000 := by
    have : (trimLeftS (cut s [35]).1 [32, 9]).length ≤ (cut s [35]).1.length := (List.dropWhile_sublist _).length_le
    omega
  have hT : (coreS s).length ≤ 100000 := Nat.le_trans (trimS_len _ _) hL1
  have hTm : (coreS s).length ≤ 1000000 := by omega
  have hR : (cut (coreS s) [32]).2.1.length ≤ 100000 := by have := cut_len (coreS s) [32]; omega
  have hLA : (splA (coreS s)).length ≤ 100000 := by have := cut_len (cut (coreS s) [32]).2.1 [44, 32]; unfold splA; omega
  have hLB : (splB (coreS s)).length ≤ 100000 := by have := cut_len (cut (coreS s) [32]).2.1 [44, 32]; unfold splB; omega
  have hcore : trimRightS (trimLeftS (cut s [35]).1 [32, 9]) [32, 9] = coreS s := trim_either _
  obtain ⟨k, hk113, hk⟩ := guess_op (coreS s)
  obtain ⟨rs, rm, rt, hRow0⟩ := rowK k hk113
  have hRow : ∀ w, Calls Tryz.prog 31 #[.int .i64 (guessR (coreS s)).1.op] w fun e w' => e = .returned (.agg #[.string rs, .int .u32 rm, .int .u32 rt, .int .u8 (letK k)]) ∧ Below w.heap.size w w' := by rw [hk]; exact hRow0
  have HB := Below.refl w.heap.size w
  go_enter Tryz.func47, Tryz.ntmps47
  refine begin_fr [(0, str s)] 235 ?_ (fun a hA => ?_)
  · exact FrA.add (FrA.nil (by rfl) (by rfl)) 0 _ (by rfl)
  refine wp_seq (wp_region_list ?_); refine W_allocLn hA rfl 2 rfl (by decide) rfl (fun w1 bRR a hA hb RR gRR => ?_); replace gRR := Nat.le_trans HB.size gRR; replace HB := HB.trans (hb.mono HB.size); clear hb; refine W_nil (then_nrm ?_); show Code.wp Tryz.prog _ _ _ _; refine wp_seq (wp_region_list ?_); refine W_val hA rfl _ rfl (by decide) _ _ (R_mov hA rfl rfl _) (fun a hA => ?_); refine W_callA hA (by decide) (fun _ _ => by kernel_rfl) (args2 hA rfl rfl) (refCut_any s [35] hl (by decide) _) (fun w2 hw a hA => ?_); replace HB := HB.trans (hw.mono HB.size); replace RR := RR.below hw; clear hw; refine W_val hA rfl _ rfl (by decide) _ _ (R_mov hA rfl rfl _) (fun a hA => ?_); (iterate 3 refine W_val hA rfl _ rfl (by decide) _ _ (R_extract hA rfl rfl rfl _) fun a hA => ?_); refine W_val hA rfl _ rfl (by decide) _ _ (R_asg hA rfl rfl _) (fun a hA => ?_); refine W_nil (then_nrm ?_); show Code.wp Tryz.prog _ _ _ _; refine wp_seq (wp_merge (fun a' w' => FrA [(0, str (trimLeftS (cut s [35]).1 [32, 9])), (2, .pointer (some ⟨bRR, 0, none⟩))] 235 a' ∧ Below w.heap.size w w' ∧ LnD w' bRR ldZ) ?_ (fun a w9 h => ?_))
  · skip
    refine wp_block ?_; refine loop_str (fun r a' w' => FrA [(0, str r), (2, .pointer (some ⟨bRR, 0, none⟩))] 235 a' ∧ trimLeftS r [32, 9] = trimLeftS (cut s [35]).1 [32, 9] ∧ r.length ≤ 100000 ∧ Below w.heap.size w w' ∧ LnD w' bRR ldZ) (fun r a w h => h.1.get 0 _ rfl) (cut s [35]).1 ⟨hA.re (sa rfl (sa rfl (sn))), rfl, hL1, HB, RR⟩ (fun r a wx h => ?_); clear HB RR
    obtain ⟨hA, hte, hrl0, HB, RR⟩ := h
    have hrl : r.length ≤ 1000000 := by omega
    refine wp_seq ?_; refine wp_seq (wp_region_list ?_); refine W_val hA rfl _ rfl (by decide) _ _ (R_mov hA rfl rfl _) (fun a hA => ?_); refine W_val hA rfl _ rfl (by decide) _ _ (R_lenL hA rfl rfl _) (fun a hA => ?_); refine W_val hA rfl _ rfl (by decide) _ _ (R_gtrI hA rfl rfl rfl _) (fun a hA => ?_); refine W_val hA rfl _ rfl (by decide) _ _ (R_mov hA rfl rfl _) (fun a hA => ?_); refine W_split hA 32 rfl (fun c1 hA => ?_) (fun c1 hA => ?_)
    · skip
      refine W_gval hA rfl rfl rfl _ rfl (by decide) _ _ (R_mov hA rfl rfl _) (fun a hA => ?_); refine W_gval hA rfl rfl rfl _ rfl (by decide) _ _ (R_index hA rfl rfl rfl (fun w => idx0 c1 w) _) (fun a hA => ?_); refine W_gval hA rfl rfl rfl _ rfl (by decide) _ _ (R_eqlB10 hA rfl rfl rfl _) (fun a hA => ?_); refine W_gval hA rfl rfl rfl _ rfl (by decide) _ _ (R_mov hA rfl rfl _) (fun a hA => ?_); refine W_split hA 36 rfl (fun c2 hA => ?_) (fun c2 hA => ?_)
      · skip
        (iterate 3 refine W_gskip hA rfl rfl rfl _ rfl (by decide) fun a hA => ?_); refine W_gval hA rfl rfl rfl _ rfl (by decide) _ _ (R_pick hA rfl rfl rfl _) (fun a hA => ?_); refine W_val hA rfl _ rfl (by decide) _ _ (R_pick hA rfl rfl rfl _) (fun a hA => ?_); refine W_nil (then_nrm ?_); show Code.wp Tryz.prog _ _ _ _; refine wp_cond_true (hA.ev (x := .tmp 41) rfl) ?_; refine wp_skip ?_; refine then_nrm ?_; show Code.wp Tryz.prog _ _ _ _; refine wp_block ?_; refine wp_region_list ?_; refine W_val hA rfl _ rfl (by decide) _ _ (R_mov hA rfl rfl _) (fun a hA => ?_); refine W_val hA rfl _ rfl (by decide) _ _ (R_sliceLo hA rfl rfl rfl (fun w => slice1 c1 w) _) (fun a hA => ?_); refine W_val hA rfl _ rfl (by decide) _ _ (R_asg hA rfl rfl _) (fun a hA => ?_); refine W_nil ?_; refine blk_nrm ?_; refine then_nrm ?_
        have hs := left_step c1 rfl (con_32 c2)
        exact ⟨_, hs.2, hA.re (sa rfl (sa rfl (sn))), hs.1.trans hte, by omega, HB, RR⟩
      refine W_gval hA rfl rfl rfl _ rfl (by decide) _ _ (R_mov hA rfl rfl _) (fun a hA => ?_); refine W_gval hA rfl rfl rfl _ rfl (by decide) _ _ (R_index hA rfl rfl rfl (fun w => idx0 c1 w) _) (fun a hA => ?_); refine W_gval hA rfl rfl rfl _ rfl (by decide) _ _ (R_eqlB10 hA rfl rfl rfl _) (fun a hA => ?_); refine W_gval hA rfl rfl rfl _ rfl (by decide) _ _ (R_pick hA rfl rfl rfl _) (fun a hA => ?_); refine W_val hA rfl _ rfl (by decide) _ _ (R_pick hA rfl rfl rfl _) (fun a hA => ?_); refine W_nil (then_nrm ?_); show Code.wp Tryz.prog _ _ _ _; refine wp_cond_split (hA.ev (x := .tmp 41) rfl) (fun c3 => ?_) (fun c3 => ?_)
      · skip
        refine wp_skip ?_; refine then_nrm ?_; show Code.wp Tryz.prog _ _ _ _; refine wp_block ?_; refine wp_region_list ?_; refine W_val hA rfl _ rfl (by decide) _ _ (R_mov hA rfl rfl _) (fun a hA => ?_); refine W_val hA rfl _ rfl (by decide) _ _ (R_sliceLo hA rfl rfl rfl (fun w => slice1 c1 w) _) (fun a hA => ?_); refine W_val hA rfl _ rfl (by decide) _ _ (R_asg hA rfl rfl _) (fun a hA => ?_); refine W_nil ?_; refine blk_nrm ?_; refine then_nrm ?_
        have hs := left_step c1 rfl (con_9 c3)
        exact ⟨_, hs.2, hA.re (sa rfl (sa rfl (sn))), hs.1.trans hte, by omega, HB, RR⟩
      refine wp_exit ?_; refine then_ext ?_; refine then_ext ?_; refine blk_eq ?_; refine then_nrm ?_
      rw [left_end (.inr (con_no c2 c3))] at hte
      exact ⟨FrA.add (hA.re (sa rfl (sn))) 0 _ ((hA.get 0 _ rfl).trans (congrArg (fun q : Bs => str q) hte)), HB, RR⟩
    (iterate 4 refine W_gskip hA rfl rfl rfl _ rfl (by decide) fun a hA => ?_); (iterate 3 refine W_gskipU hA rfl rfl rfl _ rfl (by decide) fun a hA => ?_); refine W_gskip hA rfl rfl rfl _ rfl (by decide) (fun a hA => ?_); refine W_val hA rfl _ rfl (by decide) _ _ (R_pick hA rfl rfl rfl _) (fun a hA => ?_); refine W_nil (then_nrm ?_); show Code.wp Tryz.prog _ _ _ _; refine wp_cond_false (hA.ev (x := .tmp 41) rfl) ?_; refine wp_exit ?_; refine then_ext ?_; refine then_ext ?_; refine blk_eq ?_; refine then_nrm ?_
    rw [left_end (.inl c1)] at hte
    exact ⟨FrA.add (hA.re (sa rfl (sn))) 0 _ ((hA.get 0 _ rfl).trans (congrArg (fun q : Bs => str q) hte)), HB, RR⟩
  obtain ⟨hA, HB, RR⟩ := h
  refine wp_seq (wp_merge (fun a' w' => FrA [(0, str (coreS s)), (2, .pointer (some ⟨bRR, 0, none⟩))] 235 a' ∧ Below w.heap.size w w' ∧ LnD w' bRR ldZ) ?_ (fun a w9 h => ?_))
  · skip
    refine wp_block ?_; refine loop_str (fun r a' w' => FrA [(0, str r), (2, .pointer (some ⟨bRR, 0, none⟩))] 235 a' ∧ trimRightS r [32, 9] = trimRightS (trimLeftS (cut s [35]).1 [32, 9]) [32, 9] ∧ r.length ≤ 100000 ∧ Below w.heap.size w w' ∧ LnD w' bRR ldZ) (fun r a w h => h.1.get 0 _ rfl) (trimLeftS (cut s [35]).1 [32, 9]) ⟨hA.re (sa rfl (sa rfl (sn))), rfl, hL2, HB, RR⟩ (fun r a wx h => ?_); clear HB RR
    obtain ⟨hA, hte, hrl0, HB, RR⟩ := h
    have hrl : r.length ≤ 1000000 := by omega
    refine wp_seq ?_; refine wp_seq (wp_region_list ?_); refine W_val hA rfl _ rfl (by decide) _ _ (R_mov hA rfl rfl _) (fun a hA => ?_); refine W_val hA rfl _ rfl (by decide) _ _ (R_lenL hA rfl rfl _) (fun a hA => ?_); refine W_val hA rfl _ rfl (by decide) _ _ (R_gtrI hA rfl rfl rfl _) (fun a hA => ?_); refine W_val hA rfl _ rfl (by decide) _ _ (R_mov hA rfl rfl _) (fun a hA => ?_); refine W_split hA 47 rfl (fun c4 hA => ?_) (fun c4 hA => ?_)
    · skip
      (iterate 2 refine W_gval hA rfl rfl rfl _ rfl (by decide) _ _ (R_mov hA rfl rfl _) fun a hA => ?_); refine W_gval hA rfl rfl rfl _ rfl (by decide) _ _ (R_lenL hA rfl rfl _) (fun a hA => ?_); refine W_gval hA rfl rfl rfl _ rfl (by decide) _ _ (R_subI hA rfl rfl rfl _) (fun a hA => ?_); refine W_gval hA rfl rfl rfl _ rfl (by decide) _ _ (R_index hA rfl rfl rfl (fun w => idxL c4 hrl w) _) (fun a hA => ?_); refine W_gval hA rfl rfl rfl _ rfl (by decide) _ _ (R_eqlB10 hA rfl rfl rfl _) (fun a hA => ?_); refine W_gval hA rfl rfl rfl _ rfl (by decide) _ _ (R_mov hA rfl rfl _) (fun a hA => ?_); refine W_split hA 54 rfl (fun c5 hA => ?_) (fun c5 hA => ?_)
      · skip
        (iterate 6 refine W_gskip hA rfl rfl rfl _ rfl (by decide) fun a hA => ?_); refine W_gval hA rfl rfl rfl _ rfl (by decide) _ _ (R_pick hA rfl rfl rfl _) (fun a hA => ?_); refine W_val hA rfl _ rfl (by decide) _ _ (R_pick hA rfl rfl rfl _) (fun a hA => ?_); refine W_nil (then_nrm ?_); show Code.wp Tryz.prog _ _ _ _; refine wp_cond_true (hA.ev (x := .tmp 62) rfl) ?_; refine wp_skip ?_; refine then_nrm ?_; show Code.wp Tryz.prog _ _ _ _; refine wp_block ?_; refine wp_region_list ?_; (iterate 2 refine W_val hA rfl _ rfl (by decide) _ _ (R_mov hA rfl rfl _) fun a hA => ?_); refine W_val hA rfl _ rfl (by decide) _ _ (R_lenL hA rfl rfl _) (fun a hA => ?_); refine W_val hA rfl _ rfl (by decide) _ _ (R_subI hA rfl rfl rfl _) (fun a hA => ?_); refine W_val hA rfl _ rfl (by decide) _ _ (R_sliceHi hA rfl rfl rfl (fun w => sliceL c4 hrl w) _) (fun a hA => ?_); refine W_val hA rfl _ rfl (by decide) _ _ (R_asg hA rfl rfl _) (fun a hA => ?_); refine W_nil ?_; refine blk_nrm ?_; refine then_nrm ?_
        have hs := right_step c4 (con_32 c5)
        exact ⟨_, hs.2, hA.re (sa rfl (sa rfl (sn))), hs.1.trans hte, by omega, HB, RR⟩
      (iterate 2 refine W_gval hA rfl rfl rfl _ rfl (by decide) _ _ (R_mov hA rfl rfl _) fun a hA => ?_); refine W_gval hA rfl rfl rfl _ rfl (by decide) _ _ (R_lenL hA rfl rfl _) (fun a hA => ?_); refine W_gval hA rfl rfl rfl _ rfl (by decide) _ _ (R_subI hA rfl rfl rfl _) (fun a hA => ?_); refine W_gval hA rfl rfl rfl _ rfl (by decide) _ _ (R_index hA rfl rfl rfl (fun w => idxL c4 hrl w) _) (fun a hA => ?_); refine W_gval hA rfl rfl rfl _ rfl (by decide) _ _ (R_eqlB10 hA rfl rfl rfl _) (fun a hA => ?_); refine W_gval hA rfl rfl rfl _ rfl (by decide) _ _ (R_pick hA rfl rfl rfl _) (fun a hA => ?_); refine W_val hA rfl _ rfl (by decide) _ _ (R_pick hA rfl rfl rfl _) (fun a hA => ?_); refine W_nil (then_nrm ?_); show Code.wp Tryz.prog _ _ _ _; refine wp_cond_split (hA.ev (x := .tmp 62) rfl) (fun c6 => ?_) (fun c6 => ?_)
      · skip
        refine wp_skip ?_; refine then_nrm ?_; show Code.wp Tryz.prog _ _ _ _; refine wp_block ?_; refine wp_region_list ?_; (iterate 2 refine W_val hA rfl _ rfl (by decide) _ _ (R_mov hA rfl rfl _) fun a hA => ?_); refine W_val hA rfl _ rfl (by decide) _ _ (R_lenL hA rfl rfl _) (fun a hA => ?_); refine W_val hA rfl _ rfl (by decide) _ _ (R_subI hA rfl rfl rfl _) (fun a hA => ?_); refine W_val hA rfl _ rfl (by decide) _ _ (R_sliceHi hA rfl rfl rfl (fun w => sliceL c4 hrl w) _) (fun a hA => ?_); refine W_val hA rfl _ rfl (by decide) _ _ (R_asg hA rfl rfl _) (fun a hA => ?_); refine W_nil ?_; refine blk_nrm ?_; refine then_nrm ?_
        have hs := right_step c4 (con_9 c6)
        exact ⟨_, hs.2, hA.re (sa rfl (sa rfl (sn))), hs.1.trans hte, by omega, HB, RR⟩
      refine wp_exit ?_; refine then_ext ?_; refine then_ext ?_; refine blk_eq ?_; refine then_nrm ?_
      rw [right_end (.inr (con_no c5 c6))] at hte
      exact ⟨FrA.add (hA.re (sa rfl (sn))) 0 _ ((hA.get 0 _ rfl).trans (congrArg (fun q : Bs => str q) (hte.trans hcore))), HB, RR⟩
    (iterate 7 refine W_gskip hA rfl rfl rfl _ rfl (by decide) fun a hA => ?_); (iterate 6 refine W_gskipU hA rfl rfl rfl _ rfl (by decide) fun a hA => ?_); refine W_gskip hA rfl rfl rfl _ rfl (by decide) (fun a hA => ?_); refine W_val hA rfl _ rfl (by decide) _ _ (R_pick hA rfl rfl rfl _) (fun a hA => ?_); refine W_nil (then_nrm ?_); show Code.wp Tryz.prog _ _ _ _; refine wp_cond_false (hA.ev (x := .tmp 62) rfl) ?_; refine wp_exit ?_; refine then_ext ?_; refine then_ext ?_; refine blk_eq ?_; refine then_nrm ?_
    rw [right_end (.inl c4)] at hte
    exact ⟨FrA.add (hA.re (sa rfl (sn))) 0 _ ((hA.get 0 _ rfl).trans (congrArg (fun q : Bs => str q) (hte.trans hcore))), HB, RR⟩
  obtain ⟨hA, HB, RR⟩ := h
  refine wp_seq ?_; refine wp_seq (wp_region_list ?_); refine W_val hA rfl _ rfl (by decide) _ _ (R_mov hA rfl rfl _) (fun a hA => ?_); refine W_val hA rfl _ rfl (by decide) _ _ (R_eqlL hA rfl rfl rfl _) (fun a hA => ?_); refine W_nil (then_nrm ?_); show Code.wp Tryz.prog _ _ _ _; refine wp_cond_split (hA.ev (x := .tmp 69) rfl) (fun c7 => ?_) (fun c7 => ?_)
  · skip
    have h0T : (coreS s) = [] := by simpa using c7
    refine wp_seq (wp_region_list ?_); refine W_val hA rfl _ rfl (by decide) _ _ (R_build (ps := []) hA rfl [] rfl bld_l0 _) (fun a hA => ?_); refine W_cpLn hA rfl rfl rfl rfl rfl RR (fun w3 hT HN => ?_); replace HB := HB.trans (hT.bel _ gRR); replace RR := HN; clear hT HN; refine W_nil (then_nrm ?_); show Code.wp Tryz.prog _ _ _ _; refine wp_ret ?_; refine then_ret ?_
    have eD := (show saidD (coreS s) = .empty by rw [h0T]; rfl)
    refine ret_ln (j := 2) (by kernel_rfl) hA rfl RR ⟨none, 0, ?_, ?_, HB⟩
    · rw [eD]; rfl
    · rw [eD]; trivial
  have h0T : ¬ (coreS s) = [] := fun e => by rw [e] at c7; exact absurd c7 (by decide)
  have hpos := pos_of h0T
  refine wp_skip ?_; refine then_nrm ?_; show Code.wp Tryz.prog _ _ _ _; refine wp_seq (wp_merge (fun a' w' => FrA [(2, .pointer (some ⟨bRR, 0, none⟩)), (0, str (coreS s))] 235 a' ∧ Below w.heap.size w w' ∧ LnD w' bRR ldZ ∧ ¬ markB (coreS s) = true) ?_ (fun a w9 h => ?_))
  · skip
    refine wp_seq (wp_region_list ?_); (iterate 2 refine W_val hA rfl _ rfl (by decide) _ _ (R_mov hA rfl rfl _) fun a hA => ?_); refine W_val hA rfl _ rfl (by decide) _ _ (R_lenL hA rfl rfl _) (fun a hA => ?_); refine W_val hA rfl _ rfl (by decide) _ _ (R_subI hA rfl rfl rfl _) (fun a hA => ?_); refine W_val hA rfl _ rfl (by decide) _ _ (R_index hA rfl rfl rfl (fun w => idxL hpos hTm w) _) (fun a hA => ?_); refine W_val hA rfl _ rfl (by decide) _ _ (R_eqlB10 hA rfl rfl rfl _) (fun a hA => ?_); refine W_val hA rfl _ rfl (by decide) _ _ (R_mov hA rfl rfl _) (fun a hA => ?_); refine W_split hA 77 rfl (fun c8 hA => ?_) (fun c8 hA => ?_)
    · skip
      (iterate 2 refine W_gval hA rfl rfl rfl _ rfl (by decide) _ _ (R_mov hA rfl rfl _) fun a hA => ?_); refine W_gval hA rfl rfl rfl _ rfl (by decide) _ _ (R_lenL hA rfl rfl _) (fun a hA => ?_); refine W_gval hA rfl rfl rfl _ rfl (by decide) _ _ (R_subI hA rfl rfl rfl _) (fun a hA => ?_); refine W_gval hA rfl rfl rfl _ rfl (by decide) _ _ (R_sliceHi hA rfl rfl rfl (fun w => sliceL hpos hTm w) _) (fun a hA => ?_); refine W_gcall hA rfl rfl (by decide) (fun _ _ => by kernel_rfl) (args1 hA rfl) (refNamed_any ((coreS s)).dropLast (by rw [List.length_dropLast]; omega) _) (fun w4 hw a hA => ?_); subst hw; refine W_val hA rfl _ rfl (by decide) _ _ (R_pick hA rfl rfl rfl _) (fun a hA => ?_); refine W_nil (then_nrm ?_); show Code.wp Tryz.prog _ _ _ _; refine wp_cond_split (hA.ev (x := .tmp 84) rfl) (fun c9 => ?_) (fun c9 => ?_)
      · skip
        refine wp_seq (wp_region_list ?_); (iterate 2 refine W_val hA rfl _ rfl (by decide) _ _ (R_mov hA rfl rfl _) fun a hA => ?_); refine W_val hA rfl _ rfl (by decide) _ _ (R_lenL hA rfl rfl _) (fun a hA => ?_); refine W_val hA rfl _ rfl (by decide) _ _ (R_subI hA rfl rfl rfl _) (fun a hA => ?_); refine W_val hA rfl _ rfl (by decide) _ _ (R_sliceHi hA rfl rfl rfl (fun w => sliceL hpos hTm w) _) (fun a hA => ?_); refine W_val hA rfl _ rfl (by decide) _ _ (R_build (ps := [(0, .const (.int .i64 1)), (1, .tmp 89)]) hA rfl [(0, .int .i64 1), (1, str _)] rfl (bld_l1 _) _) (fun a hA => ?_); refine W_cpLn hA rfl rfl rfl rfl rfl RR (fun w5 hT HN => ?_); replace HB := HB.trans (hT.bel _ gRR); replace RR := HN; clear hT HN; refine W_nil (then_nrm ?_); show Code.wp Tryz.prog _ _ _ _; refine wp_ret ?_; refine then_ret ?_
        have eD := said_1 h0T (show markB (coreS s) = true by unfold markB; rw [last_58 hpos c8, c9]; rfl)
        refine ret_ln (j := 2) (by kernel_rfl) hA rfl RR ⟨none, 0, ?_, ?_, HB⟩
        · rw [eD]; rfl
        · rw [eD]; trivial
      refine wp_skip ?_; refine then_nrm ?_
      exact ⟨hA.re (sa rfl (sa rfl (sn))), HB, RR, fun h => by unfold markB at h; rw [Bool.and_eq_true] at h; rw [h.2] at c9; cases c9⟩
    (iterate 6 refine W_gskip hA rfl rfl rfl _ rfl (by decide) fun a hA => ?_); refine W_val hA rfl _ rfl (by decide) _ _ (R_pick hA rfl rfl rfl _) (fun a hA => ?_); refine W_nil (then_nrm ?_); show Code.wp Tryz.prog _ _ _ _; refine wp_cond_false (hA.ev (x := .tmp 84) rfl) ?_; refine wp_skip ?_; refine then_nrm ?_
    exact ⟨hA.re (sa rfl (sa rfl (sn))), HB, RR, fun h => by unfold markB at h; rw [last_no c8, Bool.false_and] at h; cases h⟩
  obtain ⟨hA, HB, RR, hmk⟩ := h
  refine wp_seq (wp_region_list ?_); refine W_val hA rfl _ rfl (by decide) _ _ (R_mov hA rfl rfl _) (fun a hA => ?_); refine W_callA hA (by decide) (fun _ _ => by kernel_rfl) (args2 hA rfl rfl) (refCut_any (coreS s) [32] hT (by decide) _) (fun w6 hw a hA => ?_); replace HB := HB.trans (hw.mono HB.size); replace RR := RR.below hw; clear hw; refine W_val hA rfl _ rfl (by decide) _ _ (R_mov hA rfl rfl _) (fun a hA => ?_); (iterate 3 refine W_val hA rfl _ rfl (by decide) _ _ (R_extract hA rfl rfl rfl _) fun a hA => ?_); (iterate 3 refine W_val hA rfl _ rfl (by decide) _ _ (R_asg hA rfl rfl _) fun a hA => ?_); refine W_nil (then_nrm ?_); show Code.wp Tryz.prog _ _ _ _; refine wp_seq (wp_region_list ?_); refine W_val hA rfl _ rfl (by decide) _ _ (R_mov hA rfl rfl _) (fun a hA => ?_); refine W_callA hA (by decide) (fun _ _ => by kernel_rfl) (args2 hA rfl rfl) (refCut_any (cut (coreS s) [32]).2.1 [44, 32] hR (by decide) _) (fun w7 hw a hA => ?_); replace HB := HB.trans (hw.mono HB.size); replace RR := RR.below hw; clear hw; refine W_val hA rfl _ rfl (by decide) _ _ (R_mov hA rfl rfl _) (fun a hA => ?_); (iterate 3 refine W_val hA rfl _ rfl (by decide) _ _ (R_extract hA rfl rfl rfl _) fun a hA => ?_); (iterate 3 refine W_val hA rfl _ rfl (by decide) _ _ (R_asg hA rfl rfl _) fun a hA => ?_); refine W_nil (then_nrm ?_); show Code.wp Tryz.prog _ _ _ _; refine wp_seq (wp_merge (fun a' w' => FrA [(2, .pointer (some ⟨bRR, 0, none⟩)), (0, str (coreS s)), (3, str (cut (coreS s) [32]).1), (4, str (cut (coreS s) [32]).2.1), (6, str (splA (coreS s))), (7, str (splB (coreS s))), (8, .bool (splQ (coreS s)))] 235 a' ∧ Below w.heap.size w w' ∧ LnD w' bRR ldZ ∧ ¬ liB (coreS s) = true) ?_ (fun a w9 h => ?_))
  · skip
    refine wp_seq (wp_region_list ?_); refine W_val hA rfl _ rfl (by decide) _ _ (R_mov hA rfl rfl _) (fun a hA => ?_); refine W_val hA rfl _ rfl (by decide) _ _ (R_eqlL hA rfl rfl rfl _) (fun a hA => ?_); refine W_val hA rfl _ rfl (by decide) _ _ (R_mov hA rfl rfl _) (fun a hA => ?_); refine W_split hA 105 rfl (fun c10 hA => ?_) (fun c10 hA => ?_)
    · skip
      refine W_gval hA rfl rfl rfl _ rfl (by decide) _ _ (R_mov hA rfl rfl _) (fun a hA => ?_); refine W_val hA rfl _ rfl (by decide) _ _ (R_pick hA rfl rfl rfl _) (fun a hA => ?_); refine W_nil (then_nrm ?_); show Code.wp Tryz.prog _ _ _ _; refine wp_cond_split (hA.ev (x := .tmp 107) rfl) (fun c11 => ?_) (fun c11 => ?_)
      · skip
        refine wp_seq (wp_region_list ?_); refine W_val hA rfl _ rfl (by decide) _ _ (R_mov hA rfl rfl _) (fun a hA => ?_); refine W_callA hA (by decide) (fun _ _ => by kernel_rfl) (args1 hA rfl) (refRegister_any (splA (coreS s)) hLA _) (fun w8 hw a hA => ?_); replace HB := HB.trans (hw.mono HB.size); replace RR := RR.below hw; clear hw; refine W_val hA rfl _ rfl (by decide) _ _ (R_mov hA rfl rfl _) (fun a hA => ?_); (iterate 2 refine W_val hA rfl _ rfl (by decide) _ _ (R_extract hA rfl rfl rfl _) fun a hA => ?_); (iterate 2 refine W_val hA rfl _ rfl (by decide) _ _ (R_asg hA rfl rfl _) fun a hA => ?_); refine W_nil (then_nrm ?_); show Code.wp Tryz.prog _ _ _ _; refine wp_seq (wp_region_list ?_); refine W_val hA rfl _ rfl (by decide) _ _ (R_mov hA rfl rfl _) (fun a hA => ?_); refine W_callA hA (by decide) (fun _ _ => by kernel_rfl) (args1 hA rfl) (refNumber_any (splB (coreS s)) hLB _) (fun w9 hw a hA => ?_); replace HB := HB.trans (hw.mono HB.size); replace RR := RR.below hw; clear hw; refine W_val hA rfl _ rfl (by decide) _ _ (R_mov hA rfl rfl _) (fun a hA => ?_); (iterate 2 refine W_val hA rfl _ rfl (by decide) _ _ (R_extract hA rfl rfl rfl _) fun a hA => ?_); (iterate 2 refine W_val hA rfl _ rfl (by decide) _ _ (R_asg hA rfl rfl _) fun a hA => ?_); refine W_nil (then_nrm ?_); show Code.wp Tryz.prog _ _ _ _; refine wp_seq (wp_region_list ?_); (iterate 2 refine W_val hA rfl _ rfl (by decide) _ _ (R_mov hA rfl rfl _) fun a hA => ?_); refine W_split hA 119 rfl (fun c12 hA => ?_) (fun c12 hA => ?_)
        · skip
          refine W_gval hA rfl rfl rfl _ rfl (by decide) _ _ (R_mov hA rfl rfl _) (fun a hA => ?_); refine W_val hA rfl _ rfl (by decide) _ _ (R_pick hA rfl rfl rfl _) (fun a hA => ?_); refine W_nil (then_nrm ?_); show Code.wp Tryz.prog _ _ _ _; refine wp_cond_split (hA.ev (x := .tmp 121) rfl) (fun c13 => ?_) (fun c13 => ?_)
          · skip
            refine wp_seq (wp_region_list ?_); (iterate 2 refine W_val hA rfl _ rfl (by decide) _ _ (R_mov hA rfl rfl _) fun a hA => ?_); refine W_callE hA (by decide) (fun _ _ => by kernel_rfl) (args2 hA rfl rfl) (refLi_any _ _ (reg_true c12).2 (num_true c13).2.1 (num_true c13).2.2 _) (fun v w10 hw a hA => ?_)
            obtain ⟨hI, hw⟩ := hw
            obtain ⟨p, cp, rfl⟩ := ownI_slice hI
            have hI := ownI_base hI HB.size
            replace HB := HB.trans (hw.mono HB.size); replace RR := RR.below hw; clear hw; refine W_val hA rfl _ rfl (by decide) _ _ (R_build (ps := [(0, .const (.int .i64 3)), (3, .tmp 124)]) hA rfl [(0, .int .i64 3), (3, .slice _ _ _)] rfl (bld_l3 _ _ _) _) (fun a hA => ?_); refine W_cpLn hA rfl rfl rfl rfl rfl RR (fun w11 hT HN => ?_); replace hI := ownI_tch hI hT RR; replace HB := HB.trans (hT.bel _ gRR); replace RR := HN; clear hT HN; refine W_nil (then_nrm ?_); show Code.wp Tryz.prog _ _ _ _; refine wp_ret ?_; refine then_ret ?_
            have eD := said_3 h0T hmk (li_y c10 c11 c12 c13)
            refine ret_ln (j := 2) (by kernel_rfl) hA rfl RR ⟨p, cp, ?_, ?_, HB⟩
            · rw [eD]; rfl
            · rw [eD]; exact hI
          refine wp_skip ?_; refine then_nrm ?_
          exact ⟨hA.re (sa rfl (sa rfl (sa rfl (sa rfl (sa rfl (sa rfl (sa rfl (sn)))))))), HB, RR, li_n4 c13⟩
        refine W_gskip hA rfl rfl rfl _ rfl (by decide) (fun a hA => ?_); refine W_val hA rfl _ rfl (by decide) _ _ (R_pick hA rfl rfl rfl _) (fun a hA => ?_); refine W_nil (then_nrm ?_); show Code.wp Tryz.prog _ _ _ _; refine wp_cond_false (hA.ev (x := .tmp 121) rfl) ?_; refine wp_skip ?_; refine then_nrm ?_
        exact ⟨hA.re (sa rfl (sa rfl (sa rfl (sa rfl (sa rfl (sa rfl (sa rfl (sn)))))))), HB, RR, li_n3 c12⟩
      refine wp_skip ?_; refine then_nrm ?_
      exact ⟨hA.re (sa rfl (sa rfl (sa rfl (sa rfl (sa rfl (sa rfl (sa rfl (sn)))))))), HB, RR, li_n2 c11⟩
    refine W_gskip hA rfl rfl rfl _ rfl (by decide) (fun a hA => ?_); refine W_val hA rfl _ rfl (by decide) _ _ (R_pick hA rfl rfl rfl _) (fun a hA => ?_); refine W_nil (then_nrm ?_); show Code.wp Tryz.prog _ _ _ _; refine wp_cond_false (hA.ev (x := .tmp 107) rfl) ?_; refine wp_skip ?_; refine then_nrm ?_
    exact ⟨hA.re (sa rfl (sa rfl (sa rfl (sa rfl (sa rfl (sa rfl (sa rfl (sn)))))))), HB, RR, li_n1 c10⟩
  obtain ⟨hA, HB, RR, hli⟩ := h
  refine wp_seq (wp_merge (fun a' w' => FrA [(2, .pointer (some ⟨bRR, 0, none⟩)), (0, str (coreS s)), (3, str (cut (coreS s) [32]).1), (4, str (cut (coreS s) [32]).2.1), (6, str (splA (coreS s))), (7, str (splB (coreS s))), (8, .bool (splQ (coreS s)))] 235 a' ∧ Below w.heap.size w w' ∧ LnD w' bRR ldZ ∧ ¬ laZ (coreS s) = true) ?_ (fun a w9 h => ?_))
  · skip
    refine wp_seq (wp_region_list ?_); refine W_val hA rfl _ rfl (by decide) _ _ (R_mov hA rfl rfl _) (fun a hA => ?_); refine W_val hA rfl _ rfl (by decide) _ _ (R_eqlL hA rfl rfl rfl _) (fun a hA => ?_); refine W_val hA rfl _ rfl (by decide) _ _ (R_mov hA rfl rfl _) (fun a hA => ?_); refine W_split hA 128 rfl (fun c14 hA => ?_) (fun c14 hA => ?_)
    · skip
      refine W_gval hA rfl rfl rfl _ rfl (by decide) _ _ (R_mov hA rfl rfl _) (fun a hA => ?_); refine W_val hA rfl _ rfl (by decide) _ _ (R_pick hA rfl rfl rfl _) (fun a hA => ?_); refine W_val hA rfl _ rfl (by decide) _ _ (R_mov hA rfl rfl _) (fun a hA => ?_); refine W_split hA 131 rfl (fun c15 hA => ?_) (fun c15 hA => ?_)
      · skip
        refine W_gval hA rfl rfl rfl _ rfl (by decide) _ _ (R_mov hA rfl rfl _) (fun a hA => ?_); refine W_gval hA rfl rfl rfl _ rfl (by decide) _ _ (R_lenL hA rfl rfl _) (fun a hA => ?_); refine W_gval hA rfl rfl rfl _ rfl (by decide) _ _ (R_gtrI hA rfl rfl rfl _) (fun a hA => ?_); refine W_val hA rfl _ rfl (by decide) _ _ (R_pick hA rfl rfl rfl _) (fun a hA => ?_); refine W_val hA rfl _ rfl (by decide) _ _ (R_mov hA rfl rfl _) (fun a hA => ?_); refine W_split hA 136 rfl (fun c16 hA => ?_) (fun c16 hA => ?_)
        · skip
          refine W_gval hA rfl rfl rfl _ rfl (by decide) _ _ (R_mov hA rfl rfl _) (fun a hA => ?_); refine W_gval hA rfl rfl rfl _ rfl (by decide) _ _ (R_index hA rfl rfl rfl (fun w => idx0 c16 w) _) (fun a hA => ?_); refine W_gval hA rfl rfl rfl _ rfl (by decide) _ _ (R_eqlB10 hA rfl rfl rfl _) (fun a hA => ?_); refine W_val hA rfl _ rfl (by decide) _ _ (R_pick hA rfl rfl rfl _) (fun a hA => ?_); refine W_val hA rfl _ rfl (by decide) _ _ (R_mov hA rfl rfl _) (fun a hA => ?_); refine W_split hA 141 rfl (fun c17 hA => ?_) (fun c17 hA => ?_)
          · skip
            refine W_gval hA rfl rfl rfl _ rfl (by decide) _ _ (R_mov hA rfl rfl _) (fun a hA => ?_); refine W_gval hA rfl rfl rfl _ rfl (by decide) _ _ (R_sliceLo hA rfl rfl rfl (fun w => slice1 c16 w) _) (fun a hA => ?_); refine W_gcall hA rfl rfl (by decide) (fun _ _ => by kernel_rfl) (args1 hA rfl) (refNamed_any (splB (coreS s)).tail (by rw [List.length_tail]; omega) _) (fun w12 hw a hA => ?_); subst hw; refine W_val hA rfl _ rfl (by decide) _ _ (R_pick hA rfl rfl rfl _) (fun a hA => ?_); refine W_nil (then_nrm ?_); show Code.wp Tryz.prog _ _ _ _; refine wp_cond_split (hA.ev (x := .tmp 145) rfl) (fun c18 => ?_) (fun c18 => ?_)
            · skip
              refine wp_seq (wp_region_list ?_); refine W_val hA rfl _ rfl (by decide) _ _ (R_mov hA rfl rfl _) (fun a hA => ?_); refine W_callA hA (by decide) (fun _ _ => by kernel_rfl) (args1 hA rfl) (refRegister_any (splA (coreS s)) hLA _) (fun w13 hw a hA => ?_); replace HB := HB.trans (hw.mono HB.size); replace RR := RR.below hw; clear hw; refine W_val hA rfl _ rfl (by decide) _ _ (R_mov hA rfl rfl _) (fun a hA => ?_); (iterate 2 refine W_val hA rfl _ rfl (by decide) _ _ (R_extract hA rfl rfl rfl _) fun a hA => ?_); (iterate 2 refine W_val hA rfl _ rfl (by decide) _ _ (R_asg hA rfl rfl _) fun a hA => ?_); refine W_nil (then_nrm ?_); show Code.wp Tryz.prog _ _ _ _; refine wp_seq (wp_region_list ?_); refine W_val hA rfl _ rfl (by decide) _ _ (R_mov hA rfl rfl _) (fun a hA => ?_); refine W_nil (then_nrm ?_); show Code.wp Tryz.prog _ _ _ _; refine wp_cond_split (hA.ev (x := .tmp 151) rfl) (fun c19 => ?_) (fun c19 => ?_)
              · skip
                refine wp_seq (wp_region_list ?_); (iterate 2 refine W_val hA rfl _ rfl (by decide) _ _ (R_mov hA rfl rfl _) fun a hA => ?_); refine W_val hA rfl _ rfl (by decide) _ _ (R_sliceLo hA rfl rfl rfl (fun w => slice1 c16 w) _) (fun a hA => ?_); refine W_val hA rfl _ rfl (by decide) _ _ (R_build (ps := [(0, .const (.int .i64 4)), (4, .tmp 152), (1, .tmp 154)]) hA rfl [(0, .int .i64 4), (4, .int .i64 _), (1, str _)] rfl (bld_l4 _ _) _) (fun a hA => ?_); refine W_cpLn hA rfl rfl rfl rfl rfl RR (fun w14 hT HN => ?_); replace HB := HB.trans (hT.bel _ gRR); replace RR := HN; clear hT HN; refine W_nil (then_nrm ?_); show Code.wp Tryz.prog _ _ _ _; refine wp_ret ?_; refine then_ret ?_
                have eD := said_4 h0T hmk hli (la_y c14 c15 c16 c17 c18 c19)
                refine ret_ln (j := 2) (by kernel_rfl) hA rfl RR ⟨none, 0, ?_, ?_, HB⟩
                · rw [eD]; rfl
                · rw [eD]; trivial
              refine wp_skip ?_; refine then_nrm ?_
              exact ⟨hA.re (sa rfl (sa rfl (sa rfl (sa rfl (sa rfl (sa rfl (sa rfl (sn)))))))), HB, RR, la_n6 c19⟩
            refine wp_skip ?_; refine then_nrm ?_
            exact ⟨hA.re (sa rfl (sa rfl (sa rfl (sa rfl (sa rfl (sa rfl (sa rfl (sn)))))))), HB, RR, la_n5 c18⟩
          (iterate 3 refine W_gskip hA rfl rfl rfl _ rfl (by decide) fun a hA => ?_); refine W_val hA rfl _ rfl (by decide) _ _ (R_pick hA rfl rfl rfl _) (fun a hA => ?_); refine W_nil (then_nrm ?_); show Code.wp Tryz.prog _ _ _ _; refine wp_cond_false (hA.ev (x := .tmp 145) rfl) ?_; refine wp_skip ?_; refine then_nrm ?_
          exact ⟨hA.re (sa rfl (sa rfl (sa rfl (sa rfl (sa rfl (sa rfl (sa rfl (sn)))))))), HB, RR, la_n4 c16 c17⟩
        (iterate 3 refine W_gskip hA rfl rfl rfl _ rfl (by decide) fun a hA => ?_); refine W_val hA rfl _ rfl (by decide) _ _ (R_pick hA rfl rfl rfl _) (fun a hA => ?_); refine W_val hA rfl _ rfl (by decide) _ _ (R_mov hA rfl rfl _) (fun a hA => ?_); (iterate 3 refine W_gskip hA rfl rfl rfl _ rfl (by decide) fun a hA => ?_); refine W_val hA rfl _ rfl (by decide) _ _ (R_pick hA rfl rfl rfl _) (fun a hA => ?_); refine W_nil (then_nrm ?_); show Code.wp Tryz.prog _ _ _ _; refine wp_cond_false (hA.ev (x := .tmp 145) rfl) ?_; refine wp_skip ?_; refine then_nrm ?_
        exact ⟨hA.re (sa rfl (sa rfl (sa rfl (sa rfl (sa rfl (sa rfl (sa rfl (sn)))))))), HB, RR, la_n3 c16⟩
      (iterate 3 refine W_gskip hA rfl rfl rfl _ rfl (by decide) fun a hA => ?_); refine W_val hA rfl _ rfl (by decide) _ _ (R_pick hA rfl rfl rfl _) (fun a hA => ?_); refine W_val hA rfl _ rfl (by decide) _ _ (R_mov hA rfl rfl _) (fun a hA => ?_); (iterate 3 refine W_gskip hA rfl rfl rfl _ rfl (by decide) fun a hA => ?_); refine W_val hA rfl _ rfl (by decide) _ _ (R_pick hA rfl rfl rfl _) (fun a hA => ?_); refine W_val hA rfl _ rfl (by decide) _ _ (R_mov hA rfl rfl _) (fun a hA => ?_); (iterate 3 refine W_gskip hA rfl rfl rfl _ rfl (by decide) fun a hA => ?_); refine W_val hA rfl _ rfl (by decide) _ _ (R_pick hA rfl rfl rfl _) (fun a hA => ?_); refine W_nil (then_nrm ?_); show Code.wp Tryz.prog _ _ _ _; refine wp_cond_false (hA.ev (x := .tmp 145) rfl) ?_; refine wp_skip ?_; refine then_nrm ?_
      exact ⟨hA.re (sa rfl (sa rfl (sa rfl (sa rfl (sa rfl (sa rfl (sa rfl (sn)))))))), HB, RR, la_n2 c15⟩
    refine W_gskip hA rfl rfl rfl _ rfl (by decide) (fun a hA => ?_); refine W_val hA rfl _ rfl (by decide) _ _ (R_pick hA rfl rfl rfl _) (fun a hA => ?_); refine W_val hA rfl _ rfl (by decide) _ _ (R_mov hA rfl rfl _) (fun a hA => ?_); (iterate 3 refine W_gskip hA rfl rfl rfl _ rfl (by decide) fun a hA => ?_); refine W_val hA rfl _ rfl (by decide) _ _ (R_pick hA rfl rfl rfl _) (fun a hA => ?_); refine W_val hA rfl _ rfl (by decide) _ _ (R_mov hA rfl rfl _) (fun a hA => ?_); (iterate 3 refine W_gskip hA rfl rfl rfl _ rfl (by decide) fun a hA => ?_); refine W_val hA rfl _ rfl (by decide) _ _ (R_pick hA rfl rfl rfl _) (fun a hA => ?_); refine W_val hA rfl _ rfl (by decide) _ _ (R_mov hA rfl rfl _) (fun a hA => ?_); (iterate 3 refine W_gskip hA rfl rfl rfl _ rfl (by decide) fun a hA => ?_); refine W_val hA rfl _ rfl (by decide) _ _ (R_pick hA rfl rfl rfl _) (fun a hA => ?_); refine W_nil (then_nrm ?_); show Code.wp Tryz.prog _ _ _ _; refine wp_cond_false (hA.ev (x := .tmp 145) rfl) ?_; refine wp_skip ?_; refine then_nrm ?_
    exact ⟨hA.re (sa rfl (sa rfl (sa rfl (sa rfl (sa rfl (sa rfl (sa rfl (sn)))))))), HB, RR, la_n1 c14⟩
  obtain ⟨hA, HB, RR, hla⟩ := h
  refine wp_seq (wp_merge (fun a' w' => FrA [(2, .pointer (some ⟨bRR, 0, none⟩)), (0, str (coreS s))] 235 a' ∧ Below w.heap.size w w' ∧ LnD w' bRR ldZ ∧ ¬ rawB (coreS s) = true) ?_ (fun a w9 h => ?_))
  · skip
    refine wp_seq (wp_region_list ?_); refine W_val hA rfl _ rfl (by decide) _ _ (R_mov hA rfl rfl _) (fun a hA => ?_); refine W_val hA rfl _ rfl (by decide) _ _ (R_eqlL hA rfl rfl rfl _) (fun a hA => ?_); refine W_nil (then_nrm ?_); show Code.wp Tryz.prog _ _ _ _; refine wp_cond_split (hA.ev (x := .tmp 157) rfl) (fun c20 => ?_) (fun c20 => ?_)
    · skip
      refine wp_seq (wp_region_list ?_); refine W_val hA rfl _ rfl (by decide) _ _ (R_mov hA rfl rfl _) (fun a hA => ?_); refine W_callA hA (by decide) (fun _ _ => by kernel_rfl) (args1 hA rfl) (refNumber_any (cut (coreS s) [32]).2.1 hR _) (fun w15 hw a hA => ?_); replace HB := HB.trans (hw.mono HB.size); replace RR := RR.below hw; clear hw; refine W_val hA rfl _ rfl (by decide) _ _ (R_mov hA rfl rfl _) (fun a hA => ?_); (iterate 2 refine W_val hA rfl _ rfl (by decide) _ _ (R_extract hA rfl rfl rfl _) fun a hA => ?_); (iterate 2 refine W_val hA rfl _ rfl (by decide) _ _ (R_asg hA rfl rfl _) fun a hA => ?_); refine W_nil (then_nrm ?_); show Code.wp Tryz.prog _ _ _ _; refine wp_seq (wp_region_list ?_); (iterate 2 refine W_val hA rfl _ rfl (by decide) _ _ (R_mov hA rfl rfl _) fun a hA => ?_); refine W_split hA 164 rfl (fun c21 hA => ?_) (fun c21 hA => ?_)
      · skip
        refine W_gval hA rfl rfl rfl _ rfl (by decide) _ _ (R_mov hA rfl rfl _) (fun a hA => ?_); refine W_gval hA rfl rfl rfl _ rfl (by decide) _ _ (R_geqJ hA rfl rfl rfl _) (fun a hA => ?_); refine W_val hA rfl _ rfl (by decide) _ _ (R_pick hA rfl rfl rfl _) (fun a hA => ?_); refine W_val hA rfl _ rfl (by decide) _ _ (R_mov hA rfl rfl _) (fun a hA => ?_); refine W_split hA 168 rfl (fun c22 hA => ?_) (fun c22 hA => ?_)
        · skip
          refine W_gval hA rfl rfl rfl _ rfl (by decide) _ _ (R_mov hA rfl rfl _) (fun a hA => ?_); refine W_gval hA rfl rfl rfl _ rfl (by decide) _ _ (R_lssJ hA rfl rfl rfl _) (fun a hA => ?_); refine W_val hA rfl _ rfl (by decide) _ _ (R_pick hA rfl rfl rfl _) (fun a hA => ?_); refine W_nil (then_nrm ?_); show Code.wp Tryz.prog _ _ _ _; refine wp_cond_split (hA.ev (x := .tmp 171) rfl) (fun c23 => ?_) (fun c23 => ?_)
          · skip
            refine wp_seq (wp_region_list ?_); refine W_val hA rfl _ rfl (by decide) _ _ (R_mov hA rfl rfl _) (fun a hA => ?_); refine W_val hA rfl _ rfl (by decide) _ _ (R_cv32 hA rfl ⟨of_decide_eq_true c22, of_decide_eq_true c23⟩ rfl _) (fun a hA => ?_); refine W_val hA rfl _ rfl (by decide) _ _ (R_build (ps := [(0, .const (.int .i64 5)), (5, .tmp 173)]) hA rfl [(0, .int .i64 5), (5, .int .u32 _)] rfl (bld_l5 _) _) (fun a hA => ?_); refine W_cpLn hA rfl rfl rfl rfl rfl RR (fun w16 hT HN => ?_); replace HB := HB.trans (hT.bel _ gRR); replace RR := HN; clear hT HN; refine W_nil (then_nrm ?_); show Code.wp Tryz.prog _ _ _ _; refine wp_ret ?_; refine then_ret ?_
            have eD := said_5 h0T hmk hli hla (raw_y c20 c21 c22 c23)
            refine ret_ln (j := 2) (by kernel_rfl) hA rfl RR ⟨none, 0, ?_, ?_, HB⟩
            · rw [eD]; rfl
            · rw [eD]; trivial
          refine wp_skip ?_; refine then_nrm ?_
          exact ⟨hA.re (sa rfl (sa rfl (sn))), HB, RR, raw_n4 c23⟩
        (iterate 2 refine W_gskip hA rfl rfl rfl _ rfl (by decide) fun a hA => ?_); refine W_val hA rfl _ rfl (by decide) _ _ (R_pick hA rfl rfl rfl _) (fun a hA => ?_); refine W_nil (then_nrm ?_); show Code.wp Tryz.prog _ _ _ _; refine wp_cond_false (hA.ev (x := .tmp 171) rfl) ?_; refine wp_skip ?_; refine then_nrm ?_
        exact ⟨hA.re (sa rfl (sa rfl (sn))), HB, RR, raw_n3 c22⟩
      (iterate 2 refine W_gskip hA rfl rfl rfl _ rfl (by decide) fun a hA => ?_); refine W_val hA rfl _ rfl (by decide) _ _ (R_pick hA rfl rfl rfl _) (fun a hA => ?_); refine W_val hA rfl _ rfl (by decide) _ _ (R_mov hA rfl rfl _) (fun a hA => ?_); (iterate 2 refine W_gskip hA rfl rfl rfl _ rfl (by decide) fun a hA => ?_); refine W_val hA rfl _ rfl (by decide) _ _ (R_pick hA rfl rfl rfl _) (fun a hA => ?_); refine W_nil (then_nrm ?_); show Code.wp Tryz.prog _ _ _ _; refine wp_cond_false (hA.ev (x := .tmp 171) rfl) ?_; refine wp_skip ?_; refine then_nrm ?_
      exact ⟨hA.re (sa rfl (sa rfl (sn))), HB, RR, raw_n2 c21⟩
    refine wp_skip ?_; refine then_nrm ?_
    exact ⟨hA.re (sa rfl (sa rfl (sn))), HB, RR, raw_n1 c20⟩
  obtain ⟨hA, HB, RR, hraw⟩ := h
  refine wp_seq (wp_region_list ?_); refine W_val hA rfl _ rfl (by decide) _ _ (R_mov hA rfl rfl _) (fun a hA => ?_); refine W_callA hA (by decide) (fun _ _ => by kernel_rfl) (args1 hA rfl) (rparse_any (coreS s) hT _) (fun w17 hw a hA => ?_); replace HB := HB.trans (hw.mono HB.size); replace RR := RR.below hw; clear hw; refine W_val hA rfl _ rfl (by decide) _ _ (R_mov hA rfl rfl _) (fun a hA => ?_); (iterate 2 refine W_val hA rfl _ rfl (by decide) _ _ (R_extract hA rfl rfl rfl _) fun a hA => ?_); refine W_allocIn hA rfl 17 rfl (by decide) rfl (fun w18 bII a hA hb II gII => ?_)
  have nRRII : bRR < bII := by have := RR.lt; omega
  replace RR := RR.below hb; replace gII := Nat.le_trans HB.size gII; replace HB := HB.trans (hb.mono HB.size); clear hb; refine W_cpIn hA rfl rfl rfl rfl rfl II (fun w19 hT HN => ?_); replace HB := HB.trans (hT.bel _ gII); replace RR := hT.line RR (by omega); replace II := HN; clear hT HN; refine W_val hA rfl _ rfl (by decide) _ _ (R_asg hA rfl rfl _) (fun a hA => ?_); refine W_nil (then_nrm ?_); show Code.wp Tryz.prog _ _ _ _; refine wp_seq ?_; refine wp_seq (wp_region_list ?_); refine W_val hA rfl _ rfl (by decide) _ _ (R_mov hA rfl rfl _) (fun a hA => ?_); refine W_val hA rfl _ rfl (by decide) _ _ (R_eqlE hA rfl rfl rfl _) (fun a hA => ?_); refine W_nil (then_nrm ?_); show Code.wp Tryz.prog _ _ _ _; refine wp_cond_split (hA.ev (x := .tmp 181) rfl) (fun c24 => ?_) (fun c24 => ?_)
  · skip
    refine wp_seq (wp_region_list ?_); refine W_val hA rfl _ rfl (by decide) _ _ (R_row hA rfl rfl II Tryz.underlying23 (size_insB _)) (fun a hA => ?_); refine W_val hA rfl _ rfl (by decide) _ _ (R_build (ps := [(0, .const (.int .i64 2)), (2, .tmp 182)]) hA rfl [(0, .int .i64 2), (2, insV _)] rfl (bld_l2 _) _) (fun a hA => ?_); refine W_cpLn hA rfl rfl rfl rfl rfl RR (fun w20 hT HN => ?_); replace HB := HB.trans (hT.bel _ gRR); replace II := hT.insB II (by omega); replace RR := HN; clear hT HN; refine W_nil (then_nrm ?_); show Code.wp Tryz.prog _ _ _ _; refine wp_ret ?_; refine then_ret ?_
    have eD := said_2 h0T hmk hli hla hraw (par_y c24)
    refine ret_ln (j := 2) (by kernel_rfl) hA rfl RR ⟨none, 0, ?_, ?_, HB⟩
    · rw [eD]; rfl
    · rw [eD]; trivial
  refine wp_skip ?_; refine then_nrm ?_; show Code.wp Tryz.prog _ _ _ _; refine wp_seq (wp_region_list ?_); refine W_val hA rfl _ rfl (by decide) _ _ (R_mov hA rfl rfl _) (fun a hA => ?_); refine W_callA hA (by decide) (fun _ _ => by kernel_rfl) (args1 hA rfl) (rguess_any (coreS s) hT _) (fun w21 hw a hA => ?_); replace HB := HB.trans (hw.mono HB.size); replace RR := RR.below hw; replace II := II.below hw; clear hw; refine W_val hA rfl _ rfl (by decide) _ _ (R_mov hA rfl rfl _) (fun a hA => ?_); (iterate 2 refine W_val hA rfl _ rfl (by decide) _ _ (R_extract hA rfl rfl rfl _) fun a hA => ?_); refine W_cpIn hA rfl rfl rfl rfl rfl II (fun w22 hT HN => ?_); replace HB := HB.trans (hT.bel _ gII); replace RR := hT.line RR (by omega); replace II := HN; clear hT HN; refine W_val hA rfl _ rfl (by decide) _ _ (R_asg hA rfl rfl _) (fun a hA => ?_); refine W_nil (then_nrm ?_); show Code.wp Tryz.prog _ _ _ _; refine wp_seq (wp_region_list ?_); refine W_val hA rfl _ rfl (by decide) _ _ (R_fa hA rfl rfl (fun w => fa_ins0 _ w) _) (fun a hA => ?_); refine W_val hA rfl _ rfl (by decide) _ _ (R_ld hA rfl rfl ag_i (insB_op II)) (fun a hA => ?_); refine W_callA hA (by decide) (fun _ _ => by kernel_rfl) (args1 hA rfl) (hRow _) (fun w23 hw a hA => ?_); replace HB := HB.trans (hw.mono HB.size); replace RR := RR.below hw; replace II := II.below hw; clear hw; refine W_val hA rfl _ rfl (by decide) _ _ (R_fld hA rfl rfl (fun w => field_form _ _ _ _ w) _) (fun a hA => ?_); refine W_val hA rfl _ rfl (by decide) _ _ (R_asg hA rfl rfl _) (fun a hA => ?_); refine W_nil (then_nrm ?_); show Code.wp Tryz.prog _ _ _ _; refine wp_seq (wp_merge (fun a' w' => FrA [(2, .pointer (some ⟨bRR, 0, none⟩)), (0, str (coreS s))] 235 a' ∧ Below w.heap.size w w' ∧ LnD w' bRR ldZ ∧ ¬ aimB (coreS s) = true) ?_ (fun a w9 h => ?_))
  · skip
    refine wp_seq (wp_region_list ?_); refine W_val hA rfl _ rfl (by decide) _ _ (R_mov hA rfl rfl _) (fun a hA => ?_); refine W_val hA rfl _ rfl (by decide) _ _ (R_neqL hA rfl rfl rfl _) (fun a hA => ?_); refine W_val hA rfl _ rfl (by decide) _ _ (R_mov hA rfl rfl _) (fun a hA => ?_); refine W_split hA 195 rfl (fun c25 hA => ?_) (fun c25 hA => ?_)
    · skip
      refine W_gval hA rfl rfl rfl _ rfl (by decide) _ _ (R_mov hA rfl rfl _) (fun a hA => ?_); refine W_gcall hA rfl rfl (by decide) (fun _ _ => by kernel_rfl) (args1 hA rfl) (refNamed_any (guessR (coreS s)).2 (by have := guess_len (coreS s); omega) _) (fun w24 hw a hA => ?_); subst hw; refine W_val hA rfl _ rfl (by decide) _ _ (R_pick hA rfl rfl rfl _) (fun a hA => ?_); refine W_val hA rfl _ rfl (by decide) _ _ (R_mov hA rfl rfl _) (fun a hA => ?_); refine W_split hA 199 rfl (fun c26 hA => ?_) (fun c26 hA => ?_)
      · skip
        refine W_gval hA rfl rfl rfl _ rfl (by decide) _ _ (R_mov hA rfl rfl _) (fun a hA => ?_); refine W_gval hA rfl rfl rfl _ rfl (by decide) _ _ (R_eqlB10 hA rfl rfl rfl _) (fun a hA => ?_); refine W_gval hA rfl rfl rfl _ rfl (by decide) _ _ (R_mov hA rfl rfl _) (fun a hA => ?_); refine W_split hA 202 rfl (fun c27 hA => ?_) (fun c27 hA => ?_)
        · skip
          (iterate 2 refine W_gskip hA rfl rfl rfl _ rfl (by decide) fun a hA => ?_); refine W_gval hA rfl rfl rfl _ rfl (by decide) _ _ (R_pick hA rfl rfl rfl _) (fun a hA => ?_); refine W_val hA rfl _ rfl (by decide) _ _ (R_pick hA rfl rfl rfl _) (fun a hA => ?_); refine W_nil (then_nrm ?_); show Code.wp Tryz.prog _ _ _ _; refine wp_cond_true (hA.ev (x := .tmp 206) rfl) ?_; refine wp_seq (wp_region_list ?_); refine W_val hA rfl _ rfl (by decide) _ _ (R_row hA rfl rfl II Tryz.underlying23 (size_insB _)) (fun a hA => ?_); refine W_callA hA (by decide) (fun _ _ => by kernel_rfl) (args1 hA rfl) (rprint_any _ _) (fun w25 hw a hA => ?_); replace HB := HB.trans (hw.mono HB.size); replace RR := RR.below hw; replace II := II.below hw; clear hw; refine W_val hA rfl _ rfl (by decide) _ _ (R_mov hA rfl rfl _) (fun a hA => ?_); (iterate 2 refine W_val hA rfl _ rfl (by decide) _ _ (R_extract hA rfl rfl rfl _) fun a hA => ?_); (iterate 2 refine W_val hA rfl _ rfl (by decide) _ _ (R_asg hA rfl rfl _) fun a hA => ?_); refine W_nil (then_nrm ?_); show Code.wp Tryz.prog _ _ _ _; refine wp_seq (wp_region_list ?_); refine W_val hA rfl _ rfl (by decide) _ _ (R_mov hA rfl rfl _) (fun a hA => ?_); refine W_val hA rfl _ rfl (by decide) _ _ (R_eqlE hA rfl rfl rfl _) (fun a hA => ?_); refine W_val hA rfl _ rfl (by decide) _ _ (R_mov hA rfl rfl _) (fun a hA => ?_); refine W_split hA 214 rfl (fun c28 hA => ?_) (fun c28 hA => ?_)
          · skip
            refine W_gval hA rfl rfl rfl _ rfl (by decide) _ _ (R_mov hA rfl rfl _) (fun a hA => ?_); refine W_gval hA rfl rfl rfl _ rfl (by decide) _ _ (R_lenL hA rfl rfl _) (fun a hA => ?_); refine W_gval hA rfl rfl rfl _ rfl (by decide) _ _ (R_gtrI hA rfl rfl rfl _) (fun a hA => ?_); refine W_val hA rfl _ rfl (by decide) _ _ (R_pick hA rfl rfl rfl _) (fun a hA => ?_); refine W_val hA rfl _ rfl (by decide) _ _ (R_mov hA rfl rfl _) (fun a hA => ?_); refine W_split hA 219 rfl (fun c29 hA => ?_) (fun c29 hA => ?_)
            · skip
              (iterate 2 refine W_gval hA rfl rfl rfl _ rfl (by decide) _ _ (R_mov hA rfl rfl _) fun a hA => ?_); refine W_gval hA rfl rfl rfl _ rfl (by decide) _ _ (R_lenL hA rfl rfl _) (fun a hA => ?_); refine W_gval hA rfl rfl rfl _ rfl (by decide) _ _ (R_subI hA rfl rfl rfl _) (fun a hA => ?_); refine W_gval hA rfl rfl rfl _ rfl (by decide) _ _ (R_sliceHi hA rfl rfl rfl (fun w => sliceL c29 (prT_len c28) w) _) (fun a hA => ?_); refine W_gval hA rfl rfl rfl _ rfl (by decide) _ _ (R_addL hA rfl rfl rfl (by simp only [List.length_dropLast, List.length_append, List.length_cons, List.length_nil]; have := prT_len c28; have := guess_len (coreS s); omega) _) (fun a hA => ?_); refine W_gval hA rfl rfl rfl _ rfl (by decide) _ _ (R_mov hA rfl rfl _) (fun a hA => ?_); refine W_gval hA rfl rfl rfl _ rfl (by decide) _ _ (R_addL hA rfl rfl rfl (by simp only [List.length_dropLast, List.length_append, List.length_cons, List.length_nil]; have := prT_len c28; have := guess_len (coreS s); omega) _) (fun a hA => ?_); refine W_gval hA rfl rfl rfl _ rfl (by decide) _ _ (R_mov hA rfl rfl _) (fun a hA => ?_); refine W_gval hA rfl rfl rfl _ rfl (by decide) _ _ (R_eqlL hA rfl rfl rfl _) (fun a hA => ?_); refine W_val hA rfl _ rfl (by decide) _ _ (R_pick hA rfl rfl rfl _) (fun a hA => ?_); refine W_nil (then_nrm ?_); show Code.wp Tryz.prog _ _ _ _; refine wp_cond_split (hA.ev (x := .tmp 230) rfl) (fun c30 => ?_) (fun c30 => ?_)
              · skip
                refine wp_seq (wp_region_list ?_); refine W_val hA rfl _ rfl (by decide) _ _ (R_row hA rfl rfl II Tryz.underlying23 (size_insB _)) (fun a hA => ?_); refine W_val hA rfl _ rfl (by decide) _ _ (R_mov hA rfl rfl _) (fun a hA => ?_); refine W_val hA rfl _ rfl (by decide) _ _ (R_build (ps := [(0, .const (.int .i64 2)), (2, .tmp 231), (1, .tmp 232)]) hA rfl [(0, .int .i64 2), (2, insV _), (1, str _)] rfl (bld_l2l _ _) _) (fun a hA => ?_); refine W_cpLn hA rfl rfl rfl rfl rfl RR (fun w26 hT HN => ?_); replace HB := HB.trans (hT.bel _ gRR); replace II := hT.insB II (by omega); replace RR := HN; clear hT HN; refine W_nil (then_nrm ?_); show Code.wp Tryz.prog _ _ _ _; refine wp_ret ?_; refine then_ret ?_
                have eD := said_7 h0T hmk hli hla hraw (par_n c24) (aim_y hk c25 c26 (.inl c27) c28 c30)
                refine ret_ln (j := 2) (by kernel_rfl) hA rfl RR ⟨none, 0, ?_, ?_, HB⟩
                · rw [eD]; rfl
                · rw [eD]; trivial
              refine wp_skip ?_; refine then_nrm ?_
              exact ⟨hA.re (sa rfl (sa rfl (sn))), HB, RR, aim_n6 c28 c30⟩
            (iterate 10 refine W_gskip hA rfl rfl rfl _ rfl (by decide) fun a hA => ?_); refine W_val hA rfl _ rfl (by decide) _ _ (R_pick hA rfl rfl rfl _) (fun a hA => ?_); refine W_nil (then_nrm ?_); show Code.wp Tryz.prog _ _ _ _; refine wp_cond_false (hA.ev (x := .tmp 230) rfl) ?_; refine wp_skip ?_; refine then_nrm ?_
            exact ⟨hA.re (sa rfl (sa rfl (sn))), HB, RR, aim_n5 c28 c29⟩
          (iterate 3 refine W_gskip hA rfl rfl rfl _ rfl (by decide) fun a hA => ?_); refine W_val hA rfl _ rfl (by decide) _ _ (R_pick hA rfl rfl rfl _) (fun a hA => ?_); refine W_val hA rfl _ rfl (by decide) _ _ (R_mov hA rfl rfl _) (fun a hA => ?_); (iterate 10 refine W_gskip hA rfl rfl rfl _ rfl (by decide) fun a hA => ?_); refine W_val hA rfl _ rfl (by decide) _ _ (R_pick hA rfl rfl rfl _) (fun a hA => ?_); refine W_nil (then_nrm ?_); show Code.wp Tryz.prog _ _ _ _; refine wp_cond_false (hA.ev (x := .tmp 230) rfl) ?_; refine wp_skip ?_; refine then_nrm ?_
          exact ⟨hA.re (sa rfl (sa rfl (sn))), HB, RR, aim_n4 c28⟩
        refine W_gval hA rfl rfl rfl _ rfl (by decide) _ _ (R_mov hA rfl rfl _) (fun a hA => ?_); refine W_gval hA rfl rfl rfl _ rfl (by decide) _ _ (R_eqlB10 hA rfl rfl rfl _) (fun a hA => ?_); refine W_gval hA rfl rfl rfl _ rfl (by decide) _ _ (R_pick hA rfl rfl rfl _) (fun a hA => ?_); refine W_val hA rfl _ rfl (by decide) _ _ (R_pick hA rfl rfl rfl _) (fun a hA => ?_); refine W_nil (then_nrm ?_); show Code.wp Tryz.prog _ _ _ _; refine wp_cond_split (hA.ev (x := .tmp 206) rfl) (fun c31 => ?_) (fun c31 => ?_)
        · skip
          refine wp_seq (wp_region_list ?_); refine W_val hA rfl _ rfl (by decide) _ _ (R_row hA rfl rfl II Tryz.underlying23 (size_insB _)) (fun a hA => ?_); refine W_callA hA (by decide) (fun _ _ => by kernel_rfl) (args1 hA rfl) (rprint_any _ _) (fun w27 hw a hA => ?_); replace HB := HB.trans (hw.mono HB.size); replace RR := RR.below hw; replace II := II.below hw; clear hw; refine W_val hA rfl _ rfl (by decide) _ _ (R_mov hA rfl rfl _) (fun a hA => ?_); (iterate 2 refine W_val hA rfl _ rfl (by decide) _ _ (R_extract hA rfl rfl rfl _) fun a hA => ?_); (iterate 2 refine W_val hA rfl _ rfl (by decide) _ _ (R_asg hA rfl rfl _) fun a hA => ?_); refine W_nil (then_nrm ?_); show Code.wp Tryz.prog _ _ _ _; refine wp_seq (wp_region_list ?_); refine W_val hA rfl _ rfl (by decide) _ _ (R_mov hA rfl rfl _) (fun a hA => ?_); refine W_val hA rfl _ rfl (by decide) _ _ (R_eqlE hA rfl rfl rfl _) (fun a hA => ?_); refine W_val hA rfl _ rfl (by decide) _ _ (R_mov hA rfl rfl _) (fun a hA => ?_); refine W_split hA 214 rfl (fun c32 hA => ?_) (fun c32 hA => ?_)
          · skip
            refine W_gval hA rfl rfl rfl _ rfl (by decide) _ _ (R_mov hA rfl rfl _) (fun a hA => ?_); refine W_gval hA rfl rfl rfl _ rfl (by decide) _ _ (R_lenL hA rfl rfl _) (fun a hA => ?_); refine W_gval hA rfl rfl rfl _ rfl (by decide) _ _ (R_gtrI hA rfl rfl rfl _) (fun a hA => ?_); refine W_val hA rfl _ rfl (by decide) _ _ (R_pick hA rfl rfl rfl _) (fun a hA => ?_); refine W_val hA rfl _ rfl (by decide) _ _ (R_mov hA rfl rfl _) (fun a hA => ?_); refine W_split hA 219 rfl (fun c33 hA => ?_) (fun c33 hA => ?_)
            · skip
              (iterate 2 refine W_gval hA rfl rfl rfl _ rfl (by decide) _ _ (R_mov hA rfl rfl _) fun a hA => ?_); refine W_gval hA rfl rfl rfl _ rfl (by decide) _ _ (R_lenL hA rfl rfl _) (fun a hA => ?_); refine W_gval hA rfl rfl rfl _ rfl (by decide) _ _ (R_subI hA rfl rfl rfl _) (fun a hA => ?_); refine W_gval hA rfl rfl rfl _ rfl (by decide) _ _ (R_sliceHi hA rfl rfl rfl (fun w => sliceL c33 (prT_len c32) w) _) (fun a hA => ?_); refine W_gval hA rfl rfl rfl _ rfl (by decide) _ _ (R_addL hA rfl rfl rfl (by simp only [List.length_dropLast, List.length_append, List.length_cons, List.length_nil]; have := prT_len c32; have := guess_len (coreS s); omega) _) (fun a hA => ?_); refine W_gval hA rfl rfl rfl _ rfl (by decide) _ _ (R_mov hA rfl rfl _) (fun a hA => ?_); refine W_gval hA rfl rfl rfl _ rfl (by decide) _ _ (R_addL hA rfl rfl rfl (by simp only [List.length_dropLast, List.length_append, List.length_cons, List.length_nil]; have := prT_len c32; have := guess_len (coreS s); omega) _) (fun a hA => ?_); refine W_gval hA rfl rfl rfl _ rfl (by decide) _ _ (R_mov hA rfl rfl _) (fun a hA => ?_); refine W_gval hA rfl rfl rfl _ rfl (by decide) _ _ (R_eqlL hA rfl rfl rfl _) (fun a hA => ?_); refine W_val hA rfl _ rfl (by decide) _ _ (R_pick hA rfl rfl rfl _) (fun a hA => ?_); refine W_nil (then_nrm ?_); show Code.wp Tryz.prog _ _ _ _; refine wp_cond_split (hA.ev (x := .tmp 230) rfl) (fun c34 => ?_) (fun c34 => ?_)
              · skip
                refine wp_seq (wp_region_list ?_); refine W_val hA rfl _ rfl (by decide) _ _ (R_row hA rfl rfl II Tryz.underlying23 (size_insB _)) (fun a hA => ?_); refine W_val hA rfl _ rfl (by decide) _ _ (R_mov hA rfl rfl _) (fun a hA => ?_); refine W_val hA rfl _ rfl (by decide) _ _ (R_build (ps := [(0, .const (.int .i64 2)), (2, .tmp 231), (1, .tmp 232)]) hA rfl [(0, .int .i64 2), (2, insV _), (1, str _)] rfl (bld_l2l _ _) _) (fun a hA => ?_); refine W_cpLn hA rfl rfl rfl rfl rfl RR (fun w28 hT HN => ?_); replace HB := HB.trans (hT.bel _ gRR); replace II := hT.insB II (by omega); replace RR := HN; clear hT HN; refine W_nil (then_nrm ?_); show Code.wp Tryz.prog _ _ _ _; refine wp_ret ?_; refine then_ret ?_
                have eD := said_7 h0T hmk hli hla hraw (par_n c24) (aim_y hk c25 c26 (.inr c31) c32 c34)
                refine ret_ln (j := 2) (by kernel_rfl) hA rfl RR ⟨none, 0, ?_, ?_, HB⟩
                · rw [eD]; rfl
                · rw [eD]; trivial
              refine wp_skip ?_; refine then_nrm ?_
              exact ⟨hA.re (sa rfl (sa rfl (sn))), HB, RR, aim_n6 c32 c34⟩
            (iterate 10 refine W_gskip hA rfl rfl rfl _ rfl (by decide) fun a hA => ?_); refine W_val hA rfl _ rfl (by decide) _ _ (R_pick hA rfl rfl rfl _) (fun a hA => ?_); refine W_nil (then_nrm ?_); show Code.wp Tryz.prog _ _ _ _; refine wp_cond_false (hA.ev (x := .tmp 230) rfl) ?_; refine wp_skip ?_; refine then_nrm ?_
            exact ⟨hA.re (sa rfl (sa rfl (sn))), HB, RR, aim_n5 c32 c33⟩
          (iterate 3 refine W_gskip hA rfl rfl rfl _ rfl (by decide) fun a hA => ?_); refine W_val hA rfl _ rfl (by decide) _ _ (R_pick hA rfl rfl rfl _) (fun a hA => ?_); refine W_val hA rfl _ rfl (by decide) _ _ (R_mov hA rfl rfl _) (fun a hA => ?_); (iterate 10 refine W_gskip hA rfl rfl rfl _ rfl (by decide) fun a hA => ?_); refine W_val hA rfl _ rfl (by decide) _ _ (R_pick hA rfl rfl rfl _) (fun a hA => ?_); refine W_nil (then_nrm ?_); show Code.wp Tryz.prog _ _ _ _; refine wp_cond_false (hA.ev (x := .tmp 230) rfl) ?_; refine wp_skip ?_; refine then_nrm ?_
          exact ⟨hA.re (sa rfl (sa rfl (sn))), HB, RR, aim_n4 c32⟩
        refine wp_skip ?_; refine then_nrm ?_
        exact ⟨hA.re (sa rfl (sa rfl (sn))), HB, RR, aim_n3 hk c27 c31⟩
      (iterate 3 refine W_gskip hA rfl rfl rfl _ rfl (by decide) fun a hA => ?_); (iterate 2 refine W_gskipU hA rfl rfl rfl _ rfl (by decide) fun a hA => ?_); refine W_gskip hA rfl rfl rfl _ rfl (by decide) (fun a hA => ?_); refine W_val hA rfl _ rfl (by decide) _ _ (R_pick hA rfl rfl rfl _) (fun a hA => ?_); refine W_nil (then_nrm ?_); show Code.wp Tryz.prog _ _ _ _; refine wp_cond_false (hA.ev (x := .tmp 206) rfl) ?_; refine wp_skip ?_; refine then_nrm ?_
      exact ⟨hA.re (sa rfl (sa rfl (sn))), HB, RR, aim_n2 c26⟩
    (iterate 2 refine W_gskip hA rfl rfl rfl _ rfl (by decide) fun a hA => ?_); refine W_val hA rfl _ rfl (by decide) _ _ (R_pick hA rfl rfl rfl _) (fun a hA => ?_); refine W_val hA rfl _ rfl (by decide) _ _ (R_mov hA rfl rfl _) (fun a hA => ?_); (iterate 3 refine W_gskip hA rfl rfl rfl _ rfl (by decide) fun a hA => ?_); (iterate 2 refine W_gskipU hA rfl rfl rfl _ rfl (by decide) fun a hA => ?_); refine W_gskip hA rfl rfl rfl _ rfl (by decide) (fun a hA => ?_); refine W_val hA rfl _ rfl (by decide) _ _ (R_pick hA rfl rfl rfl _) (fun a hA => ?_); refine W_nil (then_nrm ?_); show Code.wp Tryz.prog _ _ _ _; refine wp_cond_false (hA.ev (x := .tmp 206) rfl) ?_; refine wp_skip ?_; refine then_nrm ?_
    exact ⟨hA.re (sa rfl (sa rfl (sn))), HB, RR, aim_n1 c25⟩
  obtain ⟨hA, HB, RR, haim⟩ := h
  refine wp_seq (wp_region_list ?_); refine W_val hA rfl _ rfl (by decide) _ _ (R_build (ps := [(0, .const (.int .i64 6))]) hA rfl [(0, .int .i64 6)] rfl bld_l6 _) (fun a hA => ?_); refine W_cpLn hA rfl rfl rfl rfl rfl RR (fun w29 hT HN => ?_); replace HB := HB.trans (hT.bel _ gRR); replace RR := HN; clear hT HN; refine W_nil (then_nrm ?_); show Code.wp Tryz.prog _ _ _ _; refine wp_ret ?_
  have eD := said_6 h0T hmk hli hla hraw (par_n c24) haim
  refine ret_ln (j := 2) (by kernel_rfl) hA rfl RR ⟨none, 0, ?_, ?_, HB⟩
  · rw [eD]; rfl
  · rw [eD]; trivial
end Go.Proofs.YtakdhdaoklcidaaGreatDoor

namespace Go.Proofs.YtakdhdaoklcidaaGreatDoor
open Go.RowKit
set_option linter.unusedVariables false
set_option maxRecDepth 100000
theorem fr9_2 (b : Nat) (w : World) : (Instr.fieldAt 59 (.pointer (some ⟨b, 0, none⟩)) 2).run Tryz.prog w = .ok (.pointer (some ⟨b, 2, none⟩)) w := by kernel_rfl
theorem ag_w9 (w : World) : (isAgg 43).run Tryz.prog w = .ok false w := by kernel_rfl
theorem mark_f9 (s : Nat) : markZ false s = 0 := rfl
theorem put_none9 {k : Nat} {n : Int} (h : k = 0) : putF k n = 0 := by subst h; unfold putF; rw [word0]; split <;> rfl
section
variable {Q : Exit → Act → World → Prop} {w : World} {ops : Array Oper} {rest : List Oper} {o : Oper} {a : Act} {l : List (Nat × Value)} {n d : Nat}
theorem R_cv39 (hA : FrA l n a) {x : Operand} (ho : o.op = .convert 3 43 x) {u : Int} (hu : 0 ≤ u ∧ u < 4294967296) (hx : evL l x = some (.int .i64 u)) (w : World) : (execOp a.eval o).run Tryz.prog w = .ok (.value (.int .u32 u)) w := by
  have e : IntKind.u32.wrap u = u := by simp [IntKind.wrap, IntKind.bits, IntKind.signed]; omega
  unfold execOp; simp only [ho, hA.ev hx]; simp [go_sem, e]
theorem R_shl9 (hA : FrA l n a) {x y : Operand} (ho : o.op = .binOp .shl 43 x y 75) {u : Int} (k : Nat) (c : Int) (hk : k ≤ 32) (hc : (2 : Int) ^ k = c) (hu : 0 ≤ u ∧ u * c < 4294967296) (hx : evL l x = some (.int .u32 u)) (hy : evL l y = some (.int .u64 (k : Int))) (w : World) : (execOp a.eval o).run Tryz.prog w = .ok (.value (.int .u32 (u * c))) w := by
  have h0 : 0 ≤ u * c := by rw [← hc]; exact Int.mul_nonneg hu.1 (Int.pow_nonneg (by decide))
  have e : IntKind.u32.wrap (u * c) = u * c := by simp [IntKind.wrap, IntKind.bits, IntKind.signed]; omega
  unfold execOp; simp only [ho, hA.ev hx, hA.ev hy]; simp [go_sem, Nat.min_eq_left hk, hc, e]
theorem R_or9 (hA : FrA l n a) {x y : Operand} (ho : o.op = .binOp .or 43 x y 43) {u v : Int} (hx : evL l x = some (.int .u32 u)) (hy : evL l y = some (.int .u32 v)) (w : World) : (execOp a.eval o).run Tryz.prog w = .ok (.value (.int .u32 (bits .or .u32 u v))) w := by
  unfold execOp; simp only [ho, hA.ev hx, hA.ev hy]; simp [go_sem]
theorem R_ext9 (hA : FrA l n a) {x : Operand} {i : Nat} (ho : o.op = .extract x i) {vs : Array Value} {v : Value} (hx : evL l x = some (.tuple vs)) (hv : vs[i]? = some v) (w : World) : (execOp a.eval o).run Tryz.prog w = .ok (.value v) w := by
  unfold execOp; simp only [ho, hA.ev hx]; simp [go_sem, Instr.extract, hv]
theorem ret_two9 {fn : Func} {R : Ending → World → Prop} {i j : Nat} {u v : Value} (hr : fn.results = #[.tmp i, .tmp j]) (hA : FrA l n a) (hu : l.lookup i = some u) (hv : l.lookup j = some v) (hR : R (.returned (.tuple #[u, v])) w) : bodyPost Tryz.prog fn R .ret a w := by
  refine bodyPost_ret (v := .tuple #[u, v]) ?_ hA.df hR
  have e1 : a.tmps.getD i undef = u := hA.get _ _ hu
  have e2 : a.tmps.getD j undef = v := hA.get _ _ hv
  rw [Array.getD_eq_getD_getElem?] at e1 e2
  simp [results, hr, go_sem, e1, e2]
end
set_option maxHeartbeats 8000000 in
theorem renc_walk (op k : Nat) (hk : k < 15) (i : Ins) (hin : (0 ≤ i.rd ∧ i.rd ≤ 31) ∧ (0 ≤ i.a ∧ i.a ≤ 31) ∧ (0 ≤ i.b ∧ i.b ≤ 31) ∧ (0 ≤ i.csr ∧ i.csr ≤ 4095)) (him : ((formL (frm k).imm).number ((formL (frm k).imm).word i.imm) == i.imm) = true) (W : Int) (hfin : (bits .or .u32 (bits .or .u32 (bits .or .u32 (bits .or .u32 (bits .or .u32 (bits .or .u32 (bits .or .u32 (matT op) (i.rd * 128)) (i.a * 32768)) (i.b * 1048576)) (i.csr * 1048576)) (markZ i.aq 26)) (markZ i.rl 25)) (putF (frm k).imm i.imm)) = W)
    (hR : ∀ w, Calls Tryz.prog 30 #[.agg (rowI9 i)] w fun e w' => e = .returned (.bool true) ∧ Below w.heap.size w w')
    (hRow : ∀ w, Calls Tryz.prog 31 #[.int .i64 i.op] w fun e w' => e = .returned (.agg (rowR9 op k)) ∧ Below w.heap.size w w') (w : World) :
    Calls Tryz.prog 51 #[.agg (rowI9 i)] w fun e w' => e = .returned (.tuple #[.int .u32 W, .int .i64 0]) ∧ Below w.heap.size w w' := by
  go_enter Tryz.func51, Tryz.ntmps51
  refine begin_fr [(0, .agg (rowI9 i))] 65 ?_ (fun a hA => ?_)
  · exact FrA.add (FrA.nil (by rfl) (by rfl)) 0 _ (by rfl)
  refine wp_seq (wp_region_list ?_); refine W_boxIn9 hA rfl 1 rfl (by decide) rfl rfl (fun w0 bI a hA HB II gI => ?_); (iterate 2 refine W_val hA rfl _ rfl (by decide) _ _ (R_asg hA rfl rfl _) fun a hA => ?_); refine W_nil (then_nrm ?_); show Code.wp Tryz.prog _ _ _ _; refine wp_seq ?_; refine wp_seq (wp_region_list ?_); refine W_val hA rfl _ rfl (by decide) _ _ (R_row hA rfl rfl II Tryz.underlying23 (by kernel_rfl)) (fun a hA => ?_); refine W_callA hA (by decide) (fun _ _ => by kernel_rfl) (args1 hA rfl) (hR _) (fun w1 hw a hA => ?_); replace II := (hw.block _ (Array.getElem?_eq_some_iff.1 II).1).trans II; replace HB := HB.trans (hw.mono HB.size); clear hw; refine W_val hA rfl _ rfl (by decide) _ _ (R_not hA rfl rfl _) (fun a hA => ?_); refine W_nil (then_nrm ?_); show Code.wp Tryz.prog _ _ _ _; refine wp_cond_false (hA.ev (x := .tmp 10) rfl) ?_; refine wp_skip ?_; refine then_nrm ?_; show Code.wp Tryz.prog _ _ _ _; refine wp_seq (wp_region_list ?_); refine W_val hA rfl _ rfl (by decide) _ _ (R_fa hA rfl rfl (fun w => fi9_0 _ w) _) (fun a hA => ?_); refine W_val hA rfl _ rfl (by decide) _ _ (R_ld hA rfl rfl ag_int9 (cell9 II 0 rfl)) (fun a hA => ?_); refine W_callA hA (by decide) (fun _ _ => by kernel_rfl) (args1 hA rfl) (hRow _) (fun w2 hw a hA => ?_); replace II := (hw.block _ (Array.getElem?_eq_some_iff.1 II).1).trans II; replace HB := HB.trans (hw.mono HB.size); clear hw; refine W_allocRow hA rfl 4 rfl (by decide) rfl (fun w3 bR a hA hb RR gR => ?_)
  have hne : ¬ bI = bR := by have := (Array.getElem?_eq_some_iff.1 II).1; omega
  replace gR := Nat.le_trans HB.size gR; replace II := (hb.block _ (Array.getElem?_eq_some_iff.1 II).1).trans II; replace HB := HB.trans (hb.mono HB.size); clear hb; refine W_cpRow hA rfl rfl rfl rfl rfl RR rfl (fun w5 hb ho HN => ?_); replace II := (ho _ hne).trans II; replace HB := HB.trans (hb _ gR); replace RR := HN; clear hb ho HN; refine W_nil (then_nrm ?_); show Code.wp Tryz.prog _ _ _ _; refine wp_seq (wp_region_list ?_); refine W_val hA rfl _ rfl (by decide) _ _ (R_fa hA rfl rfl (fun w => fr9_2 _ w) _) (fun a hA => ?_); refine W_val hA rfl _ rfl (by decide) _ _ (R_ld hA rfl rfl ag_w9 (cell9 RR 2 rfl)) (fun a hA => ?_); refine W_val hA rfl _ rfl (by decide) _ _ (R_asg hA rfl rfl _) (fun a hA => ?_); refine W_nil (then_nrm ?_); show Code.wp Tryz.prog _ _ _ _; refine wp_seq (wp_region_list ?_); refine W_val hA rfl _ rfl (by decide) _ _ (R_mov hA rfl rfl _) (fun a hA => ?_); refine W_val hA rfl _ rfl (by decide) _ _ (R_fa hA rfl rfl (fun w => fi9_1 _ w) _) (fun a hA => ?_); refine W_val hA rfl _ rfl (by decide) _ _ (R_ld hA rfl rfl ag_int9 (cell9 II 1 rfl)) (fun a hA => ?_); refine W_val hA rfl _ rfl (by decide) _ _ (R_cv39 hA rfl (by omega) rfl _) (fun a hA => ?_); refine W_val hA rfl _ rfl (by decide) _ _ (R_shl9 hA rfl 7 128 (by decide) rfl (by omega) rfl rfl _) (fun a hA => ?_); refine W_val hA rfl _ rfl (by decide) _ _ (R_or9 hA rfl rfl rfl _) (fun a hA => ?_); refine W_val hA rfl _ rfl (by decide) _ _ (R_asg hA rfl rfl _) (fun a hA => ?_); refine W_nil (then_nrm ?_); show Code.wp Tryz.prog _ _ _ _; refine wp_seq (wp_region_list ?_); refine W_val hA rfl _ rfl (by decide) _ _ (R_mov hA rfl rfl _) (fun a hA => ?_); refine W_val hA rfl _ rfl (by decide) _ _ (R_fa hA rfl rfl (fun w => fi9_2 _ w) _) (fun a hA => ?_); refine W_val hA rfl _ rfl (by decide) _ _ (R_ld hA rfl rfl ag_int9 (cell9 II 2 rfl)) (fun a hA => ?_); refine W_val hA rfl _ rfl (by decide) _ _ (R_cv39 hA rfl (by omega) rfl _) (fun a hA => ?_); refine W_val hA rfl _ rfl (by decide) _ _ (R_shl9 hA rfl 15 32768 (by decide) rfl (by omega) rfl rfl _) (fun a hA => ?_); refine W_val hA rfl _ rfl (by decide) _ _ (R_or9 hA rfl rfl rfl _) (fun a hA => ?_); refine W_val hA rfl _ rfl (by decide) _ _ (R_asg hA rfl rfl _) (fun a hA => ?_); refine W_nil (then_nrm ?_); show Code.wp Tryz.prog _ _ _ _; refine wp_seq (wp_region_list ?_); refine W_val hA rfl _ rfl (by decide) _ _ (R_mov hA rfl rfl _) (fun a hA => ?_); refine W_val hA rfl _ rfl (by decide) _ _ (R_fa hA rfl rfl (fun w => fi9_3 _ w) _) (fun a hA => ?_); refine W_val hA rfl _ rfl (by decide) _ _ (R_ld hA rfl rfl ag_int9 (cell9 II 3 rfl)) (fun a hA => ?_); refine W_val hA rfl _ rfl (by decide) _ _ (R_cv39 hA rfl (by omega) rfl _) (fun a hA => ?_); refine W_val hA rfl _ rfl (by decide) _ _ (R_shl9 hA rfl 20 1048576 (by decide) rfl (by omega) rfl rfl _) (fun a hA => ?_); refine W_val hA rfl _ rfl (by decide) _ _ (R_or9 hA rfl rfl rfl _) (fun a hA => ?_); refine W_val hA rfl _ rfl (by decide) _ _ (R_asg hA rfl rfl _) (fun a hA => ?_); refine W_nil (then_nrm ?_)
  show Code.wp Tryz.prog _ _ _ _; refine wp_seq (wp_region_list ?_); refine W_val hA rfl _ rfl (by decide) _ _ (R_mov hA rfl rfl _) (fun a hA => ?_); refine W_val hA rfl _ rfl (by decide) _ _ (R_fa hA rfl rfl (fun w => fi9_5 _ w) _) (fun a hA => ?_); refine W_val hA rfl _ rfl (by decide) _ _ (R_ld hA rfl rfl ag_int9 (cell9 II 5 rfl)) (fun a hA => ?_); refine W_val hA rfl _ rfl (by decide) _ _ (R_cv39 hA rfl (by omega) rfl _) (fun a hA => ?_); refine W_val hA rfl _ rfl (by decide) _ _ (R_shl9 hA rfl 20 1048576 (by decide) rfl (by omega) rfl rfl _) (fun a hA => ?_); refine W_val hA rfl _ rfl (by decide) _ _ (R_or9 hA rfl rfl rfl _) (fun a hA => ?_); refine W_val hA rfl _ rfl (by decide) _ _ (R_asg hA rfl rfl _) (fun a hA => ?_); refine W_nil (then_nrm ?_); show Code.wp Tryz.prog _ _ _ _; refine wp_seq (wp_merge9 (fun a' w' => FrA [(5, .int .u32 (bits .or .u32 (bits .or .u32 (bits .or .u32 (bits .or .u32 (bits .or .u32 (matT op) (i.rd * 128)) (i.a * 32768)) (i.b * 1048576)) (i.csr * 1048576)) (markZ i.aq 26))), (4, .pointer (some ⟨bR, 0, none⟩)), (1, .pointer (some ⟨bI, 0, none⟩))] 65 a' ∧ Below w.heap.size w w' ∧ w'.heap[bI]? = some (.cells (rowI9 i) 23 (0, 0)) ∧ w'.heap[bR]? = some (.cells (rowR9 op k) 59 (0, 0))) ?_ (fun a w9 h => ?_))
  · skip
    refine wp_seq (wp_region_list ?_); refine W_val hA rfl _ rfl (by decide) _ _ (R_fa hA rfl rfl (fun w => fi9_6 _ w) _) (fun a hA => ?_); refine W_val hA rfl _ rfl (by decide) _ _ (R_ld hA rfl rfl ag_bool (cell9 II 6 rfl)) (fun a hA => ?_); refine W_nil (then_nrm ?_); show Code.wp Tryz.prog _ _ _ _; refine wp_cond_split (hA.ev (x := .tmp 41) rfl) (fun c1 => ?_) (fun c1 => ?_)
    · skip
      refine wp_region_list ?_; refine W_val hA rfl _ rfl (by decide) _ _ (R_mov hA rfl rfl _) (fun a hA => ?_); refine W_val hA rfl _ rfl (by decide) _ _ (R_or9 hA rfl rfl rfl _) (fun a hA => ?_); refine W_val hA rfl _ rfl (by decide) _ _ (R_asg hA rfl rfl _) (fun a hA => ?_); refine W_nil ?_; refine then_nrm ?_
      exact ⟨FrA.add (hA.re (sa rfl (sa rfl (sn)))) 5 _ ((hA.get 5 _ rfl).trans (congrArg (Value.int .u32) (by rw [c1]; rfl))), HB, II, RR⟩
    refine wp_skip ?_; refine then_nrm ?_
    exact ⟨FrA.add (hA.re (sa rfl (sa rfl (sn)))) 5 _ ((hA.get 5 _ rfl).trans (congrArg (Value.int .u32) (by rw [c1, mark_f9, or_zero32 (or_in _ _)]))), HB, II, RR⟩
  clear HB II RR hA
  obtain ⟨hA, HB, II, RR⟩ := h
  refine wp_seq (wp_merge9 (fun a' w' => FrA [(5, .int .u32 (bits .or .u32 (bits .or .u32 (bits .or .u32 (bits .or .u32 (bits .or .u32 (bits .or .u32 (matT op) (i.rd * 128)) (i.a * 32768)) (i.b * 1048576)) (i.csr * 1048576)) (markZ i.aq 26)) (markZ i.rl 25))), (4, .pointer (some ⟨bR, 0, none⟩)), (1, .pointer (some ⟨bI, 0, none⟩))] 65 a' ∧ Below w.heap.size w w' ∧ w'.heap[bI]? = some (.cells (rowI9 i) 23 (0, 0)) ∧ w'.heap[bR]? = some (.cells (rowR9 op k) 59 (0, 0))) ?_ (fun a w9 h => ?_))
  · skip
    refine wp_seq (wp_region_list ?_); refine W_val hA rfl _ rfl (by decide) _ _ (R_fa hA rfl rfl (fun w => fi9_7 _ w) _) (fun a hA => ?_); refine W_val hA rfl _ rfl (by decide) _ _ (R_ld hA rfl rfl ag_bool (cell9 II 7 rfl)) (fun a hA => ?_); refine W_nil (then_nrm ?_); show Code.wp Tryz.prog _ _ _ _; refine wp_cond_split (hA.ev (x := .tmp 45) rfl) (fun c2 => ?_) (fun c2 => ?_)
    · skip
      refine wp_region_list ?_; refine W_val hA rfl _ rfl (by decide) _ _ (R_mov hA rfl rfl _) (fun a hA => ?_); refine W_val hA rfl _ rfl (by decide) _ _ (R_or9 hA rfl rfl rfl _) (fun a hA => ?_); refine W_val hA rfl _ rfl (by decide) _ _ (R_asg hA rfl rfl _) (fun a hA => ?_); refine W_nil ?_; refine then_nrm ?_
      exact ⟨FrA.add (hA.re (sa rfl (sa rfl (sn)))) 5 _ ((hA.get 5 _ rfl).trans (congrArg (Value.int .u32) (by rw [c2]; rfl))), HB, II, RR⟩
    refine wp_skip ?_; refine then_nrm ?_
    exact ⟨FrA.add (hA.re (sa rfl (sa rfl (sn)))) 5 _ ((hA.get 5 _ rfl).trans (congrArg (Value.int .u32) (by rw [c2, mark_f9, or_zero32 (or_in _ _)]))), HB, II, RR⟩
  clear HB II RR hA
  obtain ⟨hA, HB, II, RR⟩ := h
  refine wp_seq (wp_merge9 (fun a' w' => FrA [(5, .int .u32 (bits .or .u32 (bits .or .u32 (bits .or .u32 (bits .or .u32 (bits .or .u32 (bits .or .u32 (bits .or .u32 (matT op) (i.rd * 128)) (i.a * 32768)) (i.b * 1048576)) (i.csr * 1048576)) (markZ i.aq 26)) (markZ i.rl 25)) (putF (frm k).imm i.imm))), (4, .pointer (some ⟨bR, 0, none⟩)), (1, .pointer (some ⟨bI, 0, none⟩))] 65 a' ∧ Below w.heap.size w w' ∧ w'.heap[bI]? = some (.cells (rowI9 i) 23 (0, 0)) ∧ w'.heap[bR]? = some (.cells (rowR9 op k) 59 (0, 0))) ?_ (fun a w9 h => ?_))
  · skip
    refine wp_seq (wp_region_list ?_); refine W_val hA rfl _ rfl (by decide) _ _ (R_fa hA rfl rfl (fun w => fr9_3 _ w) _) (fun a hA => ?_); refine W_val hA rfl _ rfl (by decide) _ _ (R_ld hA rfl rfl ag_u8 (cell9 RR 3 rfl)) (fun a hA => ?_); refine W_callA hA (by decide) (fun _ _ => by kernel_rfl) (args1 hA rfl) (refForm_any k hk _) (fun w4 hw a hA => ?_); subst hw; refine W_val hA rfl _ rfl (by decide) _ _ (R_gtrI9 hA rfl rfl rfl _) (fun a hA => ?_); refine W_nil (then_nrm ?_); show Code.wp Tryz.prog _ _ _ _; refine wp_cond_split (hA.ev (x := .tmp 51) rfl) (fun c3 => ?_) (fun c3 => ?_)
    · skip
      have hpos : 1 ≤ (frm k).imm := by have := of_decide_eq_true c3; omega
      refine wp_seq ?_; refine wp_region_held_drew (S := fun wx => Below w9.heap.size w9 wx) (by kernel_rfl) ((Below.refl _ _).drew) (fun hS => ?_); refine takeF (i := 0) hA 53 rfl rfl (by decide) rfl (by kernel_rfl) (by kernel_rfl) (by kernel_rfl) (fun _ _ _ h => h) hS (fun wx hx => R_fa hA rfl rfl (fun w => fr9_3 _ w) _) (fun a hA => ?_); refine takeF (i := 1) hA 54 rfl rfl (by decide) rfl (by kernel_rfl) (by kernel_rfl) (by kernel_rfl) (fun _ _ _ h => h) hS (fun wx hx => R_ld hA rfl rfl ag_u8 (cell9 ((hx.block _ (Array.getElem?_eq_some_iff.1 RR).1).trans RR) 3 rfl)) (fun a hA => ?_); refine takeF (i := 3) hA 56 rfl rfl (by decide) rfl (by kernel_rfl) (by kernel_rfl) (by kernel_rfl) (fun _ _ _ h => h) hS (fun wx hx => R_fa hA rfl rfl (fun w => fi9_4 _ w) _) (fun a hA => ?_); refine takeF (i := 4) hA 57 rfl rfl (by decide) rfl (by kernel_rfl) (by kernel_rfl) (by kernel_rfl) (fun _ _ _ h => h) hS (fun wx hx => R_ld hA rfl rfl ag_j9 (cell9 ((hx.block _ (Array.getElem?_eq_some_iff.1 II).1).trans II) 4 rfl)) (fun a hA => ?_); refine wpAnyH_ready (rs := [2]) (by kernel_rfl) (by simp) (ready_callS (i := 2) hA (by decide) rfl (fun _ _ => by kernel_rfl) (args1 hA rfl) (refForm_any k hk _) (fun _ h => h ▸ hS) (fun w5 hw a hA => ?_) AllReadyH.nil); subst hw; refine wpAnyH_ready (rs := [5]) (by kernel_rfl) (by simp) (ready_callS (i := 5) hA (by decide) rfl (fun _ _ => by kernel_rfl) (args2 hA rfl rfl) (refPut_form_yes (frm k).imm ⟨hpos, form9 k hk⟩ i.imm him _) (fun _ h => hS.trans (h.mono hS.size)) (fun w6 hw a hA => ?_) AllReadyH.nil); replace hS := hS.trans (hw.mono hS.size); clear hw; refine takeF (i := 6) hA 52 rfl rfl (by decide) rfl (by kernel_rfl) (by kernel_rfl) (by kernel_rfl) (fun _ _ _ h => h) hS (fun wx hx => R_mov hA rfl rfl _) (fun a hA => ?_); refine takeF (i := 7) hA 59 rfl rfl (by decide) rfl (by kernel_rfl) (by kernel_rfl) (by kernel_rfl) (fun _ _ _ h => h) hS (fun wx hx => R_ext9 hA rfl rfl rfl _) (fun a hA => ?_); refine takeF (i := 8) hA 60 rfl rfl (by decide) rfl (by kernel_rfl) (by kernel_rfl) (by kernel_rfl) (fun _ _ _ h => h) hS (fun wx hx => R_ext9 hA rfl rfl rfl _) (fun a hA => ?_); refine takeF (i := 9) hA 6 rfl rfl (by decide) rfl (by kernel_rfl) (by kernel_rfl) (by kernel_rfl) (fun _ _ _ h => h) hS (fun wx hx => R_asg hA rfl rfl _) (fun a hA => ?_); refine takeF (i := 10) hA 7 rfl rfl (by decide) rfl (by kernel_rfl) (by kernel_rfl) (by kernel_rfl) (fun _ _ _ h => h) hS (fun wx hx => R_asg hA rfl rfl _) (fun a hA => ?_); refine wpAnyH_done (by kernel_rfl) ?_ _; replace II := (hS.block _ (Array.getElem?_eq_some_iff.1 II).1).trans II; replace RR := (hS.block _ (Array.getElem?_eq_some_iff.1 RR).1).trans RR; replace HB := HB.trans (hS.mono HB.size); clear hS; refine then_nrm ?_; show Code.wp Tryz.prog _ _ _ _; refine wp_region_list ?_; (iterate 2 refine W_val hA rfl _ rfl (by decide) _ _ (R_mov hA rfl rfl _) fun a hA => ?_); refine W_val hA rfl _ rfl (by decide) _ _ (R_or9 hA rfl rfl rfl _) (fun a hA => ?_); refine W_val hA rfl _ rfl (by decide) _ _ (R_asg hA rfl rfl _) fun a hA => ?_
      refine W_nil ?_; refine then_nrm ?_
      exact ⟨FrA.add (hA.re (sa rfl (sa rfl (sn)))) 5 _ ((hA.get 5 _ rfl).trans (congrArg (Value.int .u32) (by unfold putF; rw [if_pos him]))), HB, II, RR⟩
    refine wp_skip ?_; refine then_nrm ?_
    exact ⟨FrA.add (hA.re (sa rfl (sa rfl (sn)))) 5 _ ((hA.get 5 _ rfl).trans (congrArg (Value.int .u32) (by rw [put_none9 (by have := of_decide_eq_false c3; omega), or_zero32 (or_in _ _)]))), HB, II, RR⟩
  clear HB II RR hA
  obtain ⟨hA, HB, II, RR⟩ := h
  refine wp_seq (wp_region_list ?_); refine W_val hA rfl _ rfl (by decide) _ _ (R_mov hA rfl rfl _) (fun a hA => ?_); (iterate 2 refine W_val hA rfl _ rfl (by decide) _ _ (R_asg hA rfl rfl _) fun a hA => ?_); refine W_nil (then_nrm ?_); show Code.wp Tryz.prog _ _ _ _; refine wp_ret ?_
  exact ret_two9 (i := 2) (j := 3) (by kernel_rfl) hA rfl rfl ⟨by rw [hfin], HB⟩
theorem renc_yes (k : Nat) (i : Ins) (h : RightT k i) (w : World) :
    Calls Tryz.prog 51 #[.agg (rowI9 i)] w fun e w' => e = .returned (.tuple #[.int .u32 (wordI (matT k) (fT k) i), .int .i64 0]) ∧ Below w.heap.size w w' := by
  obtain ⟨h1, h2, h3, hr⟩ := h
  refine renc_walk k (frmT k) (tab_form k (by omega) h1) i ⟨hr.rd, hr.a, hr.b, hr.csr⟩ (by have := hr.imm; exact beq_iff_eq.2 this) _ (wD_word i hr) (fun w => ?_) (fun w => ?_) w
  · exact refRight_any k h1 h2 i h3 true (by simp [hr]) w
  · rw [h3]; exact refRow_any k h1 h2 w
end Go.Proofs.YtakdhdaoklcidaaGreatDoor

namespace Go.Proofs.YtakdhdaoklcidaaGreatDoor
open Go.RowKit Go.Lib
set_option linter.unusedVariables false
set_option maxRecDepth 100000
section
variable {ops : Array Oper} {md : Region.Mode} {Q : Exit → Act → World → Prop} {S : World → Prop} {l : List (Nat × Value)} {n : Nat} {fuel : Nat} {listed : Array Bool} {a : Act} {w : World}
theorem takeFs {i : Nat} {oi : Oper} {v : Value} {j dj : Nat} {want : Bool} (hA : FrA l n a) (d : Nat) (hi : ops[i]? = some oi) (hd : oi.dst = some d) (hdn : d < n) (hg : oi.guard = some (j, want)) (hdj : ((ops[j]?).bind (·.dst)) = some dj) (hq : l.lookup dj = some (.bool want))
    (hs : Region.noSelect ops = true) (hf : Region.free md ops listed i = true) (hr : (Region.ready md ops listed).contains i = true)
    (hQ : ∀ c a w, Q (.panic c) (a.put (some d) v) w → Q (.panic c) a w) (hS : S w) (hy : ∀ w, S w → (execOp a.eval oi).run Tryz.prog w = .ok (.value v) w)
    (h : ∀ a', FrA ((d, v) :: l) n a' → wpAnyH Tryz.prog md ops Q S fuel (listed.setIfInBounds i true) a' w) : wpAnyH Tryz.prog md ops Q S (fuel + 1) listed a w :=
  takeD (some d) hi hd hs hf hr hQ (by rw [wanted_g hA hg hdj hq]; simp) hS hy (h _ (hA.put hdn v))
theorem skipFs {i : Nat} {oi : Oper} {j dj : Nat} {want : Bool} (hA : FrA l n a) (d : Nat) (hi : ops[i]? = some oi) (hd : oi.dst = some d) (hdn : d < n) (hg : oi.guard = some (j, want)) (hdj : ((ops[j]?).bind (·.dst)) = some dj) (hq : l.lookup dj = some (.bool !want))
    (hs : Region.noSelect ops = true) (hf : Region.free md ops listed i = true) (hr : (Region.ready md ops listed).contains i = true)
    (hQ : ∀ c a w, Q (.panic c) (a.put (some d) undef) w → Q (.panic c) a w) (hS : S w)
    (h : ∀ a', FrA ((d, undef) :: l) n a' → wpAnyH Tryz.prog md ops Q S fuel (listed.setIfInBounds i true) a' w) : wpAnyH Tryz.prog md ops Q S (fuel + 1) listed a w :=
  skipD (some d) hi hd hs hf hr hQ (by rw [wanted_g hA hg hdj hq]; cases want <;> rfl) hS (h _ (hA.put hdn undef))
theorem ready_valW {i : Nat} {oi : Oper} {v : Value} {w' : World} {rs : List Nat} (hA : FrA l n a) (d : Nat) (hi : ops[i]? = some oi) (hd : oi.dst = some d) (hdn : d < n) (hg : oi.guard = none) (hS : S w') (hy : (execOp a.eval oi).run Tryz.prog w = .ok (.value v) w')
    (h : ∀ a', FrA ((d, v) :: l) n a' → wpAnyH Tryz.prog md ops Q S fuel (listed.setIfInBounds i true) a' w') (hrs : AllReadyH Tryz.prog md ops Q S fuel listed a w rs) : AllReadyH Tryz.prog md ops Q S fuel listed a w (i :: rs) :=
  AllReadyH.cons hi (fun K hK => by
    simp only [Region.wanted, hg, if_true]
    unfold Oper.wp
    rw [hy, Oper.upon_value, hd]
    exact hK.out _ _ hS (fun _ => h _ (hA.put hdn v))) hrs
end
section
variable {Q : Exit → Act → World → Prop} {w : World} {ops : Array Oper} {rest : List Oper} {o : Oper} {a : Act} {l : List (Nat × Value)} {n d : Nat}
theorem R_eqlIT (hA : FrA l n a) {x y : Operand} (ho : o.op = .binOp .eql 3 x y 3) {u v : Int} (hx : evL l x = some (.int .i64 u)) (hy : evL l y = some (.int .i64 v)) (q : Bool) (hq : (u == v) = q) (w : World) : (execOp a.eval o).run Tryz.prog w = .ok (.value (.bool q)) w := by
  subst hq; unfold execOp; simp only [ho, hA.ev hx, hA.ev hy]; simp [go_sem]
theorem R_neqIT (hA : FrA l n a) {x y : Operand} (ho : o.op = .binOp .neq 3 x y 3) {u v : Int} (hx : evL l x = some (.int .i64 u)) (hy : evL l y = some (.int .i64 v)) (q : Bool) (hq : (!(u == v)) = q) (w : World) : (execOp a.eval o).run Tryz.prog w = .ok (.value (.bool q)) w := by
  subst hq; unfold execOp; simp only [ho, hA.ev hx, hA.ev hy]; simp [go_sem]; try rfl
theorem R_eqlLT (hA : FrA l n a) {x y : Operand} (ho : o.op = .binOp .eql 9 x y 9) {u v : Bs} (hx : evL l x = some (str u)) (hy : evL l y = some (str v)) (q : Bool) (hq : (u == v) = q) (w : World) : (execOp a.eval o).run Tryz.prog w = .ok (.value (.bool q)) w := by
  subst hq; exact R_eqlL hA ho hx hy w
theorem R_neqLT (hA : FrA l n a) {x y : Operand} (ho : o.op = .binOp .neq 9 x y 9) {u v : Bs} (hx : evL l x = some (str u)) (hy : evL l y = some (str v)) (q : Bool) (hq : (!(u == v)) = q) (w : World) : (execOp a.eval o).run Tryz.prog w = .ok (.value (.bool q)) w := by
  subst hq; exact R_neqL hA ho hx hy w
theorem R_rem4 (hA : FrA l n a) {x y : Operand} (ho : o.op = .binOp .rem 36 x y 36) {u : Int} (h0 : 0 ≤ u ∧ u < 18446744073709551616) (hx : evL l x = some (.int .u64 u)) (hy : evL l y = some (.int .u64 4)) (w : World) : (execOp a.eval o).run Tryz.prog w = .ok (.value (.int .u64 (u % 4))) w := by
  have e : Int.tmod u 4 = u % 4 := Int.tmod_eq_emod_of_nonneg h0.1
  have e2 : IntKind.u64.wrap (u % 4) = u % 4 := by rw [IntKind.wrap_u64]; omega
  unfold execOp; simp only [ho, hA.ev hx, hA.ev hy]; simp [go_sem, e, e2]
theorem R_subU (hA : FrA l n a) {x y : Operand} (ho : o.op = .binOp .sub 36 x y 36) {u v : Int} (hx : evL l x = some (.int .u64 u)) (hy : evL l y = some (.int .u64 v)) (w : World) : (execOp a.eval o).run Tryz.prog w = .ok (.value (.int .u64 (IntKind.u64.wrap (u - v)))) w := by
  unfold execOp; simp only [ho, hA.ev hx, hA.ev hy]; simp [go_sem]
theorem R_cvUJ (hA : FrA l n a) {x : Operand} (ho : o.op = .convert 36 2 x) {u : Int} (hx : evL l x = some (.int .u64 u)) (w : World) : (execOp a.eval o).run Tryz.prog w = .ok (.value (.int .i64 (wrap64 u))) w := by
  have e : IntKind.i64.wrap u = wrap64 u := by rw [IntKind.wrap_i64]; unfold wrap64; omega
  unfold execOp; simp only [ho, hA.ev hx]; simp [go_sem, e]
theorem R_subJ (hA : FrA l n a) {x y : Operand} (ho : o.op = .binOp .sub 2 x y 2) {u v : Int} (hx : evL l x = some (.int .i64 u)) (hy : evL l y = some (.int .i64 v)) (hin : -9223372036854775808 ≤ u - v ∧ u - v ≤ 9223372036854775807) (w : World) : (execOp a.eval o).run Tryz.prog w = .ok (.value (.int .i64 (u - v))) w := by
  have e : IntKind.i64.wrap (u - v) = u - v := IntWalk.i64_in _ hin
  unfold execOp; simp only [ho, hA.ev hx, hA.ev hy]; simp [go_sem, e]
theorem R_bs (hA : FrA l n a) {T E : TypeId} {len : Nat} {ps : List (Nat × Operand)} (ho : o.op = .buildSlice T len ps.toArray) (vs : List (Nat × Value)) (hv : ps.map (fun p => (p.1, evL l p.2)) = vs.map (fun q => (q.1, some q.2))) (hu : Tryz.prog.underlying T = some (.slice E)) {cs : Array Value} (hf : Tryz.prog.builtSlice E len vs = some cs) (w : World) :
    (execOp a.eval o).run Tryz.prog w = .ok (.value (.slice (some ⟨w.heap.size, 0, none⟩) len len)) (w.alloc (.cells cs E)) := by
  have e := evs hA ps vs hv
  have e2 : (ps.toArray.map fun (i, x) => (i, a.eval x)).toList = vs := by simpa using e
  unfold Program.builtSlice at hf
  cases hie : Tryz.prog.info? E with
  | none => simp [hie] at hf
  | some ie =>
    simp only [hie] at hf
    cases hz : ie.zero with
    | none => simp [hz] at hf
    | some z =>
      simp only [hz] at hf
      by_cases hc : len * ie.size > 2 ^ 24 ∨ len * ie.size = 0
      · simp [hc] at hf
      · rw [if_neg hc] at hf
        have h2 := run_buildSlice (P := Tryz.prog) w T E len (ps.toArray.map fun (i, x) => (i, a.eval x)) cs ie z hu hie hz (fun h' => hc (Or.inl h')) (fun h' => hc (Or.inr h')) (by rw [e2]; exact hf)
        unfold execOp
        simp only [ho]
        simp only [Sem.run_bind, h2, Result.andThen_ok, Sem.run_pure]
theorem R_ap (hA : FrA l n a) {s x : Operand} {t tn : TypeId} (ho : o.op = .call { callee := .builtin .append, args := #[s, x], argTypes := #[t, tn] }) {vs vx : Value} (hs : evL l s = some vs) (hx : evL l x = some vx) {v' : Value} {w' : World} (hr : (Builtin.append_ #[t, tn] o.type #[vs, vx]).run Tryz.prog w = .ok v' w') : (execOp a.eval o).run Tryz.prog w = .ok (.value v') w' := by
  unfold execOp
  simp only [ho, resolve, invoke, builtin, Sem.run_bind, Sem.run_pure, Result.andThen_ok, List.map_toArray, List.map_cons, List.map_nil, hA.ev hs, hA.ev hx, hr]
theorem R_lenIn (hA : FrA l n a) {x : Operand} (ho : o.op = .call { callee := .builtin .len, args := #[x], argTypes := #[33] }) {p : Option Addr} {k c : Nat} (hx : evL l x = some (.slice p k c)) (w : World) : (execOp a.eval o).run Tryz.prog w = .ok (.value (.int .i64 k)) w := by
  unfold execOp
  simp only [ho, resolve, List.map_toArray, List.map_cons, List.map_nil, hA.ev hx, Sem.run_bind, Sem.run_pure, Result.andThen_ok, invoke]
  simp [go_sem, Builtin.len_]
theorem size_InsL (i : Ins) : (Tryz.prog.info? 23).map (·.size) = some (InsC i).toList.length := by kernel_rfl
theorem R_insM (hA : FrA l n a) {x : Operand} (ho : o.op = .load 23 x) {b q : Nat} (hx : evL l x = some (.pointer (some ⟨b, q, none⟩))) {i : Ins} (hr : w.rangeAt b q (InsC i).toList) : (execOp a.eval o).run Tryz.prog w = .ok (.value (insV i)) w := by
  unfold execOp
  simp only [ho, hA.ev hx, Sem.run_bind, Sem.run_pure, Result.andThen_ok, run_loadAt_mid (P := Tryz.prog) w b q 23 (InsC i).toList _ hr Tryz.underlying23 rfl (size_InsL i)]
  rfl
theorem ret_three {fn : Func} {R : Ending → World → Prop} {i j k : Nat} {u v x : Value} (hr : fn.results = #[.tmp i, .tmp j, .tmp k]) (hA : FrA l n a) (hu : l.lookup i = some u) (hv : l.lookup j = some v) (hx : l.lookup k = some x) (hR : R (.returned (.tuple #[u, v, x])) w) : bodyPost Tryz.prog fn R .ret a w := by
  refine bodyPost_ret (v := .tuple #[u, v, x]) ?_ hA.df hR
  have e1 : a.tmps.getD i undef = u := hA.get _ _ hu
  have e2 : a.tmps.getD j undef = v := hA.get _ _ hv
  have e3 : a.tmps.getD k undef = x := hA.get _ _ hx
  rw [Array.getD_eq_getD_getElem?] at e1 e2 e3
  simp [results, hr, go_sem, e1, e2, e3]
end
theorem ix_ins (b n c j : Nat) (hj : j < n) (w : World) : (Instr.indexAt 33 (.slice (some ⟨b, 0, none⟩) n c) (.int .i64 j)).run Tryz.prog w = .ok (.pointer (some ⟨b, j * 8, none⟩)) w := by
  have hs : ∀ w, (sizeOf 23).run Tryz.prog w = .ok 8 w := fun _ => by kernel_rfl
  have ha : ((⟨b, 0, none⟩ : Addr).add (j * 8)) = ⟨b, j * 8, none⟩ := by rw [Addr.add_mid]; simp
  unfold Instr.indexAt
  simp [go_sem, run_underlying Tryz.underlying33, hs, ha, hj]
theorem fl_0 (b : Nat) (w : World) : (Instr.fieldAt 85 (.pointer (some ⟨b, 0, none⟩)) 0).run Tryz.prog w = .ok (.pointer (some ⟨b, 0, none⟩)) w := by kernel_rfl
theorem fl_1 (b : Nat) (w : World) : (Instr.fieldAt 85 (.pointer (some ⟨b, 0, none⟩)) 1).run Tryz.prog w = .ok (.pointer (some ⟨b, 1, none⟩)) w := by kernel_rfl
theorem fl_2 (b : Nat) (w : World) : (Instr.fieldAt 85 (.pointer (some ⟨b, 0, none⟩)) 2).run Tryz.prog w = .ok (.pointer (some ⟨b, 2, none⟩)) w := by kernel_rfl
theorem fl_3 (b : Nat) (w : World) : (Instr.fieldAt 85 (.pointer (some ⟨b, 0, none⟩)) 3).run Tryz.prog w = .ok (.pointer (some ⟨b, 10, none⟩)) w := by kernel_rfl
theorem fl_4 (b : Nat) (w : World) : (Instr.fieldAt 85 (.pointer (some ⟨b, 0, none⟩)) 4).run Tryz.prog w = .ok (.pointer (some ⟨b, 11, none⟩)) w := by kernel_rfl
theorem fl_5 (b : Nat) (w : World) : (Instr.fieldAt 85 (.pointer (some ⟨b, 0, none⟩)) 5).run Tryz.prog w = .ok (.pointer (some ⟨b, 12, none⟩)) w := by kernel_rfl
theorem fi_0 (b : Nat) (w : World) : (Instr.fieldAt 23 (.pointer (some ⟨b, 2, none⟩)) 0).run Tryz.prog w = .ok (.pointer (some ⟨b, 2, none⟩)) w := by kernel_rfl
theorem fi_4 (b : Nat) (w : World) : (Instr.fieldAt 23 (.pointer (some ⟨b, 2, none⟩)) 4).run Tryz.prog w = .ok (.pointer (some ⟨b, 6, none⟩)) w := by kernel_rfl
theorem ag_w (w : World) : (isAgg 43).run Tryz.prog w = .ok false w := by kernel_rfl
theorem ag_sl (w : World) : (isAgg 33).run Tryz.prog w = .ok false w := by kernel_rfl
theorem LnD.cell {w : World} {b : Nat} {d : LD} (h : LnD w b d) (k : Nat) (v : Value) (hv : (lineC d)[k]? = some v) : w.cell? ⟨b, k, none⟩ = some v := by
  rw [Lib.cell_of_heap h]; exact hv
theorem LnD.ins {w : World} {b : Nat} {d : LD} (h : LnD w b d) : w.rangeAt b 2 (InsC d.i).toList := fun j v hv => by
  have hj : j < 8 := (List.getElem?_eq_some_iff.1 hv).1
  refine h.cell (2 + j) v ?_
  rw [← hv]
  match j, hj with
  | 0, _ => rfl
  | 1, _ => rfl
  | 2, _ => rfl
  | 3, _ => rfl
  | 4, _ => rfl
  | 5, _ => rfl
  | 6, _ => rfl
  | 7, _ => rfl
theorem InsAt.row {w : World} {g : Nat} {l : List Ins} (h : InsAt w g l) {k : Nat} {i : Ins} (hk : l[k]? = some i) : w.rangeAt g (k * 8) (InsC i).toList := fun j v hv => by
  have hj : j < 8 := (List.getElem?_eq_some_iff.1 hv).1
  have hkl : k < l.length := (List.getElem?_eq_some_iff.1 hk).1
  rw [h k hkl j hj]
  have e : l.getD k insZ = i := by rw [List.getD_eq_getElem?_getD, hk]; rfl
  rw [e]
  have e2 : (insC i)[j]? = some v := hv
  rw [List.getD_eq_getElem?_getD, e2]; rfl
def LD.imm (d : LD) (x : Int) : LD := { d with i := withImm d.i x }
theorem st_imm {w : World} {b : Nat} {d : LD} (h : LnD w b d) (x : Int) : (storeVar 2 ⟨b, 6, none⟩ (.int .i64 x)).run Tryz.prog w = .ok () (w.setCell ⟨b, 6, none⟩ (.int .i64 x)) := by
  have hc : w.cell? ⟨b, 6, none⟩ = some (.int .i64 d.i.imm) := h.cell 6 _ rfl
  have hf : w.frozen? ⟨b, 6, none⟩ = false := by
    unfold World.frozen?
    have : w.heap[b]? = some (.cells (lineC d) 85 (0, 0)) := h
    simp [this]
  simp [go_sem, storeVar, hc, hf]
theorem set_imm {w : World} {b : Nat} {d : LD} (h : LnD w b d) (x : Int) : LnD (w.setCell ⟨b, 6, none⟩ (.int .i64 x)) b (d.imm x) := by
  have : w.heap[b]? = some (.cells (lineC d) 85 (0, 0)) := h
  unfold LnD World.setCell
  have hb := (Array.getElem?_eq_some_iff.1 this).1
  have e := (Array.getElem?_eq_some_iff.1 this).2
  rw [Array.getElem?_eq_getElem (by simpa using hb)]
  rw [Array.getElem_modify_self, e]
  rfl
theorem ownW_ty {w : World} {B : Nat} {v : Value} {l : List Int} (h : OwnW w B v l) : ∀ g, v.ownBlock = some g → B ≤ g ∧ g < w.heap.size ∧ ∃ cs fr, w.heap[g]? = some (.cells cs 43 fr) := by
  intro g hg
  rcases h.2 with ⟨rfl, _⟩ | ⟨g', cap, cur, rfl, hb, hc, _⟩
  · simp [Value.ownBlock] at hg
  · simp [Value.ownBlock] at hg
    subst hg
    exact ⟨hb, (Array.getElem?_eq_some_iff.1 hc).1, _, _, hc⟩
theorem ownI_ty {w : World} {B : Nat} {v : Value} {l : List Ins} (h : OwnI w B v l) : ∀ g, v.ownBlock = some g → B ≤ g ∧ g < w.heap.size ∧ ∃ cs fr, w.heap[g]? = some (.cells cs 23 fr) := by
  intro g hg
  rcases h.2 with ⟨rfl, _⟩ | ⟨g', cap, cur, rfl, hb, hc, _⟩
  · simp [Value.ownBlock] at hg
  · simp [Value.ownBlock] at hg
    subst hg
    exact ⟨hb, (Array.getElem?_eq_some_iff.1 hc).1, _, _, hc⟩
theorem ownI_below {w w' : World} {B : Nat} {v : Value} {l : List Ins} (h : OwnI w B v l) (hb : Below w.heap.size w w') : OwnI w' B v l :=
  ownI_keep (S := fun _ => False) h ⟨hb.os, hb.tape, hb.output, hb.size, fun k hk _ => hb.block k hk⟩ (fun _ _ h => h)
theorem bs_ln (d : LD) : Tryz.prog.builtSlice 85 1 [(0, .agg (lineC d))] = some (lineC d) := by kernel_rfl
theorem bs_in (i : Ins) : Tryz.prog.builtSlice 23 1 [(0, insV i)] = some (insC i).toArray := by kernel_rfl
theorem bs_in2 (i j : Ins) : Tryz.prog.builtSlice 23 2 [(0, insV i), (1, insV j)] = some (insCs [i, j]).toArray := by kernel_rfl
theorem bs_w (x : Int) : Tryz.prog.builtSlice 43 1 [(0, .int .u32 x)] = some #[.int .u32 x] := by kernel_rfl
section
variable {Q : Exit → Act → World → Prop} {w : World} {ops : Array Oper} {rest : List Oper} {o o2 : Oper} {a : Act} {l : List (Nat × Value)} {n d : Nat}
theorem W_pushLn (hA : FrA l n a) (hg : o.guard = none) (hg2 : o2.guard = none) (d e : Nat) (hd : o.dst = some d) (hd2 : o2.dst = some e) (hdn : d < n) (hen : e < n) {x s : Operand} (ho : o.op = .buildSlice 83 1 ([(0, x)] : List (Nat × Operand)).toArray)
    (ho2 : o2.op = .call { callee := .builtin .append, args := #[s, .tmp d], argTypes := #[83, 83] }) {ld : LD} (hx : evL l x = some (.agg (lineC ld))) {B : Nat} {v : Value} {L : List LD} (hs : evL l s = some v) (hsd : s ≠ .tmp d) (hown : OwnL w B v L) (hl : L.length ≤ 70000) (hB : B ≤ w.heap.size)
    (h : ∀ w' v' a', FrA ((e, v') :: (d, .slice (some ⟨w.heap.size, 0, none⟩) 1 1) :: l) n a' → OwnL w' B v' (L ++ [ld]) → Only (fun k => v.ownBlock = some k) w w' → wpList Tryz.prog ops Q rest a' w') : wpList Tryz.prog ops Q (o :: o2 :: rest) a w := by
  refine W_val hA hg d hd hdn _ _ (R_bs hA (ps := [(0, x)]) ho [(0, .agg (lineC ld))] (by simp [hx]) Tryz.underlying83 (bs_ln ld) w) (fun a1 hA1 => ?_)
  have hb : Below w.heap.size w (w.alloc (.cells (lineC ld) 85)) := (Below.refl _ _).alloc (Nat.le_refl _) _
  obtain ⟨v', w', hr, h1, h2⟩ := run_pushLn _ B v L ld (ownL_below hown hb) hl (Nat.le_trans hB hb.size) w.heap.size 1 (heap_alloc_new w _) o2.type
  refine W_val hA1 hg2 e hd2 hen _ _ (R_ap hA1 ho2 (vs := v) (vx := .slice (some ⟨w.heap.size, 0, none⟩) 1 1) ?_ (by simp [evL]) hr) (fun a2 hA2 => h _ _ _ hA2 h1 ((Only.of_below _ hb).trans h2))
  cases s with
  | tmp i =>
    have : i ≠ d := fun c => hsd (by rw [c])
    simp only [evL] at hs ⊢
    rw [List.lookup_cons, show (i == d) = false from by simpa using this]; exact hs
  | _ => exact hs
theorem W_pushW (hA : FrA l n a) (hg : o.guard = none) (hg2 : o2.guard = none) (d e : Nat) (hd : o.dst = some d) (hd2 : o2.dst = some e) (hdn : d < n) (hen : e < n) {x s : Operand} (ho : o.op = .buildSlice 37 1 ([(0, x)] : List (Nat × Operand)).toArray)
    (ho2 : o2.op = .call { callee := .builtin .append, args := #[s, .tmp d], argTypes := #[37, 37] }) {y : Int} (hx : evL l x = some (.int .u32 y)) {B : Nat} {v : Value} {L : List Int} (hs : evL l s = some v) (hsd : s ≠ .tmp d) (hown : OwnW w B v L) (hl : L.length ≤ 900000) (hB : B ≤ w.heap.size)
    (h : ∀ w' v' a', FrA ((e, v') :: (d, .slice (some ⟨w.heap.size, 0, none⟩) 1 1) :: l) n a' → OwnW w' B v' (L ++ [y]) → Only (fun k => v.ownBlock = some k) w w' → wpList Tryz.prog ops Q rest a' w') : wpList Tryz.prog ops Q (o :: o2 :: rest) a w := by
  refine W_val hA hg d hd hdn _ _ (R_bs hA (ps := [(0, x)]) ho [(0, .int .u32 y)] (by simp [hx]) Tryz.underlying37 (bs_w y) w) (fun a1 hA1 => ?_)
  have hb : Below w.heap.size w (w.alloc (.cells #[.int .u32 y] 43)) := (Below.refl _ _).alloc (Nat.le_refl _) _
  obtain ⟨v', w', hr, h1, h2, _⟩ := run_pourW _ B v L [y] L.length rfl (ownW_below hown hb) (by simp; omega) (Nat.le_trans hB hb.size) w.heap.size 0 1 (fun j hj => by
    have : j = 0 := by simpa using hj
    subst this
    rw [World.cell?_alloc_at _ _ _ _ (by simp)]; rfl) o2.type
  refine W_val hA1 hg2 e hd2 hen _ _ (R_ap hA1 ho2 (vs := v) (vx := .slice (some ⟨w.heap.size, 0, none⟩) 1 1) ?_ (by simp [evL]) hr) (fun a2 hA2 => h _ _ _ hA2 h1 ((Only.of_below _ hb).trans h2))
  cases s with
  | tmp i =>
    have : i ≠ d := fun c => hsd (by rw [c])
    simp only [evL] at hs ⊢
    rw [List.lookup_cons, show (i == d) = false from by simpa using this]; exact hs
  | _ => exact hs
theorem W_oneIn (hA : FrA l n a) (hg : o.guard = none) (hg2 : o2.guard = none) (d e : Nat) (hd : o.dst = some d) (hd2 : o2.dst = some e) (hdn : d < n) (hen : e < n) {x s : Operand} (ho : o.op = .buildSlice 33 1 ([(0, x)] : List (Nat × Operand)).toArray)
    (ho2 : o2.op = .call { callee := .builtin .append, args := #[s, .tmp d], argTypes := #[33, 33] }) {i : Ins} (hx : evL l x = some (insV i)) {B : Nat} (hs : evL l s = some (.slice none 0 0)) (hsd : s ≠ .tmp d) (hB : B ≤ w.heap.size)
    (h : ∀ w' v' a', FrA ((e, v') :: (d, .slice (some ⟨w.heap.size, 0, none⟩) 1 1) :: l) n a' → OwnI w' B v' [i] → Below w.heap.size w w' → wpList Tryz.prog ops Q rest a' w') : wpList Tryz.prog ops Q (o :: o2 :: rest) a w := by
  refine W_val hA hg d hd hdn _ _ (R_bs hA (ps := [(0, x)]) ho [(0, insV i)] (by simp [hx]) Tryz.underlying33 (bs_in i) w) (fun a1 hA1 => ?_)
  have hb : Below w.heap.size w (w.alloc (.cells (insC i).toArray 23)) := (Below.refl _ _).alloc (Nat.le_refl _) _
  obtain ⟨v', w', hr, h1, h2⟩ := run_pushIns _ B _ [] i (ownI_nil _ B) (by simp) (Nat.le_trans hB hb.size) w.heap.size 1 (heap_alloc_new w _) o2.type
  refine W_val hA1 hg2 e hd2 hen _ _ (R_ap hA1 ho2 (vs := .slice none 0 0) (vx := .slice (some ⟨w.heap.size, 0, none⟩) 1 1) ?_ (by simp [evL]) hr) (fun a2 hA2 => h _ _ _ hA2 h1 (hb.trans (h2.below (fun k hk => by simp [Value.ownBlock] at hk) hb.size)))
  cases s with
  | tmp i =>
    have : i ≠ d := fun c => hsd (by rw [c])
    simp only [evL] at hs ⊢
    rw [List.lookup_cons, show (i == d) = false from by simpa using this]; exact hs
  | _ => exact hs
end
theorem run_two (w : World) (B : Nat) (i j : Ins) (hB : B ≤ w.heap.size) (g : Nat) (c : Nat) (hc : w.heap[g]? = some (.cells (insCs [i, j]).toArray 23 (0, 0))) (ty : TypeId) :
    ∃ v' w', (Builtin.append_ #[33, 33] ty #[.slice none 0 0, .slice (some ⟨g, 0, none⟩) 2 c]).run Tryz.prog w = .ok v' w' ∧ OwnI w' B v' [i, j] ∧ Below w.heap.size w w' := by
  obtain ⟨i0, hi, hz0, hz1, hz2⟩ := info_parts info_insP
  have hn : ∀ k u, (insCs [i, j])[k]? = some u → w.cell? ((⟨g, 0, none⟩ : Addr).add k) = some u := by
    intro k u hk
    rw [Lib.add_plain, Nat.zero_add, Lib.cell_of_heap hc]
    simpa using hk
  have h1 : ∀ u ∈ insCs [i, j], u.oneCell' = true := by
    intro u hu
    unfold insCs at hu
    simp [insC] at hu
    rcases hu with rfl | rfl | rfl | rfl | rfl | rfl | rfl | rfl | rfl | rfl | rfl | rfl | rfl | rfl | rfl | rfl <;> rfl
  obtain ⟨v', w', hr, h2, h3, _, h5⟩ := run_append_own_at (P := Tryz.prog) w B 33 ty 23 i0 _ 8 56 Tryz.underlying33 hi hz0 hz1 hz2 rfl (by decide) _ 0 _ (ownI_nil w B) ⟨g, 0, none⟩ 2 c (insCs [i, j]) (by simp [insCs, insC]) hn h1 (by unfold maxLen; omega) (by omega) hB
  refine ⟨v', w', hr, ?_, ?_⟩
  · unfold OwnI; simpa [insCs] using h2
  · exact ((Only.refl (fun _ => False) w).grown h3 (fun k hk => by simp [Value.ownBlock] at hk)).below (fun _ h => h.elim) (Nat.le_refl _)
theorem rright_enc {i : Ins} (h : rightB i = true) (w : World) : Calls Tryz.prog 51 #[insV i] w fun e w' => e = .returned (.tuple #[.int .u32 (encW i), .int .i64 0]) ∧ Below w.heap.size w w' := by
  have := renc_yes i.op.toNat i (rightT_of h) w
  unfold encW; rw [if_pos h]; exact this
def lenM (a : Act) : Nat := (match a.eval (.tmp 8) with | .string s => s.size | _ => 0) + (match a.eval (.tmp 9) with | .bool true => 1 | _ => 0)
theorem loop_rest {Q : Exit → Act → World → Prop} {a : Act} {w : World} {c : Code} (I : Bs → Bool → Act → World → Prop) (hI : ∀ r m a w, I r m a w → a.eval (.tmp 8) = str r ∧ a.eval (.tmp 9) = .bool m) (r0 : Bs) (m0 : Bool) (h0 : I r0 m0 a w)
    (round : ∀ r m a w, I r m a w → c.wp Tryz.prog (Exit.then (fun a' w' => ∃ r' m', r'.length + (if m' then 1 else 0) < r.length + (if m then 1 else 0) ∧ I r' m' a' w') Q) a w) : (Code.loop c).wp Tryz.prog Q a w := by
  have hc : ∀ r m a w, I r m a w → lenM a = r.length + (if m then 1 else 0) := fun r m a w h => by
    unfold lenM; rw [(hI r m a w h).1, (hI r m a w h).2]
    show r.toArray.size + _ = _
    rw [List.size_toArray]
    cases m <;> rfl
  refine wp_loop (fun a w => ∃ r m, I r m a w) (fun a w => lenM a) ⟨r0, m0, h0⟩ (fun a w h => ?_)
  obtain ⟨r, m, h⟩ := h
  refine wp_mono (round r m a w h) ?_
  intro e a' w' q
  cases e with
  | normal =>
    obtain ⟨r', m', h1, h2⟩ := q
    exact ⟨⟨r', m', h2⟩, by rw [hc _ _ _ _ h, hc _ _ _ _ h2]; exact h1⟩
  | _ => exact q
end Go.Proofs.YtakdhdaoklcidaaGreatDoor
