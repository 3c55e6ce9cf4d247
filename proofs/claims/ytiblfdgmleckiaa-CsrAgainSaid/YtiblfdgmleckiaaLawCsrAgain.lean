/- Layer 12: the walk of CsrAgain (written by gen_csn.py by walkf.py). -/
import Derived.Test.YtiblfdgmleckiaaCsR
import Derived.Test.YtiblfdgmleckiaaWk7
namespace Go.Proofs.Ytiblfdgmleckiaa
open Go.RowKit
set_option linter.unusedVariables false
set_option maxRecDepth 100000

def wL : List Int := [832, 834, 835, 843, 842, 320, 322, 323, 576, 578, 579, 1603, 1610]
def isW (k : Nat) (no : Int) : Bool := (wL.take k).any fun x => x == no
theorem isW_up (k : Nat) (hk : k < 13) (no : Int) : isW (k + 1) no = (isW k no || (wL.getD k 0 == no)) := by
  unfold isW
  have hl : wL.length = 13 := rfl
  rw [List.take_add_one, List.any_append]
  rw [show wL[k]? = some (wL.getD k 0) by simp [List.getD, show k < wL.length by rw [hl]; exact hk]]
  simp
theorem ix_w (b k : Nat) (hk : k < 13) (w : World) : (Instr.indexAt 40 (.slice (some ⟨b, 0, none⟩) 13 13) (.int .i64 k)).run Try.prog w = .ok (.pointer (some ⟨b, k, none⟩)) w :=
  match k, hk with
  | 0, _ => by kernel_rfl
  | 1, _ => by kernel_rfl
  | 2, _ => by kernel_rfl
  | 3, _ => by kernel_rfl
  | 4, _ => by kernel_rfl
  | 5, _ => by kernel_rfl
  | 6, _ => by kernel_rfl
  | 7, _ => by kernel_rfl
  | 8, _ => by kernel_rfl
  | 9, _ => by kernel_rfl
  | 10, _ => by kernel_rfl
  | 11, _ => by kernel_rfl
  | 12, _ => by kernel_rfl
  | k + 13, h => absurd h (by omega)
theorem wL_get (k : Nat) (hk : k < 13) : wL[k]? = some (wL.getD k 0) := by
  have hl : wL.length = 13 := rfl
  simp [List.getD, show k < wL.length by rw [hl]; exact hk]
/-- The registers that take all. -/
theorem wL_fld : ∀ x ∈ wL, ∃ k, k < 38 ∧ noF k = x ∧ mkF k = 18446744073709551615 ∧ ¬ k = 0 ∧ ¬ (k = 20 ∨ k = 37 ∨ k = 29) ∧ ∀ c ∈ ([38, 40, 41, 42, 58, 60, 61, 63, 67, 75, 76] : List Nat), ¬ c = clF k := by
  unfold wL
  intro x hx
  simp only [List.mem_cons, List.not_mem_nil, or_false] at hx
  rcases hx with rfl | rfl | rfl | rfl | rfl | rfl | rfl | rfl | rfl | rfl | rfl | rfl | rfl
  · exact ⟨6, by decide, by decide +kernel, by decide +kernel, by decide, by decide, by decide +kernel⟩
  · exact ⟨8, by decide, by decide +kernel, by decide +kernel, by decide, by decide, by decide +kernel⟩
  · exact ⟨9, by decide, by decide +kernel, by decide +kernel, by decide, by decide, by decide +kernel⟩
  · exact ⟨10, by decide, by decide +kernel, by decide +kernel, by decide, by decide, by decide +kernel⟩
  · exact ⟨11, by decide, by decide +kernel, by decide +kernel, by decide, by decide, by decide +kernel⟩
  · exact ⟨16, by decide, by decide +kernel, by decide +kernel, by decide, by decide, by decide +kernel⟩
  · exact ⟨18, by decide, by decide +kernel, by decide +kernel, by decide, by decide, by decide +kernel⟩
  · exact ⟨19, by decide, by decide +kernel, by decide +kernel, by decide, by decide, by decide +kernel⟩
  · exact ⟨33, by decide, by decide +kernel, by decide +kernel, by decide, by decide, by decide +kernel⟩
  · exact ⟨35, by decide, by decide +kernel, by decide +kernel, by decide, by decide, by decide +kernel⟩
  · exact ⟨36, by decide, by decide +kernel, by decide +kernel, by decide, by decide, by decide +kernel⟩
  · exact ⟨27, by decide, by decide +kernel, by decide +kernel, by decide, by decide, by decide +kernel⟩
  · exact ⟨28, by decide, by decide +kernel, by decide +kernel, by decide, by decide, by decide +kernel⟩
theorem isW_mem {no : Int} (h : isW 13 no = true) : no ∈ wL := by
  unfold isW at h
  rw [List.any_eq_true] at h
  obtain ⟨x, hx, e⟩ := h
  have e' := eq_of_beq e
  subst e'
  exact List.mem_of_mem_take hx
theorem write_w {s : HS} (hv : s.v = false) {no v : Int} (hi : In64 v) (h : isW 13 no = true) : ∃ k, k < 38 ∧ noF k = no ∧ (∀ c ∈ ([38, 40, 41, 42, 58, 60, 61, 63, 67, 75, 76] : List Nat), ¬ c = clF k) ∧ writeZ s no v = s.put (clF k) v := by
  obtain ⟨k, hk, e, hm, h0, h1, hc⟩ := wL_fld no (isW_mem h)
  refine ⟨k, hk, e, hc, ?_⟩
  have hme : meantZ s.v no = noF k := by unfold meantZ; rw [hv, e]; rfl
  unfold writeZ
  rw [hme, writeM_fld s v k hk, putZ_oth k ⟨h0, h1⟩, hm, merge_all _ hi]
theorem again_own {s : HS} (hv : s.v = false) {no v : Int} (l : LS) (hi : In64 v) (h : isW 13 no = true) : (readZ (writeZ s no v) l no != v) = false := by
  obtain ⟨k, hk, e, hc, hw⟩ := write_w hv hi h
  rw [hw]
  have hme : meantZ (s.put (clF k) v).v no = noF k := by unfold meantZ; rw [show (s.put (clF k) v).v = false from hv, e]; rfl
  unfold readZ readM
  rw [hme, ixF_no k hk, if_pos hk, HS.put_same]
  simp
theorem pend_put {s : HS} {c : Nat} {v : Int} (l : LS) (hc : ∀ x ∈ ([38, 40, 41, 42, 58, 60, 61, 63, 67, 75, 76] : List Nat), ¬ x = c) : pendZ (s.put c v) l = pendZ s l := by
  unfold pendZ
  simp only [HS.put_at, if_neg (hc 42 (by decide)), if_neg (hc 61 (by decide)), if_neg (hc 58 (by decide)), if_neg (hc 63 (by decide))]
theorem view_put {s : HS} {c : Nat} {v : Int} (l : LS) (m : Int) (hc : ∀ x ∈ ([38, 40, 41, 42, 58, 60, 61, 63, 67, 75, 76] : List Nat), ¬ x = c) : viewR (s.put c v) l m = viewR s l m := by
  unfold viewR
  simp only [pend_put l hc, HS.put_at, if_neg (hc 38 (by decide)), if_neg (hc 40 (by decide)), if_neg (hc 41 (by decide)), if_neg (hc 60 (by decide)), if_neg (hc 67 (by decide)), if_neg (hc 75 (by decide)), if_neg (hc 76 (by decide)), show (s.put c v).v = s.v from rfl]
theorem again_oth {s : HS} (hv : s.v = false) {no other v : Int} (l : LS) (hi : In64 v) (h : isW 13 no = true) (hno : (other == no) = false) : (readZ (writeZ s no v) l other == readZ s l other) = true := by
  obtain ⟨k, hk, e, hc, hw⟩ := write_w hv hi h
  rw [hw, beq_iff_eq]
  have h1 : meantZ (s.put (clF k) v).v other = other := by unfold meantZ; rw [show (s.put (clF k) v).v = false from hv]; rfl
  have h2 : meantZ s.v other = other := by unfold meantZ; rw [hv]; rfl
  unfold readZ
  rw [h1, h2]
  unfold readM
  by_cases q : ixF other < 38
  · rw [if_pos q, if_pos q, HS.put_at, if_neg (fun e2 => ?_)]
    have e3 := clF_inj q hk e2
    rcases ixF_cases other with ⟨_, a⟩ | ⟨a, _⟩
    · rw [e3, e] at a
      exact absurd a.symm (beq_eq_false_iff_ne.1 hno)
    · omega
  · rw [if_neg q, if_neg q, view_put l other hc]
theorem lgl_v2 {s : HS} (ok : HOk s) : HOk (s.putV false) := ok.putV false
theorem R_eqlIT {o : Oper} {a : Act} {l : List (Nat × Value)} {n : Nat} (hA : FrA l n a) {x y : Operand} (ho : o.op = .binOp .eql 3 x y 3) {u v : Int} (hx : evL l x = some (.int .i64 u)) (hy : evL l y = some (.int .i64 v)) (q : Bool) (he : (u == v) = q) (w : World) : (execOp a.eval o).run Try.prog w = .ok (.value (.bool q)) w := by
  subst he; exact R_eqlI hA ho hx hy w
set_option maxHeartbeats 8000000 in
theorem csrAgain_eq (t : HS) (l : LS) (no other v : Int) (w : World) (ok : HOk t) (lk : LOk l) (hno : In63 no) (hot : In63 other) (hv : In64 v) (hoe : (other == no) = true) : Calls Try.prog 9 #[hartV t, linesV l, .int .i64 no, .int .i64 other, .int .u64 v] w fun e w' => e = .returned (.bool true) ∧ Below w.heap.size w w' := by
  obtain ⟨s, hs⟩ : ∃ s, s = (fixZ t).putV false := ⟨_, rfl⟩
  have oks : HOk s := by rw [hs]; exact (ok_fix ok).putV false
  have hsv : s.v = false := by rw [hs]; rfl
  have HB := Below.refl w.heap.size w
  go_enter Try.func9, Try.ntmps9
  refine begin_fr [(4, .int .u64 v), (3, .int .i64 other), (2, .int .i64 no), (1, linesV l), (0, hartV t)] 65 ?_ (fun a hA => ?_)
  · exact FrA.add (FrA.add (FrA.add (FrA.add (FrA.add (FrA.nil (by rfl) (by rfl)) 0 _ (by rfl)) 1 _ (by rfl)) 2 _ (by rfl)) 3 _ (by rfl)) 4 _ (by rfl)
  refine wp_seq ?_
  refine wp_region_list ?_
  refine W_boxH hA rfl 5 rfl (by decide) rfl rfl (fun w1 bHH a hA hb HH gHH => ?_)
  replace gHH := Nat.le_trans HB.size gHH
  replace HB := HB.trans (hb.mono HB.size)
  clear hb
  refine W_boxL hA rfl 6 rfl (by decide) rfl rfl (fun w2 bLL a hA hb LL gLL => ?_)
  have nHHLL : bHH < bLL := by have := HH.lt; omega
  replace HH := HH.below hb
  replace gLL := Nat.le_trans HB.size gLL
  replace HB := HB.trans (hb.mono HB.size)
  clear hb
  refine W_val hA rfl 10 rfl (by decide) _ _ (R_asg hA rfl rfl _) (fun a hA => ?_)
  refine W_nil ?_
  refine then_nrm ?_
  show Code.wp Try.prog _ _ _ _
  refine wp_seq ?_
  refine wp_region_list ?_
  refine W_val hA rfl 15 rfl (by decide) _ _ (R_row hA rfl rfl HH Try.underlying25 (size_hart.trans (by rw [varr_size]))) (fun a hA => ?_)
  refine W_callA hA (by decide) (fun _ _ => by kernel_rfl) (args1 hA rfl) (fix_any t ok _) (fun w3 hw a hA => ?_)
  replace HB := HB.trans (hw.mono HB.size)
  replace HH := HH.below hw
  replace LL := LL.below hw
  clear hw
  refine W_cpH hA rfl rfl rfl rfl rfl HH (fun w4 hT HN => ?_)
  replace HB := HB.trans (hT.bel _ gHH)
  replace LL := hT.lines LL (by omega)
  replace HH := HN
  clear hT HN
  refine W_nil ?_
  refine then_nrm ?_
  show Code.wp Try.prog _ _ _ _
  refine wp_seq ?_
  refine wp_region_list ?_
  refine W_val hA rfl 17 rfl (by decide) _ _ (R_fa hA rfl rfl (fun w => fa_hart _ 3 34 (by decide) rfl w) _) (fun a hA => ?_)
  refine W_stV hA rfl rfl rfl rfl rfl HH (fun w5 hT HN => ?_)
  replace HB := HB.trans (hT.bel _ gHH)
  replace LL := hT.lines LL (by omega)
  replace HH := HN
  clear hT HN
  rw [← hs] at HH
  refine W_nil ?_
  refine then_nrm ?_
  show Code.wp Try.prog _ _ _ _
  refine wp_seq ?_
  refine wp_region_list ?_
  refine W_bslI hA rfl 18 rfl (by decide) rfl wL (by kernel_rfl) (fun w6 bWW a hA hb WW gWW => ?_)
  have nHHWW : bHH < bWW := by have := HH.lt; omega
  replace HH := HH.below hb
  have nLLWW : bLL < bWW := by have := LL.lt; omega
  replace LL := LL.below hb
  replace gWW := Nat.le_trans HB.size gWW
  replace HB := HB.trans (hb.mono HB.size)
  clear hb
  refine W_val hA rfl 11 rfl (by decide) _ _ (R_asg hA rfl rfl _) (fun a hA => ?_)
  refine W_nil ?_
  refine then_nrm ?_
  show Code.wp Try.prog _ _ _ _
  refine wp_seq ?_
  refine wp_region_list ?_
  refine W_val hA rfl 12 rfl (by decide) _ _ (R_asg hA rfl rfl _) (fun a hA => ?_)
  refine W_nil ?_
  refine then_nrm ?_
  show Code.wp Try.prog _ _ _ _
  refine wp_seq ?_
  refine wp_seq ?_
  refine wp_region_list ?_
  refine W_val hA rfl 13 rfl (by decide) _ _ (R_asg hA rfl rfl _) (fun a hA => ?_)
  refine W_nil ?_
  refine then_nrm ?_
  show Code.wp Try.prog _ _ _ _
  refine wp_block ?_
  refine loop_cnt 13 13 (fun k a' w' => FrA [(13, .int .i64 (k : Int)), (12, .bool (isW k no)), (11, .slice (some ⟨bWW, 0, none⟩) 13 13), (6, .pointer (some ⟨bLL, 0, none⟩)), (5, .pointer (some ⟨bHH, 0, none⟩)), (4, .int .u64 v), (3, .int .i64 other), (2, .int .i64 no)] 65 a' ∧ Below w.heap.size w w' ∧ HartB w' bHH s ∧ LnB w' bLL l ∧ RwI w' bWW wL) (fun k a' w' h => ⟨_, h.1.get 13 _ rfl⟩) ⟨FrA.add (FrA.add (FrA.add (FrA.add (FrA.add (FrA.add (FrA.add (FrA.add (FrA.nil hA.sz hA.df) 2 _ (hA.get 2 _ rfl)) 3 _ (hA.get 3 _ rfl)) 4 _ (hA.get 4 _ rfl)) 5 _ (hA.get 5 _ rfl)) 6 _ (hA.get 6 _ rfl)) 11 _ (hA.get 11 _ rfl)) 12 _ (hA.get 12 _ rfl)) 13 _ (hA.get 13 _ rfl), HB, HH, LL, WW⟩ (fun k a w5 hk h => ?_)
  obtain ⟨hA, HB, HH, LL, WW⟩ := h
  refine wp_seq ?_
  refine wp_seq ?_
  refine wp_region_list ?_
  refine W_val hA rfl 19 rfl (by decide) _ _ (R_mov hA rfl rfl _) (fun a hA => ?_)
  refine W_val hA rfl 20 rfl (by decide) _ _ (R_mov hA rfl rfl _) (fun a hA => ?_)
  refine W_val hA rfl 21 rfl (by decide) _ _ (R_lenS hA rfl rfl _) (fun a hA => ?_)
  refine W_val hA rfl 22 rfl (by decide) _ _ (R_lssI hA rfl rfl rfl _) (fun a hA => ?_)
  refine W_nil ?_
  refine then_nrm ?_
  show Code.wp Try.prog _ _ _ _
  refine wp_cond_split (hA.ev (x := .tmp 22) rfl) (fun c1 => ?_) (fun c1 => ?_)
  · skip
    have ck : k < 13 := by have := of_decide_eq_true c1; omega
    refine wp_skip ?_
    refine then_nrm ?_
    show Code.wp Try.prog _ _ _ _
    refine wp_seq ?_
    refine wp_block ?_
    refine wp_region_list ?_
    refine W_val hA rfl 25 rfl (by decide) _ _ (R_mov hA rfl rfl _) (fun a hA => ?_)
    refine W_val hA rfl 26 rfl (by decide) _ _ (R_mov hA rfl rfl _) (fun a hA => ?_)
    refine W_split hA 26 rfl (fun c2 hA => ?_) (fun c2 hA => ?_)
    · skip
      refine W_gskip hA rfl rfl rfl 27 rfl (by decide) (fun a hA => ?_)
      refine W_gskip hA rfl rfl rfl 28 rfl (by decide) (fun a hA => ?_)
      refine W_gskip hA rfl rfl rfl 29 rfl (by decide) (fun a hA => ?_)
      refine W_gskip hA rfl rfl rfl 30 rfl (by decide) (fun a hA => ?_)
      refine W_gskip hA rfl rfl rfl 31 rfl (by decide) (fun a hA => ?_)
      refine W_gskip hA rfl rfl rfl 32 rfl (by decide) (fun a hA => ?_)
      refine W_val hA rfl 33 rfl (by decide) _ _ (R_pick hA rfl rfl rfl _) (fun a hA => ?_)
      refine W_val hA rfl 12 rfl (by decide) _ _ (R_asg hA rfl rfl _) (fun a hA => ?_)
      refine W_nil ?_
      refine blk_nrm ?_
      refine then_nrm ?_
      show Code.wp Try.prog _ _ _ _
      refine wp_region_list ?_
      refine W_val hA rfl 23 rfl (by decide) _ _ (R_mov hA rfl rfl _) (fun a hA => ?_)
      refine W_val hA rfl 24 rfl (by decide) _ _ (R_addI hA rfl rfl rfl _) (fun a hA => ?_)
      refine W_val hA rfl 13 rfl (by decide) _ _ (R_asg hA rfl rfl _) (fun a hA => ?_)
      refine W_nil ?_
      refine then_nrm ?_
      refine ⟨ck, FrA.add (FrA.add (FrA.add (FrA.add (FrA.add (FrA.add (FrA.add (FrA.add (FrA.nil hA.sz hA.df) 2 _ (hA.get 2 _ rfl)) 3 _ (hA.get 3 _ rfl)) 4 _ (hA.get 4 _ rfl)) 5 _ (hA.get 5 _ rfl)) 6 _ (hA.get 6 _ rfl)) 11 _ (hA.get 11 _ rfl)) 12 _ ((hA.get 12 _ rfl).trans (congrArg Value.bool (show true = isW (k + 1) no by rw [isW_up k ck, c2]; rfl)))) 13 _ ((hA.get 13 _ rfl).trans (congrArg (Value.int .i64) (wrap_up (by omega)))), HB, HH, LL, WW⟩
    refine W_gval hA rfl rfl rfl 27 rfl (by decide) _ _ (R_mov hA rfl rfl _) (fun a hA => ?_)
    refine W_gval hA rfl rfl rfl 28 rfl (by decide) _ _ (R_mov hA rfl rfl _) (fun a hA => ?_)
    refine W_gval hA rfl rfl rfl 29 rfl (by decide) _ _ (R_ixa hA rfl rfl rfl (fun w => ix_w bWW k ck w) _) (fun a hA => ?_)
    refine W_gval hA rfl rfl rfl 30 rfl (by decide) _ _ (R_ld hA rfl rfl ag_intS (WW.cell (wL_get k ck))) (fun a hA => ?_)
    refine W_gval hA rfl rfl rfl 31 rfl (by decide) _ _ (R_mov hA rfl rfl _) (fun a hA => ?_)
    refine W_gval hA rfl rfl rfl 32 rfl (by decide) _ _ (R_eqlI hA rfl rfl rfl _) (fun a hA => ?_)
    refine W_val hA rfl 33 rfl (by decide) _ _ (R_pick hA rfl rfl rfl _) (fun a hA => ?_)
    refine W_val hA rfl 12 rfl (by decide) _ _ (R_asg hA rfl rfl _) (fun a hA => ?_)
    refine W_nil ?_
    refine blk_nrm ?_
    refine then_nrm ?_
    show Code.wp Try.prog _ _ _ _
    refine wp_region_list ?_
    refine W_val hA rfl 23 rfl (by decide) _ _ (R_mov hA rfl rfl _) (fun a hA => ?_)
    refine W_val hA rfl 24 rfl (by decide) _ _ (R_addI hA rfl rfl rfl _) (fun a hA => ?_)
    refine W_val hA rfl 13 rfl (by decide) _ _ (R_asg hA rfl rfl _) (fun a hA => ?_)
    refine W_nil ?_
    refine then_nrm ?_
    refine ⟨ck, FrA.add (FrA.add (FrA.add (FrA.add (FrA.add (FrA.add (FrA.add (FrA.add (FrA.nil hA.sz hA.df) 2 _ (hA.get 2 _ rfl)) 3 _ (hA.get 3 _ rfl)) 4 _ (hA.get 4 _ rfl)) 5 _ (hA.get 5 _ rfl)) 6 _ (hA.get 6 _ rfl)) 11 _ (hA.get 11 _ rfl)) 12 _ ((hA.get 12 _ rfl).trans (congrArg Value.bool (show (wL.getD k 0 == no) = isW (k + 1) no by rw [isW_up k ck, c2]; rfl)))) 13 _ ((hA.get 13 _ rfl).trans (congrArg (Value.int .i64) (wrap_up (by omega)))), HB, HH, LL, WW⟩
  have ek : k = 13 := by have := of_decide_eq_false c1; omega
  subst ek
  refine wp_exit ?_
  refine then_ext ?_
  refine then_ext ?_
  refine blk_eq ?_
  refine then_nrm ?_
  show Code.wp Try.prog _ _ _ _
  refine wp_seq ?_
  refine wp_seq ?_
  refine wp_region_list ?_
  refine W_val hA rfl 34 rfl (by decide) _ _ (R_mov hA rfl rfl _) (fun a hA => ?_)
  refine W_val hA rfl 35 rfl (by decide) _ _ (R_not hA rfl rfl _) (fun a hA => ?_)
  refine W_nil ?_
  refine then_nrm ?_
  show Code.wp Try.prog _ _ _ _
  refine wp_cond_split (hA.ev (x := .tmp 35) rfl) (fun c3 => ?_) (fun c3 => ?_)
  · skip
    refine wp_seq ?_
    refine wp_region_list ?_
    refine W_callA hA (by decide) (fun _ _ => by kernel_rfl) (args0 ) (wakes_any _) (fun w7 hw a hA => ?_)
    replace HB := HB.trans (hw.mono HB.size)
    replace HH := HH.below hw
    replace LL := LL.below hw
    replace WW := WW.below hw
    clear hw
    refine W_val hA rfl 10 rfl (by decide) _ _ (R_asg hA rfl rfl _) (fun a hA => ?_)
    refine W_nil ?_
    refine then_nrm ?_
    show Code.wp Try.prog _ _ _ _
    refine wp_ret ?_
    refine then_ret ?_
    exact ret_tmp (j := 10) (by kernel_rfl) hA (by decide) rfl ⟨rfl, HB⟩
  have hin : isW 13 no = true := by simpa using c3
  refine wp_skip ?_
  refine then_nrm ?_
  show Code.wp Try.prog _ _ _ _
  refine wp_seq ?_
  refine wp_region_list ?_
  refine W_val hA rfl 37 rfl (by decide) _ _ (R_row hA rfl rfl HH Try.underlying25 (size_hart.trans (by rw [varr_size]))) (fun a hA => ?_)
  refine W_val hA rfl 38 rfl (by decide) _ _ (R_row hA rfl rfl LL Try.underlying27 (by kernel_rfl)) (fun a hA => ?_)
  refine W_val hA rfl 39 rfl (by decide) _ _ (R_mov hA rfl rfl _) (fun a hA => ?_)
  refine W_val hA rfl 40 rfl (by decide) _ _ (R_mov hA rfl rfl _) (fun a hA => ?_)
  refine W_callA hA (by decide) (fun _ _ => by kernel_rfl) (args4 hA rfl rfl rfl rfl) (write_any s l no v hv.1 _) (fun w8 hw a hA => ?_)
  replace HB := HB.trans (hw.mono HB.size)
  replace HH := HH.below hw
  replace LL := LL.below hw
  replace WW := WW.below hw
  clear hw
  refine W_allocH hA rfl 14 rfl (by decide) rfl (fun w9 bA14 a hA hb A14 gA14 => ?_)
  have nHHA14 : bHH < bA14 := by have := HH.lt; omega
  replace HH := HH.below hb
  have nLLA14 : bLL < bA14 := by have := LL.lt; omega
  replace LL := LL.below hb
  have nWWA14 : bWW < bA14 := by have := WW.lt; omega
  replace WW := WW.below hb
  replace gA14 := Nat.le_trans HB.size gA14
  replace HB := HB.trans (hb.mono HB.size)
  clear hb
  refine W_cpH hA rfl rfl rfl rfl rfl A14 (fun w10 hT HN => ?_)
  replace HB := HB.trans (hT.bel _ gA14)
  replace HH := hT.hart HH (by omega)
  replace LL := hT.lines LL (by omega)
  replace WW := hT.rw WW (by omega)
  replace A14 := HN
  clear hT HN
  refine W_nil ?_
  refine then_nrm ?_
  show Code.wp Try.prog _ _ _ _
  refine wp_seq ?_
  refine wp_seq ?_
  refine wp_region_list ?_
  refine W_val hA rfl 42 rfl (by decide) _ _ (R_row hA rfl rfl A14 Try.underlying25 (size_hart.trans (by rw [varr_size]))) (fun a hA => ?_)
  refine W_val hA rfl 43 rfl (by decide) _ _ (R_row hA rfl rfl LL Try.underlying27 (by kernel_rfl)) (fun a hA => ?_)
  refine W_val hA rfl 44 rfl (by decide) _ _ (R_mov hA rfl rfl _) (fun a hA => ?_)
  refine W_callA hA (by decide) (fun _ _ => by kernel_rfl) (args3 hA rfl rfl rfl) (read_any (writeZ s no v) (ok_write oks no v) l no _) (fun w11 hw a hA => ?_)
  replace HB := HB.trans (hw.mono HB.size)
  replace HH := HH.below hw
  replace LL := LL.below hw
  replace WW := WW.below hw
  replace A14 := A14.below hw
  clear hw
  refine W_val hA rfl 46 rfl (by decide) _ _ (R_mov hA rfl rfl _) (fun a hA => ?_)
  refine W_val hA rfl 47 rfl (by decide) _ _ (R_neqUT hA rfl rfl rfl false (again_own hsv l hv hin) _) (fun a hA => ?_)
  refine W_nil ?_
  refine then_nrm ?_
  show Code.wp Try.prog _ _ _ _
  refine wp_cond_false (hA.ev (x := .tmp 47) rfl) ?_
  refine wp_skip ?_
  refine then_nrm ?_
  show Code.wp Try.prog _ _ _ _
  refine wp_seq ?_
  refine wp_region_held_drew (S := fun wx => Below w11.heap.size w11 wx) (by kernel_rfl) ((Below.refl _ _).drew) (fun hS => ?_)
  refine takeF (i := 0) hA 48 rfl rfl (by decide) rfl (by kernel_rfl) (by kernel_rfl) (by kernel_rfl) (fun _ _ _ h => h) hS (fun wx hx => R_mov hA rfl rfl _) (fun a hA => ?_)
  refine takeF (i := 1) hA 49 rfl rfl (by decide) rfl (by kernel_rfl) (by kernel_rfl) (by kernel_rfl) (fun _ _ _ h => h) hS (fun wx hx => R_mov hA rfl rfl _) (fun a hA => ?_)
  refine takeF (i := 2) hA 50 rfl rfl (by decide) rfl (by kernel_rfl) (by kernel_rfl) (by kernel_rfl) (fun _ _ _ h => h) hS (fun wx hx => R_eqlIT hA rfl rfl rfl true hoe _) (fun a hA => ?_)
  refine takeF (i := 3) hA 51 rfl rfl (by decide) rfl (by kernel_rfl) (by kernel_rfl) (by kernel_rfl) (fun _ _ _ h => h) hS (fun wx hx => R_mov hA rfl rfl _) (fun a hA => ?_)
  refine skipFg (i := 4) hA 52 rfl rfl (by decide) rfl rfl rfl (by kernel_rfl) (by kernel_rfl) (by kernel_rfl) (fun _ _ _ h => h) hS (fun a hA => ?_)
  refine skipFg (i := 5) hA 53 rfl rfl (by decide) rfl rfl rfl (by kernel_rfl) (by kernel_rfl) (by kernel_rfl) (fun _ _ _ h => h) hS (fun a hA => ?_)
  refine skipFg (i := 6) hA 54 rfl rfl (by decide) rfl rfl rfl (by kernel_rfl) (by kernel_rfl) (by kernel_rfl) (fun _ _ _ h => h) hS (fun a hA => ?_)
  refine skipFg (i := 7) hA 55 rfl rfl (by decide) rfl rfl rfl (by kernel_rfl) (by kernel_rfl) (by kernel_rfl) (fun _ _ _ h => h) hS (fun a hA => ?_)
  refine skipFg (i := 8) hA 56 rfl rfl (by decide) rfl rfl rfl (by kernel_rfl) (by kernel_rfl) (by kernel_rfl) (fun _ _ _ h => h) hS (fun a hA => ?_)
  refine skipFg (i := 9) hA 57 rfl rfl (by decide) rfl rfl rfl (by kernel_rfl) (by kernel_rfl) (by kernel_rfl) (fun _ _ _ h => h) hS (fun a hA => ?_)
  refine skipFg (i := 10) hA 58 rfl rfl (by decide) rfl rfl rfl (by kernel_rfl) (by kernel_rfl) (by kernel_rfl) (fun _ _ _ h => h) hS (fun a hA => ?_)
  refine skipFg (i := 11) hA 59 rfl rfl (by decide) rfl rfl rfl (by kernel_rfl) (by kernel_rfl) (by kernel_rfl) (fun _ _ _ h => h) hS (fun a hA => ?_)
  refine skipFg (i := 12) hA 60 rfl rfl (by decide) rfl rfl rfl (by kernel_rfl) (by kernel_rfl) (by kernel_rfl) (fun _ _ _ h => h) hS (fun a hA => ?_)
  refine takeF (i := 13) hA 61 rfl rfl (by decide) rfl (by kernel_rfl) (by kernel_rfl) (by kernel_rfl) (fun _ _ _ h => h) hS (fun wx hx => R_pick hA rfl rfl rfl _) (fun a hA => ?_)
  refine takeF (i := 14) hA 62 rfl rfl (by decide) rfl (by kernel_rfl) (by kernel_rfl) (by kernel_rfl) (fun _ _ _ h => h) hS (fun wx hx => R_mov hA rfl rfl _) (fun a hA => ?_)
  refine wpAnyH_ready (rs := [15]) (by kernel_rfl) (by simp) (ready_gcall (i := 15) hA (by decide) rfl rfl rfl (fun _ _ => by kernel_rfl) (args0 ) (wakes_any _) (fun _ h => hS.trans (h.mono hS.size)) (fun w12 hw a hA => ?_) AllReadyH.nil)
  replace hS := hS.trans (hw.mono hS.size)
  clear hw
  refine takeF (i := 16) hA 64 rfl rfl (by decide) rfl (by kernel_rfl) (by kernel_rfl) (by kernel_rfl) (fun _ _ _ h => h) hS (fun wx hx => R_pick hA rfl rfl rfl _) (fun a hA => ?_)
  refine takeF (i := 17) hA 10 rfl rfl (by decide) rfl (by kernel_rfl) (by kernel_rfl) (by kernel_rfl) (fun _ _ _ h => h) hS (fun wx hx => R_asg hA rfl rfl _) (fun a hA => ?_)
  refine wpAnyH_done (by kernel_rfl) ?_ _
  replace HH := HH.below hS
  replace LL := LL.below hS
  replace WW := WW.below hS
  replace A14 := A14.below hS
  replace HB := HB.trans (hS.mono HB.size)
  clear hS
  refine then_nrm ?_
  show Code.wp Try.prog _ _ _ _
  refine wp_ret ?_
  exact ret_tmp (j := 10) (by kernel_rfl) hA (by decide) rfl ⟨rfl, HB⟩
set_option maxHeartbeats 8000000 in
theorem csrAgain_ne (t : HS) (l : LS) (no other v : Int) (w : World) (ok : HOk t) (lk : LOk l) (hno : In63 no) (hot : In63 other) (hv : In64 v) (hoe : (other == no) = false) : Calls Try.prog 9 #[hartV t, linesV l, .int .i64 no, .int .i64 other, .int .u64 v] w fun e w' => e = .returned (.bool true) ∧ Below w.heap.size w w' := by
  obtain ⟨s, hs⟩ : ∃ s, s = (fixZ t).putV false := ⟨_, rfl⟩
  have oks : HOk s := by rw [hs]; exact (ok_fix ok).putV false
  have hsv : s.v = false := by rw [hs]; rfl
  have HB := Below.refl w.heap.size w
  go_enter Try.func9, Try.ntmps9
  refine begin_fr [(4, .int .u64 v), (3, .int .i64 other), (2, .int .i64 no), (1, linesV l), (0, hartV t)] 65 ?_ (fun a hA => ?_)
  · exact FrA.add (FrA.add (FrA.add (FrA.add (FrA.add (FrA.nil (by rfl) (by rfl)) 0 _ (by rfl)) 1 _ (by rfl)) 2 _ (by rfl)) 3 _ (by rfl)) 4 _ (by rfl)
  refine wp_seq ?_
  refine wp_region_list ?_
  refine W_boxH hA rfl 5 rfl (by decide) rfl rfl (fun w1 bHH a hA hb HH gHH => ?_)
  replace gHH := Nat.le_trans HB.size gHH
  replace HB := HB.trans (hb.mono HB.size)
  clear hb
  refine W_boxL hA rfl 6 rfl (by decide) rfl rfl (fun w2 bLL a hA hb LL gLL => ?_)
  have nHHLL : bHH < bLL := by have := HH.lt; omega
  replace HH := HH.below hb
  replace gLL := Nat.le_trans HB.size gLL
  replace HB := HB.trans (hb.mono HB.size)
  clear hb
  refine W_val hA rfl 10 rfl (by decide) _ _ (R_asg hA rfl rfl _) (fun a hA => ?_)
  refine W_nil ?_
  refine then_nrm ?_
  show Code.wp Try.prog _ _ _ _
  refine wp_seq ?_
  refine wp_region_list ?_
  refine W_val hA rfl 15 rfl (by decide) _ _ (R_row hA rfl rfl HH Try.underlying25 (size_hart.trans (by rw [varr_size]))) (fun a hA => ?_)
  refine W_callA hA (by decide) (fun _ _ => by kernel_rfl) (args1 hA rfl) (fix_any t ok _) (fun w3 hw a hA => ?_)
  replace HB := HB.trans (hw.mono HB.size)
  replace HH := HH.below hw
  replace LL := LL.below hw
  clear hw
  refine W_cpH hA rfl rfl rfl rfl rfl HH (fun w4 hT HN => ?_)
  replace HB := HB.trans (hT.bel _ gHH)
  replace LL := hT.lines LL (by omega)
  replace HH := HN
  clear hT HN
  refine W_nil ?_
  refine then_nrm ?_
  show Code.wp Try.prog _ _ _ _
  refine wp_seq ?_
  refine wp_region_list ?_
  refine W_val hA rfl 17 rfl (by decide) _ _ (R_fa hA rfl rfl (fun w => fa_hart _ 3 34 (by decide) rfl w) _) (fun a hA => ?_)
  refine W_stV hA rfl rfl rfl rfl rfl HH (fun w5 hT HN => ?_)
  replace HB := HB.trans (hT.bel _ gHH)
  replace LL := hT.lines LL (by omega)
  replace HH := HN
  clear hT HN
  rw [← hs] at HH
  refine W_nil ?_
  refine then_nrm ?_
  show Code.wp Try.prog _ _ _ _
  refine wp_seq ?_
  refine wp_region_list ?_
  refine W_bslI hA rfl 18 rfl (by decide) rfl wL (by kernel_rfl) (fun w6 bWW a hA hb WW gWW => ?_)
  have nHHWW : bHH < bWW := by have := HH.lt; omega
  replace HH := HH.below hb
  have nLLWW : bLL < bWW := by have := LL.lt; omega
  replace LL := LL.below hb
  replace gWW := Nat.le_trans HB.size gWW
  replace HB := HB.trans (hb.mono HB.size)
  clear hb
  refine W_val hA rfl 11 rfl (by decide) _ _ (R_asg hA rfl rfl _) (fun a hA => ?_)
  refine W_nil ?_
  refine then_nrm ?_
  show Code.wp Try.prog _ _ _ _
  refine wp_seq ?_
  refine wp_region_list ?_
  refine W_val hA rfl 12 rfl (by decide) _ _ (R_asg hA rfl rfl _) (fun a hA => ?_)
  refine W_nil ?_
  refine then_nrm ?_
  show Code.wp Try.prog _ _ _ _
  refine wp_seq ?_
  refine wp_seq ?_
  refine wp_region_list ?_
  refine W_val hA rfl 13 rfl (by decide) _ _ (R_asg hA rfl rfl _) (fun a hA => ?_)
  refine W_nil ?_
  refine then_nrm ?_
  show Code.wp Try.prog _ _ _ _
  refine wp_block ?_
  refine loop_cnt 13 13 (fun k a' w' => FrA [(13, .int .i64 (k : Int)), (12, .bool (isW k no)), (11, .slice (some ⟨bWW, 0, none⟩) 13 13), (6, .pointer (some ⟨bLL, 0, none⟩)), (5, .pointer (some ⟨bHH, 0, none⟩)), (4, .int .u64 v), (3, .int .i64 other), (2, .int .i64 no)] 65 a' ∧ Below w.heap.size w w' ∧ HartB w' bHH s ∧ LnB w' bLL l ∧ RwI w' bWW wL) (fun k a' w' h => ⟨_, h.1.get 13 _ rfl⟩) ⟨FrA.add (FrA.add (FrA.add (FrA.add (FrA.add (FrA.add (FrA.add (FrA.add (FrA.nil hA.sz hA.df) 2 _ (hA.get 2 _ rfl)) 3 _ (hA.get 3 _ rfl)) 4 _ (hA.get 4 _ rfl)) 5 _ (hA.get 5 _ rfl)) 6 _ (hA.get 6 _ rfl)) 11 _ (hA.get 11 _ rfl)) 12 _ (hA.get 12 _ rfl)) 13 _ (hA.get 13 _ rfl), HB, HH, LL, WW⟩ (fun k a w5 hk h => ?_)
  obtain ⟨hA, HB, HH, LL, WW⟩ := h
  refine wp_seq ?_
  refine wp_seq ?_
  refine wp_region_list ?_
  refine W_val hA rfl 19 rfl (by decide) _ _ (R_mov hA rfl rfl _) (fun a hA => ?_)
  refine W_val hA rfl 20 rfl (by decide) _ _ (R_mov hA rfl rfl _) (fun a hA => ?_)
  refine W_val hA rfl 21 rfl (by decide) _ _ (R_lenS hA rfl rfl _) (fun a hA => ?_)
  refine W_val hA rfl 22 rfl (by decide) _ _ (R_lssI hA rfl rfl rfl _) (fun a hA => ?_)
  refine W_nil ?_
  refine then_nrm ?_
  show Code.wp Try.prog _ _ _ _
  refine wp_cond_split (hA.ev (x := .tmp 22) rfl) (fun c1 => ?_) (fun c1 => ?_)
  · skip
    have ck : k < 13 := by have := of_decide_eq_true c1; omega
    refine wp_skip ?_
    refine then_nrm ?_
    show Code.wp Try.prog _ _ _ _
    refine wp_seq ?_
    refine wp_block ?_
    refine wp_region_list ?_
    refine W_val hA rfl 25 rfl (by decide) _ _ (R_mov hA rfl rfl _) (fun a hA => ?_)
    refine W_val hA rfl 26 rfl (by decide) _ _ (R_mov hA rfl rfl _) (fun a hA => ?_)
    refine W_split hA 26 rfl (fun c2 hA => ?_) (fun c2 hA => ?_)
    · skip
      refine W_gskip hA rfl rfl rfl 27 rfl (by decide) (fun a hA => ?_)
      refine W_gskip hA rfl rfl rfl 28 rfl (by decide) (fun a hA => ?_)
      refine W_gskip hA rfl rfl rfl 29 rfl (by decide) (fun a hA => ?_)
      refine W_gskip hA rfl rfl rfl 30 rfl (by decide) (fun a hA => ?_)
      refine W_gskip hA rfl rfl rfl 31 rfl (by decide) (fun a hA => ?_)
      refine W_gskip hA rfl rfl rfl 32 rfl (by decide) (fun a hA => ?_)
      refine W_val hA rfl 33 rfl (by decide) _ _ (R_pick hA rfl rfl rfl _) (fun a hA => ?_)
      refine W_val hA rfl 12 rfl (by decide) _ _ (R_asg hA rfl rfl _) (fun a hA => ?_)
      refine W_nil ?_
      refine blk_nrm ?_
      refine then_nrm ?_
      show Code.wp Try.prog _ _ _ _
      refine wp_region_list ?_
      refine W_val hA rfl 23 rfl (by decide) _ _ (R_mov hA rfl rfl _) (fun a hA => ?_)
      refine W_val hA rfl 24 rfl (by decide) _ _ (R_addI hA rfl rfl rfl _) (fun a hA => ?_)
      refine W_val hA rfl 13 rfl (by decide) _ _ (R_asg hA rfl rfl _) (fun a hA => ?_)
      refine W_nil ?_
      refine then_nrm ?_
      refine ⟨ck, FrA.add (FrA.add (FrA.add (FrA.add (FrA.add (FrA.add (FrA.add (FrA.add (FrA.nil hA.sz hA.df) 2 _ (hA.get 2 _ rfl)) 3 _ (hA.get 3 _ rfl)) 4 _ (hA.get 4 _ rfl)) 5 _ (hA.get 5 _ rfl)) 6 _ (hA.get 6 _ rfl)) 11 _ (hA.get 11 _ rfl)) 12 _ ((hA.get 12 _ rfl).trans (congrArg Value.bool (show true = isW (k + 1) no by rw [isW_up k ck, c2]; rfl)))) 13 _ ((hA.get 13 _ rfl).trans (congrArg (Value.int .i64) (wrap_up (by omega)))), HB, HH, LL, WW⟩
    refine W_gval hA rfl rfl rfl 27 rfl (by decide) _ _ (R_mov hA rfl rfl _) (fun a hA => ?_)
    refine W_gval hA rfl rfl rfl 28 rfl (by decide) _ _ (R_mov hA rfl rfl _) (fun a hA => ?_)
    refine W_gval hA rfl rfl rfl 29 rfl (by decide) _ _ (R_ixa hA rfl rfl rfl (fun w => ix_w bWW k ck w) _) (fun a hA => ?_)
    refine W_gval hA rfl rfl rfl 30 rfl (by decide) _ _ (R_ld hA rfl rfl ag_intS (WW.cell (wL_get k ck))) (fun a hA => ?_)
    refine W_gval hA rfl rfl rfl 31 rfl (by decide) _ _ (R_mov hA rfl rfl _) (fun a hA => ?_)
    refine W_gval hA rfl rfl rfl 32 rfl (by decide) _ _ (R_eqlI hA rfl rfl rfl _) (fun a hA => ?_)
    refine W_val hA rfl 33 rfl (by decide) _ _ (R_pick hA rfl rfl rfl _) (fun a hA => ?_)
    refine W_val hA rfl 12 rfl (by decide) _ _ (R_asg hA rfl rfl _) (fun a hA => ?_)
    refine W_nil ?_
    refine blk_nrm ?_
    refine then_nrm ?_
    show Code.wp Try.prog _ _ _ _
    refine wp_region_list ?_
    refine W_val hA rfl 23 rfl (by decide) _ _ (R_mov hA rfl rfl _) (fun a hA => ?_)
    refine W_val hA rfl 24 rfl (by decide) _ _ (R_addI hA rfl rfl rfl _) (fun a hA => ?_)
    refine W_val hA rfl 13 rfl (by decide) _ _ (R_asg hA rfl rfl _) (fun a hA => ?_)
    refine W_nil ?_
    refine then_nrm ?_
    refine ⟨ck, FrA.add (FrA.add (FrA.add (FrA.add (FrA.add (FrA.add (FrA.add (FrA.add (FrA.nil hA.sz hA.df) 2 _ (hA.get 2 _ rfl)) 3 _ (hA.get 3 _ rfl)) 4 _ (hA.get 4 _ rfl)) 5 _ (hA.get 5 _ rfl)) 6 _ (hA.get 6 _ rfl)) 11 _ (hA.get 11 _ rfl)) 12 _ ((hA.get 12 _ rfl).trans (congrArg Value.bool (show (wL.getD k 0 == no) = isW (k + 1) no by rw [isW_up k ck, c2]; rfl)))) 13 _ ((hA.get 13 _ rfl).trans (congrArg (Value.int .i64) (wrap_up (by omega)))), HB, HH, LL, WW⟩
  have ek : k = 13 := by have := of_decide_eq_false c1; omega
  subst ek
  refine wp_exit ?_
  refine then_ext ?_
  refine then_ext ?_
  refine blk_eq ?_
  refine then_nrm ?_
  show Code.wp Try.prog _ _ _ _
  refine wp_seq ?_
  refine wp_seq ?_
  refine wp_region_list ?_
  refine W_val hA rfl 34 rfl (by decide) _ _ (R_mov hA rfl rfl _) (fun a hA => ?_)
  refine W_val hA rfl 35 rfl (by decide) _ _ (R_not hA rfl rfl _) (fun a hA => ?_)
  refine W_nil ?_
  refine then_nrm ?_
  show Code.wp Try.prog _ _ _ _
  refine wp_cond_split (hA.ev (x := .tmp 35) rfl) (fun c3 => ?_) (fun c3 => ?_)
  · skip
    refine wp_seq ?_
    refine wp_region_list ?_
    refine W_callA hA (by decide) (fun _ _ => by kernel_rfl) (args0 ) (wakes_any _) (fun w7 hw a hA => ?_)
    replace HB := HB.trans (hw.mono HB.size)
    replace HH := HH.below hw
    replace LL := LL.below hw
    replace WW := WW.below hw
    clear hw
    refine W_val hA rfl 10 rfl (by decide) _ _ (R_asg hA rfl rfl _) (fun a hA => ?_)
    refine W_nil ?_
    refine then_nrm ?_
    show Code.wp Try.prog _ _ _ _
    refine wp_ret ?_
    refine then_ret ?_
    exact ret_tmp (j := 10) (by kernel_rfl) hA (by decide) rfl ⟨rfl, HB⟩
  have hin : isW 13 no = true := by simpa using c3
  refine wp_skip ?_
  refine then_nrm ?_
  show Code.wp Try.prog _ _ _ _
  refine wp_seq ?_
  refine wp_region_list ?_
  refine W_val hA rfl 37 rfl (by decide) _ _ (R_row hA rfl rfl HH Try.underlying25 (size_hart.trans (by rw [varr_size]))) (fun a hA => ?_)
  refine W_val hA rfl 38 rfl (by decide) _ _ (R_row hA rfl rfl LL Try.underlying27 (by kernel_rfl)) (fun a hA => ?_)
  refine W_val hA rfl 39 rfl (by decide) _ _ (R_mov hA rfl rfl _) (fun a hA => ?_)
  refine W_val hA rfl 40 rfl (by decide) _ _ (R_mov hA rfl rfl _) (fun a hA => ?_)
  refine W_callA hA (by decide) (fun _ _ => by kernel_rfl) (args4 hA rfl rfl rfl rfl) (write_any s l no v hv.1 _) (fun w8 hw a hA => ?_)
  replace HB := HB.trans (hw.mono HB.size)
  replace HH := HH.below hw
  replace LL := LL.below hw
  replace WW := WW.below hw
  clear hw
  refine W_allocH hA rfl 14 rfl (by decide) rfl (fun w9 bA14 a hA hb A14 gA14 => ?_)
  have nHHA14 : bHH < bA14 := by have := HH.lt; omega
  replace HH := HH.below hb
  have nLLA14 : bLL < bA14 := by have := LL.lt; omega
  replace LL := LL.below hb
  have nWWA14 : bWW < bA14 := by have := WW.lt; omega
  replace WW := WW.below hb
  replace gA14 := Nat.le_trans HB.size gA14
  replace HB := HB.trans (hb.mono HB.size)
  clear hb
  refine W_cpH hA rfl rfl rfl rfl rfl A14 (fun w10 hT HN => ?_)
  replace HB := HB.trans (hT.bel _ gA14)
  replace HH := hT.hart HH (by omega)
  replace LL := hT.lines LL (by omega)
  replace WW := hT.rw WW (by omega)
  replace A14 := HN
  clear hT HN
  refine W_nil ?_
  refine then_nrm ?_
  show Code.wp Try.prog _ _ _ _
  refine wp_seq ?_
  refine wp_seq ?_
  refine wp_region_list ?_
  refine W_val hA rfl 42 rfl (by decide) _ _ (R_row hA rfl rfl A14 Try.underlying25 (size_hart.trans (by rw [varr_size]))) (fun a hA => ?_)
  refine W_val hA rfl 43 rfl (by decide) _ _ (R_row hA rfl rfl LL Try.underlying27 (by kernel_rfl)) (fun a hA => ?_)
  refine W_val hA rfl 44 rfl (by decide) _ _ (R_mov hA rfl rfl _) (fun a hA => ?_)
  refine W_callA hA (by decide) (fun _ _ => by kernel_rfl) (args3 hA rfl rfl rfl) (read_any (writeZ s no v) (ok_write oks no v) l no _) (fun w11 hw a hA => ?_)
  replace HB := HB.trans (hw.mono HB.size)
  replace HH := HH.below hw
  replace LL := LL.below hw
  replace WW := WW.below hw
  replace A14 := A14.below hw
  clear hw
  refine W_val hA rfl 46 rfl (by decide) _ _ (R_mov hA rfl rfl _) (fun a hA => ?_)
  refine W_val hA rfl 47 rfl (by decide) _ _ (R_neqUT hA rfl rfl rfl false (again_own hsv l hv hin) _) (fun a hA => ?_)
  refine W_nil ?_
  refine then_nrm ?_
  show Code.wp Try.prog _ _ _ _
  refine wp_cond_false (hA.ev (x := .tmp 47) rfl) ?_
  refine wp_skip ?_
  refine then_nrm ?_
  show Code.wp Try.prog _ _ _ _
  refine wp_seq ?_
  refine wp_region_held_drew (S := fun wx => Below w11.heap.size w11 wx) (by kernel_rfl) ((Below.refl _ _).drew) (fun hS => ?_)
  refine takeF (i := 0) hA 48 rfl rfl (by decide) rfl (by kernel_rfl) (by kernel_rfl) (by kernel_rfl) (fun _ _ _ h => h) hS (fun wx hx => R_mov hA rfl rfl _) (fun a hA => ?_)
  refine takeF (i := 1) hA 49 rfl rfl (by decide) rfl (by kernel_rfl) (by kernel_rfl) (by kernel_rfl) (fun _ _ _ h => h) hS (fun wx hx => R_mov hA rfl rfl _) (fun a hA => ?_)
  refine takeF (i := 2) hA 50 rfl rfl (by decide) rfl (by kernel_rfl) (by kernel_rfl) (by kernel_rfl) (fun _ _ _ h => h) hS (fun wx hx => R_eqlIT hA rfl rfl rfl false hoe _) (fun a hA => ?_)
  refine takeF (i := 3) hA 51 rfl rfl (by decide) rfl (by kernel_rfl) (by kernel_rfl) (by kernel_rfl) (fun _ _ _ h => h) hS (fun wx hx => R_mov hA rfl rfl _) (fun a hA => ?_)
  refine takeFg (i := 4) hA 52 rfl rfl (by decide) rfl rfl rfl (by kernel_rfl) (by kernel_rfl) (by kernel_rfl) (fun _ _ _ h => h) hS (fun wx hx => R_row hA rfl rfl (A14.below hx) Try.underlying25 (size_hart.trans (by rw [varr_size]))) (fun a hA => ?_)
  refine takeFg (i := 5) hA 53 rfl rfl (by decide) rfl rfl rfl (by kernel_rfl) (by kernel_rfl) (by kernel_rfl) (fun _ _ _ h => h) hS (fun wx hx => R_row hA rfl rfl (LL.below hx) Try.underlying27 (by kernel_rfl)) (fun a hA => ?_)
  refine takeFg (i := 6) hA 54 rfl rfl (by decide) rfl rfl rfl (by kernel_rfl) (by kernel_rfl) (by kernel_rfl) (fun _ _ _ h => h) hS (fun wx hx => R_mov hA rfl rfl _) (fun a hA => ?_)
  refine takeFg (i := 8) hA 56 rfl rfl (by decide) rfl rfl rfl (by kernel_rfl) (by kernel_rfl) (by kernel_rfl) (fun _ _ _ h => h) hS (fun wx hx => R_row hA rfl rfl (HH.below hx) Try.underlying25 (size_hart.trans (by rw [varr_size]))) (fun a hA => ?_)
  refine takeFg (i := 9) hA 57 rfl rfl (by decide) rfl rfl rfl (by kernel_rfl) (by kernel_rfl) (by kernel_rfl) (fun _ _ _ h => h) hS (fun wx hx => R_row hA rfl rfl (LL.below hx) Try.underlying27 (by kernel_rfl)) (fun a hA => ?_)
  refine takeFg (i := 10) hA 58 rfl rfl (by decide) rfl rfl rfl (by kernel_rfl) (by kernel_rfl) (by kernel_rfl) (fun _ _ _ h => h) hS (fun wx hx => R_mov hA rfl rfl _) (fun a hA => ?_)
  refine wpAnyH_ready (rs := [7]) (by kernel_rfl) (by simp) (ready_gcall (i := 7) hA (by decide) rfl rfl rfl (fun _ _ => by kernel_rfl) (args3 hA rfl rfl rfl) (read_any (writeZ s no v) (ok_write oks no v) l other _) (fun _ h => hS.trans (h.mono hS.size)) (fun w12 hw a hA => ?_) AllReadyH.nil)
  replace hS := hS.trans (hw.mono hS.size)
  clear hw
  refine wpAnyH_ready (rs := [11]) (by kernel_rfl) (by simp) (ready_gcall (i := 11) hA (by decide) rfl rfl rfl (fun _ _ => by kernel_rfl) (args3 hA rfl rfl rfl) (read_any s oks l other _) (fun _ h => hS.trans (h.mono hS.size)) (fun w13 hw a hA => ?_) AllReadyH.nil)
  replace hS := hS.trans (hw.mono hS.size)
  clear hw
  refine takeFg (i := 12) hA 60 rfl rfl (by decide) rfl rfl rfl (by kernel_rfl) (by kernel_rfl) (by kernel_rfl) (fun _ _ _ h => h) hS (fun wx hx => R_eqlUT hA rfl rfl rfl true (again_oth hsv l hv hin hoe) _) (fun a hA => ?_)
  refine takeF (i := 13) hA 61 rfl rfl (by decide) rfl (by kernel_rfl) (by kernel_rfl) (by kernel_rfl) (fun _ _ _ h => h) hS (fun wx hx => R_pick hA rfl rfl rfl _) (fun a hA => ?_)
  refine takeF (i := 14) hA 62 rfl rfl (by decide) rfl (by kernel_rfl) (by kernel_rfl) (by kernel_rfl) (fun _ _ _ h => h) hS (fun wx hx => R_mov hA rfl rfl _) (fun a hA => ?_)
  refine wpAnyH_ready (rs := [15]) (by kernel_rfl) (by simp) (ready_gcall (i := 15) hA (by decide) rfl rfl rfl (fun _ _ => by kernel_rfl) (args0 ) (wakes_any _) (fun _ h => hS.trans (h.mono hS.size)) (fun w14 hw a hA => ?_) AllReadyH.nil)
  replace hS := hS.trans (hw.mono hS.size)
  clear hw
  refine takeF (i := 16) hA 64 rfl rfl (by decide) rfl (by kernel_rfl) (by kernel_rfl) (by kernel_rfl) (fun _ _ _ h => h) hS (fun wx hx => R_pick hA rfl rfl rfl _) (fun a hA => ?_)
  refine takeF (i := 17) hA 10 rfl rfl (by decide) rfl (by kernel_rfl) (by kernel_rfl) (by kernel_rfl) (fun _ _ _ h => h) hS (fun wx hx => R_asg hA rfl rfl _) (fun a hA => ?_)
  refine wpAnyH_done (by kernel_rfl) ?_ _
  replace HH := HH.below hS
  replace LL := LL.below hS
  replace WW := WW.below hS
  replace A14 := A14.below hS
  replace HB := HB.trans (hS.mono HB.size)
  clear hS
  refine then_nrm ?_
  show Code.wp Try.prog _ _ _ _
  refine wp_ret ?_
  exact ret_tmp (j := 10) (by kernel_rfl) hA (by decide) rfl ⟨rfl, HB⟩
theorem csrAgain_walk (t : HS) (l : LS) (no other v : Int) (w : World) (ok : HOk t) (lk : LOk l) (hno : In63 no) (hot : In63 other) (hv : In64 v) : Calls Try.prog 9 #[hartV t, linesV l, .int .i64 no, .int .i64 other, .int .u64 v] w fun e w' => e = .returned (.bool true) ∧ Below w.heap.size w w' := by
  cases h : (other == no)
  · exact csrAgain_ne t l no other v w ok lk hno hot hv h
  · exact csrAgain_eq t l no other v w ok lk hno hot hv h
end Go.Proofs.Ytiblfdgmleckiaa
