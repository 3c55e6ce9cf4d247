/- Layer 12: the program's Fix (written by gen_csl.py by walkf.py). -/
import Derived.Test.YtkfhpmleelmcfaaCsKa
namespace Go.Proofs.Ytkfhpmleelmcfaa
open Go.RowKit
set_option linter.unusedVariables false
set_option maxRecDepth 100000

/-- The first k registers' fields masked. -/
def loopT (t : HS) (k : Nat) : HS := { t with n := fun i => if icF i < k then maskZ (icF i) (t.n i) else t.n i }
theorem loopT_zero (t : HS) : loopT t 0 = t := by unfold loopT; simp
theorem loopT_n (t : HS) {k : Nat} (hk : k < 38) : (loopT t k).n (clF k) = t.n (clF k) := by
  show (if icF (clF k) < k then _ else _) = _
  rw [icF_cl k hk, if_neg (by omega)]
theorem loopT_put (t : HS) {k : Nat} (hk : k < 38) : (loopT t k).put (clF k) (maskZ k (t.n (clF k))) = loopT t (k + 1) := by
  unfold HS.put loopT
  congr 1
  funext i
  by_cases e : i = clF k
  · subst e; rw [if_pos rfl, icF_cl k hk, if_pos (by omega)]
  · rw [if_neg e]
    show (if icF i < k then maskZ (icF i) (t.n i) else t.n i) = (if icF i < k + 1 then maskZ (icF i) (t.n i) else t.n i)
    by_cases c : icF i < k
    · rw [if_pos c, if_pos (by omega)]
    · rw [if_neg c]
      by_cases d : icF i < k + 1
      · exfalso
        have h1 : icF i = k := by omega
        have h2 := icF_at (i := i) (by omega)
        rw [h1] at h2
        exact e h2.symm
      · rw [if_neg d]
theorem loopT_other (t : HS) {i : Nat} (h : ¬ icF i < 38) : (loopT t 38).n i = t.n i := if_neg h
theorem loopT_reg (t : HS) {i : Nat} (h : icF i < 38) : (loopT t 38).n i = maskZ (icF i) (t.n i) := if_pos h
def mipT (t : HS) : HS := t.put 42 (bits .and .u64 (t.n 42) 546)
def modeT (t : HS) : HS := t.put 38 (if noModeB (t.n 38) then bits .andNot .u64 (t.n 38) 6144 else t.n 38)
def tcl (j : Nat) : Nat := if j = 0 then 57 else if j = 1 then 74 else 66
def tabZ (x : Int) : Int := if noTabB x then 0 else x
/-- The first j tables mended. -/
def tabT (t : HS) : Nat → HS
  | 0 => t
  | j + 1 => (tabT t j).put (tcl j) (tabZ ((tabT t j).n (tcl j)))
theorem tab_put {w : World} {b j : Nat} {s : HS} (hz : noTabB ((tabT s j).n (tcl j)) = true) (h : HartB w b ((tabT s j).put (tcl j) 0)) : HartB w b (tabT s (j + 1)) := by
  show HartB w b ((tabT s j).put (tcl j) (tabZ ((tabT s j).n (tcl j))))
  unfold tabZ
  rw [hz]; exact h
theorem tab_keep {w : World} {b j : Nat} {s : HS} (hz : noTabB ((tabT s j).n (tcl j)) = false) (h : HartB w b (tabT s j)) : HartB w b (tabT s (j + 1)) := by
  show HartB w b ((tabT s j).put (tcl j) (tabZ ((tabT s j).n (tcl j))))
  unfold tabZ
  rw [hz, show (if false = true then (0 : Int) else (tabT s j).n (tcl j)) = (tabT s j).n (tcl j) from rfl, HS.put_self]; exact h
def fixA (t : HS) : HS := tabT (modeT (mipT (loopT t 38))) 3
theorem fixA_n (t : HS) (i : Nat) (h : ¬ i = 0 ∧ ¬ i = 1 ∧ ¬ i = 33 ∧ ¬ i = 37) : (fixA t).n i = fixN t i := by
  obtain ⟨h0, h1, h2, h3⟩ := h
  have e38 : (loopT t 38).n 38 = maskZ 0 (t.n 38) := loopT_reg t (i := 38) (by decide +kernel)
  have e57 : (loopT t 38).n 57 = maskZ 20 (t.n 57) := loopT_reg t (i := 57) (by decide +kernel)
  have e66 : (loopT t 38).n 66 = maskZ 29 (t.n 66) := loopT_reg t (i := 66) (by decide +kernel)
  have e74 : (loopT t 38).n 74 = maskZ 37 (t.n 74) := loopT_reg t (i := 74) (by decide +kernel)
  have e42 : (loopT t 38).n 42 = t.n 42 := loopT_other t (i := 42) (by decide +kernel)
  have l : (fixA t).n i = if i = 66 then tabZ ((loopT t 38).n 66) else if i = 74 then tabZ ((loopT t 38).n 74) else if i = 57 then tabZ ((loopT t 38).n 57) else if i = 38 then (if noModeB ((loopT t 38).n 38) then bits .andNot .u64 ((loopT t 38).n 38) 6144 else (loopT t 38).n 38) else if i = 42 then bits .and .u64 ((loopT t 38).n 42) 546 else (loopT t 38).n i := rfl
  rw [l, e38, e57, e66, e74, e42]
  unfold fixN
  rw [if_neg h0, if_neg h1, if_neg h2, if_neg h3]
  by_cases c66 : i = 66
  · subst c66; rfl
  by_cases c74 : i = 74
  · subst c74; rfl
  by_cases c57 : i = 57
  · subst c57; rfl
  by_cases c38 : i = 38
  · subst c38; rfl
  by_cases c42 : i = 42
  · subst c42; rfl
  rw [if_neg c66, if_neg c74, if_neg c57, if_neg c38, if_neg c42, if_neg c42, if_neg c38, if_neg c57, if_neg c66, if_neg c74]
  rfl
theorem fixA_33 (t : HS) : (fixA t).n 33 = t.n 33 := by
  show (loopT t 38).n 33 = _
  exact loopT_other t (by decide +kernel)
theorem fixA_37 (t : HS) : (fixA t).n 37 = t.n 37 := by
  show (loopT t 38).n 37 = _
  exact loopT_other t (by decide +kernel)
theorem fixA_0 (t : HS) : (fixA t).n 0 = t.n 0 := by
  show (loopT t 38).n 0 = _
  exact loopT_other t (by decide +kernel)
theorem to_fixA {w : World} {b : Nat} {t : HS} (h : HartB w b (tabT (modeT (mipT (loopT t 38))) 3)) : HartB w b (fixA t) := h
def tblT (b : Nat) : Array Value := #[.pointer (some ⟨b, 57, none⟩), .pointer (some ⟨b, 74, none⟩), .pointer (some ⟨b, 66, none⟩)]
theorem bld_tab3 (b : Nat) : Try.prog.built 51 [(0, .pointer (some ⟨b, 57, none⟩)), (1, .pointer (some ⟨b, 74, none⟩)), (2, .pointer (some ⟨b, 66, none⟩))] = some (tblT b) := by kernel_rfl
theorem idx_tab3 (b j : Nat) (h : j < 3) (w : World) : (Instr.index 51 (.agg (tblT b)) (.int .i64 j)).run Try.prog w = .ok (.pointer (some ⟨b, tcl j, none⟩)) w :=
  match j, h with
  | 0, _ => by kernel_rfl
  | 1, _ => by kernel_rfl
  | 2, _ => by kernel_rfl
  | j + 3, h => absurd h (by omega)
theorem tcl_in : ∀ j, j < 3 → 37 < tcl j ∧ tcl j < 77 := by decide +kernel
theorem fix_end {t s : HS} (hv : s.v = (t.v && (t.n 33 != 3))) (hw : s.wait = t.wait) (hh : s.held = t.held) (h0 : s.n 0 = fixN t 0) (h1 : s.n 1 = 0) (h33 : s.n 33 = fixN t 33) (h37 : s.n 37 = fixN t 37)
    (ho : ∀ i, ¬ i = 0 ∧ ¬ i = 1 ∧ ¬ i = 33 ∧ ¬ i = 37 → s.n i = (fixA t).n i) : s = fixZ t := by
  refine fixZ_eq hv hw hh fun i => ?_
  by_cases e0 : i = 0
  · subst e0; exact h0
  by_cases e1 : i = 1
  · subst e1; exact h1.trans rfl
  by_cases e2 : i = 33
  · subst e2; exact h33
  by_cases e3 : i = 37
  · subst e3; exact h37
  rw [ho i ⟨e0, e1, e2, e3⟩, fixA_n t i ⟨e0, e1, e2, e3⟩]
theorem hok_loop {t : HS} (ok : HOk t) (k : Nat) (i : Nat) : In64 ((loopT t k).n i) := by
  show In64 (if icF i < k then _ else _)
  by_cases c : icF i < k
  · rw [if_pos c]; exact or_in _ _
  · rw [if_neg c]; exact ok.n i
theorem hok_put {t : HS} (h : ∀ i, In64 (t.n i)) (c : Nat) {x : Int} (hx : In64 x) (i : Nat) : In64 ((t.put c x).n i) := by
  show In64 (if i = c then x else t.n i)
  by_cases e : i = c
  · rw [if_pos e]; exact hx
  · rw [if_neg e]; exact h i
theorem hok_mode {t : HS} (h : ∀ i, In64 (t.n i)) (i : Nat) : In64 ((modeT t).n i) := by
  unfold modeT
  refine hok_put h 38 ?_ i
  cases noModeB (t.n 38)
  · exact h 38
  · exact andNot_in _ _
theorem hok_tab {t : HS} (h : ∀ i, In64 (t.n i)) : ∀ j i, In64 ((tabT t j).n i)
  | 0, i => h i
  | j + 1, i => by
    show In64 (((tabT t j).put (tcl j) (tabZ ((tabT t j).n (tcl j)))).n i)
    refine hok_put (hok_tab h j) (tcl j) ?_ i
    unfold tabZ
    cases noTabB ((tabT t j).n (tcl j))
    · exact hok_tab h j _
    · show In64 0
      unfold In64; decide
set_option maxHeartbeats 8000000 in
theorem fix_any (t : HS) (ok : HOk t) (w : World) : Calls Try.prog 17 #[hartV t] w fun e w' => e = .returned (hartV (fixZ t)) ∧ Below w.heap.size w w' := by
  have HB := Below.refl w.heap.size w
  go_enter Try.func17, Try.ntmps17
  refine begin_fr [(0, hartV t)] 85 ?_ (fun a hA => ?_)
  · exact FrA.add (FrA.nil (by rfl) (by rfl)) 0 _ (by rfl)
  refine wp_seq ?_
  refine wp_region_list ?_
  refine W_boxH hA rfl 1 rfl (by decide) rfl rfl (fun w1 bHH a hA hb HH gHH => ?_)
  replace gHH := Nat.le_trans HB.size gHH
  replace HB := HB.trans (hb.mono HB.size)
  clear hb
  refine W_allocH hA rfl 2 rfl (by decide) rfl (fun w2 bRR a hA hb RR gRR => ?_)
  have nHHRR : bHH < bRR := by have := HH.lt; omega
  replace HH := HH.below hb
  replace gRR := Nat.le_trans HB.size gRR
  replace HB := HB.trans (hb.mono HB.size)
  clear hb
  refine W_nil ?_
  refine then_nrm ?_
  show Code.wp Try.prog _ _ _ _
  refine wp_seq ?_
  refine wp_seq ?_
  refine wp_region_list ?_
  refine W_call1 hA (by decide) (fun _ _ => by kernel_rfl) rfl (fields_any _ _) (fun w3 hw a hA => ?_)
  replace HB := HB.trans (hw.mono HB.size)
  replace HH := HH.below hw
  replace RR := RR.below hw
  clear hw
  refine W_val hA rfl 8 rfl (by decide) _ _ (R_mov hA rfl rfl _) (fun a hA => ?_)
  refine W_nil ?_
  refine then_nrm ?_
  show Code.wp Try.prog _ _ _ _
  refine wp_block ?_
  refine loop_cnt 8 38 (fun k a' w' => FrA [(8, .int .i64 (k : Int)), (7, .agg (tblF bHH)), (2, .pointer (some ⟨bRR, 0, none⟩)), (1, .pointer (some ⟨bHH, 0, none⟩))] 85 a' ∧ Below w.heap.size w w' ∧ HartB w' bHH (loopT t k) ∧ HartB w' bRR hZ) (fun k a' w' h => ⟨_, h.1.get 8 _ rfl⟩) ⟨FrA.add (FrA.add (FrA.add (FrA.add (FrA.nil hA.sz hA.df) 1 _ (hA.get 1 _ rfl)) 2 _ (hA.get 2 _ rfl)) 7 _ (hA.get 7 _ rfl)) 8 _ (hA.get 8 _ rfl), HB, by rw [loopT_zero]; exact HH, RR⟩ (fun k a w5 hk h => ?_)
  obtain ⟨hA, HB, HH, RR⟩ := h
  refine wp_seq ?_
  refine wp_region_list ?_
  refine W_val hA rfl 9 rfl (by decide) _ _ (R_lssI hA rfl rfl rfl _) (fun a hA => ?_)
  refine W_nil ?_
  refine then_nrm ?_
  show Code.wp Try.prog _ _ _ _
  refine wp_seq ?_
  refine wp_cond_split (hA.ev (x := .tmp 9) rfl) (fun c1 => ?_) (fun c1 => ?_)
  · skip
    have ck : k < 38 := by have := of_decide_eq_true c1; omega
    obtain ⟨k1, k2, k3⟩ := clF_in k ck
    refine wp_skip ?_
    refine then_nrm ?_
    show Code.wp Try.prog _ _ _ _
    refine wp_seq ?_
    refine wp_block ?_
    refine wp_seq ?_
    refine wp_region_list ?_
    refine W_val hA rfl 10 rfl (by decide) _ _ (R_index hA rfl rfl rfl (fun w => idx_tbl bHH k (by omega) w) _) (fun a hA => ?_)
    refine W_allocR hA rfl 4 rfl (by decide) rfl (fun w4 bRg a hA hb RG gR => ?_)
    have nH : bHH < bRg := by have := HH.lt; omega
    have nR : bRR < bRg := by have := RR.lt; omega
    replace gR := Nat.le_trans HB.size gR
    replace HB := HB.trans (hb.mono HB.size)
    replace HH := HH.below hb
    replace RR := RR.below hb
    clear hb
    refine W_cpR hA rfl rfl rfl rfl rfl RG (fun w5 hT HN => ?_)
    replace HB := HB.trans (hT.bel _ gR)
    replace HH := hT.hart HH (by omega)
    replace RR := hT.hart RR (by omega)
    replace RG := HN
    clear hT HN
    refine W_nil ?_
    refine then_nrm ?_
    show Code.wp Try.prog _ _ _ _
    refine still_tail 15 (by kernel_rfl) (fun w4 hw => ?_)
    replace HB := HB.trans (hw.mono HB.size)
    replace HH := HH.below hw
    replace RR := RR.below hw
    replace RG := RG.below hw
    clear hw
    refine S_val hA rfl 11 rfl (by decide) _ (R_fa hA rfl rfl (fun w => fa_reg _ 1 (by decide) w) _) (fun a hA => ?_)
    refine S_val hA rfl 12 rfl (by decide) _ (R_ld hA rfl rfl ag_ptr RG.c1) (fun a hA => ?_)
    refine S_val hA rfl 13 rfl (by decide) _ (R_fa hA rfl rfl (fun w => fa_reg _ 1 (by decide) w) _) (fun a hA => ?_)
    refine S_val hA rfl 14 rfl (by decide) _ (R_ld hA rfl rfl ag_ptr RG.c1) (fun a hA => ?_)
    refine S_val hA rfl 15 rfl (by decide) _ (R_nilCheck hA rfl rfl _) (fun a hA => ?_)
    refine S_val hA rfl 16 rfl (by decide) _ (R_ld hA rfl rfl ag_u64 (HH.u _ k2 (.inr (by omega)))) (fun a hA => ?_)
    refine S_val hA rfl 17 rfl (by decide) _ (R_fa hA rfl rfl (fun w => fa_reg _ 0 (by decide) w) _) (fun a hA => ?_)
    refine S_val hA rfl 18 rfl (by decide) _ (R_ld hA rfl rfl ag_int RG.c0) (fun a hA => ?_)
    refine S_call hA (by decide) (fun _ _ => by kernel_rfl) (args1 hA rfl) (mask_any _ _) (fun a hA => ?_)
    refine S_val hA rfl 20 rfl (by decide) _ (R_and hA rfl rfl rfl _) (fun a hA => ?_)
    refine S_val hA rfl 21 rfl (by decide) _ (R_fa hA rfl rfl (fun w => fa_reg _ 0 (by decide) w) _) (fun a hA => ?_)
    refine S_val hA rfl 22 rfl (by decide) _ (R_ld hA rfl rfl ag_int RG.c0) (fun a hA => ?_)
    refine S_call hA (by decide) (fun _ _ => by kernel_rfl) (args1 hA rfl) (set_any _ _) (fun a hA => ?_)
    refine S_val hA rfl 24 rfl (by decide) _ (R_or hA rfl rfl rfl _) (fun a hA => ?_)
    refine S_val hA rfl 25 rfl (by decide) _ (R_nilCheck hA rfl rfl _) (fun a hA => ?_)
    refine still_nil ?_
    refine W_stU hA rfl rfl rfl rfl rfl HH k2 (.inr (by omega)) (fun w6 hT HN => ?_)
    replace HB := HB.trans (hT.bel _ gHH)
    replace RR := hT.hart RR (by omega)
    replace HH := HN
    clear hT HN
    refine W_nil ?_
    refine blk_nrm ?_
    refine then_nrm ?_
    show Code.wp Try.prog _ _ _ _
    refine wp_region_list ?_
    refine W_val hA rfl 26 rfl (by decide) _ _ (R_addI hA rfl rfl rfl _) (fun a hA => ?_)
    refine W_val hA rfl 8 rfl (by decide) _ _ (R_mov hA rfl rfl _) (fun a hA => ?_)
    refine W_nil ?_
    refine then_nrm ?_
    have e2 : bits .or .u64 (bits .and .u64 ((loopT t k).n (clF k)) (maskC (noF k))) (setC (noF k)) = maskZ k (t.n (clF k)) := by rw [loopT_n t ck, maskC_all k ck, setC_all k ck]; rfl
    rw [e2, loopT_put t ck] at HH
    refine ⟨by omega, FrA.add (FrA.add (FrA.add (FrA.add (FrA.nil hA.sz hA.df) 1 _ (hA.get 1 _ rfl)) 2 _ (hA.get 2 _ rfl)) 7 _ (hA.get 7 _ rfl)) 8 _ ((hA.get 8 _ rfl).trans (congrArg (Value.int .i64) (wrap_up (by omega)))), HB, HH, RR⟩
  refine wp_exit ?_
  refine then_ext ?_
  refine then_ext ?_
  refine blk_eq ?_
  refine then_nrm ?_
  show Code.wp Try.prog _ _ _ _
  refine wp_seq ?_
  have ek : k = 38 := by have := of_decide_eq_false c1; omega
  subst ek
  refine still_tail 5 (by kernel_rfl) (fun w4 hw => ?_)
  replace HB := HB.trans (hw.mono HB.size)
  replace HH := HH.below hw
  replace RR := RR.below hw
  clear hw
  refine S_val hA rfl 27 rfl (by decide) _ (R_fa hA rfl rfl (fun w => fa_hart _ 11 42 (by decide) rfl w) _) (fun a hA => ?_)
  refine S_val hA rfl 28 rfl (by decide) _ (R_ld hA rfl rfl ag_u64 (show _ = some (Value.int .u64 ((loopT t 38).n 42)) from HH.u 42 (by decide) (by decide))) (fun a hA => ?_)
  refine S_call hA (by decide) (fun _ _ => by kernel_rfl) (args1 hA rfl) (mask_any _ _) (fun a hA => ?_)
  refine S_val hA rfl 30 rfl (by decide) _ (R_and hA rfl rfl rfl _) (fun a hA => ?_)
  refine S_val hA rfl 31 rfl (by decide) _ (R_fa hA rfl rfl (fun w => fa_hart _ 11 42 (by decide) rfl w) _) (fun a hA => ?_)
  refine still_nil ?_
  refine W_stUx hA rfl rfl rfl rfl rfl HH (by decide) (by decide) (fun w7 x42_1 hx42_1 hT HN => ?_)
  replace HB := HB.trans (hT.bel _ gHH)
  replace RR := hT.hart RR (by omega)
  replace HH := HN
  clear hT HN
  refine W_nil ?_
  refine then_nrm ?_
  show Code.wp Try.prog _ _ _ _
  refine wp_seq ?_
  refine wp_seq ?_
  refine wp_region_list ?_
  refine W_val hA rfl 32 rfl (by decide) _ _ (R_fa hA rfl rfl (fun w => fa_hart _ 7 38 (by decide) rfl w) _) (fun a hA => ?_)
  refine W_val hA rfl 33 rfl (by decide) _ _ (R_ld hA rfl rfl ag_u64 (show _ = some (Value.int .u64 ((mipT (loopT t 38)).n 38)) from HH.u 38 (by decide) (by decide))) (fun a hA => ?_)
  refine W_call1 hA (by decide) (fun _ _ => by kernel_rfl) rfl (noMode_any _ _) (fun w8 hw a hA => ?_)
  subst hw
  refine W_nil ?_
  refine then_nrm ?_
  show Code.wp Try.prog _ _ _ _
  subst hx42_1
  replace HH : HartB _ bHH (mipT (loopT t 38)) := HH
  refine wp_cond_merge (fun a' w' => FrA [(2, .pointer (some ⟨bRR, 0, none⟩)), (1, .pointer (some ⟨bHH, 0, none⟩))] 85 a' ∧ Below w.heap.size w w' ∧ HartB w' bHH (modeT (mipT (loopT t 38))) ∧ HartB w' bRR hZ) (hA.ev (x := .tmp 34) rfl) (fun cm => ?_) (fun cm => ?_) ?_
  · skip
    refine wp_region_list ?_
    refine W_val hA rfl 35 rfl (by decide) _ _ (R_fa hA rfl rfl (fun w => fa_hart _ 7 38 (by decide) rfl w) _) (fun a hA => ?_)
    refine W_val hA rfl 36 rfl (by decide) _ _ (R_ld hA rfl rfl ag_u64 (show _ = some (Value.int .u64 ((mipT (loopT t 38)).n 38)) from HH.u 38 (by decide) (by decide))) (fun a hA => ?_)
    refine W_val hA rfl 37 rfl (by decide) _ _ (R_andNot hA rfl rfl rfl _) (fun a hA => ?_)
    refine W_val hA rfl 38 rfl (by decide) _ _ (R_fa hA rfl rfl (fun w => fa_hart _ 7 38 (by decide) rfl w) _) (fun a hA => ?_)
    refine W_stU hA rfl rfl rfl rfl rfl HH (by decide) (by decide) (fun w9 hT HN => ?_)
    replace HB := HB.trans (hT.bel _ gHH)
    replace RR := hT.hart RR (by omega)
    replace HH := HN
    clear hT HN
    refine W_nil (then_nrm ⟨FrA.add (FrA.add (FrA.nil hA.sz hA.df) 1 _ (hA.get 1 _ rfl)) 2 _ (hA.get 2 _ rfl), HB, ?_, RR⟩)
    unfold modeT
    rw [cm]
    exact HH
  · refine wp_skip (then_nrm ⟨FrA.add (FrA.add (FrA.nil hA.sz hA.df) 1 _ (hA.get 1 _ rfl)) 2 _ (hA.get 2 _ rfl), HB, ?_, RR⟩)
    unfold modeT
    rw [cm]
    rw [show (if false = true then bits .andNot .u64 ((mipT (loopT t 38)).n 38) 6144 else (mipT (loopT t 38)).n 38) = (mipT (loopT t 38)).n 38 from rfl, HS.put_self]
    exact HH
  rintro a w6 ⟨hA, HB, HH, RR⟩
  show Code.wp Try.prog _ _ _ _
  refine wp_seq ?_
  refine wp_seq ?_
  refine wp_region_list ?_
  refine W_val hA rfl 39 rfl (by decide) _ _ (R_fa hA rfl rfl (fun w => fa_hart _ 26 57 (by decide) rfl w) _) (fun a hA => ?_)
  refine W_val hA rfl 40 rfl (by decide) _ _ (R_fa hA rfl rfl (fun w => fa_hart _ 43 74 (by decide) rfl w) _) (fun a hA => ?_)
  refine W_val hA rfl 41 rfl (by decide) _ _ (R_fa hA rfl rfl (fun w => fa_hart _ 35 66 (by decide) rfl w) _) (fun a hA => ?_)
  refine W_val hA rfl 42 rfl (by decide) _ _ (R_build (ps := [(0, .tmp 39), (1, .tmp 40), (2, .tmp 41)]) hA rfl [(0, .pointer (some ⟨bHH, 57, none⟩)), (1, .pointer (some ⟨bHH, 74, none⟩)), (2, .pointer (some ⟨bHH, 66, none⟩))] rfl (bld_tab3 bHH) _) (fun a hA => ?_)
  refine W_val hA rfl 43 rfl (by decide) _ _ (R_mov hA rfl rfl _) (fun a hA => ?_)
  refine W_nil ?_
  refine then_nrm ?_
  show Code.wp Try.prog _ _ _ _
  refine wp_block ?_
  refine loop_cnt 43 3 (fun j a' w' => FrA [(43, .int .i64 (j : Int)), (42, .agg (tblT bHH)), (2, .pointer (some ⟨bRR, 0, none⟩)), (1, .pointer (some ⟨bHH, 0, none⟩))] 85 a' ∧ Below w.heap.size w w' ∧ HartB w' bHH (tabT (modeT (mipT (loopT t 38))) j) ∧ HartB w' bRR hZ) (fun k a' w' h => ⟨_, h.1.get 43 _ rfl⟩) ⟨FrA.add (FrA.add (FrA.add (FrA.add (FrA.nil hA.sz hA.df) 1 _ (hA.get 1 _ rfl)) 2 _ (hA.get 2 _ rfl)) 42 _ (hA.get 42 _ rfl)) 43 _ (hA.get 43 _ rfl), HB, HH, RR⟩ (fun j a w5 hj h => ?_)
  obtain ⟨hA, HB, HH, RR⟩ := h
  refine wp_seq ?_
  refine wp_region_list ?_
  refine W_val hA rfl 44 rfl (by decide) _ _ (R_lssI hA rfl rfl rfl _) (fun a hA => ?_)
  refine W_nil ?_
  refine then_nrm ?_
  show Code.wp Try.prog _ _ _ _
  refine wp_seq ?_
  refine wp_cond_split (hA.ev (x := .tmp 44) rfl) (fun c2 => ?_) (fun c2 => ?_)
  · skip
    have cj : j < 3 := by have := of_decide_eq_true c2; omega
    obtain ⟨k1, k2⟩ := tcl_in j cj
    have hx0 : 0 ≤ (tabT (modeT (mipT (loopT t 38))) j).n (tcl j) := (hok_tab (hok_mode (hok_put (hok_loop ok 38) 42 (and_in _ _))) j _).1
    refine wp_skip ?_
    refine then_nrm ?_
    show Code.wp Try.prog _ _ _ _
    refine wp_seq ?_
    refine wp_block ?_
    refine wp_seq ?_
    refine wp_region_list ?_
    refine W_val hA rfl 45 rfl (by decide) _ _ (R_index hA rfl rfl rfl (fun w => idx_tab3 bHH j (by omega) w) _) (fun a hA => ?_)
    refine W_val hA rfl 6 rfl (by decide) _ _ (R_asg hA rfl rfl _) (fun a hA => ?_)
    refine W_nil ?_
    refine then_nrm ?_
    show Code.wp Try.prog _ _ _ _
    refine wp_seq ?_
    refine wp_region_list ?_
    refine W_val hA rfl 46 rfl (by decide) _ _ (R_mov hA rfl rfl _) (fun a hA => ?_)
    refine W_val hA rfl 47 rfl (by decide) _ _ (R_nilCheck hA rfl rfl _) (fun a hA => ?_)
    refine W_val hA rfl 48 rfl (by decide) _ _ (R_ld hA rfl rfl ag_u64 (HH.u _ k2 (.inr (by omega)))) (fun a hA => ?_)
    refine W_call1 hA (by decide) (fun _ _ => by kernel_rfl) rfl (noTable_any _ hx0 _) (fun w10 hw a hA => ?_)
    subst hw
    refine W_nil ?_
    refine then_nrm ?_
    show Code.wp Try.prog _ _ _ _
    refine wp_cond_split (hA.ev (x := .tmp 49) rfl) (fun c3 => ?_) (fun c3 => ?_)
    · skip
      refine wp_region_list ?_
      refine W_val hA rfl 50 rfl (by decide) _ _ (R_mov hA rfl rfl _) (fun a hA => ?_)
      refine W_val hA rfl 51 rfl (by decide) _ _ (R_nilCheck hA rfl rfl _) (fun a hA => ?_)
      refine W_stU hA rfl rfl rfl rfl rfl HH k2 (.inr (by omega)) (fun w11 hT HN => ?_)
      replace HB := HB.trans (hT.bel _ gHH)
      replace RR := hT.hart RR (by omega)
      replace HH := HN
      clear hT HN
      refine W_nil ?_
      refine blk_nrm ?_
      refine then_nrm ?_
      show Code.wp Try.prog _ _ _ _
      refine wp_region_list ?_
      refine W_val hA rfl 52 rfl (by decide) _ _ (R_addI hA rfl rfl rfl _) (fun a hA => ?_)
      refine W_val hA rfl 43 rfl (by decide) _ _ (R_mov hA rfl rfl _) (fun a hA => ?_)
      refine W_nil ?_
      refine then_nrm ?_
      have e2 := tab_put c3 HH
      refine ⟨by omega, FrA.add (FrA.add (FrA.add (FrA.add (FrA.nil hA.sz hA.df) 1 _ (hA.get 1 _ rfl)) 2 _ (hA.get 2 _ rfl)) 42 _ (hA.get 42 _ rfl)) 43 _ ((hA.get 43 _ rfl).trans (congrArg (Value.int .i64) (wrap_up (by omega)))), HB, e2, RR⟩
    refine wp_skip ?_
    refine blk_nrm ?_
    refine then_nrm ?_
    show Code.wp Try.prog _ _ _ _
    refine wp_region_list ?_
    refine W_val hA rfl 52 rfl (by decide) _ _ (R_addI hA rfl rfl rfl _) (fun a hA => ?_)
    refine W_val hA rfl 43 rfl (by decide) _ _ (R_mov hA rfl rfl _) (fun a hA => ?_)
    refine W_nil ?_
    refine then_nrm ?_
    have e2 := tab_keep c3 HH
    refine ⟨by omega, FrA.add (FrA.add (FrA.add (FrA.add (FrA.nil hA.sz hA.df) 1 _ (hA.get 1 _ rfl)) 2 _ (hA.get 2 _ rfl)) 42 _ (hA.get 42 _ rfl)) 43 _ ((hA.get 43 _ rfl).trans (congrArg (Value.int .i64) (wrap_up (by omega)))), HB, e2, RR⟩
  refine wp_exit ?_
  refine then_ext ?_
  refine then_ext ?_
  refine blk_eq ?_
  refine then_nrm ?_
  show Code.wp Try.prog _ _ _ _
  refine wp_seq ?_
  have ej : j = 3 := by have := of_decide_eq_false c2; omega
  subst ej
  replace HH := to_fixA HH
  refine wp_region_list ?_
  refine W_val hA rfl 53 rfl (by decide) _ _ (R_fa hA rfl rfl (fun w => fa_hart _ 1 1 (by decide) rfl w) _) (fun a hA => ?_)
  refine W_val hA rfl 54 rfl (by decide) _ _ (R_ixa hA rfl rfl rfl (fun w => ixa_hart _ w) _) (fun a hA => ?_)
  refine W_stUx hA rfl rfl rfl rfl rfl HH (by decide) (by decide) (fun w12 x1_2 hx1_2 hT HN => ?_)
  replace HB := HB.trans (hT.bel _ gHH)
  replace RR := hT.hart RR (by omega)
  replace HH := HN
  clear hT HN
  refine W_nil ?_
  refine then_nrm ?_
  show Code.wp Try.prog _ _ _ _
  refine wp_seq ?_
  refine wp_region_list ?_
  refine W_val hA rfl 55 rfl (by decide) _ _ (R_fa hA rfl rfl (fun w => fa_hart _ 0 0 (by decide) rfl w) _) (fun a hA => ?_)
  refine W_val hA rfl 56 rfl (by decide) _ _ (R_ld hA rfl rfl ag_u64 (show _ = some (Value.int .u64 ((fixA t).n 0)) from HH.u 0 (by decide) (by decide))) (fun a hA => ?_)
  refine W_val hA rfl 57 rfl (by decide) _ _ (R_andNot hA rfl rfl rfl _) (fun a hA => ?_)
  refine W_val hA rfl 58 rfl (by decide) _ _ (R_fa hA rfl rfl (fun w => fa_hart _ 0 0 (by decide) rfl w) _) (fun a hA => ?_)
  refine W_stUx hA rfl rfl rfl rfl rfl HH (by decide) (by decide) (fun w13 x0_3 hx0_3 hT HN => ?_)
  replace HB := HB.trans (hT.bel _ gHH)
  replace RR := hT.hart RR (by omega)
  replace HH := HN
  clear hT HN
  refine W_nil ?_
  refine then_nrm ?_
  show Code.wp Try.prog _ _ _ _
  refine wp_seq ?_
  refine wp_seq ?_
  refine wp_region_list ?_
  refine W_val hA rfl 59 rfl (by decide) _ _ (R_fa hA rfl rfl (fun w => fa_hart _ 2 33 (by decide) rfl w) _) (fun a hA => ?_)
  refine W_val hA rfl 60 rfl (by decide) _ _ (R_ld hA rfl rfl ag_u8 (show _ = some (Value.int .u8 ((fixA t).n 33)) from HH.p)) (fun a hA => ?_)
  refine W_val hA rfl 61 rfl (by decide) _ _ (R_neqB hA rfl rfl rfl _) (fun a hA => ?_)
  refine W_val hA rfl 62 rfl (by decide) _ _ (R_mov hA rfl rfl _) (fun a hA => ?_)
  refine W_split hA 62 rfl (fun c4 hA => ?_) (fun c4 hA => ?_)
  · skip
    refine W_gval hA rfl rfl rfl 63 rfl (by decide) _ _ (R_fa hA rfl rfl (fun w => fa_hart _ 2 33 (by decide) rfl w) _) (fun a hA => ?_)
    refine W_gval hA rfl rfl rfl 64 rfl (by decide) _ _ (R_ld hA rfl rfl ag_u8 (show _ = some (Value.int .u8 ((fixA t).n 33)) from HH.p)) (fun a hA => ?_)
    refine W_gval hA rfl rfl rfl 65 rfl (by decide) _ _ (R_neqB hA rfl rfl rfl _) (fun a hA => ?_)
    refine W_val hA rfl 66 rfl (by decide) _ _ (R_pick hA rfl rfl rfl _) (fun a hA => ?_)
    refine W_nil ?_
    refine then_nrm ?_
    show Code.wp Try.prog _ _ _ _
    refine wp_cond_split (hA.ev (x := .tmp 66) rfl) (fun c5 => ?_) (fun c5 => ?_)
    · skip
      refine wp_region_list ?_
      refine W_val hA rfl 67 rfl (by decide) _ _ (R_fa hA rfl rfl (fun w => fa_hart _ 2 33 (by decide) rfl w) _) (fun a hA => ?_)
      refine W_stPx hA rfl rfl rfl rfl rfl HH (fun w14 x33_4 hx33_4 hT HN => ?_)
      replace HB := HB.trans (hT.bel _ gHH)
      replace RR := hT.hart RR (by omega)
      replace HH := HN
      clear hT HN
      refine W_nil ?_
      refine then_nrm ?_
      show Code.wp Try.prog _ _ _ _
      refine wp_seq ?_
      refine wp_region_list ?_
      refine W_val hA rfl 68 rfl (by decide) _ _ (R_fa hA rfl rfl (fun w => fa_hart _ 3 34 (by decide) rfl w) _) (fun a hA => ?_)
      refine W_val hA rfl 69 rfl (by decide) _ _ (R_ld hA rfl rfl ag_bool (show _ = some (Value.bool t.v) from HH.v)) (fun a hA => ?_)
      refine W_val hA rfl 70 rfl (by decide) _ _ (R_mov hA rfl rfl _) (fun a hA => ?_)
      refine W_split hA 70 rfl (fun c6 hA => ?_) (fun c6 hA => ?_)
      · skip
        refine W_gval hA rfl rfl rfl 71 rfl (by decide) _ _ (R_fa hA rfl rfl (fun w => fa_hart _ 2 33 (by decide) rfl w) _) (fun a hA => ?_)
        refine W_gval hA rfl rfl rfl 72 rfl (by decide) _ _ (R_ld hA rfl rfl ag_u8 (show _ = some (Value.int .u8 (x33_4)) from HH.p)) (fun a hA => ?_)
        refine W_gval hA rfl rfl rfl 73 rfl (by decide) _ _ (R_neqB hA rfl rfl rfl _) (fun a hA => ?_)
        refine W_val hA rfl 74 rfl (by decide) _ _ (R_pick hA rfl rfl rfl _) (fun a hA => ?_)
        refine W_val hA rfl 75 rfl (by decide) _ _ (R_fa hA rfl rfl (fun w => fa_hart _ 3 34 (by decide) rfl w) _) (fun a hA => ?_)
        refine W_stVx hA rfl rfl rfl rfl rfl HH (fun w15 x34_5 hx34_5 hT HN => ?_)
        replace HB := HB.trans (hT.bel _ gHH)
        replace RR := hT.hart RR (by omega)
        replace HH := HN
        clear hT HN
        refine W_nil ?_
        refine then_nrm ?_
        show Code.wp Try.prog _ _ _ _
        refine wp_seq ?_
        refine wp_region_list ?_
        refine W_val hA rfl 76 rfl (by decide) _ _ (R_fa hA rfl rfl (fun w => fa_hart _ 6 37 (by decide) rfl w) _) (fun a hA => ?_)
        refine W_val hA rfl 77 rfl (by decide) _ _ (R_ld hA rfl rfl ag_u64 (show _ = some (Value.int .u64 ((fixA t).n 37)) from HH.u 37 (by decide) (by decide))) (fun a hA => ?_)
        refine W_val hA rfl 78 rfl (by decide) _ _ (R_and hA rfl rfl rfl _) (fun a hA => ?_)
        refine W_val hA rfl 79 rfl (by decide) _ _ (R_fa hA rfl rfl (fun w => fa_hart _ 6 37 (by decide) rfl w) _) (fun a hA => ?_)
        refine W_stUx hA rfl rfl rfl rfl rfl HH (by decide) (by decide) (fun w16 x37_6 hx37_6 hT HN => ?_)
        replace HB := HB.trans (hT.bel _ gHH)
        replace RR := hT.hart RR (by omega)
        replace HH := HN
        clear hT HN
        refine W_nil ?_
        refine then_nrm ?_
        show Code.wp Try.prog _ _ _ _
        refine wp_seq ?_
        refine wp_seq ?_
        refine wp_region_list ?_
        refine W_val hA rfl 80 rfl (by decide) _ _ (R_fa hA rfl rfl (fun w => fa_hart _ 5 36 (by decide) rfl w) _) (fun a hA => ?_)
        refine W_val hA rfl 81 rfl (by decide) _ _ (R_ld hA rfl rfl ag_bool (show _ = some (Value.bool t.held) from HH.hd)) (fun a hA => ?_)
        refine W_val hA rfl 82 rfl (by decide) _ _ (R_not hA rfl rfl _) (fun a hA => ?_)
        refine W_nil ?_
        refine then_nrm ?_
        show Code.wp Try.prog _ _ _ _
        refine wp_cond_split (hA.ev (x := .tmp 82) rfl) (fun c7 => ?_) (fun c7 => ?_)
        · skip
          refine wp_region_list ?_
          refine W_val hA rfl 83 rfl (by decide) _ _ (R_fa hA rfl rfl (fun w => fa_hart _ 6 37 (by decide) rfl w) _) (fun a hA => ?_)
          refine W_stUx hA rfl rfl rfl rfl rfl HH (by decide) (by decide) (fun w17 x37_7 hx37_7 hT HN => ?_)
          replace HB := HB.trans (hT.bel _ gHH)
          replace RR := hT.hart RR (by omega)
          replace HH := HN
          clear hT HN
          refine W_nil ?_
          refine then_nrm ?_
          show Code.wp Try.prog _ _ _ _
          refine wp_seq ?_
          refine wp_region_list ?_
          refine W_val hA rfl 84 rfl (by decide) _ _ (R_row hA rfl rfl HH Try.underlying25 (size_hart.trans (by rw [varr_size]))) (fun a hA => ?_)
          refine W_cpH hA rfl rfl rfl rfl rfl RR (fun w18 hT HN => ?_)
          replace HB := HB.trans (hT.bel _ gRR)
          replace HH := hT.hart HH (by omega)
          replace RR := HN
          clear hT HN
          refine W_nil ?_
          refine then_nrm ?_
          show Code.wp Try.prog _ _ _ _
          refine wp_ret ?_
          refine ret_hart (j := 2) (by kernel_rfl) hA rfl RR ?_
          refine ⟨congrArg (fun s : HS => Ending.returned (hartV s)) ?_, HB⟩
          have p1 : ¬ t.n 33 = 1 := by have := c4; rw [fixA_33] at this; simpa using this
          have p3 : ¬ t.n 33 = 3 := by have := c5; rw [fixA_33] at this; simpa using this
          have q3 : (t.n 33 != 3) = true := by simpa using p3
          refine fix_end ?_ rfl rfl ?_ ?_ ?_ ?_ (fun i h => ?_)
          · show x34_5 = (t.v && (t.n 33 != 3))
            rw [hx34_5, hx33_4, q3, show t.v = true from c6]; rfl
          · show x0_3 = _
            rw [hx0_3, fixA_0]; rfl
          · exact hx1_2
          · show x33_4 = (if t.n 33 = 1 ∨ t.n 33 = 3 then t.n 33 else 0)
            rw [hx33_4, if_neg (fun q => q.elim p1 p3)]
          · show x37_7 = (if t.held = true then bits .and .u64 (t.n 37) 72057594037927928 else 0)
            rw [hx37_7, show t.held = false by simpa using c7]; rfl
          obtain ⟨h0, h1, h2, h3⟩ := h
          simp only [HS.put, HS.putV, h0, h1, h2, h3, if_false]
        refine wp_skip ?_
        refine then_nrm ?_
        show Code.wp Try.prog _ _ _ _
        refine wp_seq ?_
        refine wp_region_list ?_
        refine W_val hA rfl 84 rfl (by decide) _ _ (R_row hA rfl rfl HH Try.underlying25 (size_hart.trans (by rw [varr_size]))) (fun a hA => ?_)
        refine W_cpH hA rfl rfl rfl rfl rfl RR (fun w19 hT HN => ?_)
        replace HB := HB.trans (hT.bel _ gRR)
        replace HH := hT.hart HH (by omega)
        replace RR := HN
        clear hT HN
        refine W_nil ?_
        refine then_nrm ?_
        show Code.wp Try.prog _ _ _ _
        refine wp_ret ?_
        refine ret_hart (j := 2) (by kernel_rfl) hA rfl RR ?_
        refine ⟨congrArg (fun s : HS => Ending.returned (hartV s)) ?_, HB⟩
        have p1 : ¬ t.n 33 = 1 := by have := c4; rw [fixA_33] at this; simpa using this
        have p3 : ¬ t.n 33 = 3 := by have := c5; rw [fixA_33] at this; simpa using this
        have q3 : (t.n 33 != 3) = true := by simpa using p3
        refine fix_end ?_ rfl rfl ?_ ?_ ?_ ?_ (fun i h => ?_)
        · show x34_5 = (t.v && (t.n 33 != 3))
          rw [hx34_5, hx33_4, q3, show t.v = true from c6]; rfl
        · show x0_3 = _
          rw [hx0_3, fixA_0]; rfl
        · exact hx1_2
        · show x33_4 = (if t.n 33 = 1 ∨ t.n 33 = 3 then t.n 33 else 0)
          rw [hx33_4, if_neg (fun q => q.elim p1 p3)]
        · show x37_6 = (if t.held = true then bits .and .u64 (t.n 37) 72057594037927928 else 0)
          rw [hx37_6, show t.held = true by simpa using c7, if_pos rfl, fixA_37]
        obtain ⟨h0, h1, h2, h3⟩ := h
        simp only [HS.put, HS.putV, h0, h1, h2, h3, if_false]
      refine W_gskip hA rfl rfl rfl 71 rfl (by decide) (fun a hA => ?_)
      refine W_gskip hA rfl rfl rfl 72 rfl (by decide) (fun a hA => ?_)
      refine W_gskip hA rfl rfl rfl 73 rfl (by decide) (fun a hA => ?_)
      refine W_val hA rfl 74 rfl (by decide) _ _ (R_pick hA rfl rfl rfl _) (fun a hA => ?_)
      refine W_val hA rfl 75 rfl (by decide) _ _ (R_fa hA rfl rfl (fun w => fa_hart _ 3 34 (by decide) rfl w) _) (fun a hA => ?_)
      refine W_stVx hA rfl rfl rfl rfl rfl HH (fun w20 x34_8 hx34_8 hT HN => ?_)
      replace HB := HB.trans (hT.bel _ gHH)
      replace RR := hT.hart RR (by omega)
      replace HH := HN
      clear hT HN
      refine W_nil ?_
      refine then_nrm ?_
      show Code.wp Try.prog _ _ _ _
      refine wp_seq ?_
      refine wp_region_list ?_
      refine W_val hA rfl 76 rfl (by decide) _ _ (R_fa hA rfl rfl (fun w => fa_hart _ 6 37 (by decide) rfl w) _) (fun a hA => ?_)
      refine W_val hA rfl 77 rfl (by decide) _ _ (R_ld hA rfl rfl ag_u64 (show _ = some (Value.int .u64 ((fixA t).n 37)) from HH.u 37 (by decide) (by decide))) (fun a hA => ?_)
      refine W_val hA rfl 78 rfl (by decide) _ _ (R_and hA rfl rfl rfl _) (fun a hA => ?_)
      refine W_val hA rfl 79 rfl (by decide) _ _ (R_fa hA rfl rfl (fun w => fa_hart _ 6 37 (by decide) rfl w) _) (fun a hA => ?_)
      refine W_stUx hA rfl rfl rfl rfl rfl HH (by decide) (by decide) (fun w21 x37_9 hx37_9 hT HN => ?_)
      replace HB := HB.trans (hT.bel _ gHH)
      replace RR := hT.hart RR (by omega)
      replace HH := HN
      clear hT HN
      refine W_nil ?_
      refine then_nrm ?_
      show Code.wp Try.prog _ _ _ _
      refine wp_seq ?_
      refine wp_seq ?_
      refine wp_region_list ?_
      refine W_val hA rfl 80 rfl (by decide) _ _ (R_fa hA rfl rfl (fun w => fa_hart _ 5 36 (by decide) rfl w) _) (fun a hA => ?_)
      refine W_val hA rfl 81 rfl (by decide) _ _ (R_ld hA rfl rfl ag_bool (show _ = some (Value.bool t.held) from HH.hd)) (fun a hA => ?_)
      refine W_val hA rfl 82 rfl (by decide) _ _ (R_not hA rfl rfl _) (fun a hA => ?_)
      refine W_nil ?_
      refine then_nrm ?_
      show Code.wp Try.prog _ _ _ _
      refine wp_cond_split (hA.ev (x := .tmp 82) rfl) (fun c8 => ?_) (fun c8 => ?_)
      · skip
        refine wp_region_list ?_
        refine W_val hA rfl 83 rfl (by decide) _ _ (R_fa hA rfl rfl (fun w => fa_hart _ 6 37 (by decide) rfl w) _) (fun a hA => ?_)
        refine W_stUx hA rfl rfl rfl rfl rfl HH (by decide) (by decide) (fun w22 x37_10 hx37_10 hT HN => ?_)
        replace HB := HB.trans (hT.bel _ gHH)
        replace RR := hT.hart RR (by omega)
        replace HH := HN
        clear hT HN
        refine W_nil ?_
        refine then_nrm ?_
        show Code.wp Try.prog _ _ _ _
        refine wp_seq ?_
        refine wp_region_list ?_
        refine W_val hA rfl 84 rfl (by decide) _ _ (R_row hA rfl rfl HH Try.underlying25 (size_hart.trans (by rw [varr_size]))) (fun a hA => ?_)
        refine W_cpH hA rfl rfl rfl rfl rfl RR (fun w23 hT HN => ?_)
        replace HB := HB.trans (hT.bel _ gRR)
        replace HH := hT.hart HH (by omega)
        replace RR := HN
        clear hT HN
        refine W_nil ?_
        refine then_nrm ?_
        show Code.wp Try.prog _ _ _ _
        refine wp_ret ?_
        refine ret_hart (j := 2) (by kernel_rfl) hA rfl RR ?_
        refine ⟨congrArg (fun s : HS => Ending.returned (hartV s)) ?_, HB⟩
        have p1 : ¬ t.n 33 = 1 := by have := c4; rw [fixA_33] at this; simpa using this
        have p3 : ¬ t.n 33 = 3 := by have := c5; rw [fixA_33] at this; simpa using this
        have q3 : (t.n 33 != 3) = true := by simpa using p3
        refine fix_end ?_ rfl rfl ?_ ?_ ?_ ?_ (fun i h => ?_)
        · show x34_8 = (t.v && (t.n 33 != 3))
          rw [hx34_8, show t.v = false from c6]; rfl
        · show x0_3 = _
          rw [hx0_3, fixA_0]; rfl
        · exact hx1_2
        · show x33_4 = (if t.n 33 = 1 ∨ t.n 33 = 3 then t.n 33 else 0)
          rw [hx33_4, if_neg (fun q => q.elim p1 p3)]
        · show x37_10 = (if t.held = true then bits .and .u64 (t.n 37) 72057594037927928 else 0)
          rw [hx37_10, show t.held = false by simpa using c8]; rfl
        obtain ⟨h0, h1, h2, h3⟩ := h
        simp only [HS.put, HS.putV, h0, h1, h2, h3, if_false]
      refine wp_skip ?_
      refine then_nrm ?_
      show Code.wp Try.prog _ _ _ _
      refine wp_seq ?_
      refine wp_region_list ?_
      refine W_val hA rfl 84 rfl (by decide) _ _ (R_row hA rfl rfl HH Try.underlying25 (size_hart.trans (by rw [varr_size]))) (fun a hA => ?_)
      refine W_cpH hA rfl rfl rfl rfl rfl RR (fun w24 hT HN => ?_)
      replace HB := HB.trans (hT.bel _ gRR)
      replace HH := hT.hart HH (by omega)
      replace RR := HN
      clear hT HN
      refine W_nil ?_
      refine then_nrm ?_
      show Code.wp Try.prog _ _ _ _
      refine wp_ret ?_
      refine ret_hart (j := 2) (by kernel_rfl) hA rfl RR ?_
      refine ⟨congrArg (fun s : HS => Ending.returned (hartV s)) ?_, HB⟩
      have p1 : ¬ t.n 33 = 1 := by have := c4; rw [fixA_33] at this; simpa using this
      have p3 : ¬ t.n 33 = 3 := by have := c5; rw [fixA_33] at this; simpa using this
      have q3 : (t.n 33 != 3) = true := by simpa using p3
      refine fix_end ?_ rfl rfl ?_ ?_ ?_ ?_ (fun i h => ?_)
      · show x34_8 = (t.v && (t.n 33 != 3))
        rw [hx34_8, show t.v = false from c6]; rfl
      · show x0_3 = _
        rw [hx0_3, fixA_0]; rfl
      · exact hx1_2
      · show x33_4 = (if t.n 33 = 1 ∨ t.n 33 = 3 then t.n 33 else 0)
        rw [hx33_4, if_neg (fun q => q.elim p1 p3)]
      · show x37_9 = (if t.held = true then bits .and .u64 (t.n 37) 72057594037927928 else 0)
        rw [hx37_9, show t.held = true by simpa using c8, if_pos rfl, fixA_37]
      obtain ⟨h0, h1, h2, h3⟩ := h
      simp only [HS.put, HS.putV, h0, h1, h2, h3, if_false]
    refine wp_skip ?_
    refine then_nrm ?_
    show Code.wp Try.prog _ _ _ _
    refine wp_seq ?_
    refine wp_region_list ?_
    refine W_val hA rfl 68 rfl (by decide) _ _ (R_fa hA rfl rfl (fun w => fa_hart _ 3 34 (by decide) rfl w) _) (fun a hA => ?_)
    refine W_val hA rfl 69 rfl (by decide) _ _ (R_ld hA rfl rfl ag_bool (show _ = some (Value.bool t.v) from HH.v)) (fun a hA => ?_)
    refine W_val hA rfl 70 rfl (by decide) _ _ (R_mov hA rfl rfl _) (fun a hA => ?_)
    refine W_split hA 70 rfl (fun c9 hA => ?_) (fun c9 hA => ?_)
    · skip
      refine W_gval hA rfl rfl rfl 71 rfl (by decide) _ _ (R_fa hA rfl rfl (fun w => fa_hart _ 2 33 (by decide) rfl w) _) (fun a hA => ?_)
      refine W_gval hA rfl rfl rfl 72 rfl (by decide) _ _ (R_ld hA rfl rfl ag_u8 (show _ = some (Value.int .u8 ((fixA t).n 33)) from HH.p)) (fun a hA => ?_)
      refine W_gval hA rfl rfl rfl 73 rfl (by decide) _ _ (R_neqB hA rfl rfl rfl _) (fun a hA => ?_)
      refine W_val hA rfl 74 rfl (by decide) _ _ (R_pick hA rfl rfl rfl _) (fun a hA => ?_)
      refine W_val hA rfl 75 rfl (by decide) _ _ (R_fa hA rfl rfl (fun w => fa_hart _ 3 34 (by decide) rfl w) _) (fun a hA => ?_)
      refine W_stVx hA rfl rfl rfl rfl rfl HH (fun w25 x34_11 hx34_11 hT HN => ?_)
      replace HB := HB.trans (hT.bel _ gHH)
      replace RR := hT.hart RR (by omega)
      replace HH := HN
      clear hT HN
      refine W_nil ?_
      refine then_nrm ?_
      show Code.wp Try.prog _ _ _ _
      refine wp_seq ?_
      refine wp_region_list ?_
      refine W_val hA rfl 76 rfl (by decide) _ _ (R_fa hA rfl rfl (fun w => fa_hart _ 6 37 (by decide) rfl w) _) (fun a hA => ?_)
      refine W_val hA rfl 77 rfl (by decide) _ _ (R_ld hA rfl rfl ag_u64 (show _ = some (Value.int .u64 ((fixA t).n 37)) from HH.u 37 (by decide) (by decide))) (fun a hA => ?_)
      refine W_val hA rfl 78 rfl (by decide) _ _ (R_and hA rfl rfl rfl _) (fun a hA => ?_)
      refine W_val hA rfl 79 rfl (by decide) _ _ (R_fa hA rfl rfl (fun w => fa_hart _ 6 37 (by decide) rfl w) _) (fun a hA => ?_)
      refine W_stUx hA rfl rfl rfl rfl rfl HH (by decide) (by decide) (fun w26 x37_12 hx37_12 hT HN => ?_)
      replace HB := HB.trans (hT.bel _ gHH)
      replace RR := hT.hart RR (by omega)
      replace HH := HN
      clear hT HN
      refine W_nil ?_
      refine then_nrm ?_
      show Code.wp Try.prog _ _ _ _
      refine wp_seq ?_
      refine wp_seq ?_
      refine wp_region_list ?_
      refine W_val hA rfl 80 rfl (by decide) _ _ (R_fa hA rfl rfl (fun w => fa_hart _ 5 36 (by decide) rfl w) _) (fun a hA => ?_)
      refine W_val hA rfl 81 rfl (by decide) _ _ (R_ld hA rfl rfl ag_bool (show _ = some (Value.bool t.held) from HH.hd)) (fun a hA => ?_)
      refine W_val hA rfl 82 rfl (by decide) _ _ (R_not hA rfl rfl _) (fun a hA => ?_)
      refine W_nil ?_
      refine then_nrm ?_
      show Code.wp Try.prog _ _ _ _
      refine wp_cond_split (hA.ev (x := .tmp 82) rfl) (fun c10 => ?_) (fun c10 => ?_)
      · skip
        refine wp_region_list ?_
        refine W_val hA rfl 83 rfl (by decide) _ _ (R_fa hA rfl rfl (fun w => fa_hart _ 6 37 (by decide) rfl w) _) (fun a hA => ?_)
        refine W_stUx hA rfl rfl rfl rfl rfl HH (by decide) (by decide) (fun w27 x37_13 hx37_13 hT HN => ?_)
        replace HB := HB.trans (hT.bel _ gHH)
        replace RR := hT.hart RR (by omega)
        replace HH := HN
        clear hT HN
        refine W_nil ?_
        refine then_nrm ?_
        show Code.wp Try.prog _ _ _ _
        refine wp_seq ?_
        refine wp_region_list ?_
        refine W_val hA rfl 84 rfl (by decide) _ _ (R_row hA rfl rfl HH Try.underlying25 (size_hart.trans (by rw [varr_size]))) (fun a hA => ?_)
        refine W_cpH hA rfl rfl rfl rfl rfl RR (fun w28 hT HN => ?_)
        replace HB := HB.trans (hT.bel _ gRR)
        replace HH := hT.hart HH (by omega)
        replace RR := HN
        clear hT HN
        refine W_nil ?_
        refine then_nrm ?_
        show Code.wp Try.prog _ _ _ _
        refine wp_ret ?_
        refine ret_hart (j := 2) (by kernel_rfl) hA rfl RR ?_
        refine ⟨congrArg (fun s : HS => Ending.returned (hartV s)) ?_, HB⟩
        have p : t.n 33 = 3 := by have := c5; rw [fixA_33] at this; simpa using this
        have q3 : (t.n 33 != 3) = false := by simpa using p
        refine fix_end ?_ rfl rfl ?_ ?_ ?_ ?_ (fun i h => ?_)
        · show x34_11 = (t.v && (t.n 33 != 3))
          rw [hx34_11, fixA_33, q3, show t.v = true from c9]; rfl
        · show x0_3 = _
          rw [hx0_3, fixA_0]; rfl
        · exact hx1_2
        · show (fixA t).n 33 = (if t.n 33 = 1 ∨ t.n 33 = 3 then t.n 33 else 0)
          rw [fixA_33, if_pos (.inr p)]
        · show x37_13 = (if t.held = true then bits .and .u64 (t.n 37) 72057594037927928 else 0)
          rw [hx37_13, show t.held = false by simpa using c10]; rfl
        obtain ⟨h0, h1, h2, h3⟩ := h
        simp only [HS.put, HS.putV, h0, h1, h2, h3, if_false]
      refine wp_skip ?_
      refine then_nrm ?_
      show Code.wp Try.prog _ _ _ _
      refine wp_seq ?_
      refine wp_region_list ?_
      refine W_val hA rfl 84 rfl (by decide) _ _ (R_row hA rfl rfl HH Try.underlying25 (size_hart.trans (by rw [varr_size]))) (fun a hA => ?_)
      refine W_cpH hA rfl rfl rfl rfl rfl RR (fun w29 hT HN => ?_)
      replace HB := HB.trans (hT.bel _ gRR)
      replace HH := hT.hart HH (by omega)
      replace RR := HN
      clear hT HN
      refine W_nil ?_
      refine then_nrm ?_
      show Code.wp Try.prog _ _ _ _
      refine wp_ret ?_
      refine ret_hart (j := 2) (by kernel_rfl) hA rfl RR ?_
      refine ⟨congrArg (fun s : HS => Ending.returned (hartV s)) ?_, HB⟩
      have p : t.n 33 = 3 := by have := c5; rw [fixA_33] at this; simpa using this
      have q3 : (t.n 33 != 3) = false := by simpa using p
      refine fix_end ?_ rfl rfl ?_ ?_ ?_ ?_ (fun i h => ?_)
      · show x34_11 = (t.v && (t.n 33 != 3))
        rw [hx34_11, fixA_33, q3, show t.v = true from c9]; rfl
      · show x0_3 = _
        rw [hx0_3, fixA_0]; rfl
      · exact hx1_2
      · show (fixA t).n 33 = (if t.n 33 = 1 ∨ t.n 33 = 3 then t.n 33 else 0)
        rw [fixA_33, if_pos (.inr p)]
      · show x37_12 = (if t.held = true then bits .and .u64 (t.n 37) 72057594037927928 else 0)
        rw [hx37_12, show t.held = true by simpa using c10, if_pos rfl, fixA_37]
      obtain ⟨h0, h1, h2, h3⟩ := h
      simp only [HS.put, HS.putV, h0, h1, h2, h3, if_false]
    refine W_gskip hA rfl rfl rfl 71 rfl (by decide) (fun a hA => ?_)
    refine W_gskip hA rfl rfl rfl 72 rfl (by decide) (fun a hA => ?_)
    refine W_gskip hA rfl rfl rfl 73 rfl (by decide) (fun a hA => ?_)
    refine W_val hA rfl 74 rfl (by decide) _ _ (R_pick hA rfl rfl rfl _) (fun a hA => ?_)
    refine W_val hA rfl 75 rfl (by decide) _ _ (R_fa hA rfl rfl (fun w => fa_hart _ 3 34 (by decide) rfl w) _) (fun a hA => ?_)
    refine W_stVx hA rfl rfl rfl rfl rfl HH (fun w30 x34_14 hx34_14 hT HN => ?_)
    replace HB := HB.trans (hT.bel _ gHH)
    replace RR := hT.hart RR (by omega)
    replace HH := HN
    clear hT HN
    refine W_nil ?_
    refine then_nrm ?_
    show Code.wp Try.prog _ _ _ _
    refine wp_seq ?_
    refine wp_region_list ?_
    refine W_val hA rfl 76 rfl (by decide) _ _ (R_fa hA rfl rfl (fun w => fa_hart _ 6 37 (by decide) rfl w) _) (fun a hA => ?_)
    refine W_val hA rfl 77 rfl (by decide) _ _ (R_ld hA rfl rfl ag_u64 (show _ = some (Value.int .u64 ((fixA t).n 37)) from HH.u 37 (by decide) (by decide))) (fun a hA => ?_)
    refine W_val hA rfl 78 rfl (by decide) _ _ (R_and hA rfl rfl rfl _) (fun a hA => ?_)
    refine W_val hA rfl 79 rfl (by decide) _ _ (R_fa hA rfl rfl (fun w => fa_hart _ 6 37 (by decide) rfl w) _) (fun a hA => ?_)
    refine W_stUx hA rfl rfl rfl rfl rfl HH (by decide) (by decide) (fun w31 x37_15 hx37_15 hT HN => ?_)
    replace HB := HB.trans (hT.bel _ gHH)
    replace RR := hT.hart RR (by omega)
    replace HH := HN
    clear hT HN
    refine W_nil ?_
    refine then_nrm ?_
    show Code.wp Try.prog _ _ _ _
    refine wp_seq ?_
    refine wp_seq ?_
    refine wp_region_list ?_
    refine W_val hA rfl 80 rfl (by decide) _ _ (R_fa hA rfl rfl (fun w => fa_hart _ 5 36 (by decide) rfl w) _) (fun a hA => ?_)
    refine W_val hA rfl 81 rfl (by decide) _ _ (R_ld hA rfl rfl ag_bool (show _ = some (Value.bool t.held) from HH.hd)) (fun a hA => ?_)
    refine W_val hA rfl 82 rfl (by decide) _ _ (R_not hA rfl rfl _) (fun a hA => ?_)
    refine W_nil ?_
    refine then_nrm ?_
    show Code.wp Try.prog _ _ _ _
    refine wp_cond_split (hA.ev (x := .tmp 82) rfl) (fun c11 => ?_) (fun c11 => ?_)
    · skip
      refine wp_region_list ?_
      refine W_val hA rfl 83 rfl (by decide) _ _ (R_fa hA rfl rfl (fun w => fa_hart _ 6 37 (by decide) rfl w) _) (fun a hA => ?_)
      refine W_stUx hA rfl rfl rfl rfl rfl HH (by decide) (by decide) (fun w32 x37_16 hx37_16 hT HN => ?_)
      replace HB := HB.trans (hT.bel _ gHH)
      replace RR := hT.hart RR (by omega)
      replace HH := HN
      clear hT HN
      refine W_nil ?_
      refine then_nrm ?_
      show Code.wp Try.prog _ _ _ _
      refine wp_seq ?_
      refine wp_region_list ?_
      refine W_val hA rfl 84 rfl (by decide) _ _ (R_row hA rfl rfl HH Try.underlying25 (size_hart.trans (by rw [varr_size]))) (fun a hA => ?_)
      refine W_cpH hA rfl rfl rfl rfl rfl RR (fun w33 hT HN => ?_)
      replace HB := HB.trans (hT.bel _ gRR)
      replace HH := hT.hart HH (by omega)
      replace RR := HN
      clear hT HN
      refine W_nil ?_
      refine then_nrm ?_
      show Code.wp Try.prog _ _ _ _
      refine wp_ret ?_
      refine ret_hart (j := 2) (by kernel_rfl) hA rfl RR ?_
      refine ⟨congrArg (fun s : HS => Ending.returned (hartV s)) ?_, HB⟩
      have p : t.n 33 = 3 := by have := c5; rw [fixA_33] at this; simpa using this
      have q3 : (t.n 33 != 3) = false := by simpa using p
      refine fix_end ?_ rfl rfl ?_ ?_ ?_ ?_ (fun i h => ?_)
      · show x34_14 = (t.v && (t.n 33 != 3))
        rw [hx34_14, show t.v = false from c9]; rfl
      · show x0_3 = _
        rw [hx0_3, fixA_0]; rfl
      · exact hx1_2
      · show (fixA t).n 33 = (if t.n 33 = 1 ∨ t.n 33 = 3 then t.n 33 else 0)
        rw [fixA_33, if_pos (.inr p)]
      · show x37_16 = (if t.held = true then bits .and .u64 (t.n 37) 72057594037927928 else 0)
        rw [hx37_16, show t.held = false by simpa using c11]; rfl
      obtain ⟨h0, h1, h2, h3⟩ := h
      simp only [HS.put, HS.putV, h0, h1, h2, h3, if_false]
    refine wp_skip ?_
    refine then_nrm ?_
    show Code.wp Try.prog _ _ _ _
    refine wp_seq ?_
    refine wp_region_list ?_
    refine W_val hA rfl 84 rfl (by decide) _ _ (R_row hA rfl rfl HH Try.underlying25 (size_hart.trans (by rw [varr_size]))) (fun a hA => ?_)
    refine W_cpH hA rfl rfl rfl rfl rfl RR (fun w34 hT HN => ?_)
    replace HB := HB.trans (hT.bel _ gRR)
    replace HH := hT.hart HH (by omega)
    replace RR := HN
    clear hT HN
    refine W_nil ?_
    refine then_nrm ?_
    show Code.wp Try.prog _ _ _ _
    refine wp_ret ?_
    refine ret_hart (j := 2) (by kernel_rfl) hA rfl RR ?_
    refine ⟨congrArg (fun s : HS => Ending.returned (hartV s)) ?_, HB⟩
    have p : t.n 33 = 3 := by have := c5; rw [fixA_33] at this; simpa using this
    have q3 : (t.n 33 != 3) = false := by simpa using p
    refine fix_end ?_ rfl rfl ?_ ?_ ?_ ?_ (fun i h => ?_)
    · show x34_14 = (t.v && (t.n 33 != 3))
      rw [hx34_14, show t.v = false from c9]; rfl
    · show x0_3 = _
      rw [hx0_3, fixA_0]; rfl
    · exact hx1_2
    · show (fixA t).n 33 = (if t.n 33 = 1 ∨ t.n 33 = 3 then t.n 33 else 0)
      rw [fixA_33, if_pos (.inr p)]
    · show x37_15 = (if t.held = true then bits .and .u64 (t.n 37) 72057594037927928 else 0)
      rw [hx37_15, show t.held = true by simpa using c11, if_pos rfl, fixA_37]
    obtain ⟨h0, h1, h2, h3⟩ := h
    simp only [HS.put, HS.putV, h0, h1, h2, h3, if_false]
  refine W_gskip hA rfl rfl rfl 63 rfl (by decide) (fun a hA => ?_)
  refine W_gskip hA rfl rfl rfl 64 rfl (by decide) (fun a hA => ?_)
  refine W_gskip hA rfl rfl rfl 65 rfl (by decide) (fun a hA => ?_)
  refine W_val hA rfl 66 rfl (by decide) _ _ (R_pick hA rfl rfl rfl _) (fun a hA => ?_)
  refine W_nil ?_
  refine then_nrm ?_
  show Code.wp Try.prog _ _ _ _
  refine wp_cond_split (hA.ev (x := .tmp 66) rfl) (fun c12 => ?_) (fun c12 => ?_)
  · skip
    refine wp_region_list ?_
    refine W_val hA rfl 67 rfl (by decide) _ _ (R_fa hA rfl rfl (fun w => fa_hart _ 2 33 (by decide) rfl w) _) (fun a hA => ?_)
    refine W_stPx hA rfl rfl rfl rfl rfl HH (fun w35 x33_17 hx33_17 hT HN => ?_)
    replace HB := HB.trans (hT.bel _ gHH)
    replace RR := hT.hart RR (by omega)
    replace HH := HN
    clear hT HN
    refine W_nil ?_
    refine then_nrm ?_
    show Code.wp Try.prog _ _ _ _
    refine wp_seq ?_
    refine wp_region_list ?_
    refine W_val hA rfl 68 rfl (by decide) _ _ (R_fa hA rfl rfl (fun w => fa_hart _ 3 34 (by decide) rfl w) _) (fun a hA => ?_)
    refine W_val hA rfl 69 rfl (by decide) _ _ (R_ld hA rfl rfl ag_bool (show _ = some (Value.bool t.v) from HH.v)) (fun a hA => ?_)
    refine W_val hA rfl 70 rfl (by decide) _ _ (R_mov hA rfl rfl _) (fun a hA => ?_)
    refine W_split hA 70 rfl (fun c13 hA => ?_) (fun c13 hA => ?_)
    · skip
      refine W_gval hA rfl rfl rfl 71 rfl (by decide) _ _ (R_fa hA rfl rfl (fun w => fa_hart _ 2 33 (by decide) rfl w) _) (fun a hA => ?_)
      refine W_gval hA rfl rfl rfl 72 rfl (by decide) _ _ (R_ld hA rfl rfl ag_u8 (show _ = some (Value.int .u8 (x33_17)) from HH.p)) (fun a hA => ?_)
      refine W_gval hA rfl rfl rfl 73 rfl (by decide) _ _ (R_neqB hA rfl rfl rfl _) (fun a hA => ?_)
      refine W_val hA rfl 74 rfl (by decide) _ _ (R_pick hA rfl rfl rfl _) (fun a hA => ?_)
      refine W_val hA rfl 75 rfl (by decide) _ _ (R_fa hA rfl rfl (fun w => fa_hart _ 3 34 (by decide) rfl w) _) (fun a hA => ?_)
      refine W_stVx hA rfl rfl rfl rfl rfl HH (fun w36 x34_18 hx34_18 hT HN => ?_)
      replace HB := HB.trans (hT.bel _ gHH)
      replace RR := hT.hart RR (by omega)
      replace HH := HN
      clear hT HN
      refine W_nil ?_
      refine then_nrm ?_
      show Code.wp Try.prog _ _ _ _
      refine wp_seq ?_
      refine wp_region_list ?_
      refine W_val hA rfl 76 rfl (by decide) _ _ (R_fa hA rfl rfl (fun w => fa_hart _ 6 37 (by decide) rfl w) _) (fun a hA => ?_)
      refine W_val hA rfl 77 rfl (by decide) _ _ (R_ld hA rfl rfl ag_u64 (show _ = some (Value.int .u64 ((fixA t).n 37)) from HH.u 37 (by decide) (by decide))) (fun a hA => ?_)
      refine W_val hA rfl 78 rfl (by decide) _ _ (R_and hA rfl rfl rfl _) (fun a hA => ?_)
      refine W_val hA rfl 79 rfl (by decide) _ _ (R_fa hA rfl rfl (fun w => fa_hart _ 6 37 (by decide) rfl w) _) (fun a hA => ?_)
      refine W_stUx hA rfl rfl rfl rfl rfl HH (by decide) (by decide) (fun w37 x37_19 hx37_19 hT HN => ?_)
      replace HB := HB.trans (hT.bel _ gHH)
      replace RR := hT.hart RR (by omega)
      replace HH := HN
      clear hT HN
      refine W_nil ?_
      refine then_nrm ?_
      show Code.wp Try.prog _ _ _ _
      refine wp_seq ?_
      refine wp_seq ?_
      refine wp_region_list ?_
      refine W_val hA rfl 80 rfl (by decide) _ _ (R_fa hA rfl rfl (fun w => fa_hart _ 5 36 (by decide) rfl w) _) (fun a hA => ?_)
      refine W_val hA rfl 81 rfl (by decide) _ _ (R_ld hA rfl rfl ag_bool (show _ = some (Value.bool t.held) from HH.hd)) (fun a hA => ?_)
      refine W_val hA rfl 82 rfl (by decide) _ _ (R_not hA rfl rfl _) (fun a hA => ?_)
      refine W_nil ?_
      refine then_nrm ?_
      show Code.wp Try.prog _ _ _ _
      refine wp_cond_split (hA.ev (x := .tmp 82) rfl) (fun c14 => ?_) (fun c14 => ?_)
      · skip
        refine wp_region_list ?_
        refine W_val hA rfl 83 rfl (by decide) _ _ (R_fa hA rfl rfl (fun w => fa_hart _ 6 37 (by decide) rfl w) _) (fun a hA => ?_)
        refine W_stUx hA rfl rfl rfl rfl rfl HH (by decide) (by decide) (fun w38 x37_20 hx37_20 hT HN => ?_)
        replace HB := HB.trans (hT.bel _ gHH)
        replace RR := hT.hart RR (by omega)
        replace HH := HN
        clear hT HN
        refine W_nil ?_
        refine then_nrm ?_
        show Code.wp Try.prog _ _ _ _
        refine wp_seq ?_
        refine wp_region_list ?_
        refine W_val hA rfl 84 rfl (by decide) _ _ (R_row hA rfl rfl HH Try.underlying25 (size_hart.trans (by rw [varr_size]))) (fun a hA => ?_)
        refine W_cpH hA rfl rfl rfl rfl rfl RR (fun w39 hT HN => ?_)
        replace HB := HB.trans (hT.bel _ gRR)
        replace HH := hT.hart HH (by omega)
        replace RR := HN
        clear hT HN
        refine W_nil ?_
        refine then_nrm ?_
        show Code.wp Try.prog _ _ _ _
        refine wp_ret ?_
        cases c12
      refine wp_skip ?_
      refine then_nrm ?_
      show Code.wp Try.prog _ _ _ _
      refine wp_seq ?_
      refine wp_region_list ?_
      refine W_val hA rfl 84 rfl (by decide) _ _ (R_row hA rfl rfl HH Try.underlying25 (size_hart.trans (by rw [varr_size]))) (fun a hA => ?_)
      refine W_cpH hA rfl rfl rfl rfl rfl RR (fun w40 hT HN => ?_)
      replace HB := HB.trans (hT.bel _ gRR)
      replace HH := hT.hart HH (by omega)
      replace RR := HN
      clear hT HN
      refine W_nil ?_
      refine then_nrm ?_
      show Code.wp Try.prog _ _ _ _
      refine wp_ret ?_
      cases c12
    refine W_gskip hA rfl rfl rfl 71 rfl (by decide) (fun a hA => ?_)
    refine W_gskip hA rfl rfl rfl 72 rfl (by decide) (fun a hA => ?_)
    refine W_gskip hA rfl rfl rfl 73 rfl (by decide) (fun a hA => ?_)
    refine W_val hA rfl 74 rfl (by decide) _ _ (R_pick hA rfl rfl rfl _) (fun a hA => ?_)
    refine W_val hA rfl 75 rfl (by decide) _ _ (R_fa hA rfl rfl (fun w => fa_hart _ 3 34 (by decide) rfl w) _) (fun a hA => ?_)
    refine W_stVx hA rfl rfl rfl rfl rfl HH (fun w41 x34_21 hx34_21 hT HN => ?_)
    replace HB := HB.trans (hT.bel _ gHH)
    replace RR := hT.hart RR (by omega)
    replace HH := HN
    clear hT HN
    refine W_nil ?_
    refine then_nrm ?_
    show Code.wp Try.prog _ _ _ _
    refine wp_seq ?_
    refine wp_region_list ?_
    refine W_val hA rfl 76 rfl (by decide) _ _ (R_fa hA rfl rfl (fun w => fa_hart _ 6 37 (by decide) rfl w) _) (fun a hA => ?_)
    refine W_val hA rfl 77 rfl (by decide) _ _ (R_ld hA rfl rfl ag_u64 (show _ = some (Value.int .u64 ((fixA t).n 37)) from HH.u 37 (by decide) (by decide))) (fun a hA => ?_)
    refine W_val hA rfl 78 rfl (by decide) _ _ (R_and hA rfl rfl rfl _) (fun a hA => ?_)
    refine W_val hA rfl 79 rfl (by decide) _ _ (R_fa hA rfl rfl (fun w => fa_hart _ 6 37 (by decide) rfl w) _) (fun a hA => ?_)
    refine W_stUx hA rfl rfl rfl rfl rfl HH (by decide) (by decide) (fun w42 x37_22 hx37_22 hT HN => ?_)
    replace HB := HB.trans (hT.bel _ gHH)
    replace RR := hT.hart RR (by omega)
    replace HH := HN
    clear hT HN
    refine W_nil ?_
    refine then_nrm ?_
    show Code.wp Try.prog _ _ _ _
    refine wp_seq ?_
    refine wp_seq ?_
    refine wp_region_list ?_
    refine W_val hA rfl 80 rfl (by decide) _ _ (R_fa hA rfl rfl (fun w => fa_hart _ 5 36 (by decide) rfl w) _) (fun a hA => ?_)
    refine W_val hA rfl 81 rfl (by decide) _ _ (R_ld hA rfl rfl ag_bool (show _ = some (Value.bool t.held) from HH.hd)) (fun a hA => ?_)
    refine W_val hA rfl 82 rfl (by decide) _ _ (R_not hA rfl rfl _) (fun a hA => ?_)
    refine W_nil ?_
    refine then_nrm ?_
    show Code.wp Try.prog _ _ _ _
    refine wp_cond_split (hA.ev (x := .tmp 82) rfl) (fun c15 => ?_) (fun c15 => ?_)
    · skip
      refine wp_region_list ?_
      refine W_val hA rfl 83 rfl (by decide) _ _ (R_fa hA rfl rfl (fun w => fa_hart _ 6 37 (by decide) rfl w) _) (fun a hA => ?_)
      refine W_stUx hA rfl rfl rfl rfl rfl HH (by decide) (by decide) (fun w43 x37_23 hx37_23 hT HN => ?_)
      replace HB := HB.trans (hT.bel _ gHH)
      replace RR := hT.hart RR (by omega)
      replace HH := HN
      clear hT HN
      refine W_nil ?_
      refine then_nrm ?_
      show Code.wp Try.prog _ _ _ _
      refine wp_seq ?_
      refine wp_region_list ?_
      refine W_val hA rfl 84 rfl (by decide) _ _ (R_row hA rfl rfl HH Try.underlying25 (size_hart.trans (by rw [varr_size]))) (fun a hA => ?_)
      refine W_cpH hA rfl rfl rfl rfl rfl RR (fun w44 hT HN => ?_)
      replace HB := HB.trans (hT.bel _ gRR)
      replace HH := hT.hart HH (by omega)
      replace RR := HN
      clear hT HN
      refine W_nil ?_
      refine then_nrm ?_
      show Code.wp Try.prog _ _ _ _
      refine wp_ret ?_
      cases c12
    refine wp_skip ?_
    refine then_nrm ?_
    show Code.wp Try.prog _ _ _ _
    refine wp_seq ?_
    refine wp_region_list ?_
    refine W_val hA rfl 84 rfl (by decide) _ _ (R_row hA rfl rfl HH Try.underlying25 (size_hart.trans (by rw [varr_size]))) (fun a hA => ?_)
    refine W_cpH hA rfl rfl rfl rfl rfl RR (fun w45 hT HN => ?_)
    replace HB := HB.trans (hT.bel _ gRR)
    replace HH := hT.hart HH (by omega)
    replace RR := HN
    clear hT HN
    refine W_nil ?_
    refine then_nrm ?_
    show Code.wp Try.prog _ _ _ _
    refine wp_ret ?_
    cases c12
  refine wp_skip ?_
  refine then_nrm ?_
  show Code.wp Try.prog _ _ _ _
  refine wp_seq ?_
  refine wp_region_list ?_
  refine W_val hA rfl 68 rfl (by decide) _ _ (R_fa hA rfl rfl (fun w => fa_hart _ 3 34 (by decide) rfl w) _) (fun a hA => ?_)
  refine W_val hA rfl 69 rfl (by decide) _ _ (R_ld hA rfl rfl ag_bool (show _ = some (Value.bool t.v) from HH.v)) (fun a hA => ?_)
  refine W_val hA rfl 70 rfl (by decide) _ _ (R_mov hA rfl rfl _) (fun a hA => ?_)
  refine W_split hA 70 rfl (fun c16 hA => ?_) (fun c16 hA => ?_)
  · skip
    refine W_gval hA rfl rfl rfl 71 rfl (by decide) _ _ (R_fa hA rfl rfl (fun w => fa_hart _ 2 33 (by decide) rfl w) _) (fun a hA => ?_)
    refine W_gval hA rfl rfl rfl 72 rfl (by decide) _ _ (R_ld hA rfl rfl ag_u8 (show _ = some (Value.int .u8 ((fixA t).n 33)) from HH.p)) (fun a hA => ?_)
    refine W_gval hA rfl rfl rfl 73 rfl (by decide) _ _ (R_neqB hA rfl rfl rfl _) (fun a hA => ?_)
    refine W_val hA rfl 74 rfl (by decide) _ _ (R_pick hA rfl rfl rfl _) (fun a hA => ?_)
    refine W_val hA rfl 75 rfl (by decide) _ _ (R_fa hA rfl rfl (fun w => fa_hart _ 3 34 (by decide) rfl w) _) (fun a hA => ?_)
    refine W_stVx hA rfl rfl rfl rfl rfl HH (fun w46 x34_24 hx34_24 hT HN => ?_)
    replace HB := HB.trans (hT.bel _ gHH)
    replace RR := hT.hart RR (by omega)
    replace HH := HN
    clear hT HN
    refine W_nil ?_
    refine then_nrm ?_
    show Code.wp Try.prog _ _ _ _
    refine wp_seq ?_
    refine wp_region_list ?_
    refine W_val hA rfl 76 rfl (by decide) _ _ (R_fa hA rfl rfl (fun w => fa_hart _ 6 37 (by decide) rfl w) _) (fun a hA => ?_)
    refine W_val hA rfl 77 rfl (by decide) _ _ (R_ld hA rfl rfl ag_u64 (show _ = some (Value.int .u64 ((fixA t).n 37)) from HH.u 37 (by decide) (by decide))) (fun a hA => ?_)
    refine W_val hA rfl 78 rfl (by decide) _ _ (R_and hA rfl rfl rfl _) (fun a hA => ?_)
    refine W_val hA rfl 79 rfl (by decide) _ _ (R_fa hA rfl rfl (fun w => fa_hart _ 6 37 (by decide) rfl w) _) (fun a hA => ?_)
    refine W_stUx hA rfl rfl rfl rfl rfl HH (by decide) (by decide) (fun w47 x37_25 hx37_25 hT HN => ?_)
    replace HB := HB.trans (hT.bel _ gHH)
    replace RR := hT.hart RR (by omega)
    replace HH := HN
    clear hT HN
    refine W_nil ?_
    refine then_nrm ?_
    show Code.wp Try.prog _ _ _ _
    refine wp_seq ?_
    refine wp_seq ?_
    refine wp_region_list ?_
    refine W_val hA rfl 80 rfl (by decide) _ _ (R_fa hA rfl rfl (fun w => fa_hart _ 5 36 (by decide) rfl w) _) (fun a hA => ?_)
    refine W_val hA rfl 81 rfl (by decide) _ _ (R_ld hA rfl rfl ag_bool (show _ = some (Value.bool t.held) from HH.hd)) (fun a hA => ?_)
    refine W_val hA rfl 82 rfl (by decide) _ _ (R_not hA rfl rfl _) (fun a hA => ?_)
    refine W_nil ?_
    refine then_nrm ?_
    show Code.wp Try.prog _ _ _ _
    refine wp_cond_split (hA.ev (x := .tmp 82) rfl) (fun c17 => ?_) (fun c17 => ?_)
    · skip
      refine wp_region_list ?_
      refine W_val hA rfl 83 rfl (by decide) _ _ (R_fa hA rfl rfl (fun w => fa_hart _ 6 37 (by decide) rfl w) _) (fun a hA => ?_)
      refine W_stUx hA rfl rfl rfl rfl rfl HH (by decide) (by decide) (fun w48 x37_26 hx37_26 hT HN => ?_)
      replace HB := HB.trans (hT.bel _ gHH)
      replace RR := hT.hart RR (by omega)
      replace HH := HN
      clear hT HN
      refine W_nil ?_
      refine then_nrm ?_
      show Code.wp Try.prog _ _ _ _
      refine wp_seq ?_
      refine wp_region_list ?_
      refine W_val hA rfl 84 rfl (by decide) _ _ (R_row hA rfl rfl HH Try.underlying25 (size_hart.trans (by rw [varr_size]))) (fun a hA => ?_)
      refine W_cpH hA rfl rfl rfl rfl rfl RR (fun w49 hT HN => ?_)
      replace HB := HB.trans (hT.bel _ gRR)
      replace HH := hT.hart HH (by omega)
      replace RR := HN
      clear hT HN
      refine W_nil ?_
      refine then_nrm ?_
      show Code.wp Try.prog _ _ _ _
      refine wp_ret ?_
      refine ret_hart (j := 2) (by kernel_rfl) hA rfl RR ?_
      refine ⟨congrArg (fun s : HS => Ending.returned (hartV s)) ?_, HB⟩
      have p : t.n 33 = 1 := by have := c4; rw [fixA_33] at this; simpa using this
      have q3 : (t.n 33 != 3) = true := by rw [p]; rfl
      refine fix_end ?_ rfl rfl ?_ ?_ ?_ ?_ (fun i h => ?_)
      · show x34_24 = (t.v && (t.n 33 != 3))
        rw [hx34_24, fixA_33, q3, show t.v = true from c16]; rfl
      · show x0_3 = _
        rw [hx0_3, fixA_0]; rfl
      · exact hx1_2
      · show (fixA t).n 33 = (if t.n 33 = 1 ∨ t.n 33 = 3 then t.n 33 else 0)
        rw [fixA_33, if_pos (.inl p)]
      · show x37_26 = (if t.held = true then bits .and .u64 (t.n 37) 72057594037927928 else 0)
        rw [hx37_26, show t.held = false by simpa using c17]; rfl
      obtain ⟨h0, h1, h2, h3⟩ := h
      simp only [HS.put, HS.putV, h0, h1, h2, h3, if_false]
    refine wp_skip ?_
    refine then_nrm ?_
    show Code.wp Try.prog _ _ _ _
    refine wp_seq ?_
    refine wp_region_list ?_
    refine W_val hA rfl 84 rfl (by decide) _ _ (R_row hA rfl rfl HH Try.underlying25 (size_hart.trans (by rw [varr_size]))) (fun a hA => ?_)
    refine W_cpH hA rfl rfl rfl rfl rfl RR (fun w50 hT HN => ?_)
    replace HB := HB.trans (hT.bel _ gRR)
    replace HH := hT.hart HH (by omega)
    replace RR := HN
    clear hT HN
    refine W_nil ?_
    refine then_nrm ?_
    show Code.wp Try.prog _ _ _ _
    refine wp_ret ?_
    refine ret_hart (j := 2) (by kernel_rfl) hA rfl RR ?_
    refine ⟨congrArg (fun s : HS => Ending.returned (hartV s)) ?_, HB⟩
    have p : t.n 33 = 1 := by have := c4; rw [fixA_33] at this; simpa using this
    have q3 : (t.n 33 != 3) = true := by rw [p]; rfl
    refine fix_end ?_ rfl rfl ?_ ?_ ?_ ?_ (fun i h => ?_)
    · show x34_24 = (t.v && (t.n 33 != 3))
      rw [hx34_24, fixA_33, q3, show t.v = true from c16]; rfl
    · show x0_3 = _
      rw [hx0_3, fixA_0]; rfl
    · exact hx1_2
    · show (fixA t).n 33 = (if t.n 33 = 1 ∨ t.n 33 = 3 then t.n 33 else 0)
      rw [fixA_33, if_pos (.inl p)]
    · show x37_25 = (if t.held = true then bits .and .u64 (t.n 37) 72057594037927928 else 0)
      rw [hx37_25, show t.held = true by simpa using c17, if_pos rfl, fixA_37]
    obtain ⟨h0, h1, h2, h3⟩ := h
    simp only [HS.put, HS.putV, h0, h1, h2, h3, if_false]
  refine W_gskip hA rfl rfl rfl 71 rfl (by decide) (fun a hA => ?_)
  refine W_gskip hA rfl rfl rfl 72 rfl (by decide) (fun a hA => ?_)
  refine W_gskip hA rfl rfl rfl 73 rfl (by decide) (fun a hA => ?_)
  refine W_val hA rfl 74 rfl (by decide) _ _ (R_pick hA rfl rfl rfl _) (fun a hA => ?_)
  refine W_val hA rfl 75 rfl (by decide) _ _ (R_fa hA rfl rfl (fun w => fa_hart _ 3 34 (by decide) rfl w) _) (fun a hA => ?_)
  refine W_stVx hA rfl rfl rfl rfl rfl HH (fun w51 x34_27 hx34_27 hT HN => ?_)
  replace HB := HB.trans (hT.bel _ gHH)
  replace RR := hT.hart RR (by omega)
  replace HH := HN
  clear hT HN
  refine W_nil ?_
  refine then_nrm ?_
  show Code.wp Try.prog _ _ _ _
  refine wp_seq ?_
  refine wp_region_list ?_
  refine W_val hA rfl 76 rfl (by decide) _ _ (R_fa hA rfl rfl (fun w => fa_hart _ 6 37 (by decide) rfl w) _) (fun a hA => ?_)
  refine W_val hA rfl 77 rfl (by decide) _ _ (R_ld hA rfl rfl ag_u64 (show _ = some (Value.int .u64 ((fixA t).n 37)) from HH.u 37 (by decide) (by decide))) (fun a hA => ?_)
  refine W_val hA rfl 78 rfl (by decide) _ _ (R_and hA rfl rfl rfl _) (fun a hA => ?_)
  refine W_val hA rfl 79 rfl (by decide) _ _ (R_fa hA rfl rfl (fun w => fa_hart _ 6 37 (by decide) rfl w) _) (fun a hA => ?_)
  refine W_stUx hA rfl rfl rfl rfl rfl HH (by decide) (by decide) (fun w52 x37_28 hx37_28 hT HN => ?_)
  replace HB := HB.trans (hT.bel _ gHH)
  replace RR := hT.hart RR (by omega)
  replace HH := HN
  clear hT HN
  refine W_nil ?_
  refine then_nrm ?_
  show Code.wp Try.prog _ _ _ _
  refine wp_seq ?_
  refine wp_seq ?_
  refine wp_region_list ?_
  refine W_val hA rfl 80 rfl (by decide) _ _ (R_fa hA rfl rfl (fun w => fa_hart _ 5 36 (by decide) rfl w) _) (fun a hA => ?_)
  refine W_val hA rfl 81 rfl (by decide) _ _ (R_ld hA rfl rfl ag_bool (show _ = some (Value.bool t.held) from HH.hd)) (fun a hA => ?_)
  refine W_val hA rfl 82 rfl (by decide) _ _ (R_not hA rfl rfl _) (fun a hA => ?_)
  refine W_nil ?_
  refine then_nrm ?_
  show Code.wp Try.prog _ _ _ _
  refine wp_cond_split (hA.ev (x := .tmp 82) rfl) (fun c18 => ?_) (fun c18 => ?_)
  · skip
    refine wp_region_list ?_
    refine W_val hA rfl 83 rfl (by decide) _ _ (R_fa hA rfl rfl (fun w => fa_hart _ 6 37 (by decide) rfl w) _) (fun a hA => ?_)
    refine W_stUx hA rfl rfl rfl rfl rfl HH (by decide) (by decide) (fun w53 x37_29 hx37_29 hT HN => ?_)
    replace HB := HB.trans (hT.bel _ gHH)
    replace RR := hT.hart RR (by omega)
    replace HH := HN
    clear hT HN
    refine W_nil ?_
    refine then_nrm ?_
    show Code.wp Try.prog _ _ _ _
    refine wp_seq ?_
    refine wp_region_list ?_
    refine W_val hA rfl 84 rfl (by decide) _ _ (R_row hA rfl rfl HH Try.underlying25 (size_hart.trans (by rw [varr_size]))) (fun a hA => ?_)
    refine W_cpH hA rfl rfl rfl rfl rfl RR (fun w54 hT HN => ?_)
    replace HB := HB.trans (hT.bel _ gRR)
    replace HH := hT.hart HH (by omega)
    replace RR := HN
    clear hT HN
    refine W_nil ?_
    refine then_nrm ?_
    show Code.wp Try.prog _ _ _ _
    refine wp_ret ?_
    refine ret_hart (j := 2) (by kernel_rfl) hA rfl RR ?_
    refine ⟨congrArg (fun s : HS => Ending.returned (hartV s)) ?_, HB⟩
    have p : t.n 33 = 1 := by have := c4; rw [fixA_33] at this; simpa using this
    have q3 : (t.n 33 != 3) = true := by rw [p]; rfl
    refine fix_end ?_ rfl rfl ?_ ?_ ?_ ?_ (fun i h => ?_)
    · show x34_27 = (t.v && (t.n 33 != 3))
      rw [hx34_27, show t.v = false from c16]; rfl
    · show x0_3 = _
      rw [hx0_3, fixA_0]; rfl
    · exact hx1_2
    · show (fixA t).n 33 = (if t.n 33 = 1 ∨ t.n 33 = 3 then t.n 33 else 0)
      rw [fixA_33, if_pos (.inl p)]
    · show x37_29 = (if t.held = true then bits .and .u64 (t.n 37) 72057594037927928 else 0)
      rw [hx37_29, show t.held = false by simpa using c18]; rfl
    obtain ⟨h0, h1, h2, h3⟩ := h
    simp only [HS.put, HS.putV, h0, h1, h2, h3, if_false]
  refine wp_skip ?_
  refine then_nrm ?_
  show Code.wp Try.prog _ _ _ _
  refine wp_seq ?_
  refine wp_region_list ?_
  refine W_val hA rfl 84 rfl (by decide) _ _ (R_row hA rfl rfl HH Try.underlying25 (size_hart.trans (by rw [varr_size]))) (fun a hA => ?_)
  refine W_cpH hA rfl rfl rfl rfl rfl RR (fun w55 hT HN => ?_)
  replace HB := HB.trans (hT.bel _ gRR)
  replace HH := hT.hart HH (by omega)
  replace RR := HN
  clear hT HN
  refine W_nil ?_
  refine then_nrm ?_
  show Code.wp Try.prog _ _ _ _
  refine wp_ret ?_
  refine ret_hart (j := 2) (by kernel_rfl) hA rfl RR ?_
  refine ⟨congrArg (fun s : HS => Ending.returned (hartV s)) ?_, HB⟩
  have p : t.n 33 = 1 := by have := c4; rw [fixA_33] at this; simpa using this
  have q3 : (t.n 33 != 3) = true := by rw [p]; rfl
  refine fix_end ?_ rfl rfl ?_ ?_ ?_ ?_ (fun i h => ?_)
  · show x34_27 = (t.v && (t.n 33 != 3))
    rw [hx34_27, show t.v = false from c16]; rfl
  · show x0_3 = _
    rw [hx0_3, fixA_0]; rfl
  · exact hx1_2
  · show (fixA t).n 33 = (if t.n 33 = 1 ∨ t.n 33 = 3 then t.n 33 else 0)
    rw [fixA_33, if_pos (.inl p)]
  · show x37_28 = (if t.held = true then bits .and .u64 (t.n 37) 72057594037927928 else 0)
    rw [hx37_28, show t.held = true by simpa using c18, if_pos rfl, fixA_37]
  obtain ⟨h0, h1, h2, h3⟩ := h
  simp only [HS.put, HS.putV, h0, h1, h2, h3, if_false]
end Go.Proofs.Ytkfhpmleelmcfaa
