/- Layer 14: who takes a trap, by the document (written by gen_trd.py by walkf.py). -/
import Derived.Test.YtkfhpmleelmcfaaTrC
namespace Go.Proofs.Ytkfhpmleelmcfaa
open Go.RowKit
set_option linter.unusedVariables false
set_option maxRecDepth 100000

theorem privbit0 : ∀ n, n < 256 → (bits .and .u8 ((n : Nat) : Int) 1 == 1) = bitZ n 0 := by decide +kernel
theorem privbit1 : ∀ n, n < 256 → (bits .and .u8 ((n : Nat) : Int) 2 == 2) = bitZ n 1 := by decide +kernel
theorem priv0 {t : HS} (ok : HOk t) : (bits .and .u8 (t.n 33) 1 == 1) = bitZ (t.n 33) 0 := by
  have h := ok.n 33
  have := privbit0 (t.n 33).toNat (by have := ok.p; unfold In64 at h; omega)
  rwa [Int.toNat_of_nonneg h.1] at this
theorem priv1 {t : HS} (ok : HOk t) : (bits .and .u8 (t.n 33) 2 == 2) = bitZ (t.n 33) 1 := by
  have h := ok.n 33
  have := privbit1 (t.n 33).toNat (by have := ok.p; unfold In64 at h; omega)
  rwa [Int.toNat_of_nonneg h.1] at this
theorem enterZ_m {t : HS} {s : TS} (h : s.is = true) (z : toZ t s.c = 0) : enterZ t s = enterM t s.c s.tv s.tv2 s.ti s.g := by unfold enterZ; rw [h, z]; rfl
theorem enterZ_h {t : HS} {s : TS} (h : s.is = true) (z : toZ t s.c = 1) : enterZ t s = enterH t s.c s.tv s.tv2 s.ti s.g := by unfold enterZ; rw [h, z]; rfl
theorem enterZ_g {t : HS} {s : TS} (h : s.is = true) (z : toZ t s.c = 2) : enterZ t s = enterG t s.c s.tv := by unfold enterZ; rw [h, z]; rfl
theorem toZ_two {t : HS} {c : Int} (h0 : ((toZ t c : Int) == 0) = false) (h1 : ((toZ t c : Int) == 1) = false) : toZ t c = 2 := by
  have := toZ_lt t c
  have e0 := beq_eq_false_iff_ne.1 h0
  have e1 := beq_eq_false_iff_ne.1 h1
  omega
theorem cg_yes {c : Int} (h : (c == 9223372036854775810) = true ∨ (c == 9223372036854775814) = true ∨ (c == 9223372036854775818) = true) : IntKind.u64.wrap (c - 1) = causeG c := by
  unfold causeG
  rcases h with h | h | h <;> (have := eq_of_beq h; subst this; rw [if_pos (by simp)]; rfl)
theorem cg_no {c : Int} (h1 : (c == 9223372036854775810) = false) (h2 : (c == 9223372036854775814) = false) (h3 : (c == 9223372036854775818) = false) : causeG c = c := by
  have e1 := beq_eq_false_iff_ne.1 h1
  have e2 := beq_eq_false_iff_ne.1 h2
  have e3 := beq_eq_false_iff_ne.1 h3
  unfold causeG
  rw [if_neg (by simp only [e1, e2, e3, or_self, not_false_eq_true])]
set_option maxHeartbeats 8000000 in
theorem denter_any (t : HS) (ok : HOk t) (s : TS) (sk : TOk s) (w : World) : Calls Try.prog 11 #[hartV t, tsV s] w fun e w' => e = .returned (hartV (enterZ t s)) ∧ Below w.heap.size w w' := by
  have HB := Below.refl w.heap.size w
  go_enter Try.func11, Try.ntmps11
  refine begin_fr [(1, tsV s), (0, hartV t)] 178 ?_ (fun a hA => ?_)
  · exact FrA.add (FrA.add (FrA.nil (by rfl) (by rfl)) 0 _ (by rfl)) 1 _ (by rfl)
  refine wp_seq ?_
  refine wp_region_list ?_
  refine W_boxH hA rfl 2 rfl (by decide) rfl rfl (fun w1 bHH a hA hb HH gHH => ?_)
  replace gHH := Nat.le_trans HB.size gHH
  replace HB := HB.trans (hb.mono HB.size)
  clear hb
  refine W_boxT hA rfl 3 rfl (by decide) rfl rfl (fun w2 bTT a hA hb TT gTT => ?_)
  have nHHTT : bHH < bTT := by have := HH.lt; omega
  replace gTT := Nat.le_trans HB.size gTT
  replace HB := HB.trans (hb.mono HB.size)
  replace HH := HH.below hb
  clear hb
  refine W_allocH hA rfl 4 rfl (by decide) rfl (fun w3 bA4 a hA hb A4 gA4 => ?_)
  have nHHA4 : bHH < bA4 := by have := HH.lt; omega
  have nTTA4 : bTT < bA4 := by have := TT.lt; omega
  replace gA4 := Nat.le_trans HB.size gA4
  replace HB := HB.trans (hb.mono HB.size)
  replace HH := HH.below hb
  replace TT := TT.below hb
  clear hb
  refine W_nil ?_
  refine then_nrm ?_
  show Code.wp Try.prog _ _ _ _
  refine wp_seq ?_
  refine wp_seq ?_
  refine wp_region_list ?_
  refine W_val hA rfl 12 rfl (by decide) _ _ (R_fa hA rfl rfl (fun w => fa_ts _ 0 (by decide) w) _) (fun a hA => ?_)
  refine W_val hA rfl 13 rfl (by decide) _ _ (R_ld (v := .bool (s.is)) hA rfl rfl ag_bool (TsB.cell TT 0 _ rfl)) (fun a hA => ?_)
  refine W_val hA rfl 14 rfl (by decide) _ _ (R_not hA rfl rfl _) (fun a hA => ?_)
  refine W_nil ?_
  refine then_nrm ?_
  show Code.wp Try.prog _ _ _ _
  refine wp_cond_split (hA.ev (x := .tmp 14) rfl) (fun c1 => ?_) (fun c1 => ?_)
  · skip
    refine wp_seq ?_
    refine wp_region_list ?_
    refine W_val hA rfl 15 rfl (by decide) _ _ (R_row hA rfl rfl HH Try.underlying25 (size_hart.trans (by rw [varr_size]))) (fun a hA => ?_)
    refine W_cpH hA rfl rfl rfl rfl rfl A4 (fun w4 hT HN => ?_)
    replace HB := HB.trans (hT.bel _ gA4)
    replace HH := hT.hart HH (by omega)
    replace TT := hT.ts TT (by omega)
    replace A4 := HN
    clear hT HN
    refine W_nil ?_
    refine then_nrm ?_
    show Code.wp Try.prog _ _ _ _
    refine wp_ret ?_
    refine then_ret ?_
    refine ret_hart (j := 4) (by kernel_rfl) hA rfl A4 ⟨congrArg (fun q : HS => Ending.returned (hartV q)) ?_, HB⟩
    unfold enterZ
    rw [show s.is = false by simpa using c1]
    rfl
  refine wp_skip ?_
  refine then_nrm ?_
  show Code.wp Try.prog _ _ _ _
  refine wp_seq ?_
  refine wp_region_list ?_
  refine W_val hA rfl 16 rfl (by decide) _ _ (R_row hA rfl rfl HH Try.underlying25 (size_hart.trans (by rw [varr_size]))) (fun a hA => ?_)
  refine W_allocH hA rfl 5 rfl (by decide) rfl (fun w5 bA5 a hA hb A5 gA5 => ?_)
  have nHHA5 : bHH < bA5 := by have := HH.lt; omega
  have nTTA5 : bTT < bA5 := by have := TT.lt; omega
  have nA4A5 : bA4 < bA5 := by have := A4.lt; omega
  replace gA5 := Nat.le_trans HB.size gA5
  replace HB := HB.trans (hb.mono HB.size)
  replace HH := HH.below hb
  replace TT := TT.below hb
  replace A4 := A4.below hb
  clear hb
  refine W_cpH hA rfl rfl rfl rfl rfl A5 (fun w6 hT HN => ?_)
  replace HB := HB.trans (hT.bel _ gA5)
  replace HH := hT.hart HH (by omega)
  replace TT := hT.ts TT (by omega)
  replace A4 := hT.hart A4 (by omega)
  replace A5 := HN
  clear hT HN
  refine W_nil ?_
  refine then_nrm ?_
  show Code.wp Try.prog _ _ _ _
  refine wp_seq ?_
  refine wp_region_list ?_
  refine W_val hA rfl 17 rfl (by decide) _ _ (R_fa hA rfl rfl (fun w => fa_hart _ 4 35 (by decide) rfl w) _) (fun a hA => ?_)
  refine W_stW hA rfl rfl rfl rfl rfl A5 (fun w7 hT HN => ?_)
  replace HB := HB.trans (hT.bel _ gA5)
  replace HH := hT.hart HH (by omega)
  replace TT := hT.ts TT (by omega)
  replace A4 := hT.hart A4 (by omega)
  replace A5 := HN
  clear hT HN
  refine W_nil ?_
  refine then_nrm ?_
  show Code.wp Try.prog _ _ _ _
  refine wp_seq ?_
  refine wp_region_list ?_
  refine W_val hA rfl 18 rfl (by decide) _ _ (R_fa hA rfl rfl (fun w => fa_hart _ 5 36 (by decide) rfl w) _) (fun a hA => ?_)
  refine W_stHd hA rfl rfl rfl rfl rfl A5 (fun w8 hT HN => ?_)
  replace HB := HB.trans (hT.bel _ gA5)
  replace HH := hT.hart HH (by omega)
  replace TT := hT.ts TT (by omega)
  replace A4 := hT.hart A4 (by omega)
  replace A5 := HN
  clear hT HN
  refine W_nil ?_
  refine then_nrm ?_
  show Code.wp Try.prog _ _ _ _
  refine wp_seq ?_
  refine wp_region_list ?_
  refine W_val hA rfl 19 rfl (by decide) _ _ (R_fa hA rfl rfl (fun w => fa_hart _ 6 37 (by decide) rfl w) _) (fun a hA => ?_)
  refine W_stU hA rfl rfl rfl rfl rfl A5 (by decide) (by decide) (fun w9 hT HN => ?_)
  replace HB := HB.trans (hT.bel _ gA5)
  replace HH := hT.hart HH (by omega)
  replace TT := hT.ts TT (by omega)
  replace A4 := hT.hart A4 (by omega)
  replace A5 := HN
  clear hT HN
  refine W_nil ?_
  refine then_nrm ?_
  show Code.wp Try.prog _ _ _ _
  refine wp_seq ?_
  refine wp_region_list ?_
  refine W_val hA rfl 20 rfl (by decide) _ _ (R_row hA rfl rfl HH Try.underlying25 (size_hart.trans (by rw [varr_size]))) (fun a hA => ?_)
  refine W_val hA rfl 21 rfl (by decide) _ _ (R_fa hA rfl rfl (fun w => fa_ts _ 1 (by decide) w) _) (fun a hA => ?_)
  refine W_val hA rfl 22 rfl (by decide) _ _ (R_ld (v := .int .u64 (s.c)) hA rfl rfl ag_u64 (TsB.cell TT 1 _ rfl)) (fun a hA => ?_)
  refine W_callA hA (by decide) (fun _ _ => by kernel_rfl) (args2 hA rfl rfl) (dto_any _ ok _ sk.c _) (fun w10 hw a hA => ?_)
  replace HB := HB.trans (hw.mono HB.size)
  replace HH := HH.below hw
  replace TT := TT.below hw
  replace A4 := A4.below hw
  replace A5 := A5.below hw
  clear hw
  refine W_val hA rfl 6 rfl (by decide) _ _ (R_asg hA rfl rfl _) (fun a hA => ?_)
  refine W_nil ?_
  refine then_nrm ?_
  show Code.wp Try.prog _ _ _ _
  refine wp_seq ?_
  refine wp_seq ?_
  refine wp_region_list ?_
  refine W_val hA rfl 24 rfl (by decide) _ _ (R_mov hA rfl rfl _) (fun a hA => ?_)
  refine W_val hA rfl 25 rfl (by decide) _ _ (R_eqlI hA rfl rfl rfl _) (fun a hA => ?_)
  refine W_nil ?_
  refine then_nrm ?_
  show Code.wp Try.prog _ _ _ _
  refine wp_cond_split (hA.ev (x := .tmp 25) rfl) (fun c2 => ?_) (fun c2 => ?_)
  · skip
    refine wp_seq ?_
    refine wp_region_list ?_
    refine W_val hA rfl 26 rfl (by decide) _ _ (R_fa hA rfl rfl (fun w => fa_hart _ 0 0 (by decide) rfl w) _) (fun a hA => ?_)
    refine W_val hA rfl 27 rfl (by decide) _ _ (R_ld (v := .int .u64 (t.n 0)) hA rfl rfl ag_u64 (HH.u 0 (by decide) (by decide))) (fun a hA => ?_)
    refine W_val hA rfl 28 rfl (by decide) _ _ (R_fa hA rfl rfl (fun w => fa_hart _ 15 46 (by decide) rfl w) _) (fun a hA => ?_)
    refine W_stU hA rfl rfl rfl rfl rfl A5 (by decide) (by decide) (fun w11 hT HN => ?_)
    replace HB := HB.trans (hT.bel _ gA5)
    replace HH := hT.hart HH (by omega)
    replace TT := hT.ts TT (by omega)
    replace A4 := hT.hart A4 (by omega)
    replace A5 := HN
    clear hT HN
    refine W_nil ?_
    refine then_nrm ?_
    show Code.wp Try.prog _ _ _ _
    refine wp_seq ?_
    refine wp_region_list ?_
    refine W_val hA rfl 29 rfl (by decide) _ _ (R_fa hA rfl rfl (fun w => fa_ts _ 1 (by decide) w) _) (fun a hA => ?_)
    refine W_val hA rfl 30 rfl (by decide) _ _ (R_ld (v := .int .u64 (s.c)) hA rfl rfl ag_u64 (TsB.cell TT 1 _ rfl)) (fun a hA => ?_)
    refine W_val hA rfl 31 rfl (by decide) _ _ (R_fa hA rfl rfl (fun w => fa_hart _ 16 47 (by decide) rfl w) _) (fun a hA => ?_)
    refine W_stU hA rfl rfl rfl rfl rfl A5 (by decide) (by decide) (fun w12 hT HN => ?_)
    replace HB := HB.trans (hT.bel _ gA5)
    replace HH := hT.hart HH (by omega)
    replace TT := hT.ts TT (by omega)
    replace A4 := hT.hart A4 (by omega)
    replace A5 := HN
    clear hT HN
    refine W_nil ?_
    refine then_nrm ?_
    show Code.wp Try.prog _ _ _ _
    refine wp_seq ?_
    refine wp_region_list ?_
    refine W_val hA rfl 32 rfl (by decide) _ _ (R_fa hA rfl rfl (fun w => fa_ts _ 2 (by decide) w) _) (fun a hA => ?_)
    refine W_val hA rfl 33 rfl (by decide) _ _ (R_ld (v := .int .u64 (s.tv)) hA rfl rfl ag_u64 (TsB.cell TT 2 _ rfl)) (fun a hA => ?_)
    refine W_val hA rfl 34 rfl (by decide) _ _ (R_fa hA rfl rfl (fun w => fa_hart _ 17 48 (by decide) rfl w) _) (fun a hA => ?_)
    refine W_stU hA rfl rfl rfl rfl rfl A5 (by decide) (by decide) (fun w13 hT HN => ?_)
    replace HB := HB.trans (hT.bel _ gA5)
    replace HH := hT.hart HH (by omega)
    replace TT := hT.ts TT (by omega)
    replace A4 := hT.hart A4 (by omega)
    replace A5 := HN
    clear hT HN
    refine W_nil ?_
    refine then_nrm ?_
    show Code.wp Try.prog _ _ _ _
    refine wp_seq ?_
    refine wp_region_list ?_
    refine W_val hA rfl 35 rfl (by decide) _ _ (R_fa hA rfl rfl (fun w => fa_ts _ 3 (by decide) w) _) (fun a hA => ?_)
    refine W_val hA rfl 36 rfl (by decide) _ _ (R_ld (v := .int .u64 (s.tv2)) hA rfl rfl ag_u64 (TsB.cell TT 3 _ rfl)) (fun a hA => ?_)
    refine W_val hA rfl 37 rfl (by decide) _ _ (R_fa hA rfl rfl (fun w => fa_hart _ 18 49 (by decide) rfl w) _) (fun a hA => ?_)
    refine W_stU hA rfl rfl rfl rfl rfl A5 (by decide) (by decide) (fun w14 hT HN => ?_)
    replace HB := HB.trans (hT.bel _ gA5)
    replace HH := hT.hart HH (by omega)
    replace TT := hT.ts TT (by omega)
    replace A4 := hT.hart A4 (by omega)
    replace A5 := HN
    clear hT HN
    refine W_nil ?_
    refine then_nrm ?_
    show Code.wp Try.prog _ _ _ _
    refine wp_seq ?_
    refine wp_region_list ?_
    refine W_val hA rfl 38 rfl (by decide) _ _ (R_fa hA rfl rfl (fun w => fa_ts _ 4 (by decide) w) _) (fun a hA => ?_)
    refine W_val hA rfl 39 rfl (by decide) _ _ (R_ld (v := .int .u64 (s.ti)) hA rfl rfl ag_u64 (TsB.cell TT 4 _ rfl)) (fun a hA => ?_)
    refine W_val hA rfl 40 rfl (by decide) _ _ (R_fa hA rfl rfl (fun w => fa_hart _ 19 50 (by decide) rfl w) _) (fun a hA => ?_)
    refine W_stU hA rfl rfl rfl rfl rfl A5 (by decide) (by decide) (fun w15 hT HN => ?_)
    replace HB := HB.trans (hT.bel _ gA5)
    replace HH := hT.hart HH (by omega)
    replace TT := hT.ts TT (by omega)
    replace A4 := hT.hart A4 (by omega)
    replace A5 := HN
    clear hT HN
    refine W_nil ?_
    refine then_nrm ?_
    show Code.wp Try.prog _ _ _ _
    refine wp_seq ?_
    refine wp_region_held_drew (S := fun wx => Below w15.heap.size w15 wx) (by kernel_rfl) ((Below.refl _ _).drew) (fun hS => ?_)
    refine takeF (i := 0) hA 41 rfl rfl (by decide) rfl (by kernel_rfl) (by kernel_rfl) (by kernel_rfl) (fun _ _ _ h => h) hS (fun wx hx => R_fa hA rfl rfl (fun w => fa_hart _ 7 38 (by decide) rfl w) _) (fun a hA => ?_)
    refine takeF (i := 1) hA 42 rfl rfl (by decide) rfl (by kernel_rfl) (by kernel_rfl) (by kernel_rfl) (fun _ _ _ h => h) hS (fun wx hx => R_ld (v := .int .u64 (t.n 38)) hA rfl rfl ag_u64 ((HH.below hx).u 38 (by decide) (by decide))) (fun a hA => ?_)
    refine takeF (i := 2) hA 43 rfl rfl (by decide) rfl (by kernel_rfl) (by kernel_rfl) (by kernel_rfl) (fun _ _ _ h => h) hS (fun wx hx => R_fa hA rfl rfl (fun w => fa_hart _ 7 38 (by decide) rfl w) _) (fun a hA => ?_)
    refine takeF (i := 3) hA 44 rfl rfl (by decide) rfl (by kernel_rfl) (by kernel_rfl) (by kernel_rfl) (fun _ _ _ h => h) hS (fun wx hx => R_ld (v := .int .u64 (t.n 38)) hA rfl rfl ag_u64 ((HH.below hx).u 38 (by decide) (by decide))) (fun a hA => ?_)
    refine wpAnyH_ready (rs := [4]) (by kernel_rfl) (by simp) (ready_call (i := 4) hA (by decide) rfl (fun _ _ => by kernel_rfl) (args2 hA rfl rfl) (dbitN_any _ (by first | exact ok.n _ | exact hc | exact ht) 3 (by decide) _) (fun _ h => h ▸ hS) (fun w16 hw a hA => ?_) AllReadyH.nil)
    subst hw
    refine wpAnyH_ready (rs := [5]) (by kernel_rfl) (by simp) (ready_call (i := 5) hA (by decide) rfl (fun _ _ => by kernel_rfl) (args3 hA rfl rfl rfl) (dwith_any _ 7 (by decide) _ _) (fun _ h => h ▸ hS) (fun w17 hw a hA => ?_) AllReadyH.nil)
    subst hw
    refine takeF (i := 6) hA 7 rfl rfl (by decide) rfl (by kernel_rfl) (by kernel_rfl) (by kernel_rfl) (fun _ _ _ h => h) hS (fun wx hx => R_asg hA rfl rfl _) (fun a hA => ?_)
    refine wpAnyH_done (by kernel_rfl) ?_ _
    replace HH := HH.below hS
    replace TT := TT.below hS
    replace A4 := A4.below hS
    replace A5 := A5.below hS
    replace HB := HB.trans (hS.mono HB.size)
    clear hS
    generalize World.drew w15 = w18 at *
    refine then_nrm ?_
    show Code.wp Try.prog _ _ _ _
    refine wp_seq ?_
    refine wp_region_list ?_
    refine W_val hA rfl 47 rfl (by decide) _ _ (R_mov hA rfl rfl _) (fun a hA => ?_)
    refine W_callA hA (by decide) (fun _ _ => by kernel_rfl) (args3 hA rfl rfl rfl) (dwith_any _ 3 (by decide) _ _) (fun w19 hw a hA => ?_)
    subst hw
    refine W_val hA rfl 7 rfl (by decide) _ _ (R_asg hA rfl rfl _) (fun a hA => ?_)
    refine W_nil ?_
    refine then_nrm ?_
    show Code.wp Try.prog _ _ _ _
    refine wp_seq ?_
    refine wp_region_list ?_
    refine W_val hA rfl 49 rfl (by decide) _ _ (R_mov hA rfl rfl _) (fun a hA => ?_)
    refine W_val hA rfl 50 rfl (by decide) _ _ (R_fa hA rfl rfl (fun w => fa_hart _ 2 33 (by decide) rfl w) _) (fun a hA => ?_)
    refine W_val hA rfl 51 rfl (by decide) _ _ (R_ld (v := .int .u8 (t.n 33)) hA rfl rfl ag_u8 HH.p) (fun a hA => ?_)
    refine W_val hA rfl 52 rfl (by decide) _ _ (R_andB hA rfl rfl rfl _) (fun a hA => ?_)
    refine W_val hA rfl 53 rfl (by decide) _ _ (R_eqlBN hA rfl rfl rfl (bitZ (t.n 33) 0) (priv0 ok) _) (fun a hA => ?_)
    refine W_callA hA (by decide) (fun _ _ => by kernel_rfl) (args3 hA rfl rfl rfl) (dwith_any _ 11 (by decide) _ _) (fun w20 hw a hA => ?_)
    subst hw
    refine W_val hA rfl 7 rfl (by decide) _ _ (R_asg hA rfl rfl _) (fun a hA => ?_)
    refine W_nil ?_
    refine then_nrm ?_
    show Code.wp Try.prog _ _ _ _
    refine wp_seq ?_
    refine wp_region_list ?_
    refine W_val hA rfl 55 rfl (by decide) _ _ (R_mov hA rfl rfl _) (fun a hA => ?_)
    refine W_val hA rfl 56 rfl (by decide) _ _ (R_fa hA rfl rfl (fun w => fa_hart _ 2 33 (by decide) rfl w) _) (fun a hA => ?_)
    refine W_val hA rfl 57 rfl (by decide) _ _ (R_ld (v := .int .u8 (t.n 33)) hA rfl rfl ag_u8 HH.p) (fun a hA => ?_)
    refine W_val hA rfl 58 rfl (by decide) _ _ (R_andB hA rfl rfl rfl _) (fun a hA => ?_)
    refine W_val hA rfl 59 rfl (by decide) _ _ (R_eqlBN hA rfl rfl rfl (bitZ (t.n 33) 1) (priv1 ok) _) (fun a hA => ?_)
    refine W_callA hA (by decide) (fun _ _ => by kernel_rfl) (args3 hA rfl rfl rfl) (dwith_any _ 12 (by decide) _ _) (fun w21 hw a hA => ?_)
    subst hw
    refine W_val hA rfl 7 rfl (by decide) _ _ (R_asg hA rfl rfl _) (fun a hA => ?_)
    refine W_nil ?_
    refine then_nrm ?_
    show Code.wp Try.prog _ _ _ _
    refine wp_seq ?_
    refine wp_region_list ?_
    refine W_val hA rfl 61 rfl (by decide) _ _ (R_mov hA rfl rfl _) (fun a hA => ?_)
    refine W_val hA rfl 62 rfl (by decide) _ _ (R_fa hA rfl rfl (fun w => fa_hart _ 3 34 (by decide) rfl w) _) (fun a hA => ?_)
    refine W_val hA rfl 63 rfl (by decide) _ _ (R_ld (v := .bool (t.v)) hA rfl rfl ag_bool HH.v) (fun a hA => ?_)
    refine W_callA hA (by decide) (fun _ _ => by kernel_rfl) (args3 hA rfl rfl rfl) (dwith_any _ 39 (by decide) _ _) (fun w22 hw a hA => ?_)
    subst hw
    refine W_val hA rfl 7 rfl (by decide) _ _ (R_asg hA rfl rfl _) (fun a hA => ?_)
    refine W_nil ?_
    refine then_nrm ?_
    show Code.wp Try.prog _ _ _ _
    refine wp_seq ?_
    refine wp_region_list ?_
    refine W_val hA rfl 65 rfl (by decide) _ _ (R_mov hA rfl rfl _) (fun a hA => ?_)
    refine W_val hA rfl 66 rfl (by decide) _ _ (R_fa hA rfl rfl (fun w => fa_ts _ 5 (by decide) w) _) (fun a hA => ?_)
    refine W_val hA rfl 67 rfl (by decide) _ _ (R_ld (v := .bool (s.g)) hA rfl rfl ag_bool (TsB.cell TT 5 _ rfl)) (fun a hA => ?_)
    refine W_callA hA (by decide) (fun _ _ => by kernel_rfl) (args3 hA rfl rfl rfl) (dwith_any _ 38 (by decide) _ _) (fun w23 hw a hA => ?_)
    subst hw
    refine W_val hA rfl 69 rfl (by decide) _ _ (R_fa hA rfl rfl (fun w => fa_hart _ 7 38 (by decide) rfl w) _) (fun a hA => ?_)
    refine W_stU hA rfl rfl rfl rfl rfl A5 (by decide) (by decide) (fun w24 hT HN => ?_)
    replace HB := HB.trans (hT.bel _ gA5)
    replace HH := hT.hart HH (by omega)
    replace TT := hT.ts TT (by omega)
    replace A4 := hT.hart A4 (by omega)
    replace A5 := HN
    clear hT HN
    refine W_nil ?_
    refine then_nrm ?_
    show Code.wp Try.prog _ _ _ _
    refine wp_seq ?_
    refine wp_region_list ?_
    refine W_val hA rfl 70 rfl (by decide) _ _ (R_fa hA rfl rfl (fun w => fa_hart _ 2 33 (by decide) rfl w) _) (fun a hA => ?_)
    refine W_stP hA rfl rfl rfl rfl rfl A5 (fun w25 hT HN => ?_)
    replace HB := HB.trans (hT.bel _ gA5)
    replace HH := hT.hart HH (by omega)
    replace TT := hT.ts TT (by omega)
    replace A4 := hT.hart A4 (by omega)
    replace A5 := HN
    clear hT HN
    refine W_nil ?_
    refine then_nrm ?_
    show Code.wp Try.prog _ _ _ _
    refine wp_seq ?_
    refine wp_region_list ?_
    refine W_val hA rfl 71 rfl (by decide) _ _ (R_fa hA rfl rfl (fun w => fa_hart _ 3 34 (by decide) rfl w) _) (fun a hA => ?_)
    refine W_stV hA rfl rfl rfl rfl rfl A5 (fun w26 hT HN => ?_)
    replace HB := HB.trans (hT.bel _ gA5)
    replace HH := hT.hart HH (by omega)
    replace TT := hT.ts TT (by omega)
    replace A4 := hT.hart A4 (by omega)
    replace A5 := HN
    clear hT HN
    refine W_nil ?_
    refine then_nrm ?_
    show Code.wp Try.prog _ _ _ _
    refine wp_seq ?_
    refine wp_region_list ?_
    refine W_val hA rfl 72 rfl (by decide) _ _ (R_fa hA rfl rfl (fun w => fa_hart _ 12 43 (by decide) rfl w) _) (fun a hA => ?_)
    refine W_val hA rfl 73 rfl (by decide) _ _ (R_ld (v := .int .u64 (t.n 43)) hA rfl rfl ag_u64 (HH.u 43 (by decide) (by decide))) (fun a hA => ?_)
    refine W_val hA rfl 74 rfl (by decide) _ _ (R_fa hA rfl rfl (fun w => fa_ts _ 1 (by decide) w) _) (fun a hA => ?_)
    refine W_val hA rfl 75 rfl (by decide) _ _ (R_ld (v := .int .u64 (s.c)) hA rfl rfl ag_u64 (TsB.cell TT 1 _ rfl)) (fun a hA => ?_)
    refine W_callA hA (by decide) (fun _ _ => by kernel_rfl) (args2 hA rfl rfl) (dplace_any _ _ (by first | exact ok.n _ | exact sk.c | exact causeG_in sk.c) (by first | exact ok.n _ | exact sk.c | exact causeG_in sk.c) _) (fun w27 hw a hA => ?_)
    subst hw
    refine W_val hA rfl 77 rfl (by decide) _ _ (R_fa hA rfl rfl (fun w => fa_hart _ 0 0 (by decide) rfl w) _) (fun a hA => ?_)
    refine W_stU hA rfl rfl rfl rfl rfl A5 (by decide) (by decide) (fun w28 hT HN => ?_)
    replace HB := HB.trans (hT.bel _ gA5)
    replace HH := hT.hart HH (by omega)
    replace TT := hT.ts TT (by omega)
    replace A4 := hT.hart A4 (by omega)
    replace A5 := HN
    clear hT HN
    refine W_nil ?_
    refine then_nrm ?_
    show Code.wp Try.prog _ _ _ _
    refine wp_seq ?_
    refine wp_region_list ?_
    refine W_val hA rfl 78 rfl (by decide) _ _ (R_row hA rfl rfl A5 Try.underlying25 (size_hart.trans (by rw [varr_size]))) (fun a hA => ?_)
    refine W_cpH hA rfl rfl rfl rfl rfl A4 (fun w29 hT HN => ?_)
    replace HB := HB.trans (hT.bel _ gA4)
    replace HH := hT.hart HH (by omega)
    replace TT := hT.ts TT (by omega)
    replace A5 := hT.hart A5 (by omega)
    replace A4 := HN
    clear hT HN
    refine W_nil ?_
    refine then_nrm ?_
    show Code.wp Try.prog _ _ _ _
    refine wp_ret ?_
    refine then_ret ?_
    refine ret_hart (j := 4) (by kernel_rfl) hA rfl A4 ⟨congrArg (fun q : HS => Ending.returned (hartV q)) ?_, HB⟩
    refine Eq.trans ?_ (enterZ_m (show s.is = true by simpa using c1) (toZ_i0 c2)).symm
    unfold enterM
    refine HS.same (fun i => ?_) rfl rfl rfl
    by_cases h0 : i = 0
    · subst h0; rfl
    by_cases h33 : i = 33
    · subst h33; rfl
    by_cases h37 : i = 37
    · subst h37; rfl
    by_cases h38 : i = 38
    · subst h38; rfl
    by_cases h46 : i = 46
    · subst h46; rfl
    by_cases h47 : i = 47
    · subst h47; rfl
    by_cases h48 : i = 48
    · subst h48; rfl
    by_cases h49 : i = 49
    · subst h49; rfl
    by_cases h50 : i = 50
    · subst h50; rfl
    simp only [enterM, HS.put, HS.putV, HS.putW, HS.putH, HS.mode, h0, h33, h37, h38, h46, h47, h48, h49, h50, if_false]
  refine wp_skip ?_
  refine then_nrm ?_
  show Code.wp Try.prog _ _ _ _
  refine wp_seq ?_
  refine wp_region_list ?_
  refine W_val hA rfl 79 rfl (by decide) _ _ (R_fa hA rfl rfl (fun w => fa_hart _ 2 33 (by decide) rfl w) _) (fun a hA => ?_)
  refine W_stP hA rfl rfl rfl rfl rfl A5 (fun w30 hT HN => ?_)
  replace HB := HB.trans (hT.bel _ gA5)
  replace HH := hT.hart HH (by omega)
  replace TT := hT.ts TT (by omega)
  replace A4 := hT.hart A4 (by omega)
  replace A5 := HN
  clear hT HN
  refine W_nil ?_
  refine then_nrm ?_
  show Code.wp Try.prog _ _ _ _
  refine wp_seq ?_
  refine wp_seq ?_
  refine wp_region_list ?_
  refine W_val hA rfl 80 rfl (by decide) _ _ (R_mov hA rfl rfl _) (fun a hA => ?_)
  refine W_val hA rfl 81 rfl (by decide) _ _ (R_eqlI hA rfl rfl rfl _) (fun a hA => ?_)
  refine W_nil ?_
  refine then_nrm ?_
  show Code.wp Try.prog _ _ _ _
  refine wp_cond_split (hA.ev (x := .tmp 81) rfl) (fun c3 => ?_) (fun c3 => ?_)
  · skip
    refine wp_seq ?_
    refine wp_region_list ?_
    refine W_val hA rfl 82 rfl (by decide) _ _ (R_fa hA rfl rfl (fun w => fa_hart _ 0 0 (by decide) rfl w) _) (fun a hA => ?_)
    refine W_val hA rfl 83 rfl (by decide) _ _ (R_ld (v := .int .u64 (t.n 0)) hA rfl rfl ag_u64 (HH.u 0 (by decide) (by decide))) (fun a hA => ?_)
    refine W_val hA rfl 84 rfl (by decide) _ _ (R_fa hA rfl rfl (fun w => fa_hart _ 23 54 (by decide) rfl w) _) (fun a hA => ?_)
    refine W_stU hA rfl rfl rfl rfl rfl A5 (by decide) (by decide) (fun w31 hT HN => ?_)
    replace HB := HB.trans (hT.bel _ gA5)
    replace HH := hT.hart HH (by omega)
    replace TT := hT.ts TT (by omega)
    replace A4 := hT.hart A4 (by omega)
    replace A5 := HN
    clear hT HN
    refine W_nil ?_
    refine then_nrm ?_
    show Code.wp Try.prog _ _ _ _
    refine wp_seq ?_
    refine wp_region_list ?_
    refine W_val hA rfl 85 rfl (by decide) _ _ (R_fa hA rfl rfl (fun w => fa_ts _ 1 (by decide) w) _) (fun a hA => ?_)
    refine W_val hA rfl 86 rfl (by decide) _ _ (R_ld (v := .int .u64 (s.c)) hA rfl rfl ag_u64 (TsB.cell TT 1 _ rfl)) (fun a hA => ?_)
    refine W_val hA rfl 87 rfl (by decide) _ _ (R_fa hA rfl rfl (fun w => fa_hart _ 24 55 (by decide) rfl w) _) (fun a hA => ?_)
    refine W_stU hA rfl rfl rfl rfl rfl A5 (by decide) (by decide) (fun w32 hT HN => ?_)
    replace HB := HB.trans (hT.bel _ gA5)
    replace HH := hT.hart HH (by omega)
    replace TT := hT.ts TT (by omega)
    replace A4 := hT.hart A4 (by omega)
    replace A5 := HN
    clear hT HN
    refine W_nil ?_
    refine then_nrm ?_
    show Code.wp Try.prog _ _ _ _
    refine wp_seq ?_
    refine wp_region_list ?_
    refine W_val hA rfl 88 rfl (by decide) _ _ (R_fa hA rfl rfl (fun w => fa_ts _ 2 (by decide) w) _) (fun a hA => ?_)
    refine W_val hA rfl 89 rfl (by decide) _ _ (R_ld (v := .int .u64 (s.tv)) hA rfl rfl ag_u64 (TsB.cell TT 2 _ rfl)) (fun a hA => ?_)
    refine W_val hA rfl 90 rfl (by decide) _ _ (R_fa hA rfl rfl (fun w => fa_hart _ 25 56 (by decide) rfl w) _) (fun a hA => ?_)
    refine W_stU hA rfl rfl rfl rfl rfl A5 (by decide) (by decide) (fun w33 hT HN => ?_)
    replace HB := HB.trans (hT.bel _ gA5)
    replace HH := hT.hart HH (by omega)
    replace TT := hT.ts TT (by omega)
    replace A4 := hT.hart A4 (by omega)
    replace A5 := HN
    clear hT HN
    refine W_nil ?_
    refine then_nrm ?_
    show Code.wp Try.prog _ _ _ _
    refine wp_seq ?_
    refine wp_region_list ?_
    refine W_val hA rfl 91 rfl (by decide) _ _ (R_fa hA rfl rfl (fun w => fa_ts _ 3 (by decide) w) _) (fun a hA => ?_)
    refine W_val hA rfl 92 rfl (by decide) _ _ (R_ld (v := .int .u64 (s.tv2)) hA rfl rfl ag_u64 (TsB.cell TT 3 _ rfl)) (fun a hA => ?_)
    refine W_val hA rfl 93 rfl (by decide) _ _ (R_fa hA rfl rfl (fun w => fa_hart _ 33 64 (by decide) rfl w) _) (fun a hA => ?_)
    refine W_stU hA rfl rfl rfl rfl rfl A5 (by decide) (by decide) (fun w34 hT HN => ?_)
    replace HB := HB.trans (hT.bel _ gA5)
    replace HH := hT.hart HH (by omega)
    replace TT := hT.ts TT (by omega)
    replace A4 := hT.hart A4 (by omega)
    replace A5 := HN
    clear hT HN
    refine W_nil ?_
    refine then_nrm ?_
    show Code.wp Try.prog _ _ _ _
    refine wp_seq ?_
    refine wp_region_list ?_
    refine W_val hA rfl 94 rfl (by decide) _ _ (R_fa hA rfl rfl (fun w => fa_ts _ 4 (by decide) w) _) (fun a hA => ?_)
    refine W_val hA rfl 95 rfl (by decide) _ _ (R_ld (v := .int .u64 (s.ti)) hA rfl rfl ag_u64 (TsB.cell TT 4 _ rfl)) (fun a hA => ?_)
    refine W_val hA rfl 96 rfl (by decide) _ _ (R_fa hA rfl rfl (fun w => fa_hart _ 34 65 (by decide) rfl w) _) (fun a hA => ?_)
    refine W_stU hA rfl rfl rfl rfl rfl A5 (by decide) (by decide) (fun w35 hT HN => ?_)
    replace HB := HB.trans (hT.bel _ gA5)
    replace HH := hT.hart HH (by omega)
    replace TT := hT.ts TT (by omega)
    replace A4 := hT.hart A4 (by omega)
    replace A5 := HN
    clear hT HN
    refine W_nil ?_
    refine then_nrm ?_
    show Code.wp Try.prog _ _ _ _
    refine wp_seq ?_
    refine wp_region_held_drew (S := fun wx => Below w35.heap.size w35 wx) (by kernel_rfl) ((Below.refl _ _).drew) (fun hS => ?_)
    refine takeF (i := 0) hA 97 rfl rfl (by decide) rfl (by kernel_rfl) (by kernel_rfl) (by kernel_rfl) (fun _ _ _ h => h) hS (fun wx hx => R_fa hA rfl rfl (fun w => fa_hart _ 7 38 (by decide) rfl w) _) (fun a hA => ?_)
    refine takeF (i := 1) hA 98 rfl rfl (by decide) rfl (by kernel_rfl) (by kernel_rfl) (by kernel_rfl) (fun _ _ _ h => h) hS (fun wx hx => R_ld (v := .int .u64 (t.n 38)) hA rfl rfl ag_u64 ((HH.below hx).u 38 (by decide) (by decide))) (fun a hA => ?_)
    refine takeF (i := 2) hA 99 rfl rfl (by decide) rfl (by kernel_rfl) (by kernel_rfl) (by kernel_rfl) (fun _ _ _ h => h) hS (fun wx hx => R_fa hA rfl rfl (fun w => fa_hart _ 7 38 (by decide) rfl w) _) (fun a hA => ?_)
    refine takeF (i := 3) hA 100 rfl rfl (by decide) rfl (by kernel_rfl) (by kernel_rfl) (by kernel_rfl) (fun _ _ _ h => h) hS (fun wx hx => R_ld (v := .int .u64 (t.n 38)) hA rfl rfl ag_u64 ((HH.below hx).u 38 (by decide) (by decide))) (fun a hA => ?_)
    refine wpAnyH_ready (rs := [4]) (by kernel_rfl) (by simp) (ready_call (i := 4) hA (by decide) rfl (fun _ _ => by kernel_rfl) (args2 hA rfl rfl) (dbitN_any _ (by first | exact ok.n _ | exact hc | exact ht) 1 (by decide) _) (fun _ h => h ▸ hS) (fun w36 hw a hA => ?_) AllReadyH.nil)
    subst hw
    refine wpAnyH_ready (rs := [5]) (by kernel_rfl) (by simp) (ready_call (i := 5) hA (by decide) rfl (fun _ _ => by kernel_rfl) (args3 hA rfl rfl rfl) (dwith_any _ 5 (by decide) _ _) (fun _ h => h ▸ hS) (fun w37 hw a hA => ?_) AllReadyH.nil)
    subst hw
    refine takeF (i := 6) hA 8 rfl rfl (by decide) rfl (by kernel_rfl) (by kernel_rfl) (by kernel_rfl) (fun _ _ _ h => h) hS (fun wx hx => R_asg hA rfl rfl _) (fun a hA => ?_)
    refine wpAnyH_done (by kernel_rfl) ?_ _
    replace HH := HH.below hS
    replace TT := TT.below hS
    replace A4 := A4.below hS
    replace A5 := A5.below hS
    replace HB := HB.trans (hS.mono HB.size)
    clear hS
    generalize World.drew w35 = w38 at *
    refine then_nrm ?_
    show Code.wp Try.prog _ _ _ _
    refine wp_seq ?_
    refine wp_region_list ?_
    refine W_val hA rfl 103 rfl (by decide) _ _ (R_mov hA rfl rfl _) (fun a hA => ?_)
    refine W_callA hA (by decide) (fun _ _ => by kernel_rfl) (args3 hA rfl rfl rfl) (dwith_any _ 1 (by decide) _ _) (fun w39 hw a hA => ?_)
    subst hw
    refine W_val hA rfl 8 rfl (by decide) _ _ (R_asg hA rfl rfl _) (fun a hA => ?_)
    refine W_nil ?_
    refine then_nrm ?_
    show Code.wp Try.prog _ _ _ _
    refine wp_seq ?_
    refine wp_region_list ?_
    refine W_val hA rfl 105 rfl (by decide) _ _ (R_mov hA rfl rfl _) (fun a hA => ?_)
    refine W_val hA rfl 106 rfl (by decide) _ _ (R_fa hA rfl rfl (fun w => fa_hart _ 2 33 (by decide) rfl w) _) (fun a hA => ?_)
    refine W_val hA rfl 107 rfl (by decide) _ _ (R_ld (v := .int .u8 (t.n 33)) hA rfl rfl ag_u8 HH.p) (fun a hA => ?_)
    refine W_val hA rfl 108 rfl (by decide) _ _ (R_eqlB hA rfl rfl rfl _) (fun a hA => ?_)
    refine W_callA hA (by decide) (fun _ _ => by kernel_rfl) (args3 hA rfl rfl rfl) (dwith_any _ 8 (by decide) _ _) (fun w40 hw a hA => ?_)
    subst hw
    refine W_val hA rfl 110 rfl (by decide) _ _ (R_fa hA rfl rfl (fun w => fa_hart _ 7 38 (by decide) rfl w) _) (fun a hA => ?_)
    refine W_stU hA rfl rfl rfl rfl rfl A5 (by decide) (by decide) (fun w41 hT HN => ?_)
    replace HB := HB.trans (hT.bel _ gA5)
    replace HH := hT.hart HH (by omega)
    replace TT := hT.ts TT (by omega)
    replace A4 := hT.hart A4 (by omega)
    replace A5 := HN
    clear hT HN
    refine W_nil ?_
    refine then_nrm ?_
    show Code.wp Try.prog _ _ _ _
    refine wp_seq ?_
    refine wp_region_list ?_
    refine W_val hA rfl 111 rfl (by decide) _ _ (R_fa hA rfl rfl (fun w => fa_hart _ 27 58 (by decide) rfl w) _) (fun a hA => ?_)
    refine W_val hA rfl 112 rfl (by decide) _ _ (R_ld (v := .int .u64 (t.n 58)) hA rfl rfl ag_u64 (HH.u 58 (by decide) (by decide))) (fun a hA => ?_)
    refine W_val hA rfl 113 rfl (by decide) _ _ (R_fa hA rfl rfl (fun w => fa_hart _ 3 34 (by decide) rfl w) _) (fun a hA => ?_)
    refine W_val hA rfl 114 rfl (by decide) _ _ (R_ld (v := .bool (t.v)) hA rfl rfl ag_bool HH.v) (fun a hA => ?_)
    refine W_callA hA (by decide) (fun _ _ => by kernel_rfl) (args3 hA rfl rfl rfl) (dwith_any _ 7 (by decide) _ _) (fun w42 hw a hA => ?_)
    subst hw
    refine W_val hA rfl 9 rfl (by decide) _ _ (R_asg hA rfl rfl _) (fun a hA => ?_)
    refine W_nil ?_
    refine then_nrm ?_
    show Code.wp Try.prog _ _ _ _
    refine wp_seq ?_
    refine wp_seq ?_
    refine wp_region_list ?_
    refine W_val hA rfl 116 rfl (by decide) _ _ (R_fa hA rfl rfl (fun w => fa_hart _ 3 34 (by decide) rfl w) _) (fun a hA => ?_)
    refine W_val hA rfl 117 rfl (by decide) _ _ (R_ld (v := .bool (t.v)) hA rfl rfl ag_bool HH.v) (fun a hA => ?_)
    refine W_nil ?_
    refine then_nrm ?_
    show Code.wp Try.prog _ _ _ _
    refine wp_cond_split (hA.ev (x := .tmp 117) rfl) (fun c4 => ?_) (fun c4 => ?_)
    · skip
      refine wp_region_list ?_
      refine W_val hA rfl 118 rfl (by decide) _ _ (R_mov hA rfl rfl _) (fun a hA => ?_)
      refine W_val hA rfl 119 rfl (by decide) _ _ (R_fa hA rfl rfl (fun w => fa_hart _ 2 33 (by decide) rfl w) _) (fun a hA => ?_)
      refine W_val hA rfl 120 rfl (by decide) _ _ (R_ld (v := .int .u8 (t.n 33)) hA rfl rfl ag_u8 HH.p) (fun a hA => ?_)
      refine W_val hA rfl 121 rfl (by decide) _ _ (R_eqlB hA rfl rfl rfl _) (fun a hA => ?_)
      refine W_callA hA (by decide) (fun _ _ => by kernel_rfl) (args3 hA rfl rfl rfl) (dwith_any _ 8 (by decide) _ _) (fun w43 hw a hA => ?_)
      subst hw
      refine W_val hA rfl 9 rfl (by decide) _ _ (R_asg hA rfl rfl _) (fun a hA => ?_)
      refine W_nil ?_
      refine then_nrm ?_
      show Code.wp Try.prog _ _ _ _
      refine wp_seq ?_
      refine wp_region_list ?_
      refine W_val hA rfl 123 rfl (by decide) _ _ (R_mov hA rfl rfl _) (fun a hA => ?_)
      refine W_val hA rfl 124 rfl (by decide) _ _ (R_fa hA rfl rfl (fun w => fa_ts _ 5 (by decide) w) _) (fun a hA => ?_)
      refine W_val hA rfl 125 rfl (by decide) _ _ (R_ld (v := .bool (s.g)) hA rfl rfl ag_bool (TsB.cell TT 5 _ rfl)) (fun a hA => ?_)
      refine W_callA hA (by decide) (fun _ _ => by kernel_rfl) (args3 hA rfl rfl rfl) (dwith_any _ 6 (by decide) _ _) (fun w44 hw a hA => ?_)
      subst hw
      refine W_val hA rfl 127 rfl (by decide) _ _ (R_fa hA rfl rfl (fun w => fa_hart _ 27 58 (by decide) rfl w) _) (fun a hA => ?_)
      refine W_stU hA rfl rfl rfl rfl rfl A5 (by decide) (by decide) (fun w45 hT HN => ?_)
      replace HB := HB.trans (hT.bel _ gA5)
      replace HH := hT.hart HH (by omega)
      replace TT := hT.ts TT (by omega)
      replace A4 := hT.hart A4 (by omega)
      replace A5 := HN
      clear hT HN
      refine W_nil ?_
      refine then_nrm ?_
      show Code.wp Try.prog _ _ _ _
      refine wp_seq ?_
      refine wp_region_list ?_
      refine W_val hA rfl 128 rfl (by decide) _ _ (R_fa hA rfl rfl (fun w => fa_hart _ 3 34 (by decide) rfl w) _) (fun a hA => ?_)
      refine W_stV hA rfl rfl rfl rfl rfl A5 (fun w46 hT HN => ?_)
      replace HB := HB.trans (hT.bel _ gA5)
      replace HH := hT.hart HH (by omega)
      replace TT := hT.ts TT (by omega)
      replace A4 := hT.hart A4 (by omega)
      replace A5 := HN
      clear hT HN
      refine W_nil ?_
      refine then_nrm ?_
      show Code.wp Try.prog _ _ _ _
      refine wp_seq ?_
      refine wp_region_list ?_
      refine W_val hA rfl 129 rfl (by decide) _ _ (R_fa hA rfl rfl (fun w => fa_hart _ 20 51 (by decide) rfl w) _) (fun a hA => ?_)
      refine W_val hA rfl 130 rfl (by decide) _ _ (R_ld (v := .int .u64 (t.n 51)) hA rfl rfl ag_u64 (HH.u 51 (by decide) (by decide))) (fun a hA => ?_)
      refine W_val hA rfl 131 rfl (by decide) _ _ (R_fa hA rfl rfl (fun w => fa_ts _ 1 (by decide) w) _) (fun a hA => ?_)
      refine W_val hA rfl 132 rfl (by decide) _ _ (R_ld (v := .int .u64 (s.c)) hA rfl rfl ag_u64 (TsB.cell TT 1 _ rfl)) (fun a hA => ?_)
      refine W_callA hA (by decide) (fun _ _ => by kernel_rfl) (args2 hA rfl rfl) (dplace_any _ _ (by first | exact ok.n _ | exact sk.c | exact causeG_in sk.c) (by first | exact ok.n _ | exact sk.c | exact causeG_in sk.c) _) (fun w47 hw a hA => ?_)
      subst hw
      refine W_val hA rfl 134 rfl (by decide) _ _ (R_fa hA rfl rfl (fun w => fa_hart _ 0 0 (by decide) rfl w) _) (fun a hA => ?_)
      refine W_stU hA rfl rfl rfl rfl rfl A5 (by decide) (by decide) (fun w48 hT HN => ?_)
      replace HB := HB.trans (hT.bel _ gA5)
      replace HH := hT.hart HH (by omega)
      replace TT := hT.ts TT (by omega)
      replace A4 := hT.hart A4 (by omega)
      replace A5 := HN
      clear hT HN
      refine W_nil ?_
      refine then_nrm ?_
      show Code.wp Try.prog _ _ _ _
      refine wp_seq ?_
      refine wp_region_list ?_
      refine W_val hA rfl 135 rfl (by decide) _ _ (R_row hA rfl rfl A5 Try.underlying25 (size_hart.trans (by rw [varr_size]))) (fun a hA => ?_)
      refine W_cpH hA rfl rfl rfl rfl rfl A4 (fun w49 hT HN => ?_)
      replace HB := HB.trans (hT.bel _ gA4)
      replace HH := hT.hart HH (by omega)
      replace TT := hT.ts TT (by omega)
      replace A5 := hT.hart A5 (by omega)
      replace A4 := HN
      clear hT HN
      refine W_nil ?_
      refine then_nrm ?_
      show Code.wp Try.prog _ _ _ _
      refine wp_ret ?_
      refine then_ret ?_
      refine ret_hart (j := 4) (by kernel_rfl) hA rfl A4 ⟨congrArg (fun q : HS => Ending.returned (hartV q)) ?_, HB⟩
      refine Eq.trans ?_ (enterZ_h (show s.is = true by simpa using c1) (toZ_i1 c3)).symm
      unfold enterH hsT
      rw [c4]
      refine HS.same (fun i => ?_) rfl rfl rfl
      by_cases h0 : i = 0
      · subst h0; rfl
      by_cases h33 : i = 33
      · subst h33; rfl
      by_cases h37 : i = 37
      · subst h37; rfl
      by_cases h38 : i = 38
      · subst h38; rfl
      by_cases h54 : i = 54
      · subst h54; rfl
      by_cases h55 : i = 55
      · subst h55; rfl
      by_cases h56 : i = 56
      · subst h56; rfl
      by_cases h58 : i = 58
      · subst h58; rfl
      by_cases h64 : i = 64
      · subst h64; rfl
      by_cases h65 : i = 65
      · subst h65; rfl
      simp only [enterH, HS.put, HS.putV, HS.putW, HS.putH, HS.mode, h0, h33, h37, h38, h54, h55, h56, h58, h64, h65, if_false]
    refine wp_skip ?_
    refine then_nrm ?_
    show Code.wp Try.prog _ _ _ _
    refine wp_seq ?_
    refine wp_region_list ?_
    refine W_val hA rfl 123 rfl (by decide) _ _ (R_mov hA rfl rfl _) (fun a hA => ?_)
    refine W_val hA rfl 124 rfl (by decide) _ _ (R_fa hA rfl rfl (fun w => fa_ts _ 5 (by decide) w) _) (fun a hA => ?_)
    refine W_val hA rfl 125 rfl (by decide) _ _ (R_ld (v := .bool (s.g)) hA rfl rfl ag_bool (TsB.cell TT 5 _ rfl)) (fun a hA => ?_)
    refine W_callA hA (by decide) (fun _ _ => by kernel_rfl) (args3 hA rfl rfl rfl) (dwith_any _ 6 (by decide) _ _) (fun w50 hw a hA => ?_)
    subst hw
    refine W_val hA rfl 127 rfl (by decide) _ _ (R_fa hA rfl rfl (fun w => fa_hart _ 27 58 (by decide) rfl w) _) (fun a hA => ?_)
    refine W_stU hA rfl rfl rfl rfl rfl A5 (by decide) (by decide) (fun w51 hT HN => ?_)
    replace HB := HB.trans (hT.bel _ gA5)
    replace HH := hT.hart HH (by omega)
    replace TT := hT.ts TT (by omega)
    replace A4 := hT.hart A4 (by omega)
    replace A5 := HN
    clear hT HN
    refine W_nil ?_
    refine then_nrm ?_
    show Code.wp Try.prog _ _ _ _
    refine wp_seq ?_
    refine wp_region_list ?_
    refine W_val hA rfl 128 rfl (by decide) _ _ (R_fa hA rfl rfl (fun w => fa_hart _ 3 34 (by decide) rfl w) _) (fun a hA => ?_)
    refine W_stV hA rfl rfl rfl rfl rfl A5 (fun w52 hT HN => ?_)
    replace HB := HB.trans (hT.bel _ gA5)
    replace HH := hT.hart HH (by omega)
    replace TT := hT.ts TT (by omega)
    replace A4 := hT.hart A4 (by omega)
    replace A5 := HN
    clear hT HN
    refine W_nil ?_
    refine then_nrm ?_
    show Code.wp Try.prog _ _ _ _
    refine wp_seq ?_
    refine wp_region_list ?_
    refine W_val hA rfl 129 rfl (by decide) _ _ (R_fa hA rfl rfl (fun w => fa_hart _ 20 51 (by decide) rfl w) _) (fun a hA => ?_)
    refine W_val hA rfl 130 rfl (by decide) _ _ (R_ld (v := .int .u64 (t.n 51)) hA rfl rfl ag_u64 (HH.u 51 (by decide) (by decide))) (fun a hA => ?_)
    refine W_val hA rfl 131 rfl (by decide) _ _ (R_fa hA rfl rfl (fun w => fa_ts _ 1 (by decide) w) _) (fun a hA => ?_)
    refine W_val hA rfl 132 rfl (by decide) _ _ (R_ld (v := .int .u64 (s.c)) hA rfl rfl ag_u64 (TsB.cell TT 1 _ rfl)) (fun a hA => ?_)
    refine W_callA hA (by decide) (fun _ _ => by kernel_rfl) (args2 hA rfl rfl) (dplace_any _ _ (by first | exact ok.n _ | exact sk.c | exact causeG_in sk.c) (by first | exact ok.n _ | exact sk.c | exact causeG_in sk.c) _) (fun w53 hw a hA => ?_)
    subst hw
    refine W_val hA rfl 134 rfl (by decide) _ _ (R_fa hA rfl rfl (fun w => fa_hart _ 0 0 (by decide) rfl w) _) (fun a hA => ?_)
    refine W_stU hA rfl rfl rfl rfl rfl A5 (by decide) (by decide) (fun w54 hT HN => ?_)
    replace HB := HB.trans (hT.bel _ gA5)
    replace HH := hT.hart HH (by omega)
    replace TT := hT.ts TT (by omega)
    replace A4 := hT.hart A4 (by omega)
    replace A5 := HN
    clear hT HN
    refine W_nil ?_
    refine then_nrm ?_
    show Code.wp Try.prog _ _ _ _
    refine wp_seq ?_
    refine wp_region_list ?_
    refine W_val hA rfl 135 rfl (by decide) _ _ (R_row hA rfl rfl A5 Try.underlying25 (size_hart.trans (by rw [varr_size]))) (fun a hA => ?_)
    refine W_cpH hA rfl rfl rfl rfl rfl A4 (fun w55 hT HN => ?_)
    replace HB := HB.trans (hT.bel _ gA4)
    replace HH := hT.hart HH (by omega)
    replace TT := hT.ts TT (by omega)
    replace A5 := hT.hart A5 (by omega)
    replace A4 := HN
    clear hT HN
    refine W_nil ?_
    refine then_nrm ?_
    show Code.wp Try.prog _ _ _ _
    refine wp_ret ?_
    refine then_ret ?_
    refine ret_hart (j := 4) (by kernel_rfl) hA rfl A4 ⟨congrArg (fun q : HS => Ending.returned (hartV q)) ?_, HB⟩
    refine Eq.trans ?_ (enterZ_h (show s.is = true by simpa using c1) (toZ_i1 c3)).symm
    unfold enterH hsT
    rw [c4]
    refine HS.same (fun i => ?_) rfl rfl rfl
    by_cases h0 : i = 0
    · subst h0; rfl
    by_cases h33 : i = 33
    · subst h33; rfl
    by_cases h37 : i = 37
    · subst h37; rfl
    by_cases h38 : i = 38
    · subst h38; rfl
    by_cases h54 : i = 54
    · subst h54; rfl
    by_cases h55 : i = 55
    · subst h55; rfl
    by_cases h56 : i = 56
    · subst h56; rfl
    by_cases h58 : i = 58
    · subst h58; rfl
    by_cases h64 : i = 64
    · subst h64; rfl
    by_cases h65 : i = 65
    · subst h65; rfl
    simp only [enterH, HS.put, HS.putV, HS.putW, HS.putH, HS.mode, h0, h33, h37, h38, h54, h55, h56, h58, h64, h65, if_false]
  refine wp_skip ?_
  refine then_nrm ?_
  show Code.wp Try.prog _ _ _ _
  refine wp_seq ?_
  refine wp_region_list ?_
  refine W_val hA rfl 136 rfl (by decide) _ _ (R_fa hA rfl rfl (fun w => fa_ts _ 1 (by decide) w) _) (fun a hA => ?_)
  refine W_val hA rfl 137 rfl (by decide) _ _ (R_ld (v := .int .u64 (s.c)) hA rfl rfl ag_u64 (TsB.cell TT 1 _ rfl)) (fun a hA => ?_)
  refine W_val hA rfl 10 rfl (by decide) _ _ (R_asg hA rfl rfl _) (fun a hA => ?_)
  refine W_nil ?_
  refine then_nrm ?_
  show Code.wp Try.prog _ _ _ _
  refine wp_seq ?_
  refine wp_seq ?_
  refine wp_region_list ?_
  refine W_val hA rfl 138 rfl (by decide) _ _ (R_mov hA rfl rfl _) (fun a hA => ?_)
  refine W_val hA rfl 139 rfl (by decide) _ _ (R_eqlU hA rfl rfl rfl _) (fun a hA => ?_)
  refine W_val hA rfl 140 rfl (by decide) _ _ (R_mov hA rfl rfl _) (fun a hA => ?_)
  refine W_split hA 140 rfl (fun c5 hA => ?_) (fun c5 hA => ?_)
  · skip
    refine W_gskip hA rfl rfl rfl 141 rfl (by decide) (fun a hA => ?_)
    refine W_gskip hA rfl rfl rfl 142 rfl (by decide) (fun a hA => ?_)
    refine W_val hA rfl 143 rfl (by decide) _ _ (R_pick hA rfl rfl rfl _) (fun a hA => ?_)
    refine W_val hA rfl 144 rfl (by decide) _ _ (R_mov hA rfl rfl _) (fun a hA => ?_)
    refine W_gskip hA rfl rfl rfl 145 rfl (by decide) (fun a hA => ?_)
    refine W_gskip hA rfl rfl rfl 146 rfl (by decide) (fun a hA => ?_)
    refine W_val hA rfl 147 rfl (by decide) _ _ (R_pick hA rfl rfl rfl _) (fun a hA => ?_)
    refine W_nil ?_
    refine then_nrm ?_
    show Code.wp Try.prog _ _ _ _
    refine wp_cond_true (hA.ev (x := .tmp 147) rfl) ?_
    refine wp_region_list ?_
    refine W_val hA rfl 148 rfl (by decide) _ _ (R_mov hA rfl rfl _) (fun a hA => ?_)
    refine W_val hA rfl 149 rfl (by decide) _ _ (R_sub hA rfl rfl rfl (causeG s.c) (cg_yes (.inl c5)) _) (fun a hA => ?_)
    refine W_val hA rfl 10 rfl (by decide) _ _ (R_asg hA rfl rfl _) (fun a hA => ?_)
    refine W_nil ?_
    refine then_nrm ?_
    show Code.wp Try.prog _ _ _ _
    refine wp_seq ?_
    refine wp_region_list ?_
    refine W_val hA rfl 150 rfl (by decide) _ _ (R_fa hA rfl rfl (fun w => fa_hart _ 0 0 (by decide) rfl w) _) (fun a hA => ?_)
    refine W_val hA rfl 151 rfl (by decide) _ _ (R_ld (v := .int .u64 (t.n 0)) hA rfl rfl ag_u64 (HH.u 0 (by decide) (by decide))) (fun a hA => ?_)
    refine W_val hA rfl 152 rfl (by decide) _ _ (R_fa hA rfl rfl (fun w => fa_hart _ 40 71 (by decide) rfl w) _) (fun a hA => ?_)
    refine W_stU hA rfl rfl rfl rfl rfl A5 (by decide) (by decide) (fun w56 hT HN => ?_)
    replace HB := HB.trans (hT.bel _ gA5)
    replace HH := hT.hart HH (by omega)
    replace TT := hT.ts TT (by omega)
    replace A4 := hT.hart A4 (by omega)
    replace A5 := HN
    clear hT HN
    refine W_nil ?_
    refine then_nrm ?_
    show Code.wp Try.prog _ _ _ _
    refine wp_seq ?_
    refine wp_region_list ?_
    refine W_val hA rfl 153 rfl (by decide) _ _ (R_mov hA rfl rfl _) (fun a hA => ?_)
    refine W_val hA rfl 154 rfl (by decide) _ _ (R_fa hA rfl rfl (fun w => fa_hart _ 41 72 (by decide) rfl w) _) (fun a hA => ?_)
    refine W_stU hA rfl rfl rfl rfl rfl A5 (by decide) (by decide) (fun w57 hT HN => ?_)
    replace HB := HB.trans (hT.bel _ gA5)
    replace HH := hT.hart HH (by omega)
    replace TT := hT.ts TT (by omega)
    replace A4 := hT.hart A4 (by omega)
    replace A5 := HN
    clear hT HN
    refine W_nil ?_
    refine then_nrm ?_
    show Code.wp Try.prog _ _ _ _
    refine wp_seq ?_
    refine wp_region_list ?_
    refine W_val hA rfl 155 rfl (by decide) _ _ (R_fa hA rfl rfl (fun w => fa_ts _ 2 (by decide) w) _) (fun a hA => ?_)
    refine W_val hA rfl 156 rfl (by decide) _ _ (R_ld (v := .int .u64 (s.tv)) hA rfl rfl ag_u64 (TsB.cell TT 2 _ rfl)) (fun a hA => ?_)
    refine W_val hA rfl 157 rfl (by decide) _ _ (R_fa hA rfl rfl (fun w => fa_hart _ 42 73 (by decide) rfl w) _) (fun a hA => ?_)
    refine W_stU hA rfl rfl rfl rfl rfl A5 (by decide) (by decide) (fun w58 hT HN => ?_)
    replace HB := HB.trans (hT.bel _ gA5)
    replace HH := hT.hart HH (by omega)
    replace TT := hT.ts TT (by omega)
    replace A4 := hT.hart A4 (by omega)
    replace A5 := HN
    clear hT HN
    refine W_nil ?_
    refine then_nrm ?_
    show Code.wp Try.prog _ _ _ _
    refine wp_seq ?_
    refine wp_region_held_drew (S := fun wx => Below w58.heap.size w58 wx) (by kernel_rfl) ((Below.refl _ _).drew) (fun hS => ?_)
    refine takeF (i := 0) hA 158 rfl rfl (by decide) rfl (by kernel_rfl) (by kernel_rfl) (by kernel_rfl) (fun _ _ _ h => h) hS (fun wx hx => R_fa hA rfl rfl (fun w => fa_hart _ 37 68 (by decide) rfl w) _) (fun a hA => ?_)
    refine takeF (i := 1) hA 159 rfl rfl (by decide) rfl (by kernel_rfl) (by kernel_rfl) (by kernel_rfl) (fun _ _ _ h => h) hS (fun wx hx => R_ld (v := .int .u64 (t.n 68)) hA rfl rfl ag_u64 ((HH.below hx).u 68 (by decide) (by decide))) (fun a hA => ?_)
    refine takeF (i := 2) hA 160 rfl rfl (by decide) rfl (by kernel_rfl) (by kernel_rfl) (by kernel_rfl) (fun _ _ _ h => h) hS (fun wx hx => R_fa hA rfl rfl (fun w => fa_hart _ 37 68 (by decide) rfl w) _) (fun a hA => ?_)
    refine takeF (i := 3) hA 161 rfl rfl (by decide) rfl (by kernel_rfl) (by kernel_rfl) (by kernel_rfl) (fun _ _ _ h => h) hS (fun wx hx => R_ld (v := .int .u64 (t.n 68)) hA rfl rfl ag_u64 ((HH.below hx).u 68 (by decide) (by decide))) (fun a hA => ?_)
    refine wpAnyH_ready (rs := [4]) (by kernel_rfl) (by simp) (ready_call (i := 4) hA (by decide) rfl (fun _ _ => by kernel_rfl) (args2 hA rfl rfl) (dbitN_any _ (by first | exact ok.n _ | exact hc | exact ht) 1 (by decide) _) (fun _ h => h ▸ hS) (fun w59 hw a hA => ?_) AllReadyH.nil)
    subst hw
    refine wpAnyH_ready (rs := [5]) (by kernel_rfl) (by simp) (ready_call (i := 5) hA (by decide) rfl (fun _ _ => by kernel_rfl) (args3 hA rfl rfl rfl) (dwith_any _ 5 (by decide) _ _) (fun _ h => h ▸ hS) (fun w60 hw a hA => ?_) AllReadyH.nil)
    subst hw
    refine takeF (i := 6) hA 11 rfl rfl (by decide) rfl (by kernel_rfl) (by kernel_rfl) (by kernel_rfl) (fun _ _ _ h => h) hS (fun wx hx => R_asg hA rfl rfl _) (fun a hA => ?_)
    refine wpAnyH_done (by kernel_rfl) ?_ _
    replace HH := HH.below hS
    replace TT := TT.below hS
    replace A4 := A4.below hS
    replace A5 := A5.below hS
    replace HB := HB.trans (hS.mono HB.size)
    clear hS
    generalize World.drew w58 = w61 at *
    refine then_nrm ?_
    show Code.wp Try.prog _ _ _ _
    refine wp_seq ?_
    refine wp_region_list ?_
    refine W_val hA rfl 164 rfl (by decide) _ _ (R_mov hA rfl rfl _) (fun a hA => ?_)
    refine W_callA hA (by decide) (fun _ _ => by kernel_rfl) (args3 hA rfl rfl rfl) (dwith_any _ 1 (by decide) _ _) (fun w62 hw a hA => ?_)
    subst hw
    refine W_val hA rfl 11 rfl (by decide) _ _ (R_asg hA rfl rfl _) (fun a hA => ?_)
    refine W_nil ?_
    refine then_nrm ?_
    show Code.wp Try.prog _ _ _ _
    refine wp_seq ?_
    refine wp_region_list ?_
    refine W_val hA rfl 166 rfl (by decide) _ _ (R_mov hA rfl rfl _) (fun a hA => ?_)
    refine W_val hA rfl 167 rfl (by decide) _ _ (R_fa hA rfl rfl (fun w => fa_hart _ 2 33 (by decide) rfl w) _) (fun a hA => ?_)
    refine W_val hA rfl 168 rfl (by decide) _ _ (R_ld (v := .int .u8 (t.n 33)) hA rfl rfl ag_u8 HH.p) (fun a hA => ?_)
    refine W_val hA rfl 169 rfl (by decide) _ _ (R_eqlB hA rfl rfl rfl _) (fun a hA => ?_)
    refine W_callA hA (by decide) (fun _ _ => by kernel_rfl) (args3 hA rfl rfl rfl) (dwith_any _ 8 (by decide) _ _) (fun w63 hw a hA => ?_)
    subst hw
    refine W_val hA rfl 171 rfl (by decide) _ _ (R_fa hA rfl rfl (fun w => fa_hart _ 37 68 (by decide) rfl w) _) (fun a hA => ?_)
    refine W_stU hA rfl rfl rfl rfl rfl A5 (by decide) (by decide) (fun w64 hT HN => ?_)
    replace HB := HB.trans (hT.bel _ gA5)
    replace HH := hT.hart HH (by omega)
    replace TT := hT.ts TT (by omega)
    replace A4 := hT.hart A4 (by omega)
    replace A5 := HN
    clear hT HN
    refine W_nil ?_
    refine then_nrm ?_
    show Code.wp Try.prog _ _ _ _
    refine wp_seq ?_
    refine wp_region_list ?_
    refine W_val hA rfl 172 rfl (by decide) _ _ (R_fa hA rfl rfl (fun w => fa_hart _ 38 69 (by decide) rfl w) _) (fun a hA => ?_)
    refine W_val hA rfl 173 rfl (by decide) _ _ (R_ld (v := .int .u64 (t.n 69)) hA rfl rfl ag_u64 (HH.u 69 (by decide) (by decide))) (fun a hA => ?_)
    refine W_val hA rfl 174 rfl (by decide) _ _ (R_mov hA rfl rfl _) (fun a hA => ?_)
    refine W_callA hA (by decide) (fun _ _ => by kernel_rfl) (args2 hA rfl rfl) (dplace_any _ _ (by first | exact ok.n _ | exact sk.c | exact causeG_in sk.c) (by first | exact ok.n _ | exact sk.c | exact causeG_in sk.c) _) (fun w65 hw a hA => ?_)
    subst hw
    refine W_val hA rfl 176 rfl (by decide) _ _ (R_fa hA rfl rfl (fun w => fa_hart _ 0 0 (by decide) rfl w) _) (fun a hA => ?_)
    refine W_stU hA rfl rfl rfl rfl rfl A5 (by decide) (by decide) (fun w66 hT HN => ?_)
    replace HB := HB.trans (hT.bel _ gA5)
    replace HH := hT.hart HH (by omega)
    replace TT := hT.ts TT (by omega)
    replace A4 := hT.hart A4 (by omega)
    replace A5 := HN
    clear hT HN
    refine W_nil ?_
    refine then_nrm ?_
    show Code.wp Try.prog _ _ _ _
    refine wp_seq ?_
    refine wp_region_list ?_
    refine W_val hA rfl 177 rfl (by decide) _ _ (R_row hA rfl rfl A5 Try.underlying25 (size_hart.trans (by rw [varr_size]))) (fun a hA => ?_)
    refine W_cpH hA rfl rfl rfl rfl rfl A4 (fun w67 hT HN => ?_)
    replace HB := HB.trans (hT.bel _ gA4)
    replace HH := hT.hart HH (by omega)
    replace TT := hT.ts TT (by omega)
    replace A5 := hT.hart A5 (by omega)
    replace A4 := HN
    clear hT HN
    refine W_nil ?_
    refine then_nrm ?_
    show Code.wp Try.prog _ _ _ _
    refine wp_ret ?_
    have z := toZ_two c2 c3
    have hv := toZ_guest z
    refine ret_hart (j := 4) (by kernel_rfl) hA rfl A4 ⟨congrArg (fun q : HS => Ending.returned (hartV q)) ?_, HB⟩
    refine Eq.trans ?_ (enterZ_g (show s.is = true by simpa using c1) z).symm
    unfold enterG
    refine HS.same (fun i => ?_) hv rfl rfl
    by_cases h0 : i = 0
    · subst h0; rfl
    by_cases h33 : i = 33
    · subst h33; rfl
    by_cases h37 : i = 37
    · subst h37; rfl
    by_cases h68 : i = 68
    · subst h68; rfl
    by_cases h71 : i = 71
    · subst h71; rfl
    by_cases h72 : i = 72
    · subst h72; rfl
    by_cases h73 : i = 73
    · subst h73; rfl
    simp only [enterG, HS.put, HS.putV, HS.putW, HS.putH, HS.mode, h0, h33, h37, h68, h71, h72, h73, if_false]
  refine W_gval hA rfl rfl rfl 141 rfl (by decide) _ _ (R_mov hA rfl rfl _) (fun a hA => ?_)
  refine W_gval hA rfl rfl rfl 142 rfl (by decide) _ _ (R_eqlU hA rfl rfl rfl _) (fun a hA => ?_)
  refine W_val hA rfl 143 rfl (by decide) _ _ (R_pick hA rfl rfl rfl _) (fun a hA => ?_)
  refine W_val hA rfl 144 rfl (by decide) _ _ (R_mov hA rfl rfl _) (fun a hA => ?_)
  refine W_split hA 144 rfl (fun c6 hA => ?_) (fun c6 hA => ?_)
  · skip
    refine W_gskip hA rfl rfl rfl 145 rfl (by decide) (fun a hA => ?_)
    refine W_gskip hA rfl rfl rfl 146 rfl (by decide) (fun a hA => ?_)
    refine W_val hA rfl 147 rfl (by decide) _ _ (R_pick hA rfl rfl rfl _) (fun a hA => ?_)
    refine W_nil ?_
    refine then_nrm ?_
    show Code.wp Try.prog _ _ _ _
    refine wp_cond_true (hA.ev (x := .tmp 147) rfl) ?_
    refine wp_region_list ?_
    refine W_val hA rfl 148 rfl (by decide) _ _ (R_mov hA rfl rfl _) (fun a hA => ?_)
    refine W_val hA rfl 149 rfl (by decide) _ _ (R_sub hA rfl rfl rfl (causeG s.c) (cg_yes (.inr (.inl c6))) _) (fun a hA => ?_)
    refine W_val hA rfl 10 rfl (by decide) _ _ (R_asg hA rfl rfl _) (fun a hA => ?_)
    refine W_nil ?_
    refine then_nrm ?_
    show Code.wp Try.prog _ _ _ _
    refine wp_seq ?_
    refine wp_region_list ?_
    refine W_val hA rfl 150 rfl (by decide) _ _ (R_fa hA rfl rfl (fun w => fa_hart _ 0 0 (by decide) rfl w) _) (fun a hA => ?_)
    refine W_val hA rfl 151 rfl (by decide) _ _ (R_ld (v := .int .u64 (t.n 0)) hA rfl rfl ag_u64 (HH.u 0 (by decide) (by decide))) (fun a hA => ?_)
    refine W_val hA rfl 152 rfl (by decide) _ _ (R_fa hA rfl rfl (fun w => fa_hart _ 40 71 (by decide) rfl w) _) (fun a hA => ?_)
    refine W_stU hA rfl rfl rfl rfl rfl A5 (by decide) (by decide) (fun w68 hT HN => ?_)
    replace HB := HB.trans (hT.bel _ gA5)
    replace HH := hT.hart HH (by omega)
    replace TT := hT.ts TT (by omega)
    replace A4 := hT.hart A4 (by omega)
    replace A5 := HN
    clear hT HN
    refine W_nil ?_
    refine then_nrm ?_
    show Code.wp Try.prog _ _ _ _
    refine wp_seq ?_
    refine wp_region_list ?_
    refine W_val hA rfl 153 rfl (by decide) _ _ (R_mov hA rfl rfl _) (fun a hA => ?_)
    refine W_val hA rfl 154 rfl (by decide) _ _ (R_fa hA rfl rfl (fun w => fa_hart _ 41 72 (by decide) rfl w) _) (fun a hA => ?_)
    refine W_stU hA rfl rfl rfl rfl rfl A5 (by decide) (by decide) (fun w69 hT HN => ?_)
    replace HB := HB.trans (hT.bel _ gA5)
    replace HH := hT.hart HH (by omega)
    replace TT := hT.ts TT (by omega)
    replace A4 := hT.hart A4 (by omega)
    replace A5 := HN
    clear hT HN
    refine W_nil ?_
    refine then_nrm ?_
    show Code.wp Try.prog _ _ _ _
    refine wp_seq ?_
    refine wp_region_list ?_
    refine W_val hA rfl 155 rfl (by decide) _ _ (R_fa hA rfl rfl (fun w => fa_ts _ 2 (by decide) w) _) (fun a hA => ?_)
    refine W_val hA rfl 156 rfl (by decide) _ _ (R_ld (v := .int .u64 (s.tv)) hA rfl rfl ag_u64 (TsB.cell TT 2 _ rfl)) (fun a hA => ?_)
    refine W_val hA rfl 157 rfl (by decide) _ _ (R_fa hA rfl rfl (fun w => fa_hart _ 42 73 (by decide) rfl w) _) (fun a hA => ?_)
    refine W_stU hA rfl rfl rfl rfl rfl A5 (by decide) (by decide) (fun w70 hT HN => ?_)
    replace HB := HB.trans (hT.bel _ gA5)
    replace HH := hT.hart HH (by omega)
    replace TT := hT.ts TT (by omega)
    replace A4 := hT.hart A4 (by omega)
    replace A5 := HN
    clear hT HN
    refine W_nil ?_
    refine then_nrm ?_
    show Code.wp Try.prog _ _ _ _
    refine wp_seq ?_
    refine wp_region_held_drew (S := fun wx => Below w70.heap.size w70 wx) (by kernel_rfl) ((Below.refl _ _).drew) (fun hS => ?_)
    refine takeF (i := 0) hA 158 rfl rfl (by decide) rfl (by kernel_rfl) (by kernel_rfl) (by kernel_rfl) (fun _ _ _ h => h) hS (fun wx hx => R_fa hA rfl rfl (fun w => fa_hart _ 37 68 (by decide) rfl w) _) (fun a hA => ?_)
    refine takeF (i := 1) hA 159 rfl rfl (by decide) rfl (by kernel_rfl) (by kernel_rfl) (by kernel_rfl) (fun _ _ _ h => h) hS (fun wx hx => R_ld (v := .int .u64 (t.n 68)) hA rfl rfl ag_u64 ((HH.below hx).u 68 (by decide) (by decide))) (fun a hA => ?_)
    refine takeF (i := 2) hA 160 rfl rfl (by decide) rfl (by kernel_rfl) (by kernel_rfl) (by kernel_rfl) (fun _ _ _ h => h) hS (fun wx hx => R_fa hA rfl rfl (fun w => fa_hart _ 37 68 (by decide) rfl w) _) (fun a hA => ?_)
    refine takeF (i := 3) hA 161 rfl rfl (by decide) rfl (by kernel_rfl) (by kernel_rfl) (by kernel_rfl) (fun _ _ _ h => h) hS (fun wx hx => R_ld (v := .int .u64 (t.n 68)) hA rfl rfl ag_u64 ((HH.below hx).u 68 (by decide) (by decide))) (fun a hA => ?_)
    refine wpAnyH_ready (rs := [4]) (by kernel_rfl) (by simp) (ready_call (i := 4) hA (by decide) rfl (fun _ _ => by kernel_rfl) (args2 hA rfl rfl) (dbitN_any _ (by first | exact ok.n _ | exact hc | exact ht) 1 (by decide) _) (fun _ h => h ▸ hS) (fun w71 hw a hA => ?_) AllReadyH.nil)
    subst hw
    refine wpAnyH_ready (rs := [5]) (by kernel_rfl) (by simp) (ready_call (i := 5) hA (by decide) rfl (fun _ _ => by kernel_rfl) (args3 hA rfl rfl rfl) (dwith_any _ 5 (by decide) _ _) (fun _ h => h ▸ hS) (fun w72 hw a hA => ?_) AllReadyH.nil)
    subst hw
    refine takeF (i := 6) hA 11 rfl rfl (by decide) rfl (by kernel_rfl) (by kernel_rfl) (by kernel_rfl) (fun _ _ _ h => h) hS (fun wx hx => R_asg hA rfl rfl _) (fun a hA => ?_)
    refine wpAnyH_done (by kernel_rfl) ?_ _
    replace HH := HH.below hS
    replace TT := TT.below hS
    replace A4 := A4.below hS
    replace A5 := A5.below hS
    replace HB := HB.trans (hS.mono HB.size)
    clear hS
    generalize World.drew w70 = w73 at *
    refine then_nrm ?_
    show Code.wp Try.prog _ _ _ _
    refine wp_seq ?_
    refine wp_region_list ?_
    refine W_val hA rfl 164 rfl (by decide) _ _ (R_mov hA rfl rfl _) (fun a hA => ?_)
    refine W_callA hA (by decide) (fun _ _ => by kernel_rfl) (args3 hA rfl rfl rfl) (dwith_any _ 1 (by decide) _ _) (fun w74 hw a hA => ?_)
    subst hw
    refine W_val hA rfl 11 rfl (by decide) _ _ (R_asg hA rfl rfl _) (fun a hA => ?_)
    refine W_nil ?_
    refine then_nrm ?_
    show Code.wp Try.prog _ _ _ _
    refine wp_seq ?_
    refine wp_region_list ?_
    refine W_val hA rfl 166 rfl (by decide) _ _ (R_mov hA rfl rfl _) (fun a hA => ?_)
    refine W_val hA rfl 167 rfl (by decide) _ _ (R_fa hA rfl rfl (fun w => fa_hart _ 2 33 (by decide) rfl w) _) (fun a hA => ?_)
    refine W_val hA rfl 168 rfl (by decide) _ _ (R_ld (v := .int .u8 (t.n 33)) hA rfl rfl ag_u8 HH.p) (fun a hA => ?_)
    refine W_val hA rfl 169 rfl (by decide) _ _ (R_eqlB hA rfl rfl rfl _) (fun a hA => ?_)
    refine W_callA hA (by decide) (fun _ _ => by kernel_rfl) (args3 hA rfl rfl rfl) (dwith_any _ 8 (by decide) _ _) (fun w75 hw a hA => ?_)
    subst hw
    refine W_val hA rfl 171 rfl (by decide) _ _ (R_fa hA rfl rfl (fun w => fa_hart _ 37 68 (by decide) rfl w) _) (fun a hA => ?_)
    refine W_stU hA rfl rfl rfl rfl rfl A5 (by decide) (by decide) (fun w76 hT HN => ?_)
    replace HB := HB.trans (hT.bel _ gA5)
    replace HH := hT.hart HH (by omega)
    replace TT := hT.ts TT (by omega)
    replace A4 := hT.hart A4 (by omega)
    replace A5 := HN
    clear hT HN
    refine W_nil ?_
    refine then_nrm ?_
    show Code.wp Try.prog _ _ _ _
    refine wp_seq ?_
    refine wp_region_list ?_
    refine W_val hA rfl 172 rfl (by decide) _ _ (R_fa hA rfl rfl (fun w => fa_hart _ 38 69 (by decide) rfl w) _) (fun a hA => ?_)
    refine W_val hA rfl 173 rfl (by decide) _ _ (R_ld (v := .int .u64 (t.n 69)) hA rfl rfl ag_u64 (HH.u 69 (by decide) (by decide))) (fun a hA => ?_)
    refine W_val hA rfl 174 rfl (by decide) _ _ (R_mov hA rfl rfl _) (fun a hA => ?_)
    refine W_callA hA (by decide) (fun _ _ => by kernel_rfl) (args2 hA rfl rfl) (dplace_any _ _ (by first | exact ok.n _ | exact sk.c | exact causeG_in sk.c) (by first | exact ok.n _ | exact sk.c | exact causeG_in sk.c) _) (fun w77 hw a hA => ?_)
    subst hw
    refine W_val hA rfl 176 rfl (by decide) _ _ (R_fa hA rfl rfl (fun w => fa_hart _ 0 0 (by decide) rfl w) _) (fun a hA => ?_)
    refine W_stU hA rfl rfl rfl rfl rfl A5 (by decide) (by decide) (fun w78 hT HN => ?_)
    replace HB := HB.trans (hT.bel _ gA5)
    replace HH := hT.hart HH (by omega)
    replace TT := hT.ts TT (by omega)
    replace A4 := hT.hart A4 (by omega)
    replace A5 := HN
    clear hT HN
    refine W_nil ?_
    refine then_nrm ?_
    show Code.wp Try.prog _ _ _ _
    refine wp_seq ?_
    refine wp_region_list ?_
    refine W_val hA rfl 177 rfl (by decide) _ _ (R_row hA rfl rfl A5 Try.underlying25 (size_hart.trans (by rw [varr_size]))) (fun a hA => ?_)
    refine W_cpH hA rfl rfl rfl rfl rfl A4 (fun w79 hT HN => ?_)
    replace HB := HB.trans (hT.bel _ gA4)
    replace HH := hT.hart HH (by omega)
    replace TT := hT.ts TT (by omega)
    replace A5 := hT.hart A5 (by omega)
    replace A4 := HN
    clear hT HN
    refine W_nil ?_
    refine then_nrm ?_
    show Code.wp Try.prog _ _ _ _
    refine wp_ret ?_
    have z := toZ_two c2 c3
    have hv := toZ_guest z
    refine ret_hart (j := 4) (by kernel_rfl) hA rfl A4 ⟨congrArg (fun q : HS => Ending.returned (hartV q)) ?_, HB⟩
    refine Eq.trans ?_ (enterZ_g (show s.is = true by simpa using c1) z).symm
    unfold enterG
    refine HS.same (fun i => ?_) hv rfl rfl
    by_cases h0 : i = 0
    · subst h0; rfl
    by_cases h33 : i = 33
    · subst h33; rfl
    by_cases h37 : i = 37
    · subst h37; rfl
    by_cases h68 : i = 68
    · subst h68; rfl
    by_cases h71 : i = 71
    · subst h71; rfl
    by_cases h72 : i = 72
    · subst h72; rfl
    by_cases h73 : i = 73
    · subst h73; rfl
    simp only [enterG, HS.put, HS.putV, HS.putW, HS.putH, HS.mode, h0, h33, h37, h68, h71, h72, h73, if_false]
  refine W_gval hA rfl rfl rfl 145 rfl (by decide) _ _ (R_mov hA rfl rfl _) (fun a hA => ?_)
  refine W_gval hA rfl rfl rfl 146 rfl (by decide) _ _ (R_eqlU hA rfl rfl rfl _) (fun a hA => ?_)
  refine W_val hA rfl 147 rfl (by decide) _ _ (R_pick hA rfl rfl rfl _) (fun a hA => ?_)
  refine W_nil ?_
  refine then_nrm ?_
  show Code.wp Try.prog _ _ _ _
  refine wp_cond_split (hA.ev (x := .tmp 147) rfl) (fun c7 => ?_) (fun c7 => ?_)
  · skip
    refine wp_region_list ?_
    refine W_val hA rfl 148 rfl (by decide) _ _ (R_mov hA rfl rfl _) (fun a hA => ?_)
    refine W_val hA rfl 149 rfl (by decide) _ _ (R_sub hA rfl rfl rfl (causeG s.c) (cg_yes (.inr (.inr c7))) _) (fun a hA => ?_)
    refine W_val hA rfl 10 rfl (by decide) _ _ (R_asg hA rfl rfl _) (fun a hA => ?_)
    refine W_nil ?_
    refine then_nrm ?_
    show Code.wp Try.prog _ _ _ _
    refine wp_seq ?_
    refine wp_region_list ?_
    refine W_val hA rfl 150 rfl (by decide) _ _ (R_fa hA rfl rfl (fun w => fa_hart _ 0 0 (by decide) rfl w) _) (fun a hA => ?_)
    refine W_val hA rfl 151 rfl (by decide) _ _ (R_ld (v := .int .u64 (t.n 0)) hA rfl rfl ag_u64 (HH.u 0 (by decide) (by decide))) (fun a hA => ?_)
    refine W_val hA rfl 152 rfl (by decide) _ _ (R_fa hA rfl rfl (fun w => fa_hart _ 40 71 (by decide) rfl w) _) (fun a hA => ?_)
    refine W_stU hA rfl rfl rfl rfl rfl A5 (by decide) (by decide) (fun w80 hT HN => ?_)
    replace HB := HB.trans (hT.bel _ gA5)
    replace HH := hT.hart HH (by omega)
    replace TT := hT.ts TT (by omega)
    replace A4 := hT.hart A4 (by omega)
    replace A5 := HN
    clear hT HN
    refine W_nil ?_
    refine then_nrm ?_
    show Code.wp Try.prog _ _ _ _
    refine wp_seq ?_
    refine wp_region_list ?_
    refine W_val hA rfl 153 rfl (by decide) _ _ (R_mov hA rfl rfl _) (fun a hA => ?_)
    refine W_val hA rfl 154 rfl (by decide) _ _ (R_fa hA rfl rfl (fun w => fa_hart _ 41 72 (by decide) rfl w) _) (fun a hA => ?_)
    refine W_stU hA rfl rfl rfl rfl rfl A5 (by decide) (by decide) (fun w81 hT HN => ?_)
    replace HB := HB.trans (hT.bel _ gA5)
    replace HH := hT.hart HH (by omega)
    replace TT := hT.ts TT (by omega)
    replace A4 := hT.hart A4 (by omega)
    replace A5 := HN
    clear hT HN
    refine W_nil ?_
    refine then_nrm ?_
    show Code.wp Try.prog _ _ _ _
    refine wp_seq ?_
    refine wp_region_list ?_
    refine W_val hA rfl 155 rfl (by decide) _ _ (R_fa hA rfl rfl (fun w => fa_ts _ 2 (by decide) w) _) (fun a hA => ?_)
    refine W_val hA rfl 156 rfl (by decide) _ _ (R_ld (v := .int .u64 (s.tv)) hA rfl rfl ag_u64 (TsB.cell TT 2 _ rfl)) (fun a hA => ?_)
    refine W_val hA rfl 157 rfl (by decide) _ _ (R_fa hA rfl rfl (fun w => fa_hart _ 42 73 (by decide) rfl w) _) (fun a hA => ?_)
    refine W_stU hA rfl rfl rfl rfl rfl A5 (by decide) (by decide) (fun w82 hT HN => ?_)
    replace HB := HB.trans (hT.bel _ gA5)
    replace HH := hT.hart HH (by omega)
    replace TT := hT.ts TT (by omega)
    replace A4 := hT.hart A4 (by omega)
    replace A5 := HN
    clear hT HN
    refine W_nil ?_
    refine then_nrm ?_
    show Code.wp Try.prog _ _ _ _
    refine wp_seq ?_
    refine wp_region_held_drew (S := fun wx => Below w82.heap.size w82 wx) (by kernel_rfl) ((Below.refl _ _).drew) (fun hS => ?_)
    refine takeF (i := 0) hA 158 rfl rfl (by decide) rfl (by kernel_rfl) (by kernel_rfl) (by kernel_rfl) (fun _ _ _ h => h) hS (fun wx hx => R_fa hA rfl rfl (fun w => fa_hart _ 37 68 (by decide) rfl w) _) (fun a hA => ?_)
    refine takeF (i := 1) hA 159 rfl rfl (by decide) rfl (by kernel_rfl) (by kernel_rfl) (by kernel_rfl) (fun _ _ _ h => h) hS (fun wx hx => R_ld (v := .int .u64 (t.n 68)) hA rfl rfl ag_u64 ((HH.below hx).u 68 (by decide) (by decide))) (fun a hA => ?_)
    refine takeF (i := 2) hA 160 rfl rfl (by decide) rfl (by kernel_rfl) (by kernel_rfl) (by kernel_rfl) (fun _ _ _ h => h) hS (fun wx hx => R_fa hA rfl rfl (fun w => fa_hart _ 37 68 (by decide) rfl w) _) (fun a hA => ?_)
    refine takeF (i := 3) hA 161 rfl rfl (by decide) rfl (by kernel_rfl) (by kernel_rfl) (by kernel_rfl) (fun _ _ _ h => h) hS (fun wx hx => R_ld (v := .int .u64 (t.n 68)) hA rfl rfl ag_u64 ((HH.below hx).u 68 (by decide) (by decide))) (fun a hA => ?_)
    refine wpAnyH_ready (rs := [4]) (by kernel_rfl) (by simp) (ready_call (i := 4) hA (by decide) rfl (fun _ _ => by kernel_rfl) (args2 hA rfl rfl) (dbitN_any _ (by first | exact ok.n _ | exact hc | exact ht) 1 (by decide) _) (fun _ h => h ▸ hS) (fun w83 hw a hA => ?_) AllReadyH.nil)
    subst hw
    refine wpAnyH_ready (rs := [5]) (by kernel_rfl) (by simp) (ready_call (i := 5) hA (by decide) rfl (fun _ _ => by kernel_rfl) (args3 hA rfl rfl rfl) (dwith_any _ 5 (by decide) _ _) (fun _ h => h ▸ hS) (fun w84 hw a hA => ?_) AllReadyH.nil)
    subst hw
    refine takeF (i := 6) hA 11 rfl rfl (by decide) rfl (by kernel_rfl) (by kernel_rfl) (by kernel_rfl) (fun _ _ _ h => h) hS (fun wx hx => R_asg hA rfl rfl _) (fun a hA => ?_)
    refine wpAnyH_done (by kernel_rfl) ?_ _
    replace HH := HH.below hS
    replace TT := TT.below hS
    replace A4 := A4.below hS
    replace A5 := A5.below hS
    replace HB := HB.trans (hS.mono HB.size)
    clear hS
    generalize World.drew w82 = w85 at *
    refine then_nrm ?_
    show Code.wp Try.prog _ _ _ _
    refine wp_seq ?_
    refine wp_region_list ?_
    refine W_val hA rfl 164 rfl (by decide) _ _ (R_mov hA rfl rfl _) (fun a hA => ?_)
    refine W_callA hA (by decide) (fun _ _ => by kernel_rfl) (args3 hA rfl rfl rfl) (dwith_any _ 1 (by decide) _ _) (fun w86 hw a hA => ?_)
    subst hw
    refine W_val hA rfl 11 rfl (by decide) _ _ (R_asg hA rfl rfl _) (fun a hA => ?_)
    refine W_nil ?_
    refine then_nrm ?_
    show Code.wp Try.prog _ _ _ _
    refine wp_seq ?_
    refine wp_region_list ?_
    refine W_val hA rfl 166 rfl (by decide) _ _ (R_mov hA rfl rfl _) (fun a hA => ?_)
    refine W_val hA rfl 167 rfl (by decide) _ _ (R_fa hA rfl rfl (fun w => fa_hart _ 2 33 (by decide) rfl w) _) (fun a hA => ?_)
    refine W_val hA rfl 168 rfl (by decide) _ _ (R_ld (v := .int .u8 (t.n 33)) hA rfl rfl ag_u8 HH.p) (fun a hA => ?_)
    refine W_val hA rfl 169 rfl (by decide) _ _ (R_eqlB hA rfl rfl rfl _) (fun a hA => ?_)
    refine W_callA hA (by decide) (fun _ _ => by kernel_rfl) (args3 hA rfl rfl rfl) (dwith_any _ 8 (by decide) _ _) (fun w87 hw a hA => ?_)
    subst hw
    refine W_val hA rfl 171 rfl (by decide) _ _ (R_fa hA rfl rfl (fun w => fa_hart _ 37 68 (by decide) rfl w) _) (fun a hA => ?_)
    refine W_stU hA rfl rfl rfl rfl rfl A5 (by decide) (by decide) (fun w88 hT HN => ?_)
    replace HB := HB.trans (hT.bel _ gA5)
    replace HH := hT.hart HH (by omega)
    replace TT := hT.ts TT (by omega)
    replace A4 := hT.hart A4 (by omega)
    replace A5 := HN
    clear hT HN
    refine W_nil ?_
    refine then_nrm ?_
    show Code.wp Try.prog _ _ _ _
    refine wp_seq ?_
    refine wp_region_list ?_
    refine W_val hA rfl 172 rfl (by decide) _ _ (R_fa hA rfl rfl (fun w => fa_hart _ 38 69 (by decide) rfl w) _) (fun a hA => ?_)
    refine W_val hA rfl 173 rfl (by decide) _ _ (R_ld (v := .int .u64 (t.n 69)) hA rfl rfl ag_u64 (HH.u 69 (by decide) (by decide))) (fun a hA => ?_)
    refine W_val hA rfl 174 rfl (by decide) _ _ (R_mov hA rfl rfl _) (fun a hA => ?_)
    refine W_callA hA (by decide) (fun _ _ => by kernel_rfl) (args2 hA rfl rfl) (dplace_any _ _ (by first | exact ok.n _ | exact sk.c | exact causeG_in sk.c) (by first | exact ok.n _ | exact sk.c | exact causeG_in sk.c) _) (fun w89 hw a hA => ?_)
    subst hw
    refine W_val hA rfl 176 rfl (by decide) _ _ (R_fa hA rfl rfl (fun w => fa_hart _ 0 0 (by decide) rfl w) _) (fun a hA => ?_)
    refine W_stU hA rfl rfl rfl rfl rfl A5 (by decide) (by decide) (fun w90 hT HN => ?_)
    replace HB := HB.trans (hT.bel _ gA5)
    replace HH := hT.hart HH (by omega)
    replace TT := hT.ts TT (by omega)
    replace A4 := hT.hart A4 (by omega)
    replace A5 := HN
    clear hT HN
    refine W_nil ?_
    refine then_nrm ?_
    show Code.wp Try.prog _ _ _ _
    refine wp_seq ?_
    refine wp_region_list ?_
    refine W_val hA rfl 177 rfl (by decide) _ _ (R_row hA rfl rfl A5 Try.underlying25 (size_hart.trans (by rw [varr_size]))) (fun a hA => ?_)
    refine W_cpH hA rfl rfl rfl rfl rfl A4 (fun w91 hT HN => ?_)
    replace HB := HB.trans (hT.bel _ gA4)
    replace HH := hT.hart HH (by omega)
    replace TT := hT.ts TT (by omega)
    replace A5 := hT.hart A5 (by omega)
    replace A4 := HN
    clear hT HN
    refine W_nil ?_
    refine then_nrm ?_
    show Code.wp Try.prog _ _ _ _
    refine wp_ret ?_
    have z := toZ_two c2 c3
    have hv := toZ_guest z
    refine ret_hart (j := 4) (by kernel_rfl) hA rfl A4 ⟨congrArg (fun q : HS => Ending.returned (hartV q)) ?_, HB⟩
    refine Eq.trans ?_ (enterZ_g (show s.is = true by simpa using c1) z).symm
    unfold enterG
    refine HS.same (fun i => ?_) hv rfl rfl
    by_cases h0 : i = 0
    · subst h0; rfl
    by_cases h33 : i = 33
    · subst h33; rfl
    by_cases h37 : i = 37
    · subst h37; rfl
    by_cases h68 : i = 68
    · subst h68; rfl
    by_cases h71 : i = 71
    · subst h71; rfl
    by_cases h72 : i = 72
    · subst h72; rfl
    by_cases h73 : i = 73
    · subst h73; rfl
    simp only [enterG, HS.put, HS.putV, HS.putW, HS.putH, HS.mode, h0, h33, h37, h68, h71, h72, h73, if_false]
  refine wp_skip ?_
  refine then_nrm ?_
  show Code.wp Try.prog _ _ _ _
  refine wp_seq ?_
  refine wp_region_list ?_
  refine W_val hA rfl 150 rfl (by decide) _ _ (R_fa hA rfl rfl (fun w => fa_hart _ 0 0 (by decide) rfl w) _) (fun a hA => ?_)
  refine W_val hA rfl 151 rfl (by decide) _ _ (R_ld (v := .int .u64 (t.n 0)) hA rfl rfl ag_u64 (HH.u 0 (by decide) (by decide))) (fun a hA => ?_)
  refine W_val hA rfl 152 rfl (by decide) _ _ (R_fa hA rfl rfl (fun w => fa_hart _ 40 71 (by decide) rfl w) _) (fun a hA => ?_)
  refine W_stU hA rfl rfl rfl rfl rfl A5 (by decide) (by decide) (fun w92 hT HN => ?_)
  replace HB := HB.trans (hT.bel _ gA5)
  replace HH := hT.hart HH (by omega)
  replace TT := hT.ts TT (by omega)
  replace A4 := hT.hart A4 (by omega)
  replace A5 := HN
  clear hT HN
  refine W_nil ?_
  refine then_nrm ?_
  show Code.wp Try.prog _ _ _ _
  refine wp_seq ?_
  refine wp_region_list ?_
  refine W_val hA rfl 153 rfl (by decide) _ _ (R_mov hA rfl rfl _) (fun a hA => ?_)
  refine W_val hA rfl 154 rfl (by decide) _ _ (R_fa hA rfl rfl (fun w => fa_hart _ 41 72 (by decide) rfl w) _) (fun a hA => ?_)
  refine W_stU hA rfl rfl rfl rfl rfl A5 (by decide) (by decide) (fun w93 hT HN => ?_)
  replace HB := HB.trans (hT.bel _ gA5)
  replace HH := hT.hart HH (by omega)
  replace TT := hT.ts TT (by omega)
  replace A4 := hT.hart A4 (by omega)
  replace A5 := HN
  clear hT HN
  refine W_nil ?_
  refine then_nrm ?_
  show Code.wp Try.prog _ _ _ _
  refine wp_seq ?_
  refine wp_region_list ?_
  refine W_val hA rfl 155 rfl (by decide) _ _ (R_fa hA rfl rfl (fun w => fa_ts _ 2 (by decide) w) _) (fun a hA => ?_)
  refine W_val hA rfl 156 rfl (by decide) _ _ (R_ld (v := .int .u64 (s.tv)) hA rfl rfl ag_u64 (TsB.cell TT 2 _ rfl)) (fun a hA => ?_)
  refine W_val hA rfl 157 rfl (by decide) _ _ (R_fa hA rfl rfl (fun w => fa_hart _ 42 73 (by decide) rfl w) _) (fun a hA => ?_)
  refine W_stU hA rfl rfl rfl rfl rfl A5 (by decide) (by decide) (fun w94 hT HN => ?_)
  replace HB := HB.trans (hT.bel _ gA5)
  replace HH := hT.hart HH (by omega)
  replace TT := hT.ts TT (by omega)
  replace A4 := hT.hart A4 (by omega)
  replace A5 := HN
  clear hT HN
  refine W_nil ?_
  refine then_nrm ?_
  show Code.wp Try.prog _ _ _ _
  refine wp_seq ?_
  refine wp_region_held_drew (S := fun wx => Below w94.heap.size w94 wx) (by kernel_rfl) ((Below.refl _ _).drew) (fun hS => ?_)
  refine takeF (i := 0) hA 158 rfl rfl (by decide) rfl (by kernel_rfl) (by kernel_rfl) (by kernel_rfl) (fun _ _ _ h => h) hS (fun wx hx => R_fa hA rfl rfl (fun w => fa_hart _ 37 68 (by decide) rfl w) _) (fun a hA => ?_)
  refine takeF (i := 1) hA 159 rfl rfl (by decide) rfl (by kernel_rfl) (by kernel_rfl) (by kernel_rfl) (fun _ _ _ h => h) hS (fun wx hx => R_ld (v := .int .u64 (t.n 68)) hA rfl rfl ag_u64 ((HH.below hx).u 68 (by decide) (by decide))) (fun a hA => ?_)
  refine takeF (i := 2) hA 160 rfl rfl (by decide) rfl (by kernel_rfl) (by kernel_rfl) (by kernel_rfl) (fun _ _ _ h => h) hS (fun wx hx => R_fa hA rfl rfl (fun w => fa_hart _ 37 68 (by decide) rfl w) _) (fun a hA => ?_)
  refine takeF (i := 3) hA 161 rfl rfl (by decide) rfl (by kernel_rfl) (by kernel_rfl) (by kernel_rfl) (fun _ _ _ h => h) hS (fun wx hx => R_ld (v := .int .u64 (t.n 68)) hA rfl rfl ag_u64 ((HH.below hx).u 68 (by decide) (by decide))) (fun a hA => ?_)
  refine wpAnyH_ready (rs := [4]) (by kernel_rfl) (by simp) (ready_call (i := 4) hA (by decide) rfl (fun _ _ => by kernel_rfl) (args2 hA rfl rfl) (dbitN_any _ (by first | exact ok.n _ | exact hc | exact ht) 1 (by decide) _) (fun _ h => h ▸ hS) (fun w95 hw a hA => ?_) AllReadyH.nil)
  subst hw
  refine wpAnyH_ready (rs := [5]) (by kernel_rfl) (by simp) (ready_call (i := 5) hA (by decide) rfl (fun _ _ => by kernel_rfl) (args3 hA rfl rfl rfl) (dwith_any _ 5 (by decide) _ _) (fun _ h => h ▸ hS) (fun w96 hw a hA => ?_) AllReadyH.nil)
  subst hw
  refine takeF (i := 6) hA 11 rfl rfl (by decide) rfl (by kernel_rfl) (by kernel_rfl) (by kernel_rfl) (fun _ _ _ h => h) hS (fun wx hx => R_asg hA rfl rfl _) (fun a hA => ?_)
  refine wpAnyH_done (by kernel_rfl) ?_ _
  replace HH := HH.below hS
  replace TT := TT.below hS
  replace A4 := A4.below hS
  replace A5 := A5.below hS
  replace HB := HB.trans (hS.mono HB.size)
  clear hS
  generalize World.drew w94 = w97 at *
  refine then_nrm ?_
  show Code.wp Try.prog _ _ _ _
  refine wp_seq ?_
  refine wp_region_list ?_
  refine W_val hA rfl 164 rfl (by decide) _ _ (R_mov hA rfl rfl _) (fun a hA => ?_)
  refine W_callA hA (by decide) (fun _ _ => by kernel_rfl) (args3 hA rfl rfl rfl) (dwith_any _ 1 (by decide) _ _) (fun w98 hw a hA => ?_)
  subst hw
  refine W_val hA rfl 11 rfl (by decide) _ _ (R_asg hA rfl rfl _) (fun a hA => ?_)
  refine W_nil ?_
  refine then_nrm ?_
  show Code.wp Try.prog _ _ _ _
  refine wp_seq ?_
  refine wp_region_list ?_
  refine W_val hA rfl 166 rfl (by decide) _ _ (R_mov hA rfl rfl _) (fun a hA => ?_)
  refine W_val hA rfl 167 rfl (by decide) _ _ (R_fa hA rfl rfl (fun w => fa_hart _ 2 33 (by decide) rfl w) _) (fun a hA => ?_)
  refine W_val hA rfl 168 rfl (by decide) _ _ (R_ld (v := .int .u8 (t.n 33)) hA rfl rfl ag_u8 HH.p) (fun a hA => ?_)
  refine W_val hA rfl 169 rfl (by decide) _ _ (R_eqlB hA rfl rfl rfl _) (fun a hA => ?_)
  refine W_callA hA (by decide) (fun _ _ => by kernel_rfl) (args3 hA rfl rfl rfl) (dwith_any _ 8 (by decide) _ _) (fun w99 hw a hA => ?_)
  subst hw
  refine W_val hA rfl 171 rfl (by decide) _ _ (R_fa hA rfl rfl (fun w => fa_hart _ 37 68 (by decide) rfl w) _) (fun a hA => ?_)
  refine W_stU hA rfl rfl rfl rfl rfl A5 (by decide) (by decide) (fun w100 hT HN => ?_)
  replace HB := HB.trans (hT.bel _ gA5)
  replace HH := hT.hart HH (by omega)
  replace TT := hT.ts TT (by omega)
  replace A4 := hT.hart A4 (by omega)
  replace A5 := HN
  clear hT HN
  refine W_nil ?_
  refine then_nrm ?_
  show Code.wp Try.prog _ _ _ _
  refine wp_seq ?_
  refine wp_region_list ?_
  refine W_val hA rfl 172 rfl (by decide) _ _ (R_fa hA rfl rfl (fun w => fa_hart _ 38 69 (by decide) rfl w) _) (fun a hA => ?_)
  refine W_val hA rfl 173 rfl (by decide) _ _ (R_ld (v := .int .u64 (t.n 69)) hA rfl rfl ag_u64 (HH.u 69 (by decide) (by decide))) (fun a hA => ?_)
  refine W_val hA rfl 174 rfl (by decide) _ _ (R_mov hA rfl rfl _) (fun a hA => ?_)
  refine W_callA hA (by decide) (fun _ _ => by kernel_rfl) (args2 hA rfl rfl) (dplace_any _ _ (by first | exact ok.n _ | exact sk.c | exact causeG_in sk.c) (by first | exact ok.n _ | exact sk.c | exact causeG_in sk.c) _) (fun w101 hw a hA => ?_)
  subst hw
  refine W_val hA rfl 176 rfl (by decide) _ _ (R_fa hA rfl rfl (fun w => fa_hart _ 0 0 (by decide) rfl w) _) (fun a hA => ?_)
  refine W_stU hA rfl rfl rfl rfl rfl A5 (by decide) (by decide) (fun w102 hT HN => ?_)
  replace HB := HB.trans (hT.bel _ gA5)
  replace HH := hT.hart HH (by omega)
  replace TT := hT.ts TT (by omega)
  replace A4 := hT.hart A4 (by omega)
  replace A5 := HN
  clear hT HN
  refine W_nil ?_
  refine then_nrm ?_
  show Code.wp Try.prog _ _ _ _
  refine wp_seq ?_
  refine wp_region_list ?_
  refine W_val hA rfl 177 rfl (by decide) _ _ (R_row hA rfl rfl A5 Try.underlying25 (size_hart.trans (by rw [varr_size]))) (fun a hA => ?_)
  refine W_cpH hA rfl rfl rfl rfl rfl A4 (fun w103 hT HN => ?_)
  replace HB := HB.trans (hT.bel _ gA4)
  replace HH := hT.hart HH (by omega)
  replace TT := hT.ts TT (by omega)
  replace A5 := hT.hart A5 (by omega)
  replace A4 := HN
  clear hT HN
  refine W_nil ?_
  refine then_nrm ?_
  show Code.wp Try.prog _ _ _ _
  refine wp_ret ?_
  have z := toZ_two c2 c3
  have hv := toZ_guest z
  refine ret_hart (j := 4) (by kernel_rfl) hA rfl A4 ⟨congrArg (fun q : HS => Ending.returned (hartV q)) ?_, HB⟩
  refine Eq.trans ?_ (enterZ_g (show s.is = true by simpa using c1) z).symm
  unfold enterG
  rw [cg_no c5 c6 c7]
  refine HS.same (fun i => ?_) hv rfl rfl
  by_cases h0 : i = 0
  · subst h0; rfl
  by_cases h33 : i = 33
  · subst h33; rfl
  by_cases h37 : i = 37
  · subst h37; rfl
  by_cases h68 : i = 68
  · subst h68; rfl
  by_cases h71 : i = 71
  · subst h71; rfl
  by_cases h72 : i = 72
  · subst h72; rfl
  by_cases h73 : i = 73
  · subst h73; rfl
  simp only [enterG, HS.put, HS.putV, HS.putW, HS.putH, HS.mode, h0, h33, h37, h68, h71, h72, h73, if_false]
end Go.Proofs.Ytkfhpmleelmcfaa
