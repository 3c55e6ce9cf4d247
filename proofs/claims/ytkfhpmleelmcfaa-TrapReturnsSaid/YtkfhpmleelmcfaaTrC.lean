/- Layer 14: who takes a trap, by the program (written by gen_trc.py by walkf.py). -/
import Derived.Test.YtkfhpmleelmcfaaTrB
namespace Go.Proofs.Ytkfhpmleelmcfaa
open Go.RowKit
set_option linter.unusedVariables false
set_option maxRecDepth 100000

theorem R_orN (x y : Operand) {o : Oper} {a : Act} {l : List (Nat × Value)} {n : Nat} (hA : FrA l n a) (ho : o.op = .binOp .or 22 x y 22) {u v : Int} (hx : evL l x = some (.int .u64 u)) (hy : evL l y = some (.int .u64 v)) (r : Int) (he : bits .or .u64 u v = r) (w : World) : (execOp a.eval o).run Try.prog w = .ok (.value (.int .u64 r)) w := by
  subst he; exact R_or hA ho hx hy w
def mT (t : HS) (s : TS) : HS := ((((((((t.put 46 (t.n 0)).put 47 s.c).put 48 s.tv).put 49 s.tv2).put 50 s.ti).put 38 (stM (t.n 38) (t.n 33) t.v s.g)).put 33 3).putV false).put 0 (placeZ (t.n 43) s.c)
def hT (t : HS) (s : TS) : HS := (((((((((t.put 54 (t.n 0)).put 55 s.c).put 56 s.tv).put 64 s.tv2).put 65 s.ti).put 38 (stS (t.n 38) (t.n 33))).put 58 (hsT (t.n 58) (t.n 33) t.v s.g)).put 33 1).putV false).put 0 (placeZ (t.n 51) s.c)
def gT (t : HS) (s : TS) : HS := (((((t.put 71 (t.n 0)).put 72 (causeG s.c)).put 73 s.tv).put 68 (stS (t.n 68) (t.n 33))).put 33 1).put 0 (placeZ (t.n 69) (causeG s.c))
set_option maxHeartbeats 8000000 in
theorem letGo_any {bHH : Nat} {t : HS} (w : World) (HH : HartB w bHH t) : Calls Try.prog 25 #[.pointer (some ⟨bHH, 0, none⟩)] w fun e w' => e = .returned (.tuple #[]) ∧ (HartB w' bHH ((t.putH false).put 37 0) ∧ Grw bHH w w') := by
  have HB := Grw.refl bHH w
  go_enter Try.func25, Try.ntmps25
  refine begin_fr [(0, .pointer (some ⟨bHH, 0, none⟩))] 8 ?_ (fun a hA => ?_)
  · exact FrA.add (FrA.nil (by rfl) (by rfl)) 0 _ (by rfl)
  refine wp_region_list ?_
  refine W_val hA rfl 2 rfl (by decide) _ _ (R_mov hA rfl rfl _) (fun a hA => ?_)
  refine W_val hA rfl 3 rfl (by decide) _ _ (R_mov hA rfl rfl _) (fun a hA => ?_)
  refine W_val hA rfl 4 rfl (by decide) _ _ (R_nilCheck hA rfl rfl _) (fun a hA => ?_)
  refine W_val hA rfl 5 rfl (by decide) _ _ (R_fa hA rfl rfl (fun w => fa_hart _ 5 36 (by decide) rfl w) _) (fun a hA => ?_)
  refine W_stHd hA rfl rfl rfl rfl rfl HH (fun w1 hT HN => ?_)
  replace HB := HB.trans hT.grw
  replace HH := HN
  clear hT HN
  refine W_val hA rfl 6 rfl (by decide) _ _ (R_nilCheck hA rfl rfl _) (fun a hA => ?_)
  refine W_val hA rfl 7 rfl (by decide) _ _ (R_fa hA rfl rfl (fun w => fa_hart _ 6 37 (by decide) rfl w) _) (fun a hA => ?_)
  refine W_stU hA rfl rfl rfl rfl rfl HH (by decide) (by decide) (fun w2 hT HN => ?_)
  replace HB := HB.trans hT.grw
  replace HH := HN
  clear hT HN
  refine W_nil ?_
  refine bodyPost_end (results_none (by kernel_rfl) _ _ _) hA.df ⟨rfl, ?_⟩
  exact ⟨HH, HB⟩
set_option maxHeartbeats 8000000 in
theorem toMachine_any {bHH : Nat} {t : HS} (ok : HOk t) (s : TS) (sk : TOk s) (w : World) (HH : HartB w bHH t) : Calls Try.prog 22 #[.pointer (some ⟨bHH, 0, none⟩), tsV s] w fun e w' => e = .returned (.tuple #[]) ∧ (HartB w' bHH (mT t s) ∧ Grw bHH w w') := by
  have HB := Grw.refl bHH w
  go_enter Try.func22, Try.ntmps22
  refine begin_fr [(1, tsV s), (0, .pointer (some ⟨bHH, 0, none⟩))] 76 ?_ (fun a hA => ?_)
  · exact FrA.add (FrA.add (FrA.nil (by rfl) (by rfl)) 0 _ (by rfl)) 1 _ (by rfl)
  refine wp_seq ?_
  refine wp_region_list ?_
  refine W_boxT hA rfl 3 rfl (by decide) rfl rfl (fun w1 bTT a hA hb TT gTT => ?_)
  have nHHTT : bHH < bTT := by have := HH.lt; omega
  replace HB := HB.trans (bel_grw hb HH.lt)
  have gTT2 := HB.sz
  replace HH := HH.below hb
  clear hb
  refine W_nil ?_
  refine then_nrm ?_
  show Code.wp Try.prog _ _ _ _
  refine wp_seq ?_
  have hN := NearH.new (hart_drew HH) [0] false (X := fun w => TsB w bTT s) (ts_drew TT)
  refine region_near hN (fun hN => ?_)
  replace HB := grw_drew HB HH.lt
  replace HH := hart_drew HH
  replace TT := ts_drew TT
  generalize World.drew w1 = w2 at *
  refine takeF (i := 0) hA 5 rfl rfl (by decide) rfl (by kernel_rfl) (by kernel_rfl) (by kernel_rfl) (fun _ _ _ h => h) hN (fun wx hx => R_mov hA rfl rfl _) (fun a hA => ?_)
  refine takeF (i := 1) hA 6 rfl rfl (by decide) rfl (by kernel_rfl) (by kernel_rfl) (by kernel_rfl) (fun _ _ _ h => h) hN (fun wx hx => R_mov hA rfl rfl _) (fun a hA => ?_)
  refine takeF (i := 2) hA 7 rfl rfl (by decide) rfl (by kernel_rfl) (by kernel_rfl) (by kernel_rfl) (fun _ _ _ h => h) hN (fun wx hx => R_mov hA rfl rfl _) (fun a hA => ?_)
  refine takeF (i := 3) hA 8 rfl rfl (by decide) rfl (by kernel_rfl) (by kernel_rfl) (by kernel_rfl) (fun _ _ _ h => h) hN (fun wx hx => R_mov hA rfl rfl _) (fun a hA => ?_)
  refine takeF (i := 4) hA 9 rfl rfl (by decide) rfl (by kernel_rfl) (by kernel_rfl) (by kernel_rfl) (fun _ _ _ h => h) hN (fun wx hx => R_mov hA rfl rfl _) (fun a hA => ?_)
  refine takeF (i := 5) hA 10 rfl rfl (by decide) rfl (by kernel_rfl) (by kernel_rfl) (by kernel_rfl) (fun _ _ _ h => h) hN (fun wx hx => R_mov hA rfl rfl _) (fun a hA => ?_)
  refine takeF (i := 6) hA 11 rfl rfl (by decide) rfl (by kernel_rfl) (by kernel_rfl) (by kernel_rfl) (fun _ _ _ h => h) hN (fun wx hx => R_nilCheck hA rfl rfl _) (fun a hA => ?_)
  refine takeF (i := 7) hA 12 rfl rfl (by decide) rfl (by kernel_rfl) (by kernel_rfl) (by kernel_rfl) (fun _ _ _ h => h) hN (fun wx hx => R_fa hA rfl rfl (fun w => fa_hart _ 0 0 (by decide) rfl w) _) (fun a hA => ?_)
  refine takeF (i := 8) hA 13 rfl rfl (by decide) rfl (by kernel_rfl) (by kernel_rfl) (by kernel_rfl) (fun _ _ _ h => h) hN (fun wx hx => R_ld (v := .int .u64 (t.n 0)) hA rfl rfl ag_u64 ((NearH.u hx 0 (by decide) (by decide) (by decide)).trans rfl)) (fun a hA => ?_)
  refine takeF (i := 9) hA 14 rfl rfl (by decide) rfl (by kernel_rfl) (by kernel_rfl) (by kernel_rfl) (fun _ _ _ h => h) hN (fun wx hx => R_fa hA rfl rfl (fun w => fa_ts _ 1 (by decide) w) _) (fun a hA => ?_)
  refine takeF (i := 10) hA 15 rfl rfl (by decide) rfl (by kernel_rfl) (by kernel_rfl) (by kernel_rfl) (fun _ _ _ h => h) hN (fun wx hx => R_ld (v := .int .u64 (s.c)) hA rfl rfl ag_u64 (TsB.cell hx.2 1 _ rfl)) (fun a hA => ?_)
  refine takeF (i := 11) hA 16 rfl rfl (by decide) rfl (by kernel_rfl) (by kernel_rfl) (by kernel_rfl) (fun _ _ _ h => h) hN (fun wx hx => R_fa hA rfl rfl (fun w => fa_ts _ 2 (by decide) w) _) (fun a hA => ?_)
  refine takeF (i := 12) hA 17 rfl rfl (by decide) rfl (by kernel_rfl) (by kernel_rfl) (by kernel_rfl) (fun _ _ _ h => h) hN (fun wx hx => R_ld (v := .int .u64 (s.tv)) hA rfl rfl ag_u64 (TsB.cell hx.2 2 _ rfl)) (fun a hA => ?_)
  refine takeF (i := 13) hA 18 rfl rfl (by decide) rfl (by kernel_rfl) (by kernel_rfl) (by kernel_rfl) (fun _ _ _ h => h) hN (fun wx hx => R_fa hA rfl rfl (fun w => fa_ts _ 3 (by decide) w) _) (fun a hA => ?_)
  refine takeF (i := 14) hA 19 rfl rfl (by decide) rfl (by kernel_rfl) (by kernel_rfl) (by kernel_rfl) (fun _ _ _ h => h) hN (fun wx hx => R_ld (v := .int .u64 (s.tv2)) hA rfl rfl ag_u64 (TsB.cell hx.2 3 _ rfl)) (fun a hA => ?_)
  refine takeF (i := 15) hA 20 rfl rfl (by decide) rfl (by kernel_rfl) (by kernel_rfl) (by kernel_rfl) (fun _ _ _ h => h) hN (fun wx hx => R_fa hA rfl rfl (fun w => fa_ts _ 4 (by decide) w) _) (fun a hA => ?_)
  refine takeF (i := 16) hA 21 rfl rfl (by decide) rfl (by kernel_rfl) (by kernel_rfl) (by kernel_rfl) (fun _ _ _ h => h) hN (fun wx hx => R_ld (v := .int .u64 (s.ti)) hA rfl rfl ag_u64 (TsB.cell hx.2 4 _ rfl)) (fun a hA => ?_)
  refine takeF (i := 17) hA 22 rfl rfl (by decide) rfl (by kernel_rfl) (by kernel_rfl) (by kernel_rfl) (fun _ _ _ h => h) hN (fun wx hx => R_nilCheck hA rfl rfl _) (fun a hA => ?_)
  refine takeF (i := 18) hA 23 rfl rfl (by decide) rfl (by kernel_rfl) (by kernel_rfl) (by kernel_rfl) (fun _ _ _ h => h) hN (fun wx hx => R_fa hA rfl rfl (fun w => fa_hart _ 15 46 (by decide) rfl w) _) (fun a hA => ?_)
  refine ready_nU (i := 19) (by kernel_rfl) hA rfl rfl rfl rfl rfl rfl HH (by decide) (by decide) hN (by decide) (stays_ts (by omega)) (fun w3 hT HN hN => ?_)
  replace HB := HB.trans hT.grw
  replace TT := hT.ts TT (by omega)
  replace HH := HN
  clear hT HN
  refine takeF (i := 20) hA 24 rfl rfl (by decide) rfl (by kernel_rfl) (by kernel_rfl) (by kernel_rfl) (fun _ _ _ h => h) hN (fun wx hx => R_nilCheck hA rfl rfl _) (fun a hA => ?_)
  refine takeF (i := 21) hA 25 rfl rfl (by decide) rfl (by kernel_rfl) (by kernel_rfl) (by kernel_rfl) (fun _ _ _ h => h) hN (fun wx hx => R_fa hA rfl rfl (fun w => fa_hart _ 16 47 (by decide) rfl w) _) (fun a hA => ?_)
  refine ready_nU (i := 22) (by kernel_rfl) hA rfl rfl rfl rfl rfl rfl HH (by decide) (by decide) hN (by decide) (stays_ts (by omega)) (fun w4 hT HN hN => ?_)
  replace HB := HB.trans hT.grw
  replace TT := hT.ts TT (by omega)
  replace HH := HN
  clear hT HN
  refine takeF (i := 23) hA 26 rfl rfl (by decide) rfl (by kernel_rfl) (by kernel_rfl) (by kernel_rfl) (fun _ _ _ h => h) hN (fun wx hx => R_nilCheck hA rfl rfl _) (fun a hA => ?_)
  refine takeF (i := 24) hA 27 rfl rfl (by decide) rfl (by kernel_rfl) (by kernel_rfl) (by kernel_rfl) (fun _ _ _ h => h) hN (fun wx hx => R_fa hA rfl rfl (fun w => fa_hart _ 17 48 (by decide) rfl w) _) (fun a hA => ?_)
  refine ready_nU (i := 25) (by kernel_rfl) hA rfl rfl rfl rfl rfl rfl HH (by decide) (by decide) hN (by decide) (stays_ts (by omega)) (fun w5 hT HN hN => ?_)
  replace HB := HB.trans hT.grw
  replace TT := hT.ts TT (by omega)
  replace HH := HN
  clear hT HN
  refine takeF (i := 26) hA 28 rfl rfl (by decide) rfl (by kernel_rfl) (by kernel_rfl) (by kernel_rfl) (fun _ _ _ h => h) hN (fun wx hx => R_nilCheck hA rfl rfl _) (fun a hA => ?_)
  refine takeF (i := 27) hA 29 rfl rfl (by decide) rfl (by kernel_rfl) (by kernel_rfl) (by kernel_rfl) (fun _ _ _ h => h) hN (fun wx hx => R_fa hA rfl rfl (fun w => fa_hart _ 18 49 (by decide) rfl w) _) (fun a hA => ?_)
  refine ready_nU (i := 28) (by kernel_rfl) hA rfl rfl rfl rfl rfl rfl HH (by decide) (by decide) hN (by decide) (stays_ts (by omega)) (fun w6 hT HN hN => ?_)
  replace HB := HB.trans hT.grw
  replace TT := hT.ts TT (by omega)
  replace HH := HN
  clear hT HN
  refine takeF (i := 29) hA 30 rfl rfl (by decide) rfl (by kernel_rfl) (by kernel_rfl) (by kernel_rfl) (fun _ _ _ h => h) hN (fun wx hx => R_nilCheck hA rfl rfl _) (fun a hA => ?_)
  refine takeF (i := 30) hA 31 rfl rfl (by decide) rfl (by kernel_rfl) (by kernel_rfl) (by kernel_rfl) (fun _ _ _ h => h) hN (fun wx hx => R_fa hA rfl rfl (fun w => fa_hart _ 19 50 (by decide) rfl w) _) (fun a hA => ?_)
  refine ready_nU (i := 31) (by kernel_rfl) hA rfl rfl rfl rfl rfl rfl HH (by decide) (by decide) hN (by decide) (stays_ts (by omega)) (fun w7 hT HN hN => ?_)
  replace HB := HB.trans hT.grw
  replace TT := hT.ts TT (by omega)
  replace HH := HN
  clear hT HN
  refine wpAnyH_done (by kernel_rfl) ?_ _
  clear hN
  refine then_nrm ?_
  show Code.wp Try.prog _ _ _ _
  refine wp_seq ?_
  refine wp_region_list ?_
  refine W_val hA rfl 32 rfl (by decide) _ _ (R_mov hA rfl rfl _) (fun a hA => ?_)
  refine W_val hA rfl 33 rfl (by decide) _ _ (R_nilCheck hA rfl rfl _) (fun a hA => ?_)
  refine W_val hA rfl 34 rfl (by decide) _ _ (R_fa hA rfl rfl (fun w => fa_hart _ 7 38 (by decide) rfl w) _) (fun a hA => ?_)
  refine W_val hA rfl 35 rfl (by decide) _ _ (R_ld (v := .int .u64 (t.n 38)) hA rfl rfl ag_u64 (HH.u 38 (by decide) (by decide))) (fun a hA => ?_)
  refine W_callA hA (by decide) (fun _ _ => by kernel_rfl) (args3 hA rfl rfl rfl) (shut_any _ 3 7 (by decide) (by decide) _ _ (by decide) (by decide) _) (fun w8 hw a hA => ?_)
  subst hw
  refine W_val hA rfl 4 rfl (by decide) _ _ (R_asg hA rfl rfl _) (fun a hA => ?_)
  refine W_nil ?_
  refine then_nrm ?_
  show Code.wp Try.prog _ _ _ _
  refine wp_seq ?_
  refine wp_region_list ?_
  refine W_val hA rfl 37 rfl (by decide) _ _ (R_mov hA rfl rfl _) (fun a hA => ?_)
  refine W_val hA rfl 38 rfl (by decide) _ _ (R_andNot hA rfl rfl rfl _) (fun a hA => ?_)
  refine W_val hA rfl 39 rfl (by decide) _ _ (R_mov hA rfl rfl _) (fun a hA => ?_)
  refine W_val hA rfl 40 rfl (by decide) _ _ (R_nilCheck hA rfl rfl _) (fun a hA => ?_)
  refine W_val hA rfl 41 rfl (by decide) _ _ (R_fa hA rfl rfl (fun w => fa_hart _ 2 33 (by decide) rfl w) _) (fun a hA => ?_)
  refine W_val hA rfl 42 rfl (by decide) _ _ (R_ld (v := .int .u8 (t.n 33)) hA rfl rfl ag_u8 HH.p) (fun a hA => ?_)
  refine W_val hA rfl 43 rfl (by decide) _ _ (R_cvBU hA rfl rfl (ok.n 33) _) (fun a hA => ?_)
  refine W_val hA rfl 44 rfl (by decide) _ _ (R_shlN hA rfl rfl rfl _) (fun a hA => ?_)
  refine W_val hA rfl 45 rfl (by decide) _ _ (R_and hA rfl rfl rfl _) (fun a hA => ?_)
  refine W_val hA rfl 46 rfl (by decide) _ _ (R_orN _ _ hA rfl rfl rfl _ (mpp_put _ _ (ok.n 33)) _) (fun a hA => ?_)
  refine W_val hA rfl 4 rfl (by decide) _ _ (R_asg hA rfl rfl _) (fun a hA => ?_)
  refine W_nil ?_
  refine then_nrm ?_
  show Code.wp Try.prog _ _ _ _
  refine wp_seq ?_
  refine wp_region_list ?_
  refine W_val hA rfl 47 rfl (by decide) _ _ (R_mov hA rfl rfl _) (fun a hA => ?_)
  refine W_val hA rfl 48 rfl (by decide) _ _ (R_mov hA rfl rfl _) (fun a hA => ?_)
  refine W_val hA rfl 49 rfl (by decide) _ _ (R_nilCheck hA rfl rfl _) (fun a hA => ?_)
  refine W_val hA rfl 50 rfl (by decide) _ _ (R_fa hA rfl rfl (fun w => fa_hart _ 3 34 (by decide) rfl w) _) (fun a hA => ?_)
  refine W_val hA rfl 51 rfl (by decide) _ _ (R_ld (v := .bool (t.v)) hA rfl rfl ag_bool HH.v) (fun a hA => ?_)
  refine W_callA hA (by decide) (fun _ _ => by kernel_rfl) (args3 hA rfl rfl rfl) (put_any _ 39 (by decide) _ (by decide) _ _) (fun w9 hw a hA => ?_)
  subst hw
  refine W_val hA rfl 4 rfl (by decide) _ _ (R_asg hA rfl rfl _) (fun a hA => ?_)
  refine W_nil ?_
  refine then_nrm ?_
  show Code.wp Try.prog _ _ _ _
  refine wp_seq ?_
  refine wp_region_list ?_
  refine W_val hA rfl 53 rfl (by decide) _ _ (R_mov hA rfl rfl _) (fun a hA => ?_)
  refine W_val hA rfl 54 rfl (by decide) _ _ (R_mov hA rfl rfl _) (fun a hA => ?_)
  refine W_val hA rfl 55 rfl (by decide) _ _ (R_fa hA rfl rfl (fun w => fa_ts _ 5 (by decide) w) _) (fun a hA => ?_)
  refine W_val hA rfl 56 rfl (by decide) _ _ (R_ld (v := .bool (s.g)) hA rfl rfl ag_bool (TsB.cell TT 5 _ rfl)) (fun a hA => ?_)
  refine W_callA hA (by decide) (fun _ _ => by kernel_rfl) (args3 hA rfl rfl rfl) (put_any _ 38 (by decide) _ (by decide) _ _) (fun w10 hw a hA => ?_)
  subst hw
  refine W_val hA rfl 58 rfl (by decide) _ _ (R_nilCheck hA rfl rfl _) (fun a hA => ?_)
  refine W_val hA rfl 59 rfl (by decide) _ _ (R_fa hA rfl rfl (fun w => fa_hart _ 7 38 (by decide) rfl w) _) (fun a hA => ?_)
  refine W_stU hA rfl rfl rfl rfl rfl HH (by decide) (by decide) (fun w11 hT HN => ?_)
  replace HB := HB.trans hT.grw
  replace TT := hT.ts TT (by omega)
  replace HH := HN
  clear hT HN
  refine W_nil ?_
  refine then_nrm ?_
  show Code.wp Try.prog _ _ _ _
  have hN := NearH.new (hart_drew HH) [43] false (X := fun w => TsB w bTT s) (ts_drew TT)
  refine region_near hN (fun hN => ?_)
  replace HB := grw_drew HB HH.lt
  replace HH := hart_drew HH
  replace TT := ts_drew TT
  generalize World.drew w11 = w12 at *
  refine takeF (i := 0) hA 60 rfl rfl (by decide) rfl (by kernel_rfl) (by kernel_rfl) (by kernel_rfl) (fun _ _ _ h => h) hN (fun wx hx => R_mov hA rfl rfl _) (fun a hA => ?_)
  refine takeF (i := 1) hA 61 rfl rfl (by decide) rfl (by kernel_rfl) (by kernel_rfl) (by kernel_rfl) (fun _ _ _ h => h) hN (fun wx hx => R_mov hA rfl rfl _) (fun a hA => ?_)
  refine takeF (i := 2) hA 62 rfl rfl (by decide) rfl (by kernel_rfl) (by kernel_rfl) (by kernel_rfl) (fun _ _ _ h => h) hN (fun wx hx => R_mov hA rfl rfl _) (fun a hA => ?_)
  refine takeF (i := 3) hA 63 rfl rfl (by decide) rfl (by kernel_rfl) (by kernel_rfl) (by kernel_rfl) (fun _ _ _ h => h) hN (fun wx hx => R_mov hA rfl rfl _) (fun a hA => ?_)
  refine takeF (i := 4) hA 64 rfl rfl (by decide) rfl (by kernel_rfl) (by kernel_rfl) (by kernel_rfl) (fun _ _ _ h => h) hN (fun wx hx => R_nilCheck hA rfl rfl _) (fun a hA => ?_)
  refine takeF (i := 5) hA 65 rfl rfl (by decide) rfl (by kernel_rfl) (by kernel_rfl) (by kernel_rfl) (fun _ _ _ h => h) hN (fun wx hx => R_fa hA rfl rfl (fun w => fa_hart _ 12 43 (by decide) rfl w) _) (fun a hA => ?_)
  refine takeF (i := 6) hA 66 rfl rfl (by decide) rfl (by kernel_rfl) (by kernel_rfl) (by kernel_rfl) (fun _ _ _ h => h) hN (fun wx hx => R_ld (v := .int .u64 (t.n 43)) hA rfl rfl ag_u64 ((NearH.u hx 43 (by decide) (by decide) (by decide)).trans rfl)) (fun a hA => ?_)
  refine takeF (i := 7) hA 67 rfl rfl (by decide) rfl (by kernel_rfl) (by kernel_rfl) (by kernel_rfl) (fun _ _ _ h => h) hN (fun wx hx => R_fa hA rfl rfl (fun w => fa_ts _ 1 (by decide) w) _) (fun a hA => ?_)
  refine takeF (i := 8) hA 68 rfl rfl (by decide) rfl (by kernel_rfl) (by kernel_rfl) (by kernel_rfl) (fun _ _ _ h => h) hN (fun wx hx => R_ld (v := .int .u64 (s.c)) hA rfl rfl ag_u64 (TsB.cell hx.2 1 _ rfl)) (fun a hA => ?_)
  refine ready_nC (i := 9) (by kernel_rfl) hA (by decide) rfl (fun _ _ => by kernel_rfl) (args2 hA rfl rfl) (place_any _ _ (by first | exact ok.n _ | exact sk.c | exact causeG_in sk.c) (by first | exact ok.n _ | exact sk.c | exact causeG_in sk.c) _) hN (fun a hA => ?_)
  refine takeF (i := 10) hA 70 rfl rfl (by decide) rfl (by kernel_rfl) (by kernel_rfl) (by kernel_rfl) (fun _ _ _ h => h) hN (fun wx hx => R_nilCheck hA rfl rfl _) (fun a hA => ?_)
  refine takeF (i := 11) hA 71 rfl rfl (by decide) rfl (by kernel_rfl) (by kernel_rfl) (by kernel_rfl) (fun _ _ _ h => h) hN (fun wx hx => R_fa hA rfl rfl (fun w => fa_hart _ 2 33 (by decide) rfl w) _) (fun a hA => ?_)
  refine ready_nP (i := 12) (by kernel_rfl) hA rfl rfl rfl rfl rfl rfl HH hN (by decide) (stays_ts (by omega)) (fun w13 hT HN hN => ?_)
  replace HB := HB.trans hT.grw
  replace TT := hT.ts TT (by omega)
  replace HH := HN
  clear hT HN
  refine takeF (i := 13) hA 72 rfl rfl (by decide) rfl (by kernel_rfl) (by kernel_rfl) (by kernel_rfl) (fun _ _ _ h => h) hN (fun wx hx => R_nilCheck hA rfl rfl _) (fun a hA => ?_)
  refine takeF (i := 14) hA 73 rfl rfl (by decide) rfl (by kernel_rfl) (by kernel_rfl) (by kernel_rfl) (fun _ _ _ h => h) hN (fun wx hx => R_fa hA rfl rfl (fun w => fa_hart _ 3 34 (by decide) rfl w) _) (fun a hA => ?_)
  refine ready_nV (i := 15) (by kernel_rfl) hA rfl rfl rfl rfl rfl rfl HH hN (stays_ts (by omega)) (fun w14 hT HN hN => ?_)
  replace HB := HB.trans hT.grw
  replace TT := hT.ts TT (by omega)
  replace HH := HN
  clear hT HN
  refine takeF (i := 16) hA 74 rfl rfl (by decide) rfl (by kernel_rfl) (by kernel_rfl) (by kernel_rfl) (fun _ _ _ h => h) hN (fun wx hx => R_nilCheck hA rfl rfl _) (fun a hA => ?_)
  refine takeF (i := 17) hA 75 rfl rfl (by decide) rfl (by kernel_rfl) (by kernel_rfl) (by kernel_rfl) (fun _ _ _ h => h) hN (fun wx hx => R_fa hA rfl rfl (fun w => fa_hart _ 0 0 (by decide) rfl w) _) (fun a hA => ?_)
  refine ready_nU (i := 18) (by kernel_rfl) hA rfl rfl rfl rfl rfl rfl HH (by decide) (by decide) hN (by decide) (stays_ts (by omega)) (fun w15 hT HN hN => ?_)
  replace HB := HB.trans hT.grw
  replace TT := hT.ts TT (by omega)
  replace HH := HN
  clear hT HN
  refine wpAnyH_done (by kernel_rfl) ?_ _
  clear hN
  refine bodyPost_end (results_none (by kernel_rfl) _ _ _) hA.df ⟨rfl, ?_⟩
  exact ⟨HH, HB⟩
theorem hart_eq {w : World} {b : Nat} {t s : HS} (h : HartB w b t) (e : s = t) : HartB w b s := e ▸ h
set_option maxHeartbeats 8000000 in
theorem toHost_any {bHH : Nat} {t : HS} (ok : HOk t) (s : TS) (sk : TOk s) (w : World) (HH : HartB w bHH t) : Calls Try.prog 23 #[.pointer (some ⟨bHH, 0, none⟩), tsV s] w fun e w' => e = .returned (.tuple #[]) ∧ (HartB w' bHH (hT t s) ∧ Grw bHH w w') := by
  have HB := Grw.refl bHH w
  go_enter Try.func23, Try.ntmps23
  refine begin_fr [(1, tsV s), (0, .pointer (some ⟨bHH, 0, none⟩))] 93 ?_ (fun a hA => ?_)
  · exact FrA.add (FrA.add (FrA.nil (by rfl) (by rfl)) 0 _ (by rfl)) 1 _ (by rfl)
  refine wp_seq ?_
  refine wp_region_list ?_
  refine W_boxT hA rfl 3 rfl (by decide) rfl rfl (fun w1 bTT a hA hb TT gTT => ?_)
  have nHHTT : bHH < bTT := by have := HH.lt; omega
  replace HB := HB.trans (bel_grw hb HH.lt)
  have gTT2 := HB.sz
  replace HH := HH.below hb
  clear hb
  refine W_nil ?_
  refine then_nrm ?_
  show Code.wp Try.prog _ _ _ _
  refine wp_seq ?_
  have hN := NearH.new (hart_drew HH) [0] false (X := fun w => TsB w bTT s) (ts_drew TT)
  refine region_near hN (fun hN => ?_)
  replace HB := grw_drew HB HH.lt
  replace HH := hart_drew HH
  replace TT := ts_drew TT
  generalize World.drew w1 = w2 at *
  refine takeF (i := 0) hA 4 rfl rfl (by decide) rfl (by kernel_rfl) (by kernel_rfl) (by kernel_rfl) (fun _ _ _ h => h) hN (fun wx hx => R_mov hA rfl rfl _) (fun a hA => ?_)
  refine takeF (i := 1) hA 5 rfl rfl (by decide) rfl (by kernel_rfl) (by kernel_rfl) (by kernel_rfl) (fun _ _ _ h => h) hN (fun wx hx => R_mov hA rfl rfl _) (fun a hA => ?_)
  refine takeF (i := 2) hA 6 rfl rfl (by decide) rfl (by kernel_rfl) (by kernel_rfl) (by kernel_rfl) (fun _ _ _ h => h) hN (fun wx hx => R_mov hA rfl rfl _) (fun a hA => ?_)
  refine takeF (i := 3) hA 7 rfl rfl (by decide) rfl (by kernel_rfl) (by kernel_rfl) (by kernel_rfl) (fun _ _ _ h => h) hN (fun wx hx => R_mov hA rfl rfl _) (fun a hA => ?_)
  refine takeF (i := 4) hA 8 rfl rfl (by decide) rfl (by kernel_rfl) (by kernel_rfl) (by kernel_rfl) (fun _ _ _ h => h) hN (fun wx hx => R_mov hA rfl rfl _) (fun a hA => ?_)
  refine takeF (i := 5) hA 9 rfl rfl (by decide) rfl (by kernel_rfl) (by kernel_rfl) (by kernel_rfl) (fun _ _ _ h => h) hN (fun wx hx => R_mov hA rfl rfl _) (fun a hA => ?_)
  refine takeF (i := 6) hA 10 rfl rfl (by decide) rfl (by kernel_rfl) (by kernel_rfl) (by kernel_rfl) (fun _ _ _ h => h) hN (fun wx hx => R_nilCheck hA rfl rfl _) (fun a hA => ?_)
  refine takeF (i := 7) hA 11 rfl rfl (by decide) rfl (by kernel_rfl) (by kernel_rfl) (by kernel_rfl) (fun _ _ _ h => h) hN (fun wx hx => R_fa hA rfl rfl (fun w => fa_hart _ 0 0 (by decide) rfl w) _) (fun a hA => ?_)
  refine takeF (i := 8) hA 12 rfl rfl (by decide) rfl (by kernel_rfl) (by kernel_rfl) (by kernel_rfl) (fun _ _ _ h => h) hN (fun wx hx => R_ld (v := .int .u64 (t.n 0)) hA rfl rfl ag_u64 ((NearH.u hx 0 (by decide) (by decide) (by decide)).trans rfl)) (fun a hA => ?_)
  refine takeF (i := 9) hA 13 rfl rfl (by decide) rfl (by kernel_rfl) (by kernel_rfl) (by kernel_rfl) (fun _ _ _ h => h) hN (fun wx hx => R_fa hA rfl rfl (fun w => fa_ts _ 1 (by decide) w) _) (fun a hA => ?_)
  refine takeF (i := 10) hA 14 rfl rfl (by decide) rfl (by kernel_rfl) (by kernel_rfl) (by kernel_rfl) (fun _ _ _ h => h) hN (fun wx hx => R_ld (v := .int .u64 (s.c)) hA rfl rfl ag_u64 (TsB.cell hx.2 1 _ rfl)) (fun a hA => ?_)
  refine takeF (i := 11) hA 15 rfl rfl (by decide) rfl (by kernel_rfl) (by kernel_rfl) (by kernel_rfl) (fun _ _ _ h => h) hN (fun wx hx => R_fa hA rfl rfl (fun w => fa_ts _ 2 (by decide) w) _) (fun a hA => ?_)
  refine takeF (i := 12) hA 16 rfl rfl (by decide) rfl (by kernel_rfl) (by kernel_rfl) (by kernel_rfl) (fun _ _ _ h => h) hN (fun wx hx => R_ld (v := .int .u64 (s.tv)) hA rfl rfl ag_u64 (TsB.cell hx.2 2 _ rfl)) (fun a hA => ?_)
  refine takeF (i := 13) hA 17 rfl rfl (by decide) rfl (by kernel_rfl) (by kernel_rfl) (by kernel_rfl) (fun _ _ _ h => h) hN (fun wx hx => R_fa hA rfl rfl (fun w => fa_ts _ 3 (by decide) w) _) (fun a hA => ?_)
  refine takeF (i := 14) hA 18 rfl rfl (by decide) rfl (by kernel_rfl) (by kernel_rfl) (by kernel_rfl) (fun _ _ _ h => h) hN (fun wx hx => R_ld (v := .int .u64 (s.tv2)) hA rfl rfl ag_u64 (TsB.cell hx.2 3 _ rfl)) (fun a hA => ?_)
  refine takeF (i := 15) hA 19 rfl rfl (by decide) rfl (by kernel_rfl) (by kernel_rfl) (by kernel_rfl) (fun _ _ _ h => h) hN (fun wx hx => R_fa hA rfl rfl (fun w => fa_ts _ 4 (by decide) w) _) (fun a hA => ?_)
  refine takeF (i := 16) hA 20 rfl rfl (by decide) rfl (by kernel_rfl) (by kernel_rfl) (by kernel_rfl) (fun _ _ _ h => h) hN (fun wx hx => R_ld (v := .int .u64 (s.ti)) hA rfl rfl ag_u64 (TsB.cell hx.2 4 _ rfl)) (fun a hA => ?_)
  refine takeF (i := 17) hA 21 rfl rfl (by decide) rfl (by kernel_rfl) (by kernel_rfl) (by kernel_rfl) (fun _ _ _ h => h) hN (fun wx hx => R_nilCheck hA rfl rfl _) (fun a hA => ?_)
  refine takeF (i := 18) hA 22 rfl rfl (by decide) rfl (by kernel_rfl) (by kernel_rfl) (by kernel_rfl) (fun _ _ _ h => h) hN (fun wx hx => R_fa hA rfl rfl (fun w => fa_hart _ 23 54 (by decide) rfl w) _) (fun a hA => ?_)
  refine ready_nU (i := 19) (by kernel_rfl) hA rfl rfl rfl rfl rfl rfl HH (by decide) (by decide) hN (by decide) (stays_ts (by omega)) (fun w3 hT HN hN => ?_)
  replace HB := HB.trans hT.grw
  replace TT := hT.ts TT (by omega)
  replace HH := HN
  clear hT HN
  refine takeF (i := 20) hA 23 rfl rfl (by decide) rfl (by kernel_rfl) (by kernel_rfl) (by kernel_rfl) (fun _ _ _ h => h) hN (fun wx hx => R_nilCheck hA rfl rfl _) (fun a hA => ?_)
  refine takeF (i := 21) hA 24 rfl rfl (by decide) rfl (by kernel_rfl) (by kernel_rfl) (by kernel_rfl) (fun _ _ _ h => h) hN (fun wx hx => R_fa hA rfl rfl (fun w => fa_hart _ 24 55 (by decide) rfl w) _) (fun a hA => ?_)
  refine ready_nU (i := 22) (by kernel_rfl) hA rfl rfl rfl rfl rfl rfl HH (by decide) (by decide) hN (by decide) (stays_ts (by omega)) (fun w4 hT HN hN => ?_)
  replace HB := HB.trans hT.grw
  replace TT := hT.ts TT (by omega)
  replace HH := HN
  clear hT HN
  refine takeF (i := 23) hA 25 rfl rfl (by decide) rfl (by kernel_rfl) (by kernel_rfl) (by kernel_rfl) (fun _ _ _ h => h) hN (fun wx hx => R_nilCheck hA rfl rfl _) (fun a hA => ?_)
  refine takeF (i := 24) hA 26 rfl rfl (by decide) rfl (by kernel_rfl) (by kernel_rfl) (by kernel_rfl) (fun _ _ _ h => h) hN (fun wx hx => R_fa hA rfl rfl (fun w => fa_hart _ 25 56 (by decide) rfl w) _) (fun a hA => ?_)
  refine ready_nU (i := 25) (by kernel_rfl) hA rfl rfl rfl rfl rfl rfl HH (by decide) (by decide) hN (by decide) (stays_ts (by omega)) (fun w5 hT HN hN => ?_)
  replace HB := HB.trans hT.grw
  replace TT := hT.ts TT (by omega)
  replace HH := HN
  clear hT HN
  refine takeF (i := 26) hA 27 rfl rfl (by decide) rfl (by kernel_rfl) (by kernel_rfl) (by kernel_rfl) (fun _ _ _ h => h) hN (fun wx hx => R_nilCheck hA rfl rfl _) (fun a hA => ?_)
  refine takeF (i := 27) hA 28 rfl rfl (by decide) rfl (by kernel_rfl) (by kernel_rfl) (by kernel_rfl) (fun _ _ _ h => h) hN (fun wx hx => R_fa hA rfl rfl (fun w => fa_hart _ 33 64 (by decide) rfl w) _) (fun a hA => ?_)
  refine ready_nU (i := 28) (by kernel_rfl) hA rfl rfl rfl rfl rfl rfl HH (by decide) (by decide) hN (by decide) (stays_ts (by omega)) (fun w6 hT HN hN => ?_)
  replace HB := HB.trans hT.grw
  replace TT := hT.ts TT (by omega)
  replace HH := HN
  clear hT HN
  refine takeF (i := 29) hA 29 rfl rfl (by decide) rfl (by kernel_rfl) (by kernel_rfl) (by kernel_rfl) (fun _ _ _ h => h) hN (fun wx hx => R_nilCheck hA rfl rfl _) (fun a hA => ?_)
  refine takeF (i := 30) hA 30 rfl rfl (by decide) rfl (by kernel_rfl) (by kernel_rfl) (by kernel_rfl) (fun _ _ _ h => h) hN (fun wx hx => R_fa hA rfl rfl (fun w => fa_hart _ 34 65 (by decide) rfl w) _) (fun a hA => ?_)
  refine ready_nU (i := 31) (by kernel_rfl) hA rfl rfl rfl rfl rfl rfl HH (by decide) (by decide) hN (by decide) (stays_ts (by omega)) (fun w7 hT HN hN => ?_)
  replace HB := HB.trans hT.grw
  replace TT := hT.ts TT (by omega)
  replace HH := HN
  clear hT HN
  refine wpAnyH_done (by kernel_rfl) ?_ _
  clear hN
  refine then_nrm ?_
  show Code.wp Try.prog _ _ _ _
  refine wp_seq ?_
  have hN := NearH.new (hart_drew HH) [33] false (X := fun w => TsB w bTT s) (ts_drew TT)
  refine region_near hN (fun hN => ?_)
  replace HB := grw_drew HB HH.lt
  replace HH := hart_drew HH
  replace TT := ts_drew TT
  generalize World.drew w7 = w8 at *
  refine takeF (i := 0) hA 31 rfl rfl (by decide) rfl (by kernel_rfl) (by kernel_rfl) (by kernel_rfl) (fun _ _ _ h => h) hN (fun wx hx => R_mov hA rfl rfl _) (fun a hA => ?_)
  refine takeF (i := 1) hA 32 rfl rfl (by decide) rfl (by kernel_rfl) (by kernel_rfl) (by kernel_rfl) (fun _ _ _ h => h) hN (fun wx hx => R_mov hA rfl rfl _) (fun a hA => ?_)
  refine takeF (i := 2) hA 33 rfl rfl (by decide) rfl (by kernel_rfl) (by kernel_rfl) (by kernel_rfl) (fun _ _ _ h => h) hN (fun wx hx => R_nilCheck hA rfl rfl _) (fun a hA => ?_)
  refine takeF (i := 3) hA 34 rfl rfl (by decide) rfl (by kernel_rfl) (by kernel_rfl) (by kernel_rfl) (fun _ _ _ h => h) hN (fun wx hx => R_fa hA rfl rfl (fun w => fa_hart _ 7 38 (by decide) rfl w) _) (fun a hA => ?_)
  refine takeF (i := 6) hA 37 rfl rfl (by decide) rfl (by kernel_rfl) (by kernel_rfl) (by kernel_rfl) (fun _ _ _ h => h) hN (fun wx hx => R_mov hA rfl rfl _) (fun a hA => ?_)
  refine takeF (i := 7) hA 38 rfl rfl (by decide) rfl (by kernel_rfl) (by kernel_rfl) (by kernel_rfl) (fun _ _ _ h => h) hN (fun wx hx => R_nilCheck hA rfl rfl _) (fun a hA => ?_)
  refine takeF (i := 8) hA 39 rfl rfl (by decide) rfl (by kernel_rfl) (by kernel_rfl) (by kernel_rfl) (fun _ _ _ h => h) hN (fun wx hx => R_fa hA rfl rfl (fun w => fa_hart _ 2 33 (by decide) rfl w) _) (fun a hA => ?_)
  refine takeF (i := 9) hA 40 rfl rfl (by decide) rfl (by kernel_rfl) (by kernel_rfl) (by kernel_rfl) (fun _ _ _ h => h) hN (fun wx hx => R_ld (v := .int .u8 (t.n 33)) hA rfl rfl ag_u8 ((NearH.p hx (by decide)).trans rfl)) (fun a hA => ?_)
  refine takeF (i := 10) hA 41 rfl rfl (by decide) rfl (by kernel_rfl) (by kernel_rfl) (by kernel_rfl) (fun _ _ _ h => h) hN (fun wx hx => R_eqlB hA rfl rfl rfl _) (fun a hA => ?_)
  refine ready_nL (i := 4) (by kernel_rfl) hA 35 rfl rfl (by decide) rfl hN (R_ld (v := .int .u64 (t.n 38)) hA rfl rfl ag_u64 (HH.u 38 (by decide) (by decide))) (fun a hA => ?_)
  refine ready_nC (i := 5) (by kernel_rfl) hA (by decide) rfl (fun _ _ => by kernel_rfl) (args3 hA rfl rfl rfl) (shut_any _ 1 5 (by decide) (by decide) _ _ (by decide) (by decide) _) hN (fun a hA => ?_)
  refine ready_nC (i := 11) (by kernel_rfl) hA (by decide) rfl (fun _ _ => by kernel_rfl) (args3 hA rfl rfl rfl) (put_any _ 8 (by decide) _ (by decide) _ _) hN (fun a hA => ?_)
  refine takeF (i := 12) hA 43 rfl rfl (by decide) rfl (by kernel_rfl) (by kernel_rfl) (by kernel_rfl) (fun _ _ _ h => h) hN (fun wx hx => R_nilCheck hA rfl rfl _) (fun a hA => ?_)
  refine takeF (i := 13) hA 44 rfl rfl (by decide) rfl (by kernel_rfl) (by kernel_rfl) (by kernel_rfl) (fun _ _ _ h => h) hN (fun wx hx => R_fa hA rfl rfl (fun w => fa_hart _ 7 38 (by decide) rfl w) _) (fun a hA => ?_)
  refine ready_nU (i := 14) (by kernel_rfl) hA rfl rfl rfl rfl rfl rfl HH (by decide) (by decide) hN (by decide) (stays_ts (by omega)) (fun w9 hT HN hN => ?_)
  replace HB := HB.trans hT.grw
  replace TT := hT.ts TT (by omega)
  replace HH := HN
  clear hT HN
  refine wpAnyH_done (by kernel_rfl) ?_ _
  clear hN
  refine then_nrm ?_
  show Code.wp Try.prog _ _ _ _
  refine wp_seq ?_
  refine wp_seq ?_
  refine wp_region_list ?_
  refine W_val hA rfl 45 rfl (by decide) _ _ (R_mov hA rfl rfl _) (fun a hA => ?_)
  refine W_val hA rfl 46 rfl (by decide) _ _ (R_nilCheck hA rfl rfl _) (fun a hA => ?_)
  refine W_val hA rfl 47 rfl (by decide) _ _ (R_fa hA rfl rfl (fun w => fa_hart _ 3 34 (by decide) rfl w) _) (fun a hA => ?_)
  refine W_val hA rfl 48 rfl (by decide) _ _ (R_ld (v := .bool (t.v)) hA rfl rfl ag_bool HH.v) (fun a hA => ?_)
  refine W_nil ?_
  refine then_nrm ?_
  show Code.wp Try.prog _ _ _ _
  refine wp_cond_split (hA.ev (x := .tmp 48) rfl) (fun c1 => ?_) (fun c1 => ?_)
  · skip
    have hN := NearH.new (hart_drew HH) [33] false (X := fun w => TsB w bTT s) (ts_drew TT)
    refine region_near hN (fun hN => ?_)
    replace HB := grw_drew HB HH.lt
    replace HH := hart_drew HH
    replace TT := ts_drew TT
    generalize World.drew w9 = w10 at *
    refine takeF (i := 0) hA 49 rfl rfl (by decide) rfl (by kernel_rfl) (by kernel_rfl) (by kernel_rfl) (fun _ _ _ h => h) hN (fun wx hx => R_mov hA rfl rfl _) (fun a hA => ?_)
    refine takeF (i := 1) hA 50 rfl rfl (by decide) rfl (by kernel_rfl) (by kernel_rfl) (by kernel_rfl) (fun _ _ _ h => h) hN (fun wx hx => R_mov hA rfl rfl _) (fun a hA => ?_)
    refine takeF (i := 2) hA 51 rfl rfl (by decide) rfl (by kernel_rfl) (by kernel_rfl) (by kernel_rfl) (fun _ _ _ h => h) hN (fun wx hx => R_nilCheck hA rfl rfl _) (fun a hA => ?_)
    refine takeF (i := 3) hA 52 rfl rfl (by decide) rfl (by kernel_rfl) (by kernel_rfl) (by kernel_rfl) (fun _ _ _ h => h) hN (fun wx hx => R_fa hA rfl rfl (fun w => fa_hart _ 27 58 (by decide) rfl w) _) (fun a hA => ?_)
    refine takeF (i := 5) hA 54 rfl rfl (by decide) rfl (by kernel_rfl) (by kernel_rfl) (by kernel_rfl) (fun _ _ _ h => h) hN (fun wx hx => R_mov hA rfl rfl _) (fun a hA => ?_)
    refine takeF (i := 6) hA 55 rfl rfl (by decide) rfl (by kernel_rfl) (by kernel_rfl) (by kernel_rfl) (fun _ _ _ h => h) hN (fun wx hx => R_nilCheck hA rfl rfl _) (fun a hA => ?_)
    refine takeF (i := 7) hA 56 rfl rfl (by decide) rfl (by kernel_rfl) (by kernel_rfl) (by kernel_rfl) (fun _ _ _ h => h) hN (fun wx hx => R_fa hA rfl rfl (fun w => fa_hart _ 2 33 (by decide) rfl w) _) (fun a hA => ?_)
    refine takeF (i := 8) hA 57 rfl rfl (by decide) rfl (by kernel_rfl) (by kernel_rfl) (by kernel_rfl) (fun _ _ _ h => h) hN (fun wx hx => R_ld (v := .int .u8 (t.n 33)) hA rfl rfl ag_u8 ((NearH.p hx (by decide)).trans rfl)) (fun a hA => ?_)
    refine takeF (i := 9) hA 58 rfl rfl (by decide) rfl (by kernel_rfl) (by kernel_rfl) (by kernel_rfl) (fun _ _ _ h => h) hN (fun wx hx => R_eqlB hA rfl rfl rfl _) (fun a hA => ?_)
    refine ready_nL (i := 4) (by kernel_rfl) hA 53 rfl rfl (by decide) rfl hN (R_ld (v := .int .u64 (t.n 58)) hA rfl rfl ag_u64 (HH.u 58 (by decide) (by decide))) (fun a hA => ?_)
    refine ready_nC (i := 10) (by kernel_rfl) hA (by decide) rfl (fun _ _ => by kernel_rfl) (args3 hA rfl rfl rfl) (put_any _ 8 (by decide) _ (by decide) _ _) hN (fun a hA => ?_)
    refine takeF (i := 11) hA 60 rfl rfl (by decide) rfl (by kernel_rfl) (by kernel_rfl) (by kernel_rfl) (fun _ _ _ h => h) hN (fun wx hx => R_nilCheck hA rfl rfl _) (fun a hA => ?_)
    refine takeF (i := 12) hA 61 rfl rfl (by decide) rfl (by kernel_rfl) (by kernel_rfl) (by kernel_rfl) (fun _ _ _ h => h) hN (fun wx hx => R_fa hA rfl rfl (fun w => fa_hart _ 27 58 (by decide) rfl w) _) (fun a hA => ?_)
    refine ready_nU (i := 13) (by kernel_rfl) hA rfl rfl rfl rfl rfl rfl HH (by decide) (by decide) hN (by decide) (stays_ts (by omega)) (fun w11 hT HN hN => ?_)
    replace HB := HB.trans hT.grw
    replace TT := hT.ts TT (by omega)
    replace HH := HN
    clear hT HN
    refine wpAnyH_done (by kernel_rfl) ?_ _
    clear hN
    refine then_nrm ?_
    show Code.wp Try.prog _ _ _ _
    refine wp_seq ?_
    have hN := NearH.new (hart_drew HH) [] true (X := fun w => TsB w bTT s) (ts_drew TT)
    refine region_near hN (fun hN => ?_)
    replace HB := grw_drew HB HH.lt
    replace HH := hart_drew HH
    replace TT := ts_drew TT
    generalize World.drew w11 = w12 at *
    refine takeF (i := 0) hA 62 rfl rfl (by decide) rfl (by kernel_rfl) (by kernel_rfl) (by kernel_rfl) (fun _ _ _ h => h) hN (fun wx hx => R_mov hA rfl rfl _) (fun a hA => ?_)
    refine takeF (i := 1) hA 63 rfl rfl (by decide) rfl (by kernel_rfl) (by kernel_rfl) (by kernel_rfl) (fun _ _ _ h => h) hN (fun wx hx => R_mov hA rfl rfl _) (fun a hA => ?_)
    refine takeF (i := 2) hA 64 rfl rfl (by decide) rfl (by kernel_rfl) (by kernel_rfl) (by kernel_rfl) (fun _ _ _ h => h) hN (fun wx hx => R_nilCheck hA rfl rfl _) (fun a hA => ?_)
    refine takeF (i := 3) hA 65 rfl rfl (by decide) rfl (by kernel_rfl) (by kernel_rfl) (by kernel_rfl) (fun _ _ _ h => h) hN (fun wx hx => R_fa hA rfl rfl (fun w => fa_hart _ 27 58 (by decide) rfl w) _) (fun a hA => ?_)
    refine takeF (i := 5) hA 67 rfl rfl (by decide) rfl (by kernel_rfl) (by kernel_rfl) (by kernel_rfl) (fun _ _ _ h => h) hN (fun wx hx => R_mov hA rfl rfl _) (fun a hA => ?_)
    refine takeF (i := 6) hA 68 rfl rfl (by decide) rfl (by kernel_rfl) (by kernel_rfl) (by kernel_rfl) (fun _ _ _ h => h) hN (fun wx hx => R_nilCheck hA rfl rfl _) (fun a hA => ?_)
    refine takeF (i := 7) hA 69 rfl rfl (by decide) rfl (by kernel_rfl) (by kernel_rfl) (by kernel_rfl) (fun _ _ _ h => h) hN (fun wx hx => R_fa hA rfl rfl (fun w => fa_hart _ 3 34 (by decide) rfl w) _) (fun a hA => ?_)
    refine takeF (i := 8) hA 70 rfl rfl (by decide) rfl (by kernel_rfl) (by kernel_rfl) (by kernel_rfl) (fun _ _ _ h => h) hN (fun wx hx => R_ld (v := .bool (t.v)) hA rfl rfl ag_bool ((NearH.v hx).trans rfl)) (fun a hA => ?_)
    refine takeF (i := 10) hA 72 rfl rfl (by decide) rfl (by kernel_rfl) (by kernel_rfl) (by kernel_rfl) (fun _ _ _ h => h) hN (fun wx hx => R_fa hA rfl rfl (fun w => fa_ts _ 5 (by decide) w) _) (fun a hA => ?_)
    refine takeF (i := 11) hA 73 rfl rfl (by decide) rfl (by kernel_rfl) (by kernel_rfl) (by kernel_rfl) (fun _ _ _ h => h) hN (fun wx hx => R_ld (v := .bool (s.g)) hA rfl rfl ag_bool (TsB.cell hx.2 5 _ rfl)) (fun a hA => ?_)
    refine ready_nL (i := 4) (by kernel_rfl) hA 66 rfl rfl (by decide) rfl hN (R_ld (v := .int .u64 (withZ (t.n 58) 8 (t.n 33 == 1))) hA rfl rfl ag_u64 (HH.u 58 (by decide) (by decide))) (fun a hA => ?_)
    refine ready_nC (i := 9) (by kernel_rfl) hA (by decide) rfl (fun _ _ => by kernel_rfl) (args3 hA rfl rfl rfl) (put_any _ 7 (by decide) _ (by decide) _ _) hN (fun a hA => ?_)
    refine ready_nC (i := 12) (by kernel_rfl) hA (by decide) rfl (fun _ _ => by kernel_rfl) (args3 hA rfl rfl rfl) (put_any _ 6 (by decide) _ (by decide) _ _) hN (fun a hA => ?_)
    refine takeF (i := 13) hA 75 rfl rfl (by decide) rfl (by kernel_rfl) (by kernel_rfl) (by kernel_rfl) (fun _ _ _ h => h) hN (fun wx hx => R_nilCheck hA rfl rfl _) (fun a hA => ?_)
    refine takeF (i := 14) hA 76 rfl rfl (by decide) rfl (by kernel_rfl) (by kernel_rfl) (by kernel_rfl) (fun _ _ _ h => h) hN (fun wx hx => R_fa hA rfl rfl (fun w => fa_hart _ 27 58 (by decide) rfl w) _) (fun a hA => ?_)
    refine ready_nU (i := 15) (by kernel_rfl) hA rfl rfl rfl rfl rfl rfl HH (by decide) (by decide) hN (by decide) (stays_ts (by omega)) (fun w13 hT HN hN => ?_)
    replace HB := HB.trans hT.grw
    replace TT := hT.ts TT (by omega)
    replace HH := HN
    clear hT HN
    refine wpAnyH_done (by kernel_rfl) ?_ _
    clear hN
    refine then_nrm ?_
    show Code.wp Try.prog _ _ _ _
    have hN := NearH.new (hart_drew HH) [51] false (X := fun w => TsB w bTT s) (ts_drew TT)
    refine region_near hN (fun hN => ?_)
    replace HB := grw_drew HB HH.lt
    replace HH := hart_drew HH
    replace TT := ts_drew TT
    generalize World.drew w13 = w14 at *
    refine takeF (i := 0) hA 77 rfl rfl (by decide) rfl (by kernel_rfl) (by kernel_rfl) (by kernel_rfl) (fun _ _ _ h => h) hN (fun wx hx => R_mov hA rfl rfl _) (fun a hA => ?_)
    refine takeF (i := 1) hA 78 rfl rfl (by decide) rfl (by kernel_rfl) (by kernel_rfl) (by kernel_rfl) (fun _ _ _ h => h) hN (fun wx hx => R_mov hA rfl rfl _) (fun a hA => ?_)
    refine takeF (i := 2) hA 79 rfl rfl (by decide) rfl (by kernel_rfl) (by kernel_rfl) (by kernel_rfl) (fun _ _ _ h => h) hN (fun wx hx => R_mov hA rfl rfl _) (fun a hA => ?_)
    refine takeF (i := 3) hA 80 rfl rfl (by decide) rfl (by kernel_rfl) (by kernel_rfl) (by kernel_rfl) (fun _ _ _ h => h) hN (fun wx hx => R_mov hA rfl rfl _) (fun a hA => ?_)
    refine takeF (i := 4) hA 81 rfl rfl (by decide) rfl (by kernel_rfl) (by kernel_rfl) (by kernel_rfl) (fun _ _ _ h => h) hN (fun wx hx => R_nilCheck hA rfl rfl _) (fun a hA => ?_)
    refine takeF (i := 5) hA 82 rfl rfl (by decide) rfl (by kernel_rfl) (by kernel_rfl) (by kernel_rfl) (fun _ _ _ h => h) hN (fun wx hx => R_fa hA rfl rfl (fun w => fa_hart _ 20 51 (by decide) rfl w) _) (fun a hA => ?_)
    refine takeF (i := 6) hA 83 rfl rfl (by decide) rfl (by kernel_rfl) (by kernel_rfl) (by kernel_rfl) (fun _ _ _ h => h) hN (fun wx hx => R_ld (v := .int .u64 (t.n 51)) hA rfl rfl ag_u64 ((NearH.u hx 51 (by decide) (by decide) (by decide)).trans rfl)) (fun a hA => ?_)
    refine takeF (i := 7) hA 84 rfl rfl (by decide) rfl (by kernel_rfl) (by kernel_rfl) (by kernel_rfl) (fun _ _ _ h => h) hN (fun wx hx => R_fa hA rfl rfl (fun w => fa_ts _ 1 (by decide) w) _) (fun a hA => ?_)
    refine takeF (i := 8) hA 85 rfl rfl (by decide) rfl (by kernel_rfl) (by kernel_rfl) (by kernel_rfl) (fun _ _ _ h => h) hN (fun wx hx => R_ld (v := .int .u64 (s.c)) hA rfl rfl ag_u64 (TsB.cell hx.2 1 _ rfl)) (fun a hA => ?_)
    refine ready_nC (i := 9) (by kernel_rfl) hA (by decide) rfl (fun _ _ => by kernel_rfl) (args2 hA rfl rfl) (place_any _ _ (by first | exact ok.n _ | exact sk.c | exact causeG_in sk.c) (by first | exact ok.n _ | exact sk.c | exact causeG_in sk.c) _) hN (fun a hA => ?_)
    refine takeF (i := 10) hA 87 rfl rfl (by decide) rfl (by kernel_rfl) (by kernel_rfl) (by kernel_rfl) (fun _ _ _ h => h) hN (fun wx hx => R_nilCheck hA rfl rfl _) (fun a hA => ?_)
    refine takeF (i := 11) hA 88 rfl rfl (by decide) rfl (by kernel_rfl) (by kernel_rfl) (by kernel_rfl) (fun _ _ _ h => h) hN (fun wx hx => R_fa hA rfl rfl (fun w => fa_hart _ 2 33 (by decide) rfl w) _) (fun a hA => ?_)
    refine ready_nP (i := 12) (by kernel_rfl) hA rfl rfl rfl rfl rfl rfl HH hN (by decide) (stays_ts (by omega)) (fun w15 hT HN hN => ?_)
    replace HB := HB.trans hT.grw
    replace TT := hT.ts TT (by omega)
    replace HH := HN
    clear hT HN
    refine takeF (i := 13) hA 89 rfl rfl (by decide) rfl (by kernel_rfl) (by kernel_rfl) (by kernel_rfl) (fun _ _ _ h => h) hN (fun wx hx => R_nilCheck hA rfl rfl _) (fun a hA => ?_)
    refine takeF (i := 14) hA 90 rfl rfl (by decide) rfl (by kernel_rfl) (by kernel_rfl) (by kernel_rfl) (fun _ _ _ h => h) hN (fun wx hx => R_fa hA rfl rfl (fun w => fa_hart _ 3 34 (by decide) rfl w) _) (fun a hA => ?_)
    refine ready_nV (i := 15) (by kernel_rfl) hA rfl rfl rfl rfl rfl rfl HH hN (stays_ts (by omega)) (fun w16 hT HN hN => ?_)
    replace HB := HB.trans hT.grw
    replace TT := hT.ts TT (by omega)
    replace HH := HN
    clear hT HN
    refine takeF (i := 16) hA 91 rfl rfl (by decide) rfl (by kernel_rfl) (by kernel_rfl) (by kernel_rfl) (fun _ _ _ h => h) hN (fun wx hx => R_nilCheck hA rfl rfl _) (fun a hA => ?_)
    refine takeF (i := 17) hA 92 rfl rfl (by decide) rfl (by kernel_rfl) (by kernel_rfl) (by kernel_rfl) (fun _ _ _ h => h) hN (fun wx hx => R_fa hA rfl rfl (fun w => fa_hart _ 0 0 (by decide) rfl w) _) (fun a hA => ?_)
    refine ready_nU (i := 18) (by kernel_rfl) hA rfl rfl rfl rfl rfl rfl HH (by decide) (by decide) hN (by decide) (stays_ts (by omega)) (fun w17 hT HN hN => ?_)
    replace HB := HB.trans hT.grw
    replace TT := hT.ts TT (by omega)
    replace HH := HN
    clear hT HN
    refine wpAnyH_done (by kernel_rfl) ?_ _
    clear hN
    refine bodyPost_end (results_none (by kernel_rfl) _ _ _) hA.df ⟨rfl, ?_⟩
    have e58 : hsT (t.n 58) (t.n 33) t.v s.g = withZ (withZ (withZ (t.n 58) 8 (t.n 33 == 1)) 7 (t.v)) 6 (s.g) := by
      unfold hsT
      rw [c1]
      rw [if_pos rfl, with_comm (t.n 58) (k := 7) (j := 8) (by decide) (by decide) (by decide)]
    refine ⟨hart_eq HH ?_, HB⟩
    unfold hT
    rw [e58, c1]
    refine HS.same (fun i => ?_) rfl rfl rfl
    by_cases h0 : i = 0
    · subst h0; first | rfl | (simp [HS.put, HS.putV])
    by_cases h33 : i = 33
    · subst h33; first | rfl | (simp [HS.put, HS.putV])
    by_cases h38 : i = 38
    · subst h38; first | rfl | (simp [HS.put, HS.putV])
    by_cases h54 : i = 54
    · subst h54; first | rfl | (simp [HS.put, HS.putV])
    by_cases h55 : i = 55
    · subst h55; first | rfl | (simp [HS.put, HS.putV])
    by_cases h56 : i = 56
    · subst h56; first | rfl | (simp [HS.put, HS.putV])
    by_cases h58 : i = 58
    · subst h58; first | rfl | (simp [HS.put, HS.putV])
    by_cases h64 : i = 64
    · subst h64; first | rfl | (simp [HS.put, HS.putV])
    by_cases h65 : i = 65
    · subst h65; first | rfl | (simp [HS.put, HS.putV])
    simp only [hT, HS.put, HS.putV, HS.putW, HS.putH, HS.mode, h0, h33, h38, h54, h55, h56, h58, h64, h65, if_false]
  refine wp_skip ?_
  refine then_nrm ?_
  show Code.wp Try.prog _ _ _ _
  refine wp_seq ?_
  have hN := NearH.new (hart_drew HH) [] true (X := fun w => TsB w bTT s) (ts_drew TT)
  refine region_near hN (fun hN => ?_)
  replace HB := grw_drew HB HH.lt
  replace HH := hart_drew HH
  replace TT := ts_drew TT
  generalize World.drew w9 = w18 at *
  refine takeF (i := 0) hA 62 rfl rfl (by decide) rfl (by kernel_rfl) (by kernel_rfl) (by kernel_rfl) (fun _ _ _ h => h) hN (fun wx hx => R_mov hA rfl rfl _) (fun a hA => ?_)
  refine takeF (i := 1) hA 63 rfl rfl (by decide) rfl (by kernel_rfl) (by kernel_rfl) (by kernel_rfl) (fun _ _ _ h => h) hN (fun wx hx => R_mov hA rfl rfl _) (fun a hA => ?_)
  refine takeF (i := 2) hA 64 rfl rfl (by decide) rfl (by kernel_rfl) (by kernel_rfl) (by kernel_rfl) (fun _ _ _ h => h) hN (fun wx hx => R_nilCheck hA rfl rfl _) (fun a hA => ?_)
  refine takeF (i := 3) hA 65 rfl rfl (by decide) rfl (by kernel_rfl) (by kernel_rfl) (by kernel_rfl) (fun _ _ _ h => h) hN (fun wx hx => R_fa hA rfl rfl (fun w => fa_hart _ 27 58 (by decide) rfl w) _) (fun a hA => ?_)
  refine takeF (i := 5) hA 67 rfl rfl (by decide) rfl (by kernel_rfl) (by kernel_rfl) (by kernel_rfl) (fun _ _ _ h => h) hN (fun wx hx => R_mov hA rfl rfl _) (fun a hA => ?_)
  refine takeF (i := 6) hA 68 rfl rfl (by decide) rfl (by kernel_rfl) (by kernel_rfl) (by kernel_rfl) (fun _ _ _ h => h) hN (fun wx hx => R_nilCheck hA rfl rfl _) (fun a hA => ?_)
  refine takeF (i := 7) hA 69 rfl rfl (by decide) rfl (by kernel_rfl) (by kernel_rfl) (by kernel_rfl) (fun _ _ _ h => h) hN (fun wx hx => R_fa hA rfl rfl (fun w => fa_hart _ 3 34 (by decide) rfl w) _) (fun a hA => ?_)
  refine takeF (i := 8) hA 70 rfl rfl (by decide) rfl (by kernel_rfl) (by kernel_rfl) (by kernel_rfl) (fun _ _ _ h => h) hN (fun wx hx => R_ld (v := .bool (t.v)) hA rfl rfl ag_bool ((NearH.v hx).trans rfl)) (fun a hA => ?_)
  refine takeF (i := 10) hA 72 rfl rfl (by decide) rfl (by kernel_rfl) (by kernel_rfl) (by kernel_rfl) (fun _ _ _ h => h) hN (fun wx hx => R_fa hA rfl rfl (fun w => fa_ts _ 5 (by decide) w) _) (fun a hA => ?_)
  refine takeF (i := 11) hA 73 rfl rfl (by decide) rfl (by kernel_rfl) (by kernel_rfl) (by kernel_rfl) (fun _ _ _ h => h) hN (fun wx hx => R_ld (v := .bool (s.g)) hA rfl rfl ag_bool (TsB.cell hx.2 5 _ rfl)) (fun a hA => ?_)
  refine ready_nL (i := 4) (by kernel_rfl) hA 66 rfl rfl (by decide) rfl hN (R_ld (v := .int .u64 (t.n 58)) hA rfl rfl ag_u64 (HH.u 58 (by decide) (by decide))) (fun a hA => ?_)
  refine ready_nC (i := 9) (by kernel_rfl) hA (by decide) rfl (fun _ _ => by kernel_rfl) (args3 hA rfl rfl rfl) (put_any _ 7 (by decide) _ (by decide) _ _) hN (fun a hA => ?_)
  refine ready_nC (i := 12) (by kernel_rfl) hA (by decide) rfl (fun _ _ => by kernel_rfl) (args3 hA rfl rfl rfl) (put_any _ 6 (by decide) _ (by decide) _ _) hN (fun a hA => ?_)
  refine takeF (i := 13) hA 75 rfl rfl (by decide) rfl (by kernel_rfl) (by kernel_rfl) (by kernel_rfl) (fun _ _ _ h => h) hN (fun wx hx => R_nilCheck hA rfl rfl _) (fun a hA => ?_)
  refine takeF (i := 14) hA 76 rfl rfl (by decide) rfl (by kernel_rfl) (by kernel_rfl) (by kernel_rfl) (fun _ _ _ h => h) hN (fun wx hx => R_fa hA rfl rfl (fun w => fa_hart _ 27 58 (by decide) rfl w) _) (fun a hA => ?_)
  refine ready_nU (i := 15) (by kernel_rfl) hA rfl rfl rfl rfl rfl rfl HH (by decide) (by decide) hN (by decide) (stays_ts (by omega)) (fun w19 hT HN hN => ?_)
  replace HB := HB.trans hT.grw
  replace TT := hT.ts TT (by omega)
  replace HH := HN
  clear hT HN
  refine wpAnyH_done (by kernel_rfl) ?_ _
  clear hN
  refine then_nrm ?_
  show Code.wp Try.prog _ _ _ _
  have hN := NearH.new (hart_drew HH) [51] false (X := fun w => TsB w bTT s) (ts_drew TT)
  refine region_near hN (fun hN => ?_)
  replace HB := grw_drew HB HH.lt
  replace HH := hart_drew HH
  replace TT := ts_drew TT
  generalize World.drew w19 = w20 at *
  refine takeF (i := 0) hA 77 rfl rfl (by decide) rfl (by kernel_rfl) (by kernel_rfl) (by kernel_rfl) (fun _ _ _ h => h) hN (fun wx hx => R_mov hA rfl rfl _) (fun a hA => ?_)
  refine takeF (i := 1) hA 78 rfl rfl (by decide) rfl (by kernel_rfl) (by kernel_rfl) (by kernel_rfl) (fun _ _ _ h => h) hN (fun wx hx => R_mov hA rfl rfl _) (fun a hA => ?_)
  refine takeF (i := 2) hA 79 rfl rfl (by decide) rfl (by kernel_rfl) (by kernel_rfl) (by kernel_rfl) (fun _ _ _ h => h) hN (fun wx hx => R_mov hA rfl rfl _) (fun a hA => ?_)
  refine takeF (i := 3) hA 80 rfl rfl (by decide) rfl (by kernel_rfl) (by kernel_rfl) (by kernel_rfl) (fun _ _ _ h => h) hN (fun wx hx => R_mov hA rfl rfl _) (fun a hA => ?_)
  refine takeF (i := 4) hA 81 rfl rfl (by decide) rfl (by kernel_rfl) (by kernel_rfl) (by kernel_rfl) (fun _ _ _ h => h) hN (fun wx hx => R_nilCheck hA rfl rfl _) (fun a hA => ?_)
  refine takeF (i := 5) hA 82 rfl rfl (by decide) rfl (by kernel_rfl) (by kernel_rfl) (by kernel_rfl) (fun _ _ _ h => h) hN (fun wx hx => R_fa hA rfl rfl (fun w => fa_hart _ 20 51 (by decide) rfl w) _) (fun a hA => ?_)
  refine takeF (i := 6) hA 83 rfl rfl (by decide) rfl (by kernel_rfl) (by kernel_rfl) (by kernel_rfl) (fun _ _ _ h => h) hN (fun wx hx => R_ld (v := .int .u64 (t.n 51)) hA rfl rfl ag_u64 ((NearH.u hx 51 (by decide) (by decide) (by decide)).trans rfl)) (fun a hA => ?_)
  refine takeF (i := 7) hA 84 rfl rfl (by decide) rfl (by kernel_rfl) (by kernel_rfl) (by kernel_rfl) (fun _ _ _ h => h) hN (fun wx hx => R_fa hA rfl rfl (fun w => fa_ts _ 1 (by decide) w) _) (fun a hA => ?_)
  refine takeF (i := 8) hA 85 rfl rfl (by decide) rfl (by kernel_rfl) (by kernel_rfl) (by kernel_rfl) (fun _ _ _ h => h) hN (fun wx hx => R_ld (v := .int .u64 (s.c)) hA rfl rfl ag_u64 (TsB.cell hx.2 1 _ rfl)) (fun a hA => ?_)
  refine ready_nC (i := 9) (by kernel_rfl) hA (by decide) rfl (fun _ _ => by kernel_rfl) (args2 hA rfl rfl) (place_any _ _ (by first | exact ok.n _ | exact sk.c | exact causeG_in sk.c) (by first | exact ok.n _ | exact sk.c | exact causeG_in sk.c) _) hN (fun a hA => ?_)
  refine takeF (i := 10) hA 87 rfl rfl (by decide) rfl (by kernel_rfl) (by kernel_rfl) (by kernel_rfl) (fun _ _ _ h => h) hN (fun wx hx => R_nilCheck hA rfl rfl _) (fun a hA => ?_)
  refine takeF (i := 11) hA 88 rfl rfl (by decide) rfl (by kernel_rfl) (by kernel_rfl) (by kernel_rfl) (fun _ _ _ h => h) hN (fun wx hx => R_fa hA rfl rfl (fun w => fa_hart _ 2 33 (by decide) rfl w) _) (fun a hA => ?_)
  refine ready_nP (i := 12) (by kernel_rfl) hA rfl rfl rfl rfl rfl rfl HH hN (by decide) (stays_ts (by omega)) (fun w21 hT HN hN => ?_)
  replace HB := HB.trans hT.grw
  replace TT := hT.ts TT (by omega)
  replace HH := HN
  clear hT HN
  refine takeF (i := 13) hA 89 rfl rfl (by decide) rfl (by kernel_rfl) (by kernel_rfl) (by kernel_rfl) (fun _ _ _ h => h) hN (fun wx hx => R_nilCheck hA rfl rfl _) (fun a hA => ?_)
  refine takeF (i := 14) hA 90 rfl rfl (by decide) rfl (by kernel_rfl) (by kernel_rfl) (by kernel_rfl) (fun _ _ _ h => h) hN (fun wx hx => R_fa hA rfl rfl (fun w => fa_hart _ 3 34 (by decide) rfl w) _) (fun a hA => ?_)
  refine ready_nV (i := 15) (by kernel_rfl) hA rfl rfl rfl rfl rfl rfl HH hN (stays_ts (by omega)) (fun w22 hT HN hN => ?_)
  replace HB := HB.trans hT.grw
  replace TT := hT.ts TT (by omega)
  replace HH := HN
  clear hT HN
  refine takeF (i := 16) hA 91 rfl rfl (by decide) rfl (by kernel_rfl) (by kernel_rfl) (by kernel_rfl) (fun _ _ _ h => h) hN (fun wx hx => R_nilCheck hA rfl rfl _) (fun a hA => ?_)
  refine takeF (i := 17) hA 92 rfl rfl (by decide) rfl (by kernel_rfl) (by kernel_rfl) (by kernel_rfl) (fun _ _ _ h => h) hN (fun wx hx => R_fa hA rfl rfl (fun w => fa_hart _ 0 0 (by decide) rfl w) _) (fun a hA => ?_)
  refine ready_nU (i := 18) (by kernel_rfl) hA rfl rfl rfl rfl rfl rfl HH (by decide) (by decide) hN (by decide) (stays_ts (by omega)) (fun w23 hT HN hN => ?_)
  replace HB := HB.trans hT.grw
  replace TT := hT.ts TT (by omega)
  replace HH := HN
  clear hT HN
  refine wpAnyH_done (by kernel_rfl) ?_ _
  clear hN
  refine bodyPost_end (results_none (by kernel_rfl) _ _ _) hA.df ⟨rfl, ?_⟩
  have e58 : hsT (t.n 58) (t.n 33) t.v s.g = withZ (withZ (t.n 58) 7 (t.v)) 6 (s.g) := by
    unfold hsT
    rw [c1]
    rfl
  refine ⟨hart_eq HH ?_, HB⟩
  unfold hT
  rw [e58, c1]
  refine HS.same (fun i => ?_) rfl rfl rfl
  by_cases h0 : i = 0
  · subst h0; first | rfl | (simp [HS.put, HS.putV])
  by_cases h33 : i = 33
  · subst h33; first | rfl | (simp [HS.put, HS.putV])
  by_cases h38 : i = 38
  · subst h38; first | rfl | (simp [HS.put, HS.putV])
  by_cases h54 : i = 54
  · subst h54; first | rfl | (simp [HS.put, HS.putV])
  by_cases h55 : i = 55
  · subst h55; first | rfl | (simp [HS.put, HS.putV])
  by_cases h56 : i = 56
  · subst h56; first | rfl | (simp [HS.put, HS.putV])
  by_cases h58 : i = 58
  · subst h58; first | rfl | (simp [HS.put, HS.putV])
  by_cases h64 : i = 64
  · subst h64; first | rfl | (simp [HS.put, HS.putV])
  by_cases h65 : i = 65
  · subst h65; first | rfl | (simp [HS.put, HS.putV])
  simp only [hT, HS.put, HS.putV, HS.putW, HS.putH, HS.mode, h0, h33, h38, h54, h55, h56, h58, h64, h65, if_false]
set_option maxHeartbeats 8000000 in
theorem toGuest_any {bHH : Nat} {t : HS} (ok : HOk t) (s : TS) (sk : TOk s) (w : World) (HH : HartB w bHH t) : Calls Try.prog 24 #[.pointer (some ⟨bHH, 0, none⟩), tsV s] w fun e w' => e = .returned (.tuple #[]) ∧ (HartB w' bHH (gT t s) ∧ Grw bHH w w') := by
  have HB := Grw.refl bHH w
  go_enter Try.func24, Try.ntmps24
  refine begin_fr [(1, tsV s), (0, .pointer (some ⟨bHH, 0, none⟩))] 51 ?_ (fun a hA => ?_)
  · exact FrA.add (FrA.add (FrA.nil (by rfl) (by rfl)) 0 _ (by rfl)) 1 _ (by rfl)
  refine wp_seq ?_
  refine wp_region_list ?_
  refine W_boxT hA rfl 3 rfl (by decide) rfl rfl (fun w1 bTT a hA hb TT gTT => ?_)
  have nHHTT : bHH < bTT := by have := HH.lt; omega
  replace HB := HB.trans (bel_grw hb HH.lt)
  have gTT2 := HB.sz
  replace HH := HH.below hb
  clear hb
  refine W_nil ?_
  refine then_nrm ?_
  show Code.wp Try.prog _ _ _ _
  refine wp_seq ?_
  have hN := NearH.new (hart_drew HH) [0] false (X := fun w => TsB w bTT s) (ts_drew TT)
  refine region_near hN (fun hN => ?_)
  replace HB := grw_drew HB HH.lt
  replace HH := hart_drew HH
  replace TT := ts_drew TT
  generalize World.drew w1 = w2 at *
  refine takeF (i := 0) hA 4 rfl rfl (by decide) rfl (by kernel_rfl) (by kernel_rfl) (by kernel_rfl) (fun _ _ _ h => h) hN (fun wx hx => R_mov hA rfl rfl _) (fun a hA => ?_)
  refine takeF (i := 1) hA 5 rfl rfl (by decide) rfl (by kernel_rfl) (by kernel_rfl) (by kernel_rfl) (fun _ _ _ h => h) hN (fun wx hx => R_mov hA rfl rfl _) (fun a hA => ?_)
  refine takeF (i := 2) hA 6 rfl rfl (by decide) rfl (by kernel_rfl) (by kernel_rfl) (by kernel_rfl) (fun _ _ _ h => h) hN (fun wx hx => R_mov hA rfl rfl _) (fun a hA => ?_)
  refine takeF (i := 3) hA 7 rfl rfl (by decide) rfl (by kernel_rfl) (by kernel_rfl) (by kernel_rfl) (fun _ _ _ h => h) hN (fun wx hx => R_mov hA rfl rfl _) (fun a hA => ?_)
  refine takeF (i := 4) hA 8 rfl rfl (by decide) rfl (by kernel_rfl) (by kernel_rfl) (by kernel_rfl) (fun _ _ _ h => h) hN (fun wx hx => R_nilCheck hA rfl rfl _) (fun a hA => ?_)
  refine takeF (i := 5) hA 9 rfl rfl (by decide) rfl (by kernel_rfl) (by kernel_rfl) (by kernel_rfl) (fun _ _ _ h => h) hN (fun wx hx => R_fa hA rfl rfl (fun w => fa_hart _ 0 0 (by decide) rfl w) _) (fun a hA => ?_)
  refine takeF (i := 6) hA 10 rfl rfl (by decide) rfl (by kernel_rfl) (by kernel_rfl) (by kernel_rfl) (fun _ _ _ h => h) hN (fun wx hx => R_ld (v := .int .u64 (t.n 0)) hA rfl rfl ag_u64 ((NearH.u hx 0 (by decide) (by decide) (by decide)).trans rfl)) (fun a hA => ?_)
  refine takeF (i := 7) hA 11 rfl rfl (by decide) rfl (by kernel_rfl) (by kernel_rfl) (by kernel_rfl) (fun _ _ _ h => h) hN (fun wx hx => R_fa hA rfl rfl (fun w => fa_ts _ 1 (by decide) w) _) (fun a hA => ?_)
  refine takeF (i := 8) hA 12 rfl rfl (by decide) rfl (by kernel_rfl) (by kernel_rfl) (by kernel_rfl) (fun _ _ _ h => h) hN (fun wx hx => R_ld (v := .int .u64 (s.c)) hA rfl rfl ag_u64 (TsB.cell hx.2 1 _ rfl)) (fun a hA => ?_)
  refine takeF (i := 10) hA 14 rfl rfl (by decide) rfl (by kernel_rfl) (by kernel_rfl) (by kernel_rfl) (fun _ _ _ h => h) hN (fun wx hx => R_fa hA rfl rfl (fun w => fa_ts _ 2 (by decide) w) _) (fun a hA => ?_)
  refine takeF (i := 11) hA 15 rfl rfl (by decide) rfl (by kernel_rfl) (by kernel_rfl) (by kernel_rfl) (fun _ _ _ h => h) hN (fun wx hx => R_ld (v := .int .u64 (s.tv)) hA rfl rfl ag_u64 (TsB.cell hx.2 2 _ rfl)) (fun a hA => ?_)
  refine ready_nC (i := 9) (by kernel_rfl) hA (by decide) rfl (fun _ _ => by kernel_rfl) (args1 hA rfl) (gcause_any _ sk.c _) hN (fun a hA => ?_)
  refine takeF (i := 12) hA 16 rfl rfl (by decide) rfl (by kernel_rfl) (by kernel_rfl) (by kernel_rfl) (fun _ _ _ h => h) hN (fun wx hx => R_nilCheck hA rfl rfl _) (fun a hA => ?_)
  refine takeF (i := 13) hA 17 rfl rfl (by decide) rfl (by kernel_rfl) (by kernel_rfl) (by kernel_rfl) (fun _ _ _ h => h) hN (fun wx hx => R_fa hA rfl rfl (fun w => fa_hart _ 40 71 (by decide) rfl w) _) (fun a hA => ?_)
  refine ready_nU (i := 14) (by kernel_rfl) hA rfl rfl rfl rfl rfl rfl HH (by decide) (by decide) hN (by decide) (stays_ts (by omega)) (fun w3 hT HN hN => ?_)
  replace HB := HB.trans hT.grw
  replace TT := hT.ts TT (by omega)
  replace HH := HN
  clear hT HN
  refine takeF (i := 15) hA 18 rfl rfl (by decide) rfl (by kernel_rfl) (by kernel_rfl) (by kernel_rfl) (fun _ _ _ h => h) hN (fun wx hx => R_nilCheck hA rfl rfl _) (fun a hA => ?_)
  refine takeF (i := 16) hA 19 rfl rfl (by decide) rfl (by kernel_rfl) (by kernel_rfl) (by kernel_rfl) (fun _ _ _ h => h) hN (fun wx hx => R_fa hA rfl rfl (fun w => fa_hart _ 41 72 (by decide) rfl w) _) (fun a hA => ?_)
  refine ready_nU (i := 17) (by kernel_rfl) hA rfl rfl rfl rfl rfl rfl HH (by decide) (by decide) hN (by decide) (stays_ts (by omega)) (fun w4 hT HN hN => ?_)
  replace HB := HB.trans hT.grw
  replace TT := hT.ts TT (by omega)
  replace HH := HN
  clear hT HN
  refine takeF (i := 18) hA 20 rfl rfl (by decide) rfl (by kernel_rfl) (by kernel_rfl) (by kernel_rfl) (fun _ _ _ h => h) hN (fun wx hx => R_nilCheck hA rfl rfl _) (fun a hA => ?_)
  refine takeF (i := 19) hA 21 rfl rfl (by decide) rfl (by kernel_rfl) (by kernel_rfl) (by kernel_rfl) (fun _ _ _ h => h) hN (fun wx hx => R_fa hA rfl rfl (fun w => fa_hart _ 42 73 (by decide) rfl w) _) (fun a hA => ?_)
  refine ready_nU (i := 20) (by kernel_rfl) hA rfl rfl rfl rfl rfl rfl HH (by decide) (by decide) hN (by decide) (stays_ts (by omega)) (fun w5 hT HN hN => ?_)
  replace HB := HB.trans hT.grw
  replace TT := hT.ts TT (by omega)
  replace HH := HN
  clear hT HN
  refine wpAnyH_done (by kernel_rfl) ?_ _
  clear hN
  refine then_nrm ?_
  show Code.wp Try.prog _ _ _ _
  refine wp_seq ?_
  have hN := NearH.new (hart_drew HH) [33] false (X := fun w => TsB w bTT s) (ts_drew TT)
  refine region_near hN (fun hN => ?_)
  replace HB := grw_drew HB HH.lt
  replace HH := hart_drew HH
  replace TT := ts_drew TT
  generalize World.drew w5 = w6 at *
  refine takeF (i := 0) hA 22 rfl rfl (by decide) rfl (by kernel_rfl) (by kernel_rfl) (by kernel_rfl) (fun _ _ _ h => h) hN (fun wx hx => R_mov hA rfl rfl _) (fun a hA => ?_)
  refine takeF (i := 1) hA 23 rfl rfl (by decide) rfl (by kernel_rfl) (by kernel_rfl) (by kernel_rfl) (fun _ _ _ h => h) hN (fun wx hx => R_mov hA rfl rfl _) (fun a hA => ?_)
  refine takeF (i := 2) hA 24 rfl rfl (by decide) rfl (by kernel_rfl) (by kernel_rfl) (by kernel_rfl) (fun _ _ _ h => h) hN (fun wx hx => R_nilCheck hA rfl rfl _) (fun a hA => ?_)
  refine takeF (i := 3) hA 25 rfl rfl (by decide) rfl (by kernel_rfl) (by kernel_rfl) (by kernel_rfl) (fun _ _ _ h => h) hN (fun wx hx => R_fa hA rfl rfl (fun w => fa_hart _ 37 68 (by decide) rfl w) _) (fun a hA => ?_)
  refine takeF (i := 6) hA 28 rfl rfl (by decide) rfl (by kernel_rfl) (by kernel_rfl) (by kernel_rfl) (fun _ _ _ h => h) hN (fun wx hx => R_mov hA rfl rfl _) (fun a hA => ?_)
  refine takeF (i := 7) hA 29 rfl rfl (by decide) rfl (by kernel_rfl) (by kernel_rfl) (by kernel_rfl) (fun _ _ _ h => h) hN (fun wx hx => R_nilCheck hA rfl rfl _) (fun a hA => ?_)
  refine takeF (i := 8) hA 30 rfl rfl (by decide) rfl (by kernel_rfl) (by kernel_rfl) (by kernel_rfl) (fun _ _ _ h => h) hN (fun wx hx => R_fa hA rfl rfl (fun w => fa_hart _ 2 33 (by decide) rfl w) _) (fun a hA => ?_)
  refine takeF (i := 9) hA 31 rfl rfl (by decide) rfl (by kernel_rfl) (by kernel_rfl) (by kernel_rfl) (fun _ _ _ h => h) hN (fun wx hx => R_ld (v := .int .u8 (t.n 33)) hA rfl rfl ag_u8 ((NearH.p hx (by decide)).trans rfl)) (fun a hA => ?_)
  refine takeF (i := 10) hA 32 rfl rfl (by decide) rfl (by kernel_rfl) (by kernel_rfl) (by kernel_rfl) (fun _ _ _ h => h) hN (fun wx hx => R_eqlB hA rfl rfl rfl _) (fun a hA => ?_)
  refine ready_nL (i := 4) (by kernel_rfl) hA 26 rfl rfl (by decide) rfl hN (R_ld (v := .int .u64 (t.n 68)) hA rfl rfl ag_u64 (HH.u 68 (by decide) (by decide))) (fun a hA => ?_)
  refine ready_nC (i := 5) (by kernel_rfl) hA (by decide) rfl (fun _ _ => by kernel_rfl) (args3 hA rfl rfl rfl) (shut_any _ 1 5 (by decide) (by decide) _ _ (by decide) (by decide) _) hN (fun a hA => ?_)
  refine ready_nC (i := 11) (by kernel_rfl) hA (by decide) rfl (fun _ _ => by kernel_rfl) (args3 hA rfl rfl rfl) (put_any _ 8 (by decide) _ (by decide) _ _) hN (fun a hA => ?_)
  refine takeF (i := 12) hA 34 rfl rfl (by decide) rfl (by kernel_rfl) (by kernel_rfl) (by kernel_rfl) (fun _ _ _ h => h) hN (fun wx hx => R_nilCheck hA rfl rfl _) (fun a hA => ?_)
  refine takeF (i := 13) hA 35 rfl rfl (by decide) rfl (by kernel_rfl) (by kernel_rfl) (by kernel_rfl) (fun _ _ _ h => h) hN (fun wx hx => R_fa hA rfl rfl (fun w => fa_hart _ 37 68 (by decide) rfl w) _) (fun a hA => ?_)
  refine ready_nU (i := 14) (by kernel_rfl) hA rfl rfl rfl rfl rfl rfl HH (by decide) (by decide) hN (by decide) (stays_ts (by omega)) (fun w7 hT HN hN => ?_)
  replace HB := HB.trans hT.grw
  replace TT := hT.ts TT (by omega)
  replace HH := HN
  clear hT HN
  refine wpAnyH_done (by kernel_rfl) ?_ _
  clear hN
  refine then_nrm ?_
  show Code.wp Try.prog _ _ _ _
  have hN := NearH.new (hart_drew HH) [69, 72] false (X := fun w => TsB w bTT s) (ts_drew TT)
  refine region_near hN (fun hN => ?_)
  replace HB := grw_drew HB HH.lt
  replace HH := hart_drew HH
  replace TT := ts_drew TT
  generalize World.drew w7 = w8 at *
  refine takeF (i := 0) hA 36 rfl rfl (by decide) rfl (by kernel_rfl) (by kernel_rfl) (by kernel_rfl) (fun _ _ _ h => h) hN (fun wx hx => R_mov hA rfl rfl _) (fun a hA => ?_)
  refine takeF (i := 1) hA 37 rfl rfl (by decide) rfl (by kernel_rfl) (by kernel_rfl) (by kernel_rfl) (fun _ _ _ h => h) hN (fun wx hx => R_mov hA rfl rfl _) (fun a hA => ?_)
  refine takeF (i := 2) hA 38 rfl rfl (by decide) rfl (by kernel_rfl) (by kernel_rfl) (by kernel_rfl) (fun _ _ _ h => h) hN (fun wx hx => R_mov hA rfl rfl _) (fun a hA => ?_)
  refine takeF (i := 3) hA 39 rfl rfl (by decide) rfl (by kernel_rfl) (by kernel_rfl) (by kernel_rfl) (fun _ _ _ h => h) hN (fun wx hx => R_nilCheck hA rfl rfl _) (fun a hA => ?_)
  refine takeF (i := 4) hA 40 rfl rfl (by decide) rfl (by kernel_rfl) (by kernel_rfl) (by kernel_rfl) (fun _ _ _ h => h) hN (fun wx hx => R_fa hA rfl rfl (fun w => fa_hart _ 38 69 (by decide) rfl w) _) (fun a hA => ?_)
  refine takeF (i := 5) hA 41 rfl rfl (by decide) rfl (by kernel_rfl) (by kernel_rfl) (by kernel_rfl) (fun _ _ _ h => h) hN (fun wx hx => R_ld (v := .int .u64 (t.n 69)) hA rfl rfl ag_u64 ((NearH.u hx 69 (by decide) (by decide) (by decide)).trans rfl)) (fun a hA => ?_)
  refine takeF (i := 6) hA 42 rfl rfl (by decide) rfl (by kernel_rfl) (by kernel_rfl) (by kernel_rfl) (fun _ _ _ h => h) hN (fun wx hx => R_mov hA rfl rfl _) (fun a hA => ?_)
  refine takeF (i := 7) hA 43 rfl rfl (by decide) rfl (by kernel_rfl) (by kernel_rfl) (by kernel_rfl) (fun _ _ _ h => h) hN (fun wx hx => R_nilCheck hA rfl rfl _) (fun a hA => ?_)
  refine takeF (i := 8) hA 44 rfl rfl (by decide) rfl (by kernel_rfl) (by kernel_rfl) (by kernel_rfl) (fun _ _ _ h => h) hN (fun wx hx => R_fa hA rfl rfl (fun w => fa_hart _ 41 72 (by decide) rfl w) _) (fun a hA => ?_)
  refine takeF (i := 9) hA 45 rfl rfl (by decide) rfl (by kernel_rfl) (by kernel_rfl) (by kernel_rfl) (fun _ _ _ h => h) hN (fun wx hx => R_ld (v := .int .u64 (causeG (s.c))) hA rfl rfl ag_u64 ((NearH.u hx 72 (by decide) (by decide) (by decide)).trans rfl)) (fun a hA => ?_)
  refine ready_nC (i := 10) (by kernel_rfl) hA (by decide) rfl (fun _ _ => by kernel_rfl) (args2 hA rfl rfl) (place_any _ _ (by first | exact ok.n _ | exact sk.c | exact causeG_in sk.c) (by first | exact ok.n _ | exact sk.c | exact causeG_in sk.c) _) hN (fun a hA => ?_)
  refine takeF (i := 11) hA 47 rfl rfl (by decide) rfl (by kernel_rfl) (by kernel_rfl) (by kernel_rfl) (fun _ _ _ h => h) hN (fun wx hx => R_nilCheck hA rfl rfl _) (fun a hA => ?_)
  refine takeF (i := 12) hA 48 rfl rfl (by decide) rfl (by kernel_rfl) (by kernel_rfl) (by kernel_rfl) (fun _ _ _ h => h) hN (fun wx hx => R_fa hA rfl rfl (fun w => fa_hart _ 2 33 (by decide) rfl w) _) (fun a hA => ?_)
  refine ready_nP (i := 13) (by kernel_rfl) hA rfl rfl rfl rfl rfl rfl HH hN (by decide) (stays_ts (by omega)) (fun w9 hT HN hN => ?_)
  replace HB := HB.trans hT.grw
  replace TT := hT.ts TT (by omega)
  replace HH := HN
  clear hT HN
  refine takeF (i := 14) hA 49 rfl rfl (by decide) rfl (by kernel_rfl) (by kernel_rfl) (by kernel_rfl) (fun _ _ _ h => h) hN (fun wx hx => R_nilCheck hA rfl rfl _) (fun a hA => ?_)
  refine takeF (i := 15) hA 50 rfl rfl (by decide) rfl (by kernel_rfl) (by kernel_rfl) (by kernel_rfl) (fun _ _ _ h => h) hN (fun wx hx => R_fa hA rfl rfl (fun w => fa_hart _ 0 0 (by decide) rfl w) _) (fun a hA => ?_)
  refine ready_nU (i := 16) (by kernel_rfl) hA rfl rfl rfl rfl rfl rfl HH (by decide) (by decide) hN (by decide) (stays_ts (by omega)) (fun w10 hT HN hN => ?_)
  replace HB := HB.trans hT.grw
  replace TT := hT.ts TT (by omega)
  replace HH := HN
  clear hT HN
  refine wpAnyH_done (by kernel_rfl) ?_ _
  clear hN
  refine bodyPost_end (results_none (by kernel_rfl) _ _ _) hA.df ⟨rfl, ?_⟩
  exact ⟨HH, HB⟩
theorem mT_is (t : HS) (s : TS) : (((mT t s).putW false).putH false).put 37 0 = enterM t s.c s.tv s.tv2 s.ti s.g := by
  refine HS.same (fun i => ?_) rfl rfl rfl
  by_cases h0 : i = 0
  · subst h0; rfl
  by_cases h33 : i = 33
  · subst h33; rfl
  by_cases h37 : i = 37
  · subst h37; rfl
  by_cases h38 : i = 38
  · subst h38; rfl
  by_cases h46 : i = 46
  · subst h46; rfl
  by_cases h47 : i = 47
  · subst h47; rfl
  by_cases h48 : i = 48
  · subst h48; rfl
  by_cases h49 : i = 49
  · subst h49; rfl
  by_cases h50 : i = 50
  · subst h50; rfl
  simp only [mT, enterM, HS.put, HS.putV, HS.putW, HS.putH, HS.mode, h0, h33, h37, h38, h46, h47, h48, h49, h50, if_false]
theorem hT_is (t : HS) (s : TS) : (((hT t s).putW false).putH false).put 37 0 = enterH t s.c s.tv s.tv2 s.ti s.g := by
  refine HS.same (fun i => ?_) rfl rfl rfl
  by_cases h0 : i = 0
  · subst h0; rfl
  by_cases h33 : i = 33
  · subst h33; rfl
  by_cases h37 : i = 37
  · subst h37; rfl
  by_cases h38 : i = 38
  · subst h38; rfl
  by_cases h54 : i = 54
  · subst h54; rfl
  by_cases h55 : i = 55
  · subst h55; rfl
  by_cases h56 : i = 56
  · subst h56; rfl
  by_cases h58 : i = 58
  · subst h58; rfl
  by_cases h64 : i = 64
  · subst h64; rfl
  by_cases h65 : i = 65
  · subst h65; rfl
  simp only [hT, enterH, HS.put, HS.putV, HS.putW, HS.putH, HS.mode, h0, h33, h37, h38, h54, h55, h56, h58, h64, h65, if_false]
theorem gT_is (t : HS) (s : TS) (hv : t.v = true) : (((gT t s).putW false).putH false).put 37 0 = enterG t s.c s.tv := by
  refine HS.same (fun i => ?_) hv rfl rfl
  by_cases h0 : i = 0
  · subst h0; rfl
  by_cases h33 : i = 33
  · subst h33; rfl
  by_cases h37 : i = 37
  · subst h37; rfl
  by_cases h68 : i = 68
  · subst h68; rfl
  by_cases h71 : i = 71
  · subst h71; rfl
  by_cases h72 : i = 72
  · subst h72; rfl
  by_cases h73 : i = 73
  · subst h73; rfl
  simp only [gT, enterG, HS.put, HS.putV, HS.putW, HS.putH, HS.mode, h0, h33, h37, h68, h71, h72, h73, if_false]
/-- The hart that took a trap. -/
def enterZ (t : HS) (s : TS) : HS := if s.is then (if toZ t s.c = 0 then enterM t s.c s.tv s.tv2 s.ti s.g else if toZ t s.c = 1 then enterH t s.c s.tv s.tv2 s.ti s.g else enterG t s.c s.tv) else t
theorem toZ_i0 {t : HS} {c : Int} (h : ((toZ t c : Int) == 0) = true) : toZ t c = 0 := by have := eq_of_beq h; omega
theorem toZ_i1 {t : HS} {c : Int} (h : ((toZ t c : Int) == 1) = true) : toZ t c = 1 := by have := eq_of_beq h; omega
theorem toZ_i2 {t : HS} {c : Int} (h : ((toZ t c : Int) == 2) = true) : toZ t c = 2 := by have := eq_of_beq h; omega
theorem toZ_not {t : HS} {c : Int} (h0 : ((toZ t c : Int) == 0) = false) (h1 : ((toZ t c : Int) == 1) = false) (h2 : ((toZ t c : Int) == 2) = false) : False := by
  have := toZ_lt t c
  have e0 := beq_eq_false_iff_ne.1 h0
  have e1 := beq_eq_false_iff_ne.1 h1
  have e2 := beq_eq_false_iff_ne.1 h2
  omega
set_option maxHeartbeats 8000000 in
theorem enter_any (t : HS) (ok : HOk t) (s : TS) (sk : TOk s) (w : World) : Calls Try.prog 10 #[hartV t, tsV s] w fun e w' => e = .returned (hartV (enterZ t s)) ∧ Below w.heap.size w w' := by
  have HB := Below.refl w.heap.size w
  go_enter Try.func10, Try.ntmps10
  refine begin_fr [(1, tsV s), (0, hartV t)] 28 ?_ (fun a hA => ?_)
  · exact FrA.add (FrA.add (FrA.nil (by rfl) (by rfl)) 0 _ (by rfl)) 1 _ (by rfl)
  refine wp_seq ?_
  refine wp_region_list ?_
  refine W_boxH hA rfl 2 rfl (by decide) rfl rfl (fun w1 bHH a hA hb HH gHH => ?_)
  replace gHH := Nat.le_trans HB.size gHH
  replace HB := HB.trans (hb.mono HB.size)
  clear hb
  refine W_boxT hA rfl 3 rfl (by decide) rfl rfl (fun w2 bTT a hA hb TT gTT => ?_)
  have nHHTT : bHH < bTT := by have := HH.lt; omega
  replace gTT := Nat.le_trans HB.size gTT
  replace HB := HB.trans (hb.mono HB.size)
  replace HH := HH.below hb
  clear hb
  refine W_allocH hA rfl 4 rfl (by decide) rfl (fun w3 bA4 a hA hb A4 gA4 => ?_)
  have nHHA4 : bHH < bA4 := by have := HH.lt; omega
  have nTTA4 : bTT < bA4 := by have := TT.lt; omega
  replace gA4 := Nat.le_trans HB.size gA4
  replace HB := HB.trans (hb.mono HB.size)
  replace HH := HH.below hb
  replace TT := TT.below hb
  clear hb
  refine W_nil ?_
  refine then_nrm ?_
  show Code.wp Try.prog _ _ _ _
  refine wp_seq ?_
  refine wp_seq ?_
  refine wp_region_list ?_
  refine W_val hA rfl 5 rfl (by decide) _ _ (R_fa hA rfl rfl (fun w => fa_ts _ 0 (by decide) w) _) (fun a hA => ?_)
  refine W_val hA rfl 6 rfl (by decide) _ _ (R_ld (v := .bool (s.is)) hA rfl rfl ag_bool (TsB.cell TT 0 _ rfl)) (fun a hA => ?_)
  refine W_val hA rfl 7 rfl (by decide) _ _ (R_not hA rfl rfl _) (fun a hA => ?_)
  refine W_nil ?_
  refine then_nrm ?_
  show Code.wp Try.prog _ _ _ _
  refine wp_cond_split (hA.ev (x := .tmp 7) rfl) (fun c1 => ?_) (fun c1 => ?_)
  · skip
    refine wp_seq ?_
    refine wp_region_list ?_
    refine W_val hA rfl 8 rfl (by decide) _ _ (R_row hA rfl rfl HH Try.underlying25 (size_hart.trans (by rw [varr_size]))) (fun a hA => ?_)
    refine W_cpH hA rfl rfl rfl rfl rfl A4 (fun w4 hT HN => ?_)
    replace HB := HB.trans (hT.bel _ gA4)
    replace HH := hT.hart HH (by omega)
    replace TT := hT.ts TT (by omega)
    replace A4 := HN
    clear hT HN
    refine W_nil ?_
    refine then_nrm ?_
    show Code.wp Try.prog _ _ _ _
    refine wp_ret ?_
    refine then_ret ?_
    refine ret_hart (j := 4) (by kernel_rfl) hA rfl A4 ⟨congrArg (fun q : HS => Ending.returned (hartV q)) ?_, HB⟩
    unfold enterZ
    rw [show s.is = false by simpa using c1]
    rfl
  refine wp_skip ?_
  refine then_nrm ?_
  show Code.wp Try.prog _ _ _ _
  refine wp_seq ?_
  refine wp_seq ?_
  refine wp_region_list ?_
  refine W_val hA rfl 9 rfl (by decide) _ _ (R_row hA rfl rfl HH Try.underlying25 (size_hart.trans (by rw [varr_size]))) (fun a hA => ?_)
  refine W_val hA rfl 10 rfl (by decide) _ _ (R_fa hA rfl rfl (fun w => fa_ts _ 1 (by decide) w) _) (fun a hA => ?_)
  refine W_val hA rfl 11 rfl (by decide) _ _ (R_ld (v := .int .u64 (s.c)) hA rfl rfl ag_u64 (TsB.cell TT 1 _ rfl)) (fun a hA => ?_)
  refine W_callA hA (by decide) (fun _ _ => by kernel_rfl) (args2 hA rfl rfl) (to_any _ ok _ sk.c _) (fun w5 hw a hA => ?_)
  replace HB := HB.trans (hw.mono HB.size)
  replace HH := HH.below hw
  replace TT := TT.below hw
  replace A4 := A4.below hw
  clear hw
  refine W_nil ?_
  refine then_nrm ?_
  show Code.wp Try.prog _ _ _ _
  refine wp_block ?_
  refine W_test hA rfl (by decide) (by decide) rfl rfl (fun c2 a hA => ?_) (fun c2 a hA => ?_)
  · skip
    refine wp_region_list ?_
    refine W_val hA rfl 15 rfl (by decide) _ _ (R_row hA rfl rfl TT Try.underlying27 (size_ts _)) (fun a hA => ?_)
    refine W_callA hA (by decide) (fun _ _ => by kernel_rfl) (args2 hA rfl rfl) (toMachine_any ok s sk _ HH) (fun w6 hw a hA => ?_)
    obtain ⟨HN, hG⟩ := hw
    replace HB := HB.trans (hG.bel _ gHH)
    replace TT := hG.ts TT (by omega)
    replace A4 := hG.hart A4 (by omega)
    replace HH := HN
    clear hG HN
    refine W_nil ?_
    refine blk_nrm ?_
    refine then_nrm ?_
    show Code.wp Try.prog _ _ _ _
    refine wp_seq ?_
    refine wp_region_list ?_
    refine W_val hA rfl 25 rfl (by decide) _ _ (R_fa hA rfl rfl (fun w => fa_hart _ 4 35 (by decide) rfl w) _) (fun a hA => ?_)
    refine W_stW hA rfl rfl rfl rfl rfl HH (fun w7 hT HN => ?_)
    replace HB := HB.trans (hT.bel _ gHH)
    replace TT := hT.ts TT (by omega)
    replace A4 := hT.hart A4 (by omega)
    replace HH := HN
    clear hT HN
    refine W_nil ?_
    refine then_nrm ?_
    show Code.wp Try.prog _ _ _ _
    refine wp_seq ?_
    refine wp_region_list ?_
    refine W_callA hA (by decide) (fun _ _ => by kernel_rfl) (args1 hA rfl) (letGo_any _ HH) (fun w8 hw a hA => ?_)
    obtain ⟨HN, hG⟩ := hw
    replace HB := HB.trans (hG.bel _ gHH)
    replace TT := hG.ts TT (by omega)
    replace A4 := hG.hart A4 (by omega)
    replace HH := HN
    clear hG HN
    refine W_nil ?_
    refine then_nrm ?_
    show Code.wp Try.prog _ _ _ _
    refine wp_seq ?_
    refine wp_region_list ?_
    refine W_val hA rfl 27 rfl (by decide) _ _ (R_row hA rfl rfl HH Try.underlying25 (size_hart.trans (by rw [varr_size]))) (fun a hA => ?_)
    refine W_cpH hA rfl rfl rfl rfl rfl A4 (fun w9 hT HN => ?_)
    replace HB := HB.trans (hT.bel _ gA4)
    replace HH := hT.hart HH (by omega)
    replace TT := hT.ts TT (by omega)
    replace A4 := HN
    clear hT HN
    refine W_nil ?_
    refine then_nrm ?_
    show Code.wp Try.prog _ _ _ _
    refine wp_ret ?_
    have z := toZ_i0 c2
    refine ret_hart (j := 4) (by kernel_rfl) hA rfl A4 ⟨congrArg (fun q : HS => Ending.returned (hartV q)) ?_, HB⟩
    unfold enterZ
    rw [show s.is = true by simpa using c1, z, ← mT_is t s]
    rfl
  refine W_test hA rfl (by decide) (by decide) rfl rfl (fun c3 a hA => ?_) (fun c3 a hA => ?_)
  · skip
    refine wp_region_list ?_
    refine W_val hA rfl 19 rfl (by decide) _ _ (R_row hA rfl rfl TT Try.underlying27 (size_ts _)) (fun a hA => ?_)
    refine W_callA hA (by decide) (fun _ _ => by kernel_rfl) (args2 hA rfl rfl) (toHost_any ok s sk _ HH) (fun w10 hw a hA => ?_)
    obtain ⟨HN, hG⟩ := hw
    replace HB := HB.trans (hG.bel _ gHH)
    replace TT := hG.ts TT (by omega)
    replace A4 := hG.hart A4 (by omega)
    replace HH := HN
    clear hG HN
    refine W_nil ?_
    refine blk_nrm ?_
    refine then_nrm ?_
    show Code.wp Try.prog _ _ _ _
    refine wp_seq ?_
    refine wp_region_list ?_
    refine W_val hA rfl 25 rfl (by decide) _ _ (R_fa hA rfl rfl (fun w => fa_hart _ 4 35 (by decide) rfl w) _) (fun a hA => ?_)
    refine W_stW hA rfl rfl rfl rfl rfl HH (fun w11 hT HN => ?_)
    replace HB := HB.trans (hT.bel _ gHH)
    replace TT := hT.ts TT (by omega)
    replace A4 := hT.hart A4 (by omega)
    replace HH := HN
    clear hT HN
    refine W_nil ?_
    refine then_nrm ?_
    show Code.wp Try.prog _ _ _ _
    refine wp_seq ?_
    refine wp_region_list ?_
    refine W_callA hA (by decide) (fun _ _ => by kernel_rfl) (args1 hA rfl) (letGo_any _ HH) (fun w12 hw a hA => ?_)
    obtain ⟨HN, hG⟩ := hw
    replace HB := HB.trans (hG.bel _ gHH)
    replace TT := hG.ts TT (by omega)
    replace A4 := hG.hart A4 (by omega)
    replace HH := HN
    clear hG HN
    refine W_nil ?_
    refine then_nrm ?_
    show Code.wp Try.prog _ _ _ _
    refine wp_seq ?_
    refine wp_region_list ?_
    refine W_val hA rfl 27 rfl (by decide) _ _ (R_row hA rfl rfl HH Try.underlying25 (size_hart.trans (by rw [varr_size]))) (fun a hA => ?_)
    refine W_cpH hA rfl rfl rfl rfl rfl A4 (fun w13 hT HN => ?_)
    replace HB := HB.trans (hT.bel _ gA4)
    replace HH := hT.hart HH (by omega)
    replace TT := hT.ts TT (by omega)
    replace A4 := HN
    clear hT HN
    refine W_nil ?_
    refine then_nrm ?_
    show Code.wp Try.prog _ _ _ _
    refine wp_ret ?_
    have z := toZ_i1 c3
    refine ret_hart (j := 4) (by kernel_rfl) hA rfl A4 ⟨congrArg (fun q : HS => Ending.returned (hartV q)) ?_, HB⟩
    unfold enterZ
    rw [show s.is = true by simpa using c1, z, ← hT_is t s]
    rfl
  refine W_test hA rfl (by decide) (by decide) rfl rfl (fun c4 a hA => ?_) (fun c4 a hA => ?_)
  · skip
    refine wp_region_list ?_
    refine W_val hA rfl 23 rfl (by decide) _ _ (R_row hA rfl rfl TT Try.underlying27 (size_ts _)) (fun a hA => ?_)
    refine W_callA hA (by decide) (fun _ _ => by kernel_rfl) (args2 hA rfl rfl) (toGuest_any ok s sk _ HH) (fun w14 hw a hA => ?_)
    obtain ⟨HN, hG⟩ := hw
    replace HB := HB.trans (hG.bel _ gHH)
    replace TT := hG.ts TT (by omega)
    replace A4 := hG.hart A4 (by omega)
    replace HH := HN
    clear hG HN
    refine W_nil ?_
    refine blk_nrm ?_
    refine then_nrm ?_
    show Code.wp Try.prog _ _ _ _
    refine wp_seq ?_
    refine wp_region_list ?_
    refine W_val hA rfl 25 rfl (by decide) _ _ (R_fa hA rfl rfl (fun w => fa_hart _ 4 35 (by decide) rfl w) _) (fun a hA => ?_)
    refine W_stW hA rfl rfl rfl rfl rfl HH (fun w15 hT HN => ?_)
    replace HB := HB.trans (hT.bel _ gHH)
    replace TT := hT.ts TT (by omega)
    replace A4 := hT.hart A4 (by omega)
    replace HH := HN
    clear hT HN
    refine W_nil ?_
    refine then_nrm ?_
    show Code.wp Try.prog _ _ _ _
    refine wp_seq ?_
    refine wp_region_list ?_
    refine W_callA hA (by decide) (fun _ _ => by kernel_rfl) (args1 hA rfl) (letGo_any _ HH) (fun w16 hw a hA => ?_)
    obtain ⟨HN, hG⟩ := hw
    replace HB := HB.trans (hG.bel _ gHH)
    replace TT := hG.ts TT (by omega)
    replace A4 := hG.hart A4 (by omega)
    replace HH := HN
    clear hG HN
    refine W_nil ?_
    refine then_nrm ?_
    show Code.wp Try.prog _ _ _ _
    refine wp_seq ?_
    refine wp_region_list ?_
    refine W_val hA rfl 27 rfl (by decide) _ _ (R_row hA rfl rfl HH Try.underlying25 (size_hart.trans (by rw [varr_size]))) (fun a hA => ?_)
    refine W_cpH hA rfl rfl rfl rfl rfl A4 (fun w17 hT HN => ?_)
    replace HB := HB.trans (hT.bel _ gA4)
    replace HH := hT.hart HH (by omega)
    replace TT := hT.ts TT (by omega)
    replace A4 := HN
    clear hT HN
    refine W_nil ?_
    refine then_nrm ?_
    show Code.wp Try.prog _ _ _ _
    refine wp_ret ?_
    have z := toZ_i2 c4
    refine ret_hart (j := 4) (by kernel_rfl) hA rfl A4 ⟨congrArg (fun q : HS => Ending.returned (hartV q)) ?_, HB⟩
    unfold enterZ
    rw [show s.is = true by simpa using c1, z, ← gT_is t s (toZ_guest z)]
    rfl
  refine wp_skip ?_
  refine blk_nrm ?_
  refine then_nrm ?_
  show Code.wp Try.prog _ _ _ _
  refine wp_seq ?_
  refine wp_region_list ?_
  refine W_val hA rfl 25 rfl (by decide) _ _ (R_fa hA rfl rfl (fun w => fa_hart _ 4 35 (by decide) rfl w) _) (fun a hA => ?_)
  refine W_stW hA rfl rfl rfl rfl rfl HH (fun w18 hT HN => ?_)
  replace HB := HB.trans (hT.bel _ gHH)
  replace TT := hT.ts TT (by omega)
  replace A4 := hT.hart A4 (by omega)
  replace HH := HN
  clear hT HN
  refine W_nil ?_
  refine then_nrm ?_
  show Code.wp Try.prog _ _ _ _
  refine wp_seq ?_
  refine wp_region_list ?_
  refine W_callA hA (by decide) (fun _ _ => by kernel_rfl) (args1 hA rfl) (letGo_any _ HH) (fun w19 hw a hA => ?_)
  obtain ⟨HN, hG⟩ := hw
  replace HB := HB.trans (hG.bel _ gHH)
  replace TT := hG.ts TT (by omega)
  replace A4 := hG.hart A4 (by omega)
  replace HH := HN
  clear hG HN
  refine W_nil ?_
  refine then_nrm ?_
  show Code.wp Try.prog _ _ _ _
  refine wp_seq ?_
  refine wp_region_list ?_
  refine W_val hA rfl 27 rfl (by decide) _ _ (R_row hA rfl rfl HH Try.underlying25 (size_hart.trans (by rw [varr_size]))) (fun a hA => ?_)
  refine W_cpH hA rfl rfl rfl rfl rfl A4 (fun w20 hT HN => ?_)
  replace HB := HB.trans (hT.bel _ gA4)
  replace HH := hT.hart HH (by omega)
  replace TT := hT.ts TT (by omega)
  replace A4 := HN
  clear hT HN
  refine W_nil ?_
  refine then_nrm ?_
  show Code.wp Try.prog _ _ _ _
  refine wp_ret ?_
  exact (toZ_not c2 c3 c4).elim
end Go.Proofs.Ytkfhpmleelmcfaa
