/- Layer 15: the walk of PteAllows (written by gen_ptc.py by walkt.py). -/
import Derived.Test.YtflaadnlmcgfoaaRPtC
namespace Go.Proofs.YtflaadnlmcgfoaaR
open Go.RowKit
set_option linter.unusedVariables false
set_option maxRecDepth 100000

theorem wrap_upK {k : Nat} (h : k < 1000000) : IntKind.i64.wrap ((k : Int) + 1) = ((k + 1 : Nat) : Int) := by
  rw [show (k : Int) + 1 = ((k + 1 : Nat) : Int) by omega]
  exact IntWalk.i64_in _ (by omega)
/-- The access of a number. -/
def wsK (k : Nat) : WS := ⟨IntKind.u8.wrap (bits .and .i64 (k : Int) 3), decide (0 < bits .and .i64 (k : Int) 4), IntKind.u8.wrap (bits .and .i64 ((k : Int) / 2 ^ 3) 1), decide (0 < bits .and .i64 (k : Int) 16), decide (0 < bits .and .i64 (k : Int) 32), decide (0 < bits .and .i64 (k : Int) 64), decide (0 < bits .and .i64 (k : Int) 128)⟩
theorem wrap_u8 (z : Int) : 0 ≤ IntKind.u8.wrap z ∧ IntKind.u8.wrap z < 256 := by
  simp [IntKind.wrap, IntKind.bits, IntKind.signed]; omega
theorem ok_wsK (k : Nat) : WOk (wsK k) := ⟨wrap_u8 _, wrap_u8 _⟩
set_option maxHeartbeats 8000000 in
theorem pteAllows_walk (x : Int) (s : WS) (w : World) (hx : In64 x) (sk : WOk s) : Calls Try.prog 5 #[.int .u64 x, wantV s] w fun e w' => e = .returned (.bool true) ∧ Below w.heap.size w w' := by
  have HB := Below.refl w.heap.size w
  go_enter Try.func5, Try.ntmps5
  refine begin_fr [(1, wantV s), (0, .int .u64 x)] 72 ?_ (fun a hA => ?_)
  · exact FrA.add (FrA.add (FrA.nil (by rfl) (by rfl)) 0 _ (by rfl)) 1 _ (by rfl)
  refine wp_seq ?_
  refine wp_region_list ?_
  refine W_boxT (cs := wantC s) hA rfl 3 rfl (by decide) rfl rfl (fun w1 bB3 a hA hb B3 gB3 => ?_)
  replace gB3 := Nat.le_trans HB.size gB3
  replace HB := HB.trans (hb.mono HB.size)
  clear hb
  refine W_val hA rfl 4 rfl (by decide) _ _ (R_asg hA rfl rfl _) (fun a hA => ?_)
  refine W_nil ?_
  refine then_nrm ?_
  show Code.wp Try.prog _ _ _ _
  refine wp_seq ?_
  refine wp_region_list ?_
  refine W_val hA rfl 8 rfl (by decide) _ _ (R_mov hA rfl rfl _) (fun a hA => ?_)
  refine W_callA hA (by decide) (fun _ _ => by kernel_rfl) (args1 hA rfl) (of_any x hx _) (fun w2 hw a hA => ?_)
  replace HB := HB.trans (hw.mono HB.size)
  replace B3 := B3.below hw
  clear hw
  refine W_allocT (cs := #[.bool false, .bool false, .bool false, .bool false, .bool false, .bool false, .bool false, .bool false, .int .u64 0, .int .u64 0]) hA rfl 5 rfl (by decide) rfl zero_ent (fun w3 bB5 a hA hb B5 gB5 => ?_)
  have nB3B5 : bB3 < bB5 := by have := B3.lt; omega
  replace gB5 := Nat.le_trans HB.size gB5
  replace HB := HB.trans (hb.mono HB.size)
  replace B3 := B3.below hb
  clear hb
  refine W_cpT (cs := entC x) hA rfl rfl rfl rfl rfl B5 (by kernel_rfl) rfl (by simp [Value.oneCell']) (fun w4 hT HN => ?_)
  replace HB := HB.trans (hT.bel _ gB5)
  replace B3 := hT.row B3 (by omega)
  replace B5 := HN
  clear hT HN
  refine W_nil ?_
  refine then_nrm ?_
  show Code.wp Try.prog _ _ _ _
  refine wp_seq ?_
  refine wp_seq ?_
  refine wp_region_list ?_
  refine W_val hA rfl 6 rfl (by decide) _ _ (R_asg hA rfl rfl _) (fun a hA => ?_)
  refine W_nil ?_
  refine then_nrm ?_
  show Code.wp Try.prog _ _ _ _
  refine wp_block ?_
  refine loop_cnt 6 256 (fun k a' w' => FrA [(6, .int .i64 (k : Int)), (5, .pointer (some ⟨bB5, 0, none⟩)), (3, .pointer (some ⟨bB3, 0, none⟩)), (0, .int .u64 x)] 72 a' ∧ Below w.heap.size w w' ∧ RowC w' bB3 25 (wantC s) ∧ RowC w' bB5 33 (entC x)) (fun k a' w' h => ⟨_, h.1.get 6 _ rfl⟩) ⟨FrA.add (FrA.add (FrA.add (FrA.add (FrA.nil hA.sz hA.df) 0 _ (hA.get 0 _ rfl)) 3 _ (hA.get 3 _ rfl)) 5 _ (hA.get 5 _ rfl)) 6 _ (hA.get 6 _ rfl), HB, B3, B5⟩ (fun k a w3 hk h => ?_)
  obtain ⟨hA, HB, B3, B5⟩ := h
  refine wp_seq ?_
  refine wp_seq ?_
  refine wp_region_list ?_
  refine W_val hA rfl 10 rfl (by decide) _ _ (R_mov hA rfl rfl _) (fun a hA => ?_)
  refine W_val hA rfl 11 rfl (by decide) _ _ (R_lssI hA rfl rfl rfl _) (fun a hA => ?_)
  refine W_nil ?_
  refine then_nrm ?_
  show Code.wp Try.prog _ _ _ _
  refine wp_cond_split (hA.ev (x := .tmp 11) rfl) (fun c1 => ?_) (fun c1 => ?_)
  · skip
    refine wp_skip ?_
    refine then_nrm ?_
    show Code.wp Try.prog _ _ _ _
    refine wp_seq ?_
    refine wp_block ?_
    refine wp_seq ?_
    refine wp_region_list ?_
    refine W_val hA rfl 14 rfl (by decide) _ _ (R_mov hA rfl rfl _) (fun a hA => ?_)
    refine W_val hA rfl 15 rfl (by decide) _ _ (R_andI hA rfl rfl rfl _) (fun a hA => ?_)
    refine W_val hA rfl 16 rfl (by decide) _ _ (R_cvIB hA rfl rfl (IntKind.u8.wrap (bits .and .i64 ((k : Int)) 3)) rfl _) (fun a hA => ?_)
    refine W_val hA rfl 17 rfl (by decide) _ _ (R_mov hA rfl rfl _) (fun a hA => ?_)
    refine W_val hA rfl 18 rfl (by decide) _ _ (R_andI hA rfl rfl rfl _) (fun a hA => ?_)
    refine W_val hA rfl 19 rfl (by decide) _ _ (R_gtrI hA rfl rfl rfl _) (fun a hA => ?_)
    refine W_val hA rfl 20 rfl (by decide) _ _ (R_mov hA rfl rfl _) (fun a hA => ?_)
    refine W_val hA rfl 21 rfl (by decide) _ _ (R_shrIU hA rfl 3 rfl (by decide) rfl _) (fun a hA => ?_)
    refine W_val hA rfl 22 rfl (by decide) _ _ (R_andI hA rfl rfl rfl _) (fun a hA => ?_)
    refine W_val hA rfl 23 rfl (by decide) _ _ (R_cvIB hA rfl rfl (IntKind.u8.wrap (bits .and .i64 ((k : Int) / 2 ^ 3) 1)) rfl _) (fun a hA => ?_)
    refine W_val hA rfl 24 rfl (by decide) _ _ (R_mov hA rfl rfl _) (fun a hA => ?_)
    refine W_val hA rfl 25 rfl (by decide) _ _ (R_andI hA rfl rfl rfl _) (fun a hA => ?_)
    refine W_val hA rfl 26 rfl (by decide) _ _ (R_gtrI hA rfl rfl rfl _) (fun a hA => ?_)
    refine W_val hA rfl 27 rfl (by decide) _ _ (R_mov hA rfl rfl _) (fun a hA => ?_)
    refine W_val hA rfl 28 rfl (by decide) _ _ (R_andI hA rfl rfl rfl _) (fun a hA => ?_)
    refine W_val hA rfl 29 rfl (by decide) _ _ (R_gtrI hA rfl rfl rfl _) (fun a hA => ?_)
    refine W_val hA rfl 30 rfl (by decide) _ _ (R_mov hA rfl rfl _) (fun a hA => ?_)
    refine W_val hA rfl 31 rfl (by decide) _ _ (R_andI hA rfl rfl rfl _) (fun a hA => ?_)
    refine W_val hA rfl 32 rfl (by decide) _ _ (R_gtrI hA rfl rfl rfl _) (fun a hA => ?_)
    refine W_val hA rfl 33 rfl (by decide) _ _ (R_mov hA rfl rfl _) (fun a hA => ?_)
    refine W_val hA rfl 34 rfl (by decide) _ _ (R_andI hA rfl rfl rfl _) (fun a hA => ?_)
    refine W_val hA rfl 35 rfl (by decide) _ _ (R_gtrI hA rfl rfl rfl _) (fun a hA => ?_)
    refine W_val hA rfl 36 rfl (by decide) _ _ (R_build (ps := [(0, .tmp 16), (1, .tmp 19), (2, .tmp 23), (3, .tmp 26), (4, .tmp 29), (5, .tmp 32), (6, .tmp 35)]) hA rfl [(0, .int .u8 (IntKind.u8.wrap (bits .and .i64 ((k : Int)) 3))), (1, .bool (decide (0 < bits .and .i64 ((k : Int)) 4))), (2, .int .u8 (IntKind.u8.wrap (bits .and .i64 ((k : Int) / 2 ^ 3) 1))), (3, .bool (decide (0 < bits .and .i64 ((k : Int)) 16))), (4, .bool (decide (0 < bits .and .i64 ((k : Int)) 32))), (5, .bool (decide (0 < bits .and .i64 ((k : Int)) 64))), (6, .bool (decide (0 < bits .and .i64 ((k : Int)) 128)))] rfl (cs := wantC (wsK k)) (by kernel_rfl) _) (fun a hA => ?_)
    refine W_allocT (cs := #[.int .u8 0, .bool false, .int .u8 0, .bool false, .bool false, .bool false, .bool false]) hA rfl 7 rfl (by decide) rfl zero_want (fun w5 bB7 a hA hb B7 gB7 => ?_)
    have nB3B7 : bB3 < bB7 := by have := B3.lt; omega
    have nB5B7 : bB5 < bB7 := by have := B5.lt; omega
    replace gB7 := Nat.le_trans HB.size gB7
    replace HB := HB.trans (hb.mono HB.size)
    replace B3 := B3.below hb
    replace B5 := B5.below hb
    clear hb
    refine W_cpT (cs := wantC (wsK k)) hA rfl rfl rfl rfl rfl B7 (by kernel_rfl) rfl (by simp [Value.oneCell']) (fun w6 hT HN => ?_)
    replace HB := HB.trans (hT.bel _ gB7)
    replace B3 := hT.row B3 (by omega)
    replace B5 := hT.row B5 (by omega)
    replace B7 := HN
    clear hT HN
    refine W_nil ?_
    refine then_nrm ?_
    show Code.wp Try.prog _ _ _ _
    refine wp_seq ?_
    refine wp_region_held_drew (S := fun wx => Below w6.heap.size w6 wx) (by kernel_rfl) ((Below.refl _ _).drew) (fun hS => ?_)
    refine takeF (i := 0) hA 37 rfl rfl (by decide) rfl (by kernel_rfl) (by kernel_rfl) (by kernel_rfl) (fun _ _ _ h => h) hS (fun wx hwx => R_mov hA rfl rfl _) (fun a hA => ?_)
    refine takeF (i := 1) hA 38 rfl rfl (by decide) rfl (by kernel_rfl) (by kernel_rfl) (by kernel_rfl) (fun _ _ _ h => h) hS (fun wx hwx => R_row hA rfl rfl (B7.below hwx) Try.underlying25 (by kernel_rfl)) (fun a hA => ?_)
    refine takeF (i := 3) hA 40 rfl rfl (by decide) rfl (by kernel_rfl) (by kernel_rfl) (by kernel_rfl) (fun _ _ _ h => h) hS (fun wx hwx => R_row hA rfl rfl (B5.below hwx) Try.underlying33 (by kernel_rfl)) (fun a hA => ?_)
    refine takeF (i := 4) hA 41 rfl rfl (by decide) rfl (by kernel_rfl) (by kernel_rfl) (by kernel_rfl) (fun _ _ _ h => h) hS (fun wx hwx => R_row hA rfl rfl (B7.below hwx) Try.underlying25 (by kernel_rfl)) (fun a hA => ?_)
    refine wpAnyH_ready (rs := [2]) (by kernel_rfl) (by simp) (ready_call (i := 2) hA (by decide) rfl (fun _ _ => by kernel_rfl) (args2 hA rfl rfl) (allow_any x (wsK k) hx (ok_wsK k) _) (fun _ h => hS.trans (h.mono hS.size)) (fun w7 hw a hA => ?_) AllReadyH.nil)
    replace hS := hS.trans (hw.mono hS.size)
    clear hw
    refine wpAnyH_ready (rs := [5]) (by kernel_rfl) (by simp) (ready_call (i := 5) hA (by decide) rfl (fun _ _ => by kernel_rfl) (args2 hA rfl rfl) (dallow_any x (wsK k) _) (fun _ h => hS.trans (h.mono hS.size)) (fun w8 hw a hA => ?_) AllReadyH.nil)
    replace hS := hS.trans (hw.mono hS.size)
    clear hw
    refine takeF (i := 6) hA 43 rfl rfl (by decide) rfl (by kernel_rfl) (by kernel_rfl) (by kernel_rfl) (fun _ _ _ h => h) hS (fun wx hwx => R_neqBT hA rfl rfl rfl false (by simp) _) (fun a hA => ?_)
    refine takeF (i := 7) hA 44 rfl rfl (by decide) rfl (by kernel_rfl) (by kernel_rfl) (by kernel_rfl) (fun _ _ _ h => h) hS (fun wx hwx => R_mov hA rfl rfl _) (fun a hA => ?_)
    refine takeFg (i := 8) hA 45 rfl rfl (by decide) rfl rfl rfl (by kernel_rfl) (by kernel_rfl) (by kernel_rfl) (fun _ _ _ h => h) hS (fun wx hwx => R_mov hA rfl rfl _) (fun a hA => ?_)
    refine takeFg (i := 9) hA 46 rfl rfl (by decide) rfl rfl rfl (by kernel_rfl) (by kernel_rfl) (by kernel_rfl) (fun _ _ _ h => h) hS (fun wx hwx => R_row hA rfl rfl (B7.below hwx) Try.underlying25 (by kernel_rfl)) (fun a hA => ?_)
    refine takeFg (i := 11) hA 48 rfl rfl (by decide) rfl rfl rfl (by kernel_rfl) (by kernel_rfl) (by kernel_rfl) (fun _ _ _ h => h) hS (fun wx hwx => R_row hA rfl rfl (B5.below hwx) Try.underlying33 (by kernel_rfl)) (fun a hA => ?_)
    refine takeFg (i := 12) hA 49 rfl rfl (by decide) rfl rfl rfl (by kernel_rfl) (by kernel_rfl) (by kernel_rfl) (fun _ _ _ h => h) hS (fun wx hwx => R_row hA rfl rfl (B7.below hwx) Try.underlying25 (by kernel_rfl)) (fun a hA => ?_)
    refine wpAnyH_ready (rs := [10]) (by kernel_rfl) (by simp) (ready_gcall (i := 10) hA (by decide) rfl rfl rfl (fun _ _ => by kernel_rfl) (args2 hA rfl rfl) (full_any x (wsK k) hx (ok_wsK k) _) (fun _ h => hS.trans (h.mono hS.size)) (fun w9 hw a hA => ?_) AllReadyH.nil)
    replace hS := hS.trans (hw.mono hS.size)
    clear hw
    refine wpAnyH_ready (rs := [13]) (by kernel_rfl) (by simp) (ready_gcall (i := 13) hA (by decide) rfl rfl rfl (fun _ _ => by kernel_rfl) (args2 hA rfl rfl) (dfull_any x (wsK k) _) (fun _ h => hS.trans (h.mono hS.size)) (fun w10 hw a hA => ?_) AllReadyH.nil)
    replace hS := hS.trans (hw.mono hS.size)
    clear hw
    refine takeFg (i := 14) hA 51 rfl rfl (by decide) rfl rfl rfl (by kernel_rfl) (by kernel_rfl) (by kernel_rfl) (fun _ _ _ h => h) hS (fun wx hwx => R_neqBT hA rfl rfl rfl false (by simp) _) (fun a hA => ?_)
    refine takeF (i := 15) hA 52 rfl rfl (by decide) rfl (by kernel_rfl) (by kernel_rfl) (by kernel_rfl) (fun _ _ _ h => h) hS (fun wx hwx => R_pick hA rfl rfl rfl _) (fun a hA => ?_)
    refine wpAnyH_done (by kernel_rfl) ?_ _
    replace B3 := B3.below hS
    replace B5 := B5.below hS
    replace B7 := B7.below hS
    replace HB := HB.trans (hS.mono HB.size)
    clear hS
    refine then_nrm ?_
    show Code.wp Try.prog _ _ _ _
    refine wp_cond_false (hA.ev (x := .tmp 52) rfl) ?_
    refine wp_skip ?_
    refine blk_nrm ?_
    refine then_nrm ?_
    show Code.wp Try.prog _ _ _ _
    refine wp_region_list ?_
    refine W_val hA rfl 12 rfl (by decide) _ _ (R_mov hA rfl rfl _) (fun a hA => ?_)
    refine W_val hA rfl 13 rfl (by decide) _ _ (R_addI hA rfl rfl rfl _) (fun a hA => ?_)
    refine W_val hA rfl 6 rfl (by decide) _ _ (R_asg hA rfl rfl _) (fun a hA => ?_)
    refine W_nil ?_
    refine then_nrm ?_
    have ck : (k : Int) < 256 := of_decide_eq_true c1
    refine ⟨by omega, FrA.add (FrA.add (FrA.add (FrA.add (FrA.nil hA.sz hA.df) 0 _ (hA.get 0 _ rfl)) 3 _ (hA.get 3 _ rfl)) 5 _ (hA.get 5 _ rfl)) 6 _ ((hA.get 6 _ rfl).trans (congrArg (Value.int .i64) (wrap_upK (by omega)))), HB, B3, B5⟩
  refine wp_exit ?_
  refine then_ext ?_
  refine then_ext ?_
  refine blk_eq ?_
  refine then_nrm ?_
  show Code.wp Try.prog _ _ _ _
  refine wp_seq ?_
  refine wp_region_held_drew (S := fun wx => Below w3.heap.size w3 wx) (by kernel_rfl) ((Below.refl _ _).drew) (fun hS => ?_)
  refine wpAnyH_ready (rs := [0]) (by kernel_rfl) (by simp) (ready_call (i := 0) hA (by decide) rfl (fun _ _ => by kernel_rfl) (args0 ) (awake_any _) (fun _ h => hS.trans (h.mono hS.size)) (fun w11 hw a hA => ?_) AllReadyH.nil)
  replace hS := hS.trans (hw.mono hS.size)
  clear hw
  refine takeF (i := 1) hA 54 rfl rfl (by decide) rfl (by kernel_rfl) (by kernel_rfl) (by kernel_rfl) (fun _ _ _ h => h) hS (fun wx hwx => R_mov hA rfl rfl _) (fun a hA => ?_)
  refine takeFg (i := 2) hA 55 rfl rfl (by decide) rfl rfl rfl (by kernel_rfl) (by kernel_rfl) (by kernel_rfl) (fun _ _ _ h => h) hS (fun wx hwx => R_mov hA rfl rfl _) (fun a hA => ?_)
  refine takeFg (i := 3) hA 56 rfl rfl (by decide) rfl rfl rfl (by kernel_rfl) (by kernel_rfl) (by kernel_rfl) (fun _ _ _ h => h) hS (fun wx hwx => R_row hA rfl rfl (B3.below hwx) Try.underlying25 (by kernel_rfl)) (fun a hA => ?_)
  refine takeFg (i := 5) hA 58 rfl rfl (by decide) rfl rfl rfl (by kernel_rfl) (by kernel_rfl) (by kernel_rfl) (fun _ _ _ h => h) hS (fun wx hwx => R_row hA rfl rfl (B5.below hwx) Try.underlying33 (by kernel_rfl)) (fun a hA => ?_)
  refine takeFg (i := 6) hA 59 rfl rfl (by decide) rfl rfl rfl (by kernel_rfl) (by kernel_rfl) (by kernel_rfl) (fun _ _ _ h => h) hS (fun wx hwx => R_row hA rfl rfl (B3.below hwx) Try.underlying25 (by kernel_rfl)) (fun a hA => ?_)
  refine wpAnyH_ready (rs := [4]) (by kernel_rfl) (by simp) (ready_gcall (i := 4) hA (by decide) rfl rfl rfl (fun _ _ => by kernel_rfl) (args2 hA rfl rfl) (allow_any x s hx sk _) (fun _ h => hS.trans (h.mono hS.size)) (fun w12 hw a hA => ?_) AllReadyH.nil)
  replace hS := hS.trans (hw.mono hS.size)
  clear hw
  refine wpAnyH_ready (rs := [7]) (by kernel_rfl) (by simp) (ready_gcall (i := 7) hA (by decide) rfl rfl rfl (fun _ _ => by kernel_rfl) (args2 hA rfl rfl) (dallow_any x s _) (fun _ h => hS.trans (h.mono hS.size)) (fun w13 hw a hA => ?_) AllReadyH.nil)
  replace hS := hS.trans (hw.mono hS.size)
  clear hw
  refine takeFg (i := 8) hA 61 rfl rfl (by decide) rfl rfl rfl (by kernel_rfl) (by kernel_rfl) (by kernel_rfl) (fun _ _ _ h => h) hS (fun wx hwx => R_eqlBT hA rfl rfl rfl true (by simp) _) (fun a hA => ?_)
  refine takeF (i := 9) hA 62 rfl rfl (by decide) rfl (by kernel_rfl) (by kernel_rfl) (by kernel_rfl) (fun _ _ _ h => h) hS (fun wx hwx => R_pick hA rfl rfl rfl _) (fun a hA => ?_)
  refine takeF (i := 10) hA 63 rfl rfl (by decide) rfl (by kernel_rfl) (by kernel_rfl) (by kernel_rfl) (fun _ _ _ h => h) hS (fun wx hwx => R_mov hA rfl rfl _) (fun a hA => ?_)
  refine takeFg (i := 11) hA 64 rfl rfl (by decide) rfl rfl rfl (by kernel_rfl) (by kernel_rfl) (by kernel_rfl) (fun _ _ _ h => h) hS (fun wx hwx => R_mov hA rfl rfl _) (fun a hA => ?_)
  refine takeFg (i := 12) hA 65 rfl rfl (by decide) rfl rfl rfl (by kernel_rfl) (by kernel_rfl) (by kernel_rfl) (fun _ _ _ h => h) hS (fun wx hwx => R_row hA rfl rfl (B3.below hwx) Try.underlying25 (by kernel_rfl)) (fun a hA => ?_)
  refine takeFg (i := 14) hA 67 rfl rfl (by decide) rfl rfl rfl (by kernel_rfl) (by kernel_rfl) (by kernel_rfl) (fun _ _ _ h => h) hS (fun wx hwx => R_row hA rfl rfl (B5.below hwx) Try.underlying33 (by kernel_rfl)) (fun a hA => ?_)
  refine takeFg (i := 15) hA 68 rfl rfl (by decide) rfl rfl rfl (by kernel_rfl) (by kernel_rfl) (by kernel_rfl) (fun _ _ _ h => h) hS (fun wx hwx => R_row hA rfl rfl (B3.below hwx) Try.underlying25 (by kernel_rfl)) (fun a hA => ?_)
  refine wpAnyH_ready (rs := [13]) (by kernel_rfl) (by simp) (ready_gcall (i := 13) hA (by decide) rfl rfl rfl (fun _ _ => by kernel_rfl) (args2 hA rfl rfl) (full_any x s hx sk _) (fun _ h => hS.trans (h.mono hS.size)) (fun w14 hw a hA => ?_) AllReadyH.nil)
  replace hS := hS.trans (hw.mono hS.size)
  clear hw
  refine wpAnyH_ready (rs := [16]) (by kernel_rfl) (by simp) (ready_gcall (i := 16) hA (by decide) rfl rfl rfl (fun _ _ => by kernel_rfl) (args2 hA rfl rfl) (dfull_any x s _) (fun _ h => hS.trans (h.mono hS.size)) (fun w15 hw a hA => ?_) AllReadyH.nil)
  replace hS := hS.trans (hw.mono hS.size)
  clear hw
  refine takeFg (i := 17) hA 70 rfl rfl (by decide) rfl rfl rfl (by kernel_rfl) (by kernel_rfl) (by kernel_rfl) (fun _ _ _ h => h) hS (fun wx hwx => R_eqlBT hA rfl rfl rfl true (by simp) _) (fun a hA => ?_)
  refine takeF (i := 18) hA 71 rfl rfl (by decide) rfl (by kernel_rfl) (by kernel_rfl) (by kernel_rfl) (fun _ _ _ h => h) hS (fun wx hwx => R_pick hA rfl rfl rfl _) (fun a hA => ?_)
  refine takeF (i := 19) hA 4 rfl rfl (by decide) rfl (by kernel_rfl) (by kernel_rfl) (by kernel_rfl) (fun _ _ _ h => h) hS (fun wx hwx => R_asg hA rfl rfl _) (fun a hA => ?_)
  refine wpAnyH_done (by kernel_rfl) ?_ _
  replace B3 := B3.below hS
  replace B5 := B5.below hS
  replace HB := HB.trans (hS.mono HB.size)
  clear hS
  refine then_nrm ?_
  show Code.wp Try.prog _ _ _ _
  refine wp_ret ?_
  exact ret_tmp (j := 4) (by kernel_rfl) hA (by decide) rfl ⟨rfl, HB⟩
end Go.Proofs.YtflaadnlmcgfoaaR
