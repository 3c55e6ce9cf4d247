/- Layer 15: the walk of PteMarks (written by gen_ptc.py by walkt.py). -/
import Derived.Test.YtflaadnlmcgfoaaRPtC
namespace Go.Proofs.YtflaadnlmcgfoaaR
open Go.RowKit
set_option linter.unusedVariables false
set_option maxRecDepth 100000

theorem low_bits (x : Int) (i : Nat) (hi : i < 8) : bitZ (bits .and .u64 x 255) i = bitZ x i := by
  rw [bz_and, (by decide +kernel : ∀ i, i < 8 → bitZ 255 i = true) i hi, Bool.and_true]
theorem allow_low (x : Int) (s : WS) : allowB (bits .and .u64 x 255) s = allowB x s := by
  unfold allowB; simp only [low_bits x 1 (by decide), low_bits x 2 (by decide), low_bits x 3 (by decide), low_bits x 4 (by decide)]
theorem full_low (x : Int) (s : WS) : fullB (bits .and .u64 x 255) s = fullB x s := by
  unfold fullB; simp only [low_bits x 6 (by decide), low_bits x 7 (by decide)]
def WS.more (s : WS) : WS := { s with sum := true, mxr := true, vmxr := true }
def WS.load (s : WS) : WS := { s with kind := 0, ex := false }
theorem ok_more {s : WS} (sk : WOk s) : WOk s.more := ⟨sk.kind, sk.priv⟩
theorem ok_load {s : WS} (sk : WOk s) : WOk s.load := ⟨⟨by show (0 : Int) ≤ 0; decide, by show (0 : Int) < 256; decide⟩, sk.priv⟩
def allowF (k3 p0 b4 k2 sm k1 ex b1 b2 b3 mx vv vm : Bool) : Bool :=
  if k3 then false else if p0 && !b4 then false else if !p0 && b4 && (k2 || !sm) then false else if k2 then b3 else if k1 then b2 else if ex then b3 else b1 || b3 && mx || b3 && vv && vm
theorem allowB_eq (x : Int) (s : WS) : allowB x s = allowF (decide (2 < s.kind)) (s.priv == 0) (bitZ x 4) (s.kind == 2) s.sum (s.kind == 1) s.ex (bitZ x 1) (bitZ x 2) (bitZ x 3) s.mxr s.v s.vmxr := rfl
theorem allowF_more : ∀ k3 p0 b4 k2 sm k1 ex b1 b2 b3 mx vv vm, allowF k3 p0 b4 k2 sm k1 ex b1 b2 b3 mx vv vm = true → allowF k3 p0 b4 k2 true k1 ex b1 b2 b3 true vv true = true := by decide +kernel
theorem allow_more {x : Int} {s : WS} (h : allowB x s = true) : allowB x s.more = true := by
  rw [allowB_eq] at h ⊢
  exact allowF_more _ _ _ _ _ _ _ _ _ _ _ _ _ h
theorem allow_user {x : Int} {s : WS} (h : allowB x s = true) (hp : (s.priv == 0) = true) : bitZ x 4 = true := by
  unfold allowB at h
  cases c1 : decide (2 < s.kind) <;> cases c3 : bitZ x 4 <;> simp_all
theorem allow_kind {x : Int} {s : WS} (h : allowB x s = true) : decide (2 < s.kind) = false := by
  unfold allowB at h
  cases c1 : decide (2 < s.kind) <;> simp_all
theorem allow_fetch {x : Int} {s : WS} (h : allowB x s = true) (hp : (s.priv != 0) = true) (hk : (s.kind == 2) = true) : bitZ x 4 = false := by
  unfold allowB at h
  cases c1 : decide (2 < s.kind) <;> cases c3 : bitZ x 4 <;> simp_all
theorem allow_load {x : Int} {s : WS} (h : allowB x s = true) (ho : okB x = true) (hk : (s.kind == 1) = true) : allowB x s.load = true := by
  have hk2 : s.kind = 1 := eq_of_beq hk
  unfold allowB WS.load at *
  unfold okB at ho
  simp only [hk2] at *
  cases c2 : (s.priv == 0) <;> cases c3 : bitZ x 4 <;> cases c4 : (s.priv != 0) <;> cases c6 : s.sum <;> cases c9 : bitZ x 1 <;> cases c10 : bitZ x 3 <;> cases c11 : bitZ x 2 <;> cases c12 : bitZ x 0 <;> simp_all
theorem full_load {x : Int} {s : WS} (h : fullB x s = true) : fullB x s.load = true := by
  unfold fullB WS.load at *
  cases c1 : (s.kind == 1) <;> simp_all
set_option maxHeartbeats 8000000 in
theorem pteMarks_f (x : Int) (s : WS) (w : World) (hx : In64 x) (sk : WOk s) (h : allowB x s = false) : Calls Try.prog 7 #[.int .u64 x, wantV s] w fun e w' => e = .returned (.bool true) ∧ Below w.heap.size w w' := by
  have HB := Below.refl w.heap.size w
  go_enter Try.func7, Try.ntmps7
  refine begin_fr [(1, wantV s), (0, .int .u64 x)] 113 ?_ (fun a hA => ?_)
  · exact FrA.add (FrA.add (FrA.nil (by rfl) (by rfl)) 0 _ (by rfl)) 1 _ (by rfl)
  refine wp_seq ?_
  refine wp_region_list ?_
  refine W_boxT (cs := wantC s) hA rfl 3 rfl (by decide) rfl rfl (fun w1 bB3 a hA hb B3 gB3 => ?_)
  replace gB3 := Nat.le_trans HB.size gB3
  replace HB := HB.trans (hb.mono HB.size)
  clear hb
  refine W_val hA rfl 4 rfl (by decide) _ _ (R_asg hA rfl rfl _) (fun a hA => ?_)
  refine W_nil ?_
  refine then_nrm ?_
  show Code.wp Try.prog _ _ _ _
  refine wp_seq ?_
  refine wp_seq ?_
  refine wp_region_list ?_
  refine W_callA hA (by decide) (fun _ _ => by kernel_rfl) (args0 ) (awake_any _) (fun w2 hw a hA => ?_)
  replace HB := HB.trans (hw.mono HB.size)
  replace B3 := B3.below hw
  clear hw
  refine W_val hA rfl 9 rfl (by decide) _ _ (R_not hA rfl rfl _) (fun a hA => ?_)
  refine W_nil ?_
  refine then_nrm ?_
  show Code.wp Try.prog _ _ _ _
  refine wp_cond_false (hA.ev (x := .tmp 9) rfl) ?_
  refine wp_skip ?_
  refine then_nrm ?_
  show Code.wp Try.prog _ _ _ _
  refine wp_seq ?_
  refine wp_region_list ?_
  refine W_val hA rfl 10 rfl (by decide) _ _ (R_row hA rfl rfl B3 Try.underlying25 (by kernel_rfl)) (fun a hA => ?_)
  refine W_allocT (cs := #[.int .u8 0, .bool false, .int .u8 0, .bool false, .bool false, .bool false, .bool false]) hA rfl 5 rfl (by decide) rfl zero_want (fun w3 bB5 a hA hb B5 gB5 => ?_)
  have nB3B5 : bB3 < bB5 := by have := B3.lt; omega
  replace gB5 := Nat.le_trans HB.size gB5
  replace HB := HB.trans (hb.mono HB.size)
  replace B3 := B3.below hb
  clear hb
  refine W_cpT (cs := wantC s) hA rfl rfl rfl rfl rfl B5 (by kernel_rfl) rfl (by simp [Value.oneCell']) (fun w4 hT HN => ?_)
  replace HB := HB.trans (hT.bel _ gB5)
  replace B3 := hT.row B3 (by omega)
  replace B5 := HN
  clear hT HN
  refine W_nil ?_
  refine then_nrm ?_
  show Code.wp Try.prog _ _ _ _
  refine wp_seq ?_
  refine wp_region_list ?_
  refine W_val hA rfl 11 rfl (by decide) _ _ (R_fa hA rfl rfl (fun w => fa_want _ 4 (by decide) w) _) (fun a hA => ?_)
  refine W_stT (cs' := #[.int .u8 s.kind, .bool s.ex, .int .u8 s.priv, .bool s.v, .bool true, .bool s.mxr, .bool s.vmxr]) hA rfl rfl rfl rfl rfl B5 (stT_b B5 _ rfl) rfl (fun w5 hT HN => ?_)
  replace HB := HB.trans (hT.bel _ gB5)
  replace B3 := hT.row B3 (by omega)
  replace B5 := HN
  clear hT HN
  refine W_nil ?_
  refine then_nrm ?_
  show Code.wp Try.prog _ _ _ _
  refine wp_seq ?_
  refine wp_region_list ?_
  refine W_val hA rfl 12 rfl (by decide) _ _ (R_fa hA rfl rfl (fun w => fa_want _ 5 (by decide) w) _) (fun a hA => ?_)
  refine W_stT (cs' := #[.int .u8 s.kind, .bool s.ex, .int .u8 s.priv, .bool s.v, .bool true, .bool true, .bool s.vmxr]) hA rfl rfl rfl rfl rfl B5 (stT_b B5 _ rfl) rfl (fun w6 hT HN => ?_)
  replace HB := HB.trans (hT.bel _ gB5)
  replace B3 := hT.row B3 (by omega)
  replace B5 := HN
  clear hT HN
  refine W_nil ?_
  refine then_nrm ?_
  show Code.wp Try.prog _ _ _ _
  refine wp_seq ?_
  refine wp_region_list ?_
  refine W_val hA rfl 13 rfl (by decide) _ _ (R_fa hA rfl rfl (fun w => fa_want _ 6 (by decide) w) _) (fun a hA => ?_)
  refine W_stT (cs' := #[.int .u8 s.kind, .bool s.ex, .int .u8 s.priv, .bool s.v, .bool true, .bool true, .bool true]) hA rfl rfl rfl rfl rfl B5 (stT_b B5 _ rfl) rfl (fun w7 hT HN => ?_)
  replace HB := HB.trans (hT.bel _ gB5)
  replace B3 := hT.row B3 (by omega)
  replace B5 := HN
  clear hT HN
  replace B5 : RowC w7 bB5 25 (wantC s.more) := B5
  refine W_nil ?_
  refine then_nrm ?_
  show Code.wp Try.prog _ _ _ _
  refine wp_seq ?_
  refine wp_region_list ?_
  refine W_val hA rfl 14 rfl (by decide) _ _ (R_mov hA rfl rfl _) (fun a hA => ?_)
  refine W_val hA rfl 15 rfl (by decide) _ _ (R_row hA rfl rfl B3 Try.underlying25 (by kernel_rfl)) (fun a hA => ?_)
  refine W_callA hA (by decide) (fun _ _ => by kernel_rfl) (args2 hA rfl rfl) (allow_to hx sk h _) (fun w8 hw a hA => ?_)
  replace HB := HB.trans (hw.mono HB.size)
  replace B3 := B3.below hw
  replace B5 := B5.below hw
  clear hw
  refine W_val hA rfl 6 rfl (by decide) _ _ (R_asg hA rfl rfl _) (fun a hA => ?_)
  refine W_nil ?_
  refine then_nrm ?_
  show Code.wp Try.prog _ _ _ _
  refine wp_seq ?_
  refine wp_seq ?_
  refine wp_region_list ?_
  refine W_val hA rfl 17 rfl (by decide) _ _ (R_mov hA rfl rfl _) (fun a hA => ?_)
  refine W_val hA rfl 18 rfl (by decide) _ _ (R_mov hA rfl rfl _) (fun a hA => ?_)
  refine W_gskip hA rfl rfl rfl 19 rfl (by decide) (fun a hA => ?_)
  refine W_gskip hA rfl rfl rfl 20 rfl (by decide) (fun a hA => ?_)
  refine W_gskip hA rfl rfl rfl 21 rfl (by decide) (fun a hA => ?_)
  refine W_gskip hA rfl rfl rfl 22 rfl (by decide) (fun a hA => ?_)
  refine W_val hA rfl 23 rfl (by decide) _ _ (R_pick hA rfl rfl rfl _) (fun a hA => ?_)
  refine W_val hA rfl 24 rfl (by decide) _ _ (R_mov hA rfl rfl _) (fun a hA => ?_)
  refine W_gval hA rfl rfl rfl 25 rfl (by decide) _ _ (R_mov hA rfl rfl _) (fun a hA => ?_)
  refine W_gval hA rfl rfl rfl 26 rfl (by decide) _ _ (R_mov hA rfl rfl _) (fun a hA => ?_)
  refine W_gskip hA rfl rfl rfl 27 rfl (by decide) (fun a hA => ?_)
  refine W_gskip hA rfl rfl rfl 28 rfl (by decide) (fun a hA => ?_)
  refine W_gskip hA rfl rfl rfl 29 rfl (by decide) (fun a hA => ?_)
  refine W_gval hA rfl rfl rfl 30 rfl (by decide) _ _ (R_pick hA rfl rfl rfl _) (fun a hA => ?_)
  refine W_gval hA rfl rfl rfl 31 rfl (by decide) _ _ (R_mov hA rfl rfl _) (fun a hA => ?_)
  refine W_gskip hA rfl rfl rfl 32 rfl (by decide) (fun a hA => ?_)
  refine W_gskip hA rfl rfl rfl 33 rfl (by decide) (fun a hA => ?_)
  refine W_gskip hA rfl rfl rfl 34 rfl (by decide) (fun a hA => ?_)
  refine W_gval hA rfl rfl rfl 35 rfl (by decide) _ _ (R_pick hA rfl rfl rfl _) (fun a hA => ?_)
  refine W_val hA rfl 36 rfl (by decide) _ _ (R_pick hA rfl rfl rfl _) (fun a hA => ?_)
  refine W_val hA rfl 37 rfl (by decide) _ _ (R_mov hA rfl rfl _) (fun a hA => ?_)
  refine W_gval hA rfl rfl rfl 38 rfl (by decide) _ _ (R_mov hA rfl rfl _) (fun a hA => ?_)
  refine W_gval hA rfl rfl rfl 39 rfl (by decide) _ _ (R_mov hA rfl rfl _) (fun a hA => ?_)
  refine W_gskip hA rfl rfl rfl 40 rfl (by decide) (fun a hA => ?_)
  refine W_gskip hA rfl rfl rfl 41 rfl (by decide) (fun a hA => ?_)
  refine W_gskip hA rfl rfl rfl 42 rfl (by decide) (fun a hA => ?_)
  refine W_gval hA rfl rfl rfl 43 rfl (by decide) _ _ (R_pick hA rfl rfl rfl _) (fun a hA => ?_)
  refine W_gval hA rfl rfl rfl 44 rfl (by decide) _ _ (R_mov hA rfl rfl _) (fun a hA => ?_)
  refine W_gskip hA rfl rfl rfl 45 rfl (by decide) (fun a hA => ?_)
  refine W_gskip hA rfl rfl rfl 46 rfl (by decide) (fun a hA => ?_)
  refine W_gskip hA rfl rfl rfl 47 rfl (by decide) (fun a hA => ?_)
  refine W_gval hA rfl rfl rfl 48 rfl (by decide) _ _ (R_pick hA rfl rfl rfl _) (fun a hA => ?_)
  refine W_gval hA rfl rfl rfl 49 rfl (by decide) _ _ (R_mov hA rfl rfl _) (fun a hA => ?_)
  refine W_gskip hA rfl rfl rfl 50 rfl (by decide) (fun a hA => ?_)
  refine W_gskip hA rfl rfl rfl 51 rfl (by decide) (fun a hA => ?_)
  refine W_gskip hA rfl rfl rfl 52 rfl (by decide) (fun a hA => ?_)
  refine W_gval hA rfl rfl rfl 53 rfl (by decide) _ _ (R_pick hA rfl rfl rfl _) (fun a hA => ?_)
  refine W_val hA rfl 54 rfl (by decide) _ _ (R_pick hA rfl rfl rfl _) (fun a hA => ?_)
  refine W_val hA rfl 55 rfl (by decide) _ _ (R_mov hA rfl rfl _) (fun a hA => ?_)
  refine W_gval hA rfl rfl rfl 56 rfl (by decide) _ _ (R_mov hA rfl rfl _) (fun a hA => ?_)
  refine W_gval hA rfl rfl rfl 57 rfl (by decide) _ _ (R_mov hA rfl rfl _) (fun a hA => ?_)
  refine W_gskip hA rfl rfl rfl 58 rfl (by decide) (fun a hA => ?_)
  refine W_gskip hA rfl rfl rfl 59 rfl (by decide) (fun a hA => ?_)
  refine W_gskip hA rfl rfl rfl 60 rfl (by decide) (fun a hA => ?_)
  refine W_gval hA rfl rfl rfl 61 rfl (by decide) _ _ (R_pick hA rfl rfl rfl _) (fun a hA => ?_)
  refine W_val hA rfl 62 rfl (by decide) _ _ (R_pick hA rfl rfl rfl _) (fun a hA => ?_)
  refine W_nil ?_
  refine then_nrm ?_
  show Code.wp Try.prog _ _ _ _
  refine wp_cond_false (hA.ev (x := .tmp 62) rfl) ?_
  refine wp_skip ?_
  refine then_nrm ?_
  show Code.wp Try.prog _ _ _ _
  refine wp_seq ?_
  refine wp_seq ?_
  refine wp_region_list ?_
  refine W_val hA rfl 63 rfl (by decide) _ _ (R_mov hA rfl rfl _) (fun a hA => ?_)
  refine W_callA hA (by decide) (fun _ _ => by kernel_rfl) (args1 hA rfl) (ok_any x hx _) (fun w9 hw a hA => ?_)
  replace HB := HB.trans (hw.mono HB.size)
  replace B3 := B3.below hw
  replace B5 := B5.below hw
  clear hw
  refine W_val hA rfl 65 rfl (by decide) _ _ (R_mov hA rfl rfl _) (fun a hA => ?_)
  refine W_split hA 65 rfl (fun c1 hA => ?_) (fun c1 hA => ?_)
  · skip
    refine W_gval hA rfl rfl rfl 66 rfl (by decide) _ _ (R_mov hA rfl rfl _) (fun a hA => ?_)
    refine W_gcallB hA rfl rfl (by decide) (fun _ _ => by kernel_rfl) (args1 hA rfl) (leaf_any x hx _) (fun w10 hw a hA => ?_)
    replace HB := HB.trans (hw.mono HB.size)
    replace B3 := B3.below hw
    replace B5 := B5.below hw
    clear hw
    refine W_val hA rfl 68 rfl (by decide) _ _ (R_pick hA rfl rfl rfl _) (fun a hA => ?_)
    refine W_val hA rfl 69 rfl (by decide) _ _ (R_mov hA rfl rfl _) (fun a hA => ?_)
    refine W_split hA 69 rfl (fun c2 hA => ?_) (fun c2 hA => ?_)
    · skip
      refine W_gval hA rfl rfl rfl 70 rfl (by decide) _ _ (R_fa hA rfl rfl (fun w => fa_want _ 0 (by decide) w) _) (fun a hA => ?_)
      refine W_gval hA rfl rfl rfl 71 rfl (by decide) _ _ (R_ld (v := .int .u8 s.kind) hA rfl rfl ag_u8 (RowC.cell B3 0 _ rfl)) (fun a hA => ?_)
      refine W_gval hA rfl rfl rfl 72 rfl (by decide) _ _ (R_eqlB hA rfl rfl rfl _) (fun a hA => ?_)
      refine W_val hA rfl 73 rfl (by decide) _ _ (R_pick hA rfl rfl rfl _) (fun a hA => ?_)
      refine W_val hA rfl 74 rfl (by decide) _ _ (R_mov hA rfl rfl _) (fun a hA => ?_)
      refine W_split hA 74 rfl (fun c3 hA => ?_) (fun c3 hA => ?_)
      · skip
        refine W_gval hA rfl rfl rfl 75 rfl (by decide) _ _ (R_mov hA rfl rfl _) (fun a hA => ?_)
        refine W_val hA rfl 76 rfl (by decide) _ _ (R_pick hA rfl rfl rfl _) (fun a hA => ?_)
        refine W_nil ?_
        refine then_nrm ?_
        show Code.wp Try.prog _ _ _ _
        refine wp_cond_false (hA.ev (x := .tmp 76) rfl) ?_
        refine wp_skip ?_
        refine then_nrm ?_
        show Code.wp Try.prog _ _ _ _
        refine wp_seq ?_
        refine wp_region_held_drew (S := fun wx => Below w10.heap.size w10 wx) (by kernel_rfl) ((Below.refl _ _).drew) (fun hS => ?_)
        refine takeF (i := 0) hA 95 rfl rfl (by decide) rfl (by kernel_rfl) (by kernel_rfl) (by kernel_rfl) (fun _ _ _ h => h) hS (fun wx hwx => R_mov hA rfl rfl _) (fun a hA => ?_)
        refine takeF (i := 1) hA 96 rfl rfl (by decide) rfl (by kernel_rfl) (by kernel_rfl) (by kernel_rfl) (fun _ _ _ h => h) hS (fun wx hwx => R_row hA rfl rfl (B3.below hwx) Try.underlying25 (by kernel_rfl)) (fun a hA => ?_)
        refine takeF (i := 3) hA 98 rfl rfl (by decide) rfl (by kernel_rfl) (by kernel_rfl) (by kernel_rfl) (fun _ _ _ h => h) hS (fun wx hwx => R_mov hA rfl rfl _) (fun a hA => ?_)
        refine takeF (i := 4) hA 99 rfl rfl (by decide) rfl (by kernel_rfl) (by kernel_rfl) (by kernel_rfl) (fun _ _ _ h => h) hS (fun wx hwx => R_and hA rfl rfl rfl _) (fun a hA => ?_)
        refine takeF (i := 5) hA 100 rfl rfl (by decide) rfl (by kernel_rfl) (by kernel_rfl) (by kernel_rfl) (fun _ _ _ h => h) hS (fun wx hwx => R_row hA rfl rfl (B3.below hwx) Try.underlying25 (by kernel_rfl)) (fun a hA => ?_)
        refine wpAnyH_ready (rs := [2]) (by kernel_rfl) (by simp) (ready_call (i := 2) hA (by decide) rfl (fun _ _ => by kernel_rfl) (args2 hA rfl rfl) (allow_any x s hx sk _) (fun _ h => hS.trans (h.mono hS.size)) (fun w11 hw a hA => ?_) AllReadyH.nil)
        replace hS := hS.trans (hw.mono hS.size)
        clear hw
        refine wpAnyH_ready (rs := [6]) (by kernel_rfl) (by simp) (ready_call (i := 6) hA (by decide) rfl (fun _ _ => by kernel_rfl) (args2 hA rfl rfl) (allow_any _ s (bz_inA _ _) sk _) (fun _ h => hS.trans (h.mono hS.size)) (fun w12 hw a hA => ?_) AllReadyH.nil)
        replace hS := hS.trans (hw.mono hS.size)
        clear hw
        refine takeF (i := 7) hA 102 rfl rfl (by decide) rfl (by kernel_rfl) (by kernel_rfl) (by kernel_rfl) (fun _ _ _ h => h) hS (fun wx hwx => R_eqlBT hA rfl rfl rfl true (by rw [allow_low]; simp) _) (fun a hA => ?_)
        refine takeF (i := 8) hA 103 rfl rfl (by decide) rfl (by kernel_rfl) (by kernel_rfl) (by kernel_rfl) (fun _ _ _ h => h) hS (fun wx hwx => R_mov hA rfl rfl _) (fun a hA => ?_)
        refine takeFg (i := 9) hA 104 rfl rfl (by decide) rfl rfl rfl (by kernel_rfl) (by kernel_rfl) (by kernel_rfl) (fun _ _ _ h => h) hS (fun wx hwx => R_mov hA rfl rfl _) (fun a hA => ?_)
        refine takeFg (i := 10) hA 105 rfl rfl (by decide) rfl rfl rfl (by kernel_rfl) (by kernel_rfl) (by kernel_rfl) (fun _ _ _ h => h) hS (fun wx hwx => R_row hA rfl rfl (B3.below hwx) Try.underlying25 (by kernel_rfl)) (fun a hA => ?_)
        refine takeFg (i := 12) hA 107 rfl rfl (by decide) rfl rfl rfl (by kernel_rfl) (by kernel_rfl) (by kernel_rfl) (fun _ _ _ h => h) hS (fun wx hwx => R_mov hA rfl rfl _) (fun a hA => ?_)
        refine takeFg (i := 13) hA 108 rfl rfl (by decide) rfl rfl rfl (by kernel_rfl) (by kernel_rfl) (by kernel_rfl) (fun _ _ _ h => h) hS (fun wx hwx => R_and hA rfl rfl rfl _) (fun a hA => ?_)
        refine takeFg (i := 14) hA 109 rfl rfl (by decide) rfl rfl rfl (by kernel_rfl) (by kernel_rfl) (by kernel_rfl) (fun _ _ _ h => h) hS (fun wx hwx => R_row hA rfl rfl (B3.below hwx) Try.underlying25 (by kernel_rfl)) (fun a hA => ?_)
        refine wpAnyH_ready (rs := [11]) (by kernel_rfl) (by simp) (ready_gcall (i := 11) hA (by decide) rfl rfl rfl (fun _ _ => by kernel_rfl) (args2 hA rfl rfl) (full_any x s hx sk _) (fun _ h => hS.trans (h.mono hS.size)) (fun w13 hw a hA => ?_) AllReadyH.nil)
        replace hS := hS.trans (hw.mono hS.size)
        clear hw
        refine wpAnyH_ready (rs := [15]) (by kernel_rfl) (by simp) (ready_gcall (i := 15) hA (by decide) rfl rfl rfl (fun _ _ => by kernel_rfl) (args2 hA rfl rfl) (full_any _ s (bz_inA _ _) sk _) (fun _ h => hS.trans (h.mono hS.size)) (fun w14 hw a hA => ?_) AllReadyH.nil)
        replace hS := hS.trans (hw.mono hS.size)
        clear hw
        refine takeFg (i := 16) hA 111 rfl rfl (by decide) rfl rfl rfl (by kernel_rfl) (by kernel_rfl) (by kernel_rfl) (fun _ _ _ h => h) hS (fun wx hwx => R_eqlBT hA rfl rfl rfl true (by rw [full_low]; simp) _) (fun a hA => ?_)
        refine takeF (i := 17) hA 112 rfl rfl (by decide) rfl (by kernel_rfl) (by kernel_rfl) (by kernel_rfl) (fun _ _ _ h => h) hS (fun wx hwx => R_pick hA rfl rfl rfl _) (fun a hA => ?_)
        refine takeF (i := 18) hA 4 rfl rfl (by decide) rfl (by kernel_rfl) (by kernel_rfl) (by kernel_rfl) (fun _ _ _ h => h) hS (fun wx hwx => R_asg hA rfl rfl _) (fun a hA => ?_)
        refine wpAnyH_done (by kernel_rfl) ?_ _
        replace B3 := B3.below hS
        replace B5 := B5.below hS
        replace HB := HB.trans (hS.mono HB.size)
        clear hS
        refine then_nrm ?_
        show Code.wp Try.prog _ _ _ _
        refine wp_ret ?_
        exact ret_tmp (j := 4) (by kernel_rfl) hA (by decide) rfl ⟨rfl, HB⟩
      refine W_gskip hA rfl rfl rfl 75 rfl (by decide) (fun a hA => ?_)
      refine W_val hA rfl 76 rfl (by decide) _ _ (R_pick hA rfl rfl rfl _) (fun a hA => ?_)
      refine W_nil ?_
      refine then_nrm ?_
      show Code.wp Try.prog _ _ _ _
      refine wp_cond_false (hA.ev (x := .tmp 76) rfl) ?_
      refine wp_skip ?_
      refine then_nrm ?_
      show Code.wp Try.prog _ _ _ _
      refine wp_seq ?_
      refine wp_region_held_drew (S := fun wx => Below w10.heap.size w10 wx) (by kernel_rfl) ((Below.refl _ _).drew) (fun hS => ?_)
      refine takeF (i := 0) hA 95 rfl rfl (by decide) rfl (by kernel_rfl) (by kernel_rfl) (by kernel_rfl) (fun _ _ _ h => h) hS (fun wx hwx => R_mov hA rfl rfl _) (fun a hA => ?_)
      refine takeF (i := 1) hA 96 rfl rfl (by decide) rfl (by kernel_rfl) (by kernel_rfl) (by kernel_rfl) (fun _ _ _ h => h) hS (fun wx hwx => R_row hA rfl rfl (B3.below hwx) Try.underlying25 (by kernel_rfl)) (fun a hA => ?_)
      refine takeF (i := 3) hA 98 rfl rfl (by decide) rfl (by kernel_rfl) (by kernel_rfl) (by kernel_rfl) (fun _ _ _ h => h) hS (fun wx hwx => R_mov hA rfl rfl _) (fun a hA => ?_)
      refine takeF (i := 4) hA 99 rfl rfl (by decide) rfl (by kernel_rfl) (by kernel_rfl) (by kernel_rfl) (fun _ _ _ h => h) hS (fun wx hwx => R_and hA rfl rfl rfl _) (fun a hA => ?_)
      refine takeF (i := 5) hA 100 rfl rfl (by decide) rfl (by kernel_rfl) (by kernel_rfl) (by kernel_rfl) (fun _ _ _ h => h) hS (fun wx hwx => R_row hA rfl rfl (B3.below hwx) Try.underlying25 (by kernel_rfl)) (fun a hA => ?_)
      refine wpAnyH_ready (rs := [2]) (by kernel_rfl) (by simp) (ready_call (i := 2) hA (by decide) rfl (fun _ _ => by kernel_rfl) (args2 hA rfl rfl) (allow_any x s hx sk _) (fun _ h => hS.trans (h.mono hS.size)) (fun w15 hw a hA => ?_) AllReadyH.nil)
      replace hS := hS.trans (hw.mono hS.size)
      clear hw
      refine wpAnyH_ready (rs := [6]) (by kernel_rfl) (by simp) (ready_call (i := 6) hA (by decide) rfl (fun _ _ => by kernel_rfl) (args2 hA rfl rfl) (allow_any _ s (bz_inA _ _) sk _) (fun _ h => hS.trans (h.mono hS.size)) (fun w16 hw a hA => ?_) AllReadyH.nil)
      replace hS := hS.trans (hw.mono hS.size)
      clear hw
      refine takeF (i := 7) hA 102 rfl rfl (by decide) rfl (by kernel_rfl) (by kernel_rfl) (by kernel_rfl) (fun _ _ _ h => h) hS (fun wx hwx => R_eqlBT hA rfl rfl rfl true (by rw [allow_low]; simp) _) (fun a hA => ?_)
      refine takeF (i := 8) hA 103 rfl rfl (by decide) rfl (by kernel_rfl) (by kernel_rfl) (by kernel_rfl) (fun _ _ _ h => h) hS (fun wx hwx => R_mov hA rfl rfl _) (fun a hA => ?_)
      refine takeFg (i := 9) hA 104 rfl rfl (by decide) rfl rfl rfl (by kernel_rfl) (by kernel_rfl) (by kernel_rfl) (fun _ _ _ h => h) hS (fun wx hwx => R_mov hA rfl rfl _) (fun a hA => ?_)
      refine takeFg (i := 10) hA 105 rfl rfl (by decide) rfl rfl rfl (by kernel_rfl) (by kernel_rfl) (by kernel_rfl) (fun _ _ _ h => h) hS (fun wx hwx => R_row hA rfl rfl (B3.below hwx) Try.underlying25 (by kernel_rfl)) (fun a hA => ?_)
      refine takeFg (i := 12) hA 107 rfl rfl (by decide) rfl rfl rfl (by kernel_rfl) (by kernel_rfl) (by kernel_rfl) (fun _ _ _ h => h) hS (fun wx hwx => R_mov hA rfl rfl _) (fun a hA => ?_)
      refine takeFg (i := 13) hA 108 rfl rfl (by decide) rfl rfl rfl (by kernel_rfl) (by kernel_rfl) (by kernel_rfl) (fun _ _ _ h => h) hS (fun wx hwx => R_and hA rfl rfl rfl _) (fun a hA => ?_)
      refine takeFg (i := 14) hA 109 rfl rfl (by decide) rfl rfl rfl (by kernel_rfl) (by kernel_rfl) (by kernel_rfl) (fun _ _ _ h => h) hS (fun wx hwx => R_row hA rfl rfl (B3.below hwx) Try.underlying25 (by kernel_rfl)) (fun a hA => ?_)
      refine wpAnyH_ready (rs := [11]) (by kernel_rfl) (by simp) (ready_gcall (i := 11) hA (by decide) rfl rfl rfl (fun _ _ => by kernel_rfl) (args2 hA rfl rfl) (full_any x s hx sk _) (fun _ h => hS.trans (h.mono hS.size)) (fun w17 hw a hA => ?_) AllReadyH.nil)
      replace hS := hS.trans (hw.mono hS.size)
      clear hw
      refine wpAnyH_ready (rs := [15]) (by kernel_rfl) (by simp) (ready_gcall (i := 15) hA (by decide) rfl rfl rfl (fun _ _ => by kernel_rfl) (args2 hA rfl rfl) (full_any _ s (bz_inA _ _) sk _) (fun _ h => hS.trans (h.mono hS.size)) (fun w18 hw a hA => ?_) AllReadyH.nil)
      replace hS := hS.trans (hw.mono hS.size)
      clear hw
      refine takeFg (i := 16) hA 111 rfl rfl (by decide) rfl rfl rfl (by kernel_rfl) (by kernel_rfl) (by kernel_rfl) (fun _ _ _ h => h) hS (fun wx hwx => R_eqlBT hA rfl rfl rfl true (by rw [full_low]; simp) _) (fun a hA => ?_)
      refine takeF (i := 17) hA 112 rfl rfl (by decide) rfl (by kernel_rfl) (by kernel_rfl) (by kernel_rfl) (fun _ _ _ h => h) hS (fun wx hwx => R_pick hA rfl rfl rfl _) (fun a hA => ?_)
      refine takeF (i := 18) hA 4 rfl rfl (by decide) rfl (by kernel_rfl) (by kernel_rfl) (by kernel_rfl) (fun _ _ _ h => h) hS (fun wx hwx => R_asg hA rfl rfl _) (fun a hA => ?_)
      refine wpAnyH_done (by kernel_rfl) ?_ _
      replace B3 := B3.below hS
      replace B5 := B5.below hS
      replace HB := HB.trans (hS.mono HB.size)
      clear hS
      refine then_nrm ?_
      show Code.wp Try.prog _ _ _ _
      refine wp_ret ?_
      exact ret_tmp (j := 4) (by kernel_rfl) hA (by decide) rfl ⟨rfl, HB⟩
    refine W_gskip hA rfl rfl rfl 70 rfl (by decide) (fun a hA => ?_)
    refine W_gskip hA rfl rfl rfl 71 rfl (by decide) (fun a hA => ?_)
    refine W_gskip hA rfl rfl rfl 72 rfl (by decide) (fun a hA => ?_)
    refine W_val hA rfl 73 rfl (by decide) _ _ (R_pick hA rfl rfl rfl _) (fun a hA => ?_)
    refine W_val hA rfl 74 rfl (by decide) _ _ (R_mov hA rfl rfl _) (fun a hA => ?_)
    refine W_gskip hA rfl rfl rfl 75 rfl (by decide) (fun a hA => ?_)
    refine W_val hA rfl 76 rfl (by decide) _ _ (R_pick hA rfl rfl rfl _) (fun a hA => ?_)
    refine W_nil ?_
    refine then_nrm ?_
    show Code.wp Try.prog _ _ _ _
    refine wp_cond_false (hA.ev (x := .tmp 76) rfl) ?_
    refine wp_skip ?_
    refine then_nrm ?_
    show Code.wp Try.prog _ _ _ _
    refine wp_seq ?_
    refine wp_region_held_drew (S := fun wx => Below w10.heap.size w10 wx) (by kernel_rfl) ((Below.refl _ _).drew) (fun hS => ?_)
    refine takeF (i := 0) hA 95 rfl rfl (by decide) rfl (by kernel_rfl) (by kernel_rfl) (by kernel_rfl) (fun _ _ _ h => h) hS (fun wx hwx => R_mov hA rfl rfl _) (fun a hA => ?_)
    refine takeF (i := 1) hA 96 rfl rfl (by decide) rfl (by kernel_rfl) (by kernel_rfl) (by kernel_rfl) (fun _ _ _ h => h) hS (fun wx hwx => R_row hA rfl rfl (B3.below hwx) Try.underlying25 (by kernel_rfl)) (fun a hA => ?_)
    refine takeF (i := 3) hA 98 rfl rfl (by decide) rfl (by kernel_rfl) (by kernel_rfl) (by kernel_rfl) (fun _ _ _ h => h) hS (fun wx hwx => R_mov hA rfl rfl _) (fun a hA => ?_)
    refine takeF (i := 4) hA 99 rfl rfl (by decide) rfl (by kernel_rfl) (by kernel_rfl) (by kernel_rfl) (fun _ _ _ h => h) hS (fun wx hwx => R_and hA rfl rfl rfl _) (fun a hA => ?_)
    refine takeF (i := 5) hA 100 rfl rfl (by decide) rfl (by kernel_rfl) (by kernel_rfl) (by kernel_rfl) (fun _ _ _ h => h) hS (fun wx hwx => R_row hA rfl rfl (B3.below hwx) Try.underlying25 (by kernel_rfl)) (fun a hA => ?_)
    refine wpAnyH_ready (rs := [2]) (by kernel_rfl) (by simp) (ready_call (i := 2) hA (by decide) rfl (fun _ _ => by kernel_rfl) (args2 hA rfl rfl) (allow_any x s hx sk _) (fun _ h => hS.trans (h.mono hS.size)) (fun w19 hw a hA => ?_) AllReadyH.nil)
    replace hS := hS.trans (hw.mono hS.size)
    clear hw
    refine wpAnyH_ready (rs := [6]) (by kernel_rfl) (by simp) (ready_call (i := 6) hA (by decide) rfl (fun _ _ => by kernel_rfl) (args2 hA rfl rfl) (allow_any _ s (bz_inA _ _) sk _) (fun _ h => hS.trans (h.mono hS.size)) (fun w20 hw a hA => ?_) AllReadyH.nil)
    replace hS := hS.trans (hw.mono hS.size)
    clear hw
    refine takeF (i := 7) hA 102 rfl rfl (by decide) rfl (by kernel_rfl) (by kernel_rfl) (by kernel_rfl) (fun _ _ _ h => h) hS (fun wx hwx => R_eqlBT hA rfl rfl rfl true (by rw [allow_low]; simp) _) (fun a hA => ?_)
    refine takeF (i := 8) hA 103 rfl rfl (by decide) rfl (by kernel_rfl) (by kernel_rfl) (by kernel_rfl) (fun _ _ _ h => h) hS (fun wx hwx => R_mov hA rfl rfl _) (fun a hA => ?_)
    refine takeFg (i := 9) hA 104 rfl rfl (by decide) rfl rfl rfl (by kernel_rfl) (by kernel_rfl) (by kernel_rfl) (fun _ _ _ h => h) hS (fun wx hwx => R_mov hA rfl rfl _) (fun a hA => ?_)
    refine takeFg (i := 10) hA 105 rfl rfl (by decide) rfl rfl rfl (by kernel_rfl) (by kernel_rfl) (by kernel_rfl) (fun _ _ _ h => h) hS (fun wx hwx => R_row hA rfl rfl (B3.below hwx) Try.underlying25 (by kernel_rfl)) (fun a hA => ?_)
    refine takeFg (i := 12) hA 107 rfl rfl (by decide) rfl rfl rfl (by kernel_rfl) (by kernel_rfl) (by kernel_rfl) (fun _ _ _ h => h) hS (fun wx hwx => R_mov hA rfl rfl _) (fun a hA => ?_)
    refine takeFg (i := 13) hA 108 rfl rfl (by decide) rfl rfl rfl (by kernel_rfl) (by kernel_rfl) (by kernel_rfl) (fun _ _ _ h => h) hS (fun wx hwx => R_and hA rfl rfl rfl _) (fun a hA => ?_)
    refine takeFg (i := 14) hA 109 rfl rfl (by decide) rfl rfl rfl (by kernel_rfl) (by kernel_rfl) (by kernel_rfl) (fun _ _ _ h => h) hS (fun wx hwx => R_row hA rfl rfl (B3.below hwx) Try.underlying25 (by kernel_rfl)) (fun a hA => ?_)
    refine wpAnyH_ready (rs := [11]) (by kernel_rfl) (by simp) (ready_gcall (i := 11) hA (by decide) rfl rfl rfl (fun _ _ => by kernel_rfl) (args2 hA rfl rfl) (full_any x s hx sk _) (fun _ h => hS.trans (h.mono hS.size)) (fun w21 hw a hA => ?_) AllReadyH.nil)
    replace hS := hS.trans (hw.mono hS.size)
    clear hw
    refine wpAnyH_ready (rs := [15]) (by kernel_rfl) (by simp) (ready_gcall (i := 15) hA (by decide) rfl rfl rfl (fun _ _ => by kernel_rfl) (args2 hA rfl rfl) (full_any _ s (bz_inA _ _) sk _) (fun _ h => hS.trans (h.mono hS.size)) (fun w22 hw a hA => ?_) AllReadyH.nil)
    replace hS := hS.trans (hw.mono hS.size)
    clear hw
    refine takeFg (i := 16) hA 111 rfl rfl (by decide) rfl rfl rfl (by kernel_rfl) (by kernel_rfl) (by kernel_rfl) (fun _ _ _ h => h) hS (fun wx hwx => R_eqlBT hA rfl rfl rfl true (by rw [full_low]; simp) _) (fun a hA => ?_)
    refine takeF (i := 17) hA 112 rfl rfl (by decide) rfl (by kernel_rfl) (by kernel_rfl) (by kernel_rfl) (fun _ _ _ h => h) hS (fun wx hwx => R_pick hA rfl rfl rfl _) (fun a hA => ?_)
    refine takeF (i := 18) hA 4 rfl rfl (by decide) rfl (by kernel_rfl) (by kernel_rfl) (by kernel_rfl) (fun _ _ _ h => h) hS (fun wx hwx => R_asg hA rfl rfl _) (fun a hA => ?_)
    refine wpAnyH_done (by kernel_rfl) ?_ _
    replace B3 := B3.below hS
    replace B5 := B5.below hS
    replace HB := HB.trans (hS.mono HB.size)
    clear hS
    refine then_nrm ?_
    show Code.wp Try.prog _ _ _ _
    refine wp_ret ?_
    exact ret_tmp (j := 4) (by kernel_rfl) hA (by decide) rfl ⟨rfl, HB⟩
  refine W_gskip hA rfl rfl rfl 66 rfl (by decide) (fun a hA => ?_)
  refine W_gskip hA rfl rfl rfl 67 rfl (by decide) (fun a hA => ?_)
  refine W_val hA rfl 68 rfl (by decide) _ _ (R_pick hA rfl rfl rfl _) (fun a hA => ?_)
  refine W_val hA rfl 69 rfl (by decide) _ _ (R_mov hA rfl rfl _) (fun a hA => ?_)
  refine W_gskip hA rfl rfl rfl 70 rfl (by decide) (fun a hA => ?_)
  refine W_gskip hA rfl rfl rfl 71 rfl (by decide) (fun a hA => ?_)
  refine W_gskip hA rfl rfl rfl 72 rfl (by decide) (fun a hA => ?_)
  refine W_val hA rfl 73 rfl (by decide) _ _ (R_pick hA rfl rfl rfl _) (fun a hA => ?_)
  refine W_val hA rfl 74 rfl (by decide) _ _ (R_mov hA rfl rfl _) (fun a hA => ?_)
  refine W_gskip hA rfl rfl rfl 75 rfl (by decide) (fun a hA => ?_)
  refine W_val hA rfl 76 rfl (by decide) _ _ (R_pick hA rfl rfl rfl _) (fun a hA => ?_)
  refine W_nil ?_
  refine then_nrm ?_
  show Code.wp Try.prog _ _ _ _
  refine wp_cond_false (hA.ev (x := .tmp 76) rfl) ?_
  refine wp_skip ?_
  refine then_nrm ?_
  show Code.wp Try.prog _ _ _ _
  refine wp_seq ?_
  refine wp_region_held_drew (S := fun wx => Below w9.heap.size w9 wx) (by kernel_rfl) ((Below.refl _ _).drew) (fun hS => ?_)
  refine takeF (i := 0) hA 95 rfl rfl (by decide) rfl (by kernel_rfl) (by kernel_rfl) (by kernel_rfl) (fun _ _ _ h => h) hS (fun wx hwx => R_mov hA rfl rfl _) (fun a hA => ?_)
  refine takeF (i := 1) hA 96 rfl rfl (by decide) rfl (by kernel_rfl) (by kernel_rfl) (by kernel_rfl) (fun _ _ _ h => h) hS (fun wx hwx => R_row hA rfl rfl (B3.below hwx) Try.underlying25 (by kernel_rfl)) (fun a hA => ?_)
  refine takeF (i := 3) hA 98 rfl rfl (by decide) rfl (by kernel_rfl) (by kernel_rfl) (by kernel_rfl) (fun _ _ _ h => h) hS (fun wx hwx => R_mov hA rfl rfl _) (fun a hA => ?_)
  refine takeF (i := 4) hA 99 rfl rfl (by decide) rfl (by kernel_rfl) (by kernel_rfl) (by kernel_rfl) (fun _ _ _ h => h) hS (fun wx hwx => R_and hA rfl rfl rfl _) (fun a hA => ?_)
  refine takeF (i := 5) hA 100 rfl rfl (by decide) rfl (by kernel_rfl) (by kernel_rfl) (by kernel_rfl) (fun _ _ _ h => h) hS (fun wx hwx => R_row hA rfl rfl (B3.below hwx) Try.underlying25 (by kernel_rfl)) (fun a hA => ?_)
  refine wpAnyH_ready (rs := [2]) (by kernel_rfl) (by simp) (ready_call (i := 2) hA (by decide) rfl (fun _ _ => by kernel_rfl) (args2 hA rfl rfl) (allow_any x s hx sk _) (fun _ h => hS.trans (h.mono hS.size)) (fun w23 hw a hA => ?_) AllReadyH.nil)
  replace hS := hS.trans (hw.mono hS.size)
  clear hw
  refine wpAnyH_ready (rs := [6]) (by kernel_rfl) (by simp) (ready_call (i := 6) hA (by decide) rfl (fun _ _ => by kernel_rfl) (args2 hA rfl rfl) (allow_any _ s (bz_inA _ _) sk _) (fun _ h => hS.trans (h.mono hS.size)) (fun w24 hw a hA => ?_) AllReadyH.nil)
  replace hS := hS.trans (hw.mono hS.size)
  clear hw
  refine takeF (i := 7) hA 102 rfl rfl (by decide) rfl (by kernel_rfl) (by kernel_rfl) (by kernel_rfl) (fun _ _ _ h => h) hS (fun wx hwx => R_eqlBT hA rfl rfl rfl true (by rw [allow_low]; simp) _) (fun a hA => ?_)
  refine takeF (i := 8) hA 103 rfl rfl (by decide) rfl (by kernel_rfl) (by kernel_rfl) (by kernel_rfl) (fun _ _ _ h => h) hS (fun wx hwx => R_mov hA rfl rfl _) (fun a hA => ?_)
  refine takeFg (i := 9) hA 104 rfl rfl (by decide) rfl rfl rfl (by kernel_rfl) (by kernel_rfl) (by kernel_rfl) (fun _ _ _ h => h) hS (fun wx hwx => R_mov hA rfl rfl _) (fun a hA => ?_)
  refine takeFg (i := 10) hA 105 rfl rfl (by decide) rfl rfl rfl (by kernel_rfl) (by kernel_rfl) (by kernel_rfl) (fun _ _ _ h => h) hS (fun wx hwx => R_row hA rfl rfl (B3.below hwx) Try.underlying25 (by kernel_rfl)) (fun a hA => ?_)
  refine takeFg (i := 12) hA 107 rfl rfl (by decide) rfl rfl rfl (by kernel_rfl) (by kernel_rfl) (by kernel_rfl) (fun _ _ _ h => h) hS (fun wx hwx => R_mov hA rfl rfl _) (fun a hA => ?_)
  refine takeFg (i := 13) hA 108 rfl rfl (by decide) rfl rfl rfl (by kernel_rfl) (by kernel_rfl) (by kernel_rfl) (fun _ _ _ h => h) hS (fun wx hwx => R_and hA rfl rfl rfl _) (fun a hA => ?_)
  refine takeFg (i := 14) hA 109 rfl rfl (by decide) rfl rfl rfl (by kernel_rfl) (by kernel_rfl) (by kernel_rfl) (fun _ _ _ h => h) hS (fun wx hwx => R_row hA rfl rfl (B3.below hwx) Try.underlying25 (by kernel_rfl)) (fun a hA => ?_)
  refine wpAnyH_ready (rs := [11]) (by kernel_rfl) (by simp) (ready_gcall (i := 11) hA (by decide) rfl rfl rfl (fun _ _ => by kernel_rfl) (args2 hA rfl rfl) (full_any x s hx sk _) (fun _ h => hS.trans (h.mono hS.size)) (fun w25 hw a hA => ?_) AllReadyH.nil)
  replace hS := hS.trans (hw.mono hS.size)
  clear hw
  refine wpAnyH_ready (rs := [15]) (by kernel_rfl) (by simp) (ready_gcall (i := 15) hA (by decide) rfl rfl rfl (fun _ _ => by kernel_rfl) (args2 hA rfl rfl) (full_any _ s (bz_inA _ _) sk _) (fun _ h => hS.trans (h.mono hS.size)) (fun w26 hw a hA => ?_) AllReadyH.nil)
  replace hS := hS.trans (hw.mono hS.size)
  clear hw
  refine takeFg (i := 16) hA 111 rfl rfl (by decide) rfl rfl rfl (by kernel_rfl) (by kernel_rfl) (by kernel_rfl) (fun _ _ _ h => h) hS (fun wx hwx => R_eqlBT hA rfl rfl rfl true (by rw [full_low]; simp) _) (fun a hA => ?_)
  refine takeF (i := 17) hA 112 rfl rfl (by decide) rfl (by kernel_rfl) (by kernel_rfl) (by kernel_rfl) (fun _ _ _ h => h) hS (fun wx hwx => R_pick hA rfl rfl rfl _) (fun a hA => ?_)
  refine takeF (i := 18) hA 4 rfl rfl (by decide) rfl (by kernel_rfl) (by kernel_rfl) (by kernel_rfl) (fun _ _ _ h => h) hS (fun wx hwx => R_asg hA rfl rfl _) (fun a hA => ?_)
  refine wpAnyH_done (by kernel_rfl) ?_ _
  replace B3 := B3.below hS
  replace B5 := B5.below hS
  replace HB := HB.trans (hS.mono HB.size)
  clear hS
  refine then_nrm ?_
  show Code.wp Try.prog _ _ _ _
  refine wp_ret ?_
  exact ret_tmp (j := 4) (by kernel_rfl) hA (by decide) rfl ⟨rfl, HB⟩
set_option maxHeartbeats 8000000 in
theorem pteMarks_t (x : Int) (s : WS) (w : World) (hx : In64 x) (sk : WOk s) (h : allowB x s = true) : Calls Try.prog 7 #[.int .u64 x, wantV s] w fun e w' => e = .returned (.bool true) ∧ Below w.heap.size w w' := by
  have HB := Below.refl w.heap.size w
  go_enter Try.func7, Try.ntmps7
  refine begin_fr [(1, wantV s), (0, .int .u64 x)] 113 ?_ (fun a hA => ?_)
  · exact FrA.add (FrA.add (FrA.nil (by rfl) (by rfl)) 0 _ (by rfl)) 1 _ (by rfl)
  refine wp_seq ?_
  refine wp_region_list ?_
  refine W_boxT (cs := wantC s) hA rfl 3 rfl (by decide) rfl rfl (fun w1 bB3 a hA hb B3 gB3 => ?_)
  replace gB3 := Nat.le_trans HB.size gB3
  replace HB := HB.trans (hb.mono HB.size)
  clear hb
  refine W_val hA rfl 4 rfl (by decide) _ _ (R_asg hA rfl rfl _) (fun a hA => ?_)
  refine W_nil ?_
  refine then_nrm ?_
  show Code.wp Try.prog _ _ _ _
  refine wp_seq ?_
  refine wp_seq ?_
  refine wp_region_list ?_
  refine W_callA hA (by decide) (fun _ _ => by kernel_rfl) (args0 ) (awake_any _) (fun w2 hw a hA => ?_)
  replace HB := HB.trans (hw.mono HB.size)
  replace B3 := B3.below hw
  clear hw
  refine W_val hA rfl 9 rfl (by decide) _ _ (R_not hA rfl rfl _) (fun a hA => ?_)
  refine W_nil ?_
  refine then_nrm ?_
  show Code.wp Try.prog _ _ _ _
  refine wp_cond_false (hA.ev (x := .tmp 9) rfl) ?_
  refine wp_skip ?_
  refine then_nrm ?_
  show Code.wp Try.prog _ _ _ _
  refine wp_seq ?_
  refine wp_region_list ?_
  refine W_val hA rfl 10 rfl (by decide) _ _ (R_row hA rfl rfl B3 Try.underlying25 (by kernel_rfl)) (fun a hA => ?_)
  refine W_allocT (cs := #[.int .u8 0, .bool false, .int .u8 0, .bool false, .bool false, .bool false, .bool false]) hA rfl 5 rfl (by decide) rfl zero_want (fun w3 bB5 a hA hb B5 gB5 => ?_)
  have nB3B5 : bB3 < bB5 := by have := B3.lt; omega
  replace gB5 := Nat.le_trans HB.size gB5
  replace HB := HB.trans (hb.mono HB.size)
  replace B3 := B3.below hb
  clear hb
  refine W_cpT (cs := wantC s) hA rfl rfl rfl rfl rfl B5 (by kernel_rfl) rfl (by simp [Value.oneCell']) (fun w4 hT HN => ?_)
  replace HB := HB.trans (hT.bel _ gB5)
  replace B3 := hT.row B3 (by omega)
  replace B5 := HN
  clear hT HN
  refine W_nil ?_
  refine then_nrm ?_
  show Code.wp Try.prog _ _ _ _
  refine wp_seq ?_
  refine wp_region_list ?_
  refine W_val hA rfl 11 rfl (by decide) _ _ (R_fa hA rfl rfl (fun w => fa_want _ 4 (by decide) w) _) (fun a hA => ?_)
  refine W_stT (cs' := #[.int .u8 s.kind, .bool s.ex, .int .u8 s.priv, .bool s.v, .bool true, .bool s.mxr, .bool s.vmxr]) hA rfl rfl rfl rfl rfl B5 (stT_b B5 _ rfl) rfl (fun w5 hT HN => ?_)
  replace HB := HB.trans (hT.bel _ gB5)
  replace B3 := hT.row B3 (by omega)
  replace B5 := HN
  clear hT HN
  refine W_nil ?_
  refine then_nrm ?_
  show Code.wp Try.prog _ _ _ _
  refine wp_seq ?_
  refine wp_region_list ?_
  refine W_val hA rfl 12 rfl (by decide) _ _ (R_fa hA rfl rfl (fun w => fa_want _ 5 (by decide) w) _) (fun a hA => ?_)
  refine W_stT (cs' := #[.int .u8 s.kind, .bool s.ex, .int .u8 s.priv, .bool s.v, .bool true, .bool true, .bool s.vmxr]) hA rfl rfl rfl rfl rfl B5 (stT_b B5 _ rfl) rfl (fun w6 hT HN => ?_)
  replace HB := HB.trans (hT.bel _ gB5)
  replace B3 := hT.row B3 (by omega)
  replace B5 := HN
  clear hT HN
  refine W_nil ?_
  refine then_nrm ?_
  show Code.wp Try.prog _ _ _ _
  refine wp_seq ?_
  refine wp_region_list ?_
  refine W_val hA rfl 13 rfl (by decide) _ _ (R_fa hA rfl rfl (fun w => fa_want _ 6 (by decide) w) _) (fun a hA => ?_)
  refine W_stT (cs' := #[.int .u8 s.kind, .bool s.ex, .int .u8 s.priv, .bool s.v, .bool true, .bool true, .bool true]) hA rfl rfl rfl rfl rfl B5 (stT_b B5 _ rfl) rfl (fun w7 hT HN => ?_)
  replace HB := HB.trans (hT.bel _ gB5)
  replace B3 := hT.row B3 (by omega)
  replace B5 := HN
  clear hT HN
  replace B5 : RowC w7 bB5 25 (wantC s.more) := B5
  refine W_nil ?_
  refine then_nrm ?_
  show Code.wp Try.prog _ _ _ _
  refine wp_seq ?_
  refine wp_region_list ?_
  refine W_val hA rfl 14 rfl (by decide) _ _ (R_mov hA rfl rfl _) (fun a hA => ?_)
  refine W_val hA rfl 15 rfl (by decide) _ _ (R_row hA rfl rfl B3 Try.underlying25 (by kernel_rfl)) (fun a hA => ?_)
  refine W_callA hA (by decide) (fun _ _ => by kernel_rfl) (args2 hA rfl rfl) (allow_to hx sk h _) (fun w8 hw a hA => ?_)
  replace HB := HB.trans (hw.mono HB.size)
  replace B3 := B3.below hw
  replace B5 := B5.below hw
  clear hw
  refine W_val hA rfl 6 rfl (by decide) _ _ (R_asg hA rfl rfl _) (fun a hA => ?_)
  refine W_nil ?_
  refine then_nrm ?_
  show Code.wp Try.prog _ _ _ _
  refine wp_seq ?_
  refine wp_seq ?_
  refine wp_region_list ?_
  refine W_val hA rfl 17 rfl (by decide) _ _ (R_mov hA rfl rfl _) (fun a hA => ?_)
  refine W_val hA rfl 18 rfl (by decide) _ _ (R_mov hA rfl rfl _) (fun a hA => ?_)
  refine W_gval hA rfl rfl rfl 19 rfl (by decide) _ _ (R_mov hA rfl rfl _) (fun a hA => ?_)
  refine W_gval hA rfl rfl rfl 20 rfl (by decide) _ _ (R_row hA rfl rfl B5 Try.underlying25 (by kernel_rfl)) (fun a hA => ?_)
  refine W_gcallB hA rfl rfl (by decide) (fun _ _ => by kernel_rfl) (args2 hA rfl rfl) (allow_to (s := s.more) hx (ok_more sk) (allow_more h) _) (fun w9 hw a hA => ?_)
  replace HB := HB.trans (hw.mono HB.size)
  replace B3 := B3.below hw
  replace B5 := B5.below hw
  clear hw
  refine W_gval hA rfl rfl rfl 22 rfl (by decide) _ _ (R_not hA rfl rfl _) (fun a hA => ?_)
  refine W_val hA rfl 23 rfl (by decide) _ _ (R_pick hA rfl rfl rfl _) (fun a hA => ?_)
  refine W_val hA rfl 24 rfl (by decide) _ _ (R_mov hA rfl rfl _) (fun a hA => ?_)
  refine W_gval hA rfl rfl rfl 25 rfl (by decide) _ _ (R_mov hA rfl rfl _) (fun a hA => ?_)
  refine W_gval hA rfl rfl rfl 26 rfl (by decide) _ _ (R_mov hA rfl rfl _) (fun a hA => ?_)
  refine W_gval hA rfl rfl rfl 27 rfl (by decide) _ _ (R_fa hA rfl rfl (fun w => fa_want _ 2 (by decide) w) _) (fun a hA => ?_)
  refine W_gval hA rfl rfl rfl 28 rfl (by decide) _ _ (R_ld (v := .int .u8 s.priv) hA rfl rfl ag_u8 (RowC.cell B3 2 _ rfl)) (fun a hA => ?_)
  refine W_gval hA rfl rfl rfl 29 rfl (by decide) _ _ (R_eqlB hA rfl rfl rfl _) (fun a hA => ?_)
  refine W_gval hA rfl rfl rfl 30 rfl (by decide) _ _ (R_pick hA rfl rfl rfl _) (fun a hA => ?_)
  refine W_gval hA rfl rfl rfl 31 rfl (by decide) _ _ (R_mov hA rfl rfl _) (fun a hA => ?_)
  refine W_split hA 31 rfl (fun c1 hA => ?_) (fun c1 hA => ?_)
  · skip
    refine W_gval hA rfl rfl rfl 32 rfl (by decide) _ _ (R_mov hA rfl rfl _) (fun a hA => ?_)
    refine W_gval hA rfl rfl rfl 33 rfl (by decide) _ _ (R_and hA rfl rfl rfl _) (fun a hA => ?_)
    refine W_gval hA rfl rfl rfl 34 rfl (by decide) _ _ (R_eqlUT hA rfl rfl rfl false (by rw [bz_eq x 16 4 (by decide) (by decide), allow_user h c1]; rfl) _) (fun a hA => ?_)
    refine W_gval hA rfl rfl rfl 35 rfl (by decide) _ _ (R_pick hA rfl rfl rfl _) (fun a hA => ?_)
    refine W_val hA rfl 36 rfl (by decide) _ _ (R_pick hA rfl rfl rfl _) (fun a hA => ?_)
    refine W_val hA rfl 37 rfl (by decide) _ _ (R_mov hA rfl rfl _) (fun a hA => ?_)
    refine W_gval hA rfl rfl rfl 38 rfl (by decide) _ _ (R_mov hA rfl rfl _) (fun a hA => ?_)
    refine W_gval hA rfl rfl rfl 39 rfl (by decide) _ _ (R_mov hA rfl rfl _) (fun a hA => ?_)
    refine W_gval hA rfl rfl rfl 40 rfl (by decide) _ _ (R_fa hA rfl rfl (fun w => fa_want _ 2 (by decide) w) _) (fun a hA => ?_)
    refine W_gval hA rfl rfl rfl 41 rfl (by decide) _ _ (R_ld (v := .int .u8 s.priv) hA rfl rfl ag_u8 (RowC.cell B3 2 _ rfl)) (fun a hA => ?_)
    refine W_gval hA rfl rfl rfl 42 rfl (by decide) _ _ (R_neqB hA rfl rfl rfl _) (fun a hA => ?_)
    refine W_gval hA rfl rfl rfl 43 rfl (by decide) _ _ (R_pick hA rfl rfl rfl _) (fun a hA => ?_)
    refine W_gval hA rfl rfl rfl 44 rfl (by decide) _ _ (R_mov hA rfl rfl _) (fun a hA => ?_)
    refine W_split hA 44 rfl (fun c2 hA => ?_) (fun c2 hA => ?_)
    · skip
      refine W_gval hA rfl rfl rfl 45 rfl (by decide) _ _ (R_fa hA rfl rfl (fun w => fa_want _ 0 (by decide) w) _) (fun a hA => ?_)
      refine W_gval hA rfl rfl rfl 46 rfl (by decide) _ _ (R_ld (v := .int .u8 s.kind) hA rfl rfl ag_u8 (RowC.cell B3 0 _ rfl)) (fun a hA => ?_)
      refine W_gval hA rfl rfl rfl 47 rfl (by decide) _ _ (R_eqlB hA rfl rfl rfl _) (fun a hA => ?_)
      refine W_gval hA rfl rfl rfl 48 rfl (by decide) _ _ (R_pick hA rfl rfl rfl _) (fun a hA => ?_)
      refine W_gval hA rfl rfl rfl 49 rfl (by decide) _ _ (R_mov hA rfl rfl _) (fun a hA => ?_)
      refine W_split hA 49 rfl (fun c3 hA => ?_) (fun c3 hA => ?_)
      · skip
        refine W_gval hA rfl rfl rfl 50 rfl (by decide) _ _ (R_mov hA rfl rfl _) (fun a hA => ?_)
        refine W_gval hA rfl rfl rfl 51 rfl (by decide) _ _ (R_and hA rfl rfl rfl _) (fun a hA => ?_)
        refine W_gval hA rfl rfl rfl 52 rfl (by decide) _ _ (R_neqUT hA rfl rfl rfl false (by rw [bz_ne x 16 4 (by decide) (by decide)]; exact allow_fetch h c2 c3) _) (fun a hA => ?_)
        refine W_gval hA rfl rfl rfl 53 rfl (by decide) _ _ (R_pick hA rfl rfl rfl _) (fun a hA => ?_)
        refine W_val hA rfl 54 rfl (by decide) _ _ (R_pick hA rfl rfl rfl _) (fun a hA => ?_)
        refine W_val hA rfl 55 rfl (by decide) _ _ (R_mov hA rfl rfl _) (fun a hA => ?_)
        refine W_gval hA rfl rfl rfl 56 rfl (by decide) _ _ (R_mov hA rfl rfl _) (fun a hA => ?_)
        refine W_gval hA rfl rfl rfl 57 rfl (by decide) _ _ (R_mov hA rfl rfl _) (fun a hA => ?_)
        refine W_gval hA rfl rfl rfl 58 rfl (by decide) _ _ (R_fa hA rfl rfl (fun w => fa_want _ 0 (by decide) w) _) (fun a hA => ?_)
        refine W_gval hA rfl rfl rfl 59 rfl (by decide) _ _ (R_ld (v := .int .u8 s.kind) hA rfl rfl ag_u8 (RowC.cell B3 0 _ rfl)) (fun a hA => ?_)
        refine W_gval hA rfl rfl rfl 60 rfl (by decide) _ _ (R_gtrBT hA rfl rfl rfl false (allow_kind h) _) (fun a hA => ?_)
        refine W_gval hA rfl rfl rfl 61 rfl (by decide) _ _ (R_pick hA rfl rfl rfl _) (fun a hA => ?_)
        refine W_val hA rfl 62 rfl (by decide) _ _ (R_pick hA rfl rfl rfl _) (fun a hA => ?_)
        refine W_nil ?_
        refine then_nrm ?_
        show Code.wp Try.prog _ _ _ _
        refine wp_cond_false (hA.ev (x := .tmp 62) rfl) ?_
        refine wp_skip ?_
        refine then_nrm ?_
        show Code.wp Try.prog _ _ _ _
        refine wp_seq ?_
        refine wp_seq ?_
        refine wp_region_list ?_
        refine W_val hA rfl 63 rfl (by decide) _ _ (R_mov hA rfl rfl _) (fun a hA => ?_)
        refine W_callA hA (by decide) (fun _ _ => by kernel_rfl) (args1 hA rfl) (ok_any x hx _) (fun w10 hw a hA => ?_)
        replace HB := HB.trans (hw.mono HB.size)
        replace B3 := B3.below hw
        replace B5 := B5.below hw
        clear hw
        refine W_val hA rfl 65 rfl (by decide) _ _ (R_mov hA rfl rfl _) (fun a hA => ?_)
        refine W_split hA 65 rfl (fun c4 hA => ?_) (fun c4 hA => ?_)
        · skip
          refine W_gval hA rfl rfl rfl 66 rfl (by decide) _ _ (R_mov hA rfl rfl _) (fun a hA => ?_)
          refine W_gcallB hA rfl rfl (by decide) (fun _ _ => by kernel_rfl) (args1 hA rfl) (leaf_any x hx _) (fun w11 hw a hA => ?_)
          replace HB := HB.trans (hw.mono HB.size)
          replace B3 := B3.below hw
          replace B5 := B5.below hw
          clear hw
          refine W_val hA rfl 68 rfl (by decide) _ _ (R_pick hA rfl rfl rfl _) (fun a hA => ?_)
          refine W_val hA rfl 69 rfl (by decide) _ _ (R_mov hA rfl rfl _) (fun a hA => ?_)
          refine W_split hA 69 rfl (fun c5 hA => ?_) (fun c5 hA => ?_)
          · skip
            refine W_gval hA rfl rfl rfl 70 rfl (by decide) _ _ (R_fa hA rfl rfl (fun w => fa_want _ 0 (by decide) w) _) (fun a hA => ?_)
            refine W_gval hA rfl rfl rfl 71 rfl (by decide) _ _ (R_ld (v := .int .u8 s.kind) hA rfl rfl ag_u8 (RowC.cell B3 0 _ rfl)) (fun a hA => ?_)
            refine W_gval hA rfl rfl rfl 72 rfl (by decide) _ _ (R_eqlB hA rfl rfl rfl _) (fun a hA => ?_)
            refine W_val hA rfl 73 rfl (by decide) _ _ (R_pick hA rfl rfl rfl _) (fun a hA => ?_)
            refine W_val hA rfl 74 rfl (by decide) _ _ (R_mov hA rfl rfl _) (fun a hA => ?_)
            refine W_split hA 74 rfl (fun c6 hA => ?_) (fun c6 hA => ?_)
            · skip
              refine W_gval hA rfl rfl rfl 75 rfl (by decide) _ _ (R_mov hA rfl rfl _) (fun a hA => ?_)
              refine W_val hA rfl 76 rfl (by decide) _ _ (R_pick hA rfl rfl rfl _) (fun a hA => ?_)
              refine W_nil ?_
              refine then_nrm ?_
              show Code.wp Try.prog _ _ _ _
              refine wp_cond_true (hA.ev (x := .tmp 76) rfl) ?_
              refine wp_seq ?_
              refine wp_region_list ?_
              refine W_val hA rfl 77 rfl (by decide) _ _ (R_row hA rfl rfl B3 Try.underlying25 (by kernel_rfl)) (fun a hA => ?_)
              refine W_allocT (cs := #[.int .u8 0, .bool false, .int .u8 0, .bool false, .bool false, .bool false, .bool false]) hA rfl 7 rfl (by decide) rfl zero_want (fun w12 bB7 a hA hb B7 gB7 => ?_)
              have nB3B7 : bB3 < bB7 := by have := B3.lt; omega
              have nB5B7 : bB5 < bB7 := by have := B5.lt; omega
              replace gB7 := Nat.le_trans HB.size gB7
              replace HB := HB.trans (hb.mono HB.size)
              replace B3 := B3.below hb
              replace B5 := B5.below hb
              clear hb
              refine W_cpT (cs := wantC s) hA rfl rfl rfl rfl rfl B7 (by kernel_rfl) rfl (by simp [Value.oneCell']) (fun w13 hT HN => ?_)
              replace HB := HB.trans (hT.bel _ gB7)
              replace B3 := hT.row B3 (by omega)
              replace B5 := hT.row B5 (by omega)
              replace B7 := HN
              clear hT HN
              refine W_nil ?_
              refine then_nrm ?_
              show Code.wp Try.prog _ _ _ _
              refine wp_seq ?_
              refine wp_region_list ?_
              refine W_val hA rfl 78 rfl (by decide) _ _ (R_fa hA rfl rfl (fun w => fa_want _ 0 (by decide) w) _) (fun a hA => ?_)
              refine W_stT (cs' := #[.int .u8 0, .bool s.ex, .int .u8 s.priv, .bool s.v, .bool s.sum, .bool s.mxr, .bool s.vmxr]) hA rfl rfl rfl rfl rfl B7 (stT_B B7 _ rfl) rfl (fun w14 hT HN => ?_)
              replace HB := HB.trans (hT.bel _ gB7)
              replace B3 := hT.row B3 (by omega)
              replace B5 := hT.row B5 (by omega)
              replace B7 := HN
              clear hT HN
              refine W_nil ?_
              refine then_nrm ?_
              show Code.wp Try.prog _ _ _ _
              refine wp_seq ?_
              refine wp_region_list ?_
              refine W_val hA rfl 79 rfl (by decide) _ _ (R_fa hA rfl rfl (fun w => fa_want _ 1 (by decide) w) _) (fun a hA => ?_)
              refine W_stT (cs' := #[.int .u8 0, .bool false, .int .u8 s.priv, .bool s.v, .bool s.sum, .bool s.mxr, .bool s.vmxr]) hA rfl rfl rfl rfl rfl B7 (stT_b B7 _ rfl) rfl (fun w15 hT HN => ?_)
              replace HB := HB.trans (hT.bel _ gB7)
              replace B3 := hT.row B3 (by omega)
              replace B5 := hT.row B5 (by omega)
              replace B7 := HN
              clear hT HN
              replace B7 : RowC w15 bB7 25 (wantC s.load) := B7
              refine W_nil ?_
              refine then_nrm ?_
              show Code.wp Try.prog _ _ _ _
              refine wp_seq ?_
              refine wp_region_list ?_
              refine W_val hA rfl 80 rfl (by decide) _ _ (R_mov hA rfl rfl _) (fun a hA => ?_)
              refine W_val hA rfl 81 rfl (by decide) _ _ (R_row hA rfl rfl B7 Try.underlying25 (by kernel_rfl)) (fun a hA => ?_)
              refine W_callA hA (by decide) (fun _ _ => by kernel_rfl) (args2 hA rfl rfl) (allow_to (s := s.load) hx (ok_load sk) (allow_load h c4 c6) _) (fun w16 hw a hA => ?_)
              replace HB := HB.trans (hw.mono HB.size)
              replace B3 := B3.below hw
              replace B5 := B5.below hw
              replace B7 := B7.below hw
              clear hw
              refine W_val hA rfl 83 rfl (by decide) _ _ (R_not hA rfl rfl _) (fun a hA => ?_)
              refine W_val hA rfl 84 rfl (by decide) _ _ (R_mov hA rfl rfl _) (fun a hA => ?_)
              refine W_gval hA rfl rfl rfl 85 rfl (by decide) _ _ (R_mov hA rfl rfl _) (fun a hA => ?_)
              refine W_gval hA rfl rfl rfl 86 rfl (by decide) _ _ (R_row hA rfl rfl B3 Try.underlying25 (by kernel_rfl)) (fun a hA => ?_)
              refine W_gcallB hA rfl rfl (by decide) (fun _ _ => by kernel_rfl) (args2 hA rfl rfl) (full_any x s hx sk _) (fun w17 hw a hA => ?_)
              replace HB := HB.trans (hw.mono HB.size)
              replace B3 := B3.below hw
              replace B5 := B5.below hw
              replace B7 := B7.below hw
              clear hw
              refine W_gval hA rfl rfl rfl 88 rfl (by decide) _ _ (R_mov hA rfl rfl _) (fun a hA => ?_)
              refine W_split hA 88 rfl (fun c7 hA => ?_) (fun c7 hA => ?_)
              · skip
                refine W_gval hA rfl rfl rfl 89 rfl (by decide) _ _ (R_mov hA rfl rfl _) (fun a hA => ?_)
                refine W_gval hA rfl rfl rfl 90 rfl (by decide) _ _ (R_row hA rfl rfl B7 Try.underlying25 (by kernel_rfl)) (fun a hA => ?_)
                refine W_gcallB hA rfl rfl (by decide) (fun _ _ => by kernel_rfl) (args2 hA rfl rfl) (full_to (s := s.load) hx (ok_load sk) (full_load c7) _) (fun w18 hw a hA => ?_)
                replace HB := HB.trans (hw.mono HB.size)
                replace B3 := B3.below hw
                replace B5 := B5.below hw
                replace B7 := B7.below hw
                clear hw
                refine W_gval hA rfl rfl rfl 92 rfl (by decide) _ _ (R_not hA rfl rfl _) (fun a hA => ?_)
                refine W_gval hA rfl rfl rfl 93 rfl (by decide) _ _ (R_pick hA rfl rfl rfl _) (fun a hA => ?_)
                refine W_val hA rfl 94 rfl (by decide) _ _ (R_pick hA rfl rfl rfl _) (fun a hA => ?_)
                refine W_nil ?_
                refine then_nrm ?_
                show Code.wp Try.prog _ _ _ _
                refine wp_cond_false (hA.ev (x := .tmp 94) rfl) ?_
                refine wp_skip ?_
                refine then_nrm ?_
                show Code.wp Try.prog _ _ _ _
                refine wp_seq ?_
                refine wp_region_held_drew (S := fun wx => Below w18.heap.size w18 wx) (by kernel_rfl) ((Below.refl _ _).drew) (fun hS => ?_)
                refine takeF (i := 0) hA 95 rfl rfl (by decide) rfl (by kernel_rfl) (by kernel_rfl) (by kernel_rfl) (fun _ _ _ h => h) hS (fun wx hwx => R_mov hA rfl rfl _) (fun a hA => ?_)
                refine takeF (i := 1) hA 96 rfl rfl (by decide) rfl (by kernel_rfl) (by kernel_rfl) (by kernel_rfl) (fun _ _ _ h => h) hS (fun wx hwx => R_row hA rfl rfl (B3.below hwx) Try.underlying25 (by kernel_rfl)) (fun a hA => ?_)
                refine takeF (i := 3) hA 98 rfl rfl (by decide) rfl (by kernel_rfl) (by kernel_rfl) (by kernel_rfl) (fun _ _ _ h => h) hS (fun wx hwx => R_mov hA rfl rfl _) (fun a hA => ?_)
                refine takeF (i := 4) hA 99 rfl rfl (by decide) rfl (by kernel_rfl) (by kernel_rfl) (by kernel_rfl) (fun _ _ _ h => h) hS (fun wx hwx => R_and hA rfl rfl rfl _) (fun a hA => ?_)
                refine takeF (i := 5) hA 100 rfl rfl (by decide) rfl (by kernel_rfl) (by kernel_rfl) (by kernel_rfl) (fun _ _ _ h => h) hS (fun wx hwx => R_row hA rfl rfl (B3.below hwx) Try.underlying25 (by kernel_rfl)) (fun a hA => ?_)
                refine wpAnyH_ready (rs := [2]) (by kernel_rfl) (by simp) (ready_call (i := 2) hA (by decide) rfl (fun _ _ => by kernel_rfl) (args2 hA rfl rfl) (allow_any x s hx sk _) (fun _ h => hS.trans (h.mono hS.size)) (fun w19 hw a hA => ?_) AllReadyH.nil)
                replace hS := hS.trans (hw.mono hS.size)
                clear hw
                refine wpAnyH_ready (rs := [6]) (by kernel_rfl) (by simp) (ready_call (i := 6) hA (by decide) rfl (fun _ _ => by kernel_rfl) (args2 hA rfl rfl) (allow_any _ s (bz_inA _ _) sk _) (fun _ h => hS.trans (h.mono hS.size)) (fun w20 hw a hA => ?_) AllReadyH.nil)
                replace hS := hS.trans (hw.mono hS.size)
                clear hw
                refine takeF (i := 7) hA 102 rfl rfl (by decide) rfl (by kernel_rfl) (by kernel_rfl) (by kernel_rfl) (fun _ _ _ h => h) hS (fun wx hwx => R_eqlBT hA rfl rfl rfl true (by rw [allow_low]; simp) _) (fun a hA => ?_)
                refine takeF (i := 8) hA 103 rfl rfl (by decide) rfl (by kernel_rfl) (by kernel_rfl) (by kernel_rfl) (fun _ _ _ h => h) hS (fun wx hwx => R_mov hA rfl rfl _) (fun a hA => ?_)
                refine takeFg (i := 9) hA 104 rfl rfl (by decide) rfl rfl rfl (by kernel_rfl) (by kernel_rfl) (by kernel_rfl) (fun _ _ _ h => h) hS (fun wx hwx => R_mov hA rfl rfl _) (fun a hA => ?_)
                refine takeFg (i := 10) hA 105 rfl rfl (by decide) rfl rfl rfl (by kernel_rfl) (by kernel_rfl) (by kernel_rfl) (fun _ _ _ h => h) hS (fun wx hwx => R_row hA rfl rfl (B3.below hwx) Try.underlying25 (by kernel_rfl)) (fun a hA => ?_)
                refine takeFg (i := 12) hA 107 rfl rfl (by decide) rfl rfl rfl (by kernel_rfl) (by kernel_rfl) (by kernel_rfl) (fun _ _ _ h => h) hS (fun wx hwx => R_mov hA rfl rfl _) (fun a hA => ?_)
                refine takeFg (i := 13) hA 108 rfl rfl (by decide) rfl rfl rfl (by kernel_rfl) (by kernel_rfl) (by kernel_rfl) (fun _ _ _ h => h) hS (fun wx hwx => R_and hA rfl rfl rfl _) (fun a hA => ?_)
                refine takeFg (i := 14) hA 109 rfl rfl (by decide) rfl rfl rfl (by kernel_rfl) (by kernel_rfl) (by kernel_rfl) (fun _ _ _ h => h) hS (fun wx hwx => R_row hA rfl rfl (B3.below hwx) Try.underlying25 (by kernel_rfl)) (fun a hA => ?_)
                refine wpAnyH_ready (rs := [11]) (by kernel_rfl) (by simp) (ready_gcall (i := 11) hA (by decide) rfl rfl rfl (fun _ _ => by kernel_rfl) (args2 hA rfl rfl) (full_any x s hx sk _) (fun _ h => hS.trans (h.mono hS.size)) (fun w21 hw a hA => ?_) AllReadyH.nil)
                replace hS := hS.trans (hw.mono hS.size)
                clear hw
                refine wpAnyH_ready (rs := [15]) (by kernel_rfl) (by simp) (ready_gcall (i := 15) hA (by decide) rfl rfl rfl (fun _ _ => by kernel_rfl) (args2 hA rfl rfl) (full_any _ s (bz_inA _ _) sk _) (fun _ h => hS.trans (h.mono hS.size)) (fun w22 hw a hA => ?_) AllReadyH.nil)
                replace hS := hS.trans (hw.mono hS.size)
                clear hw
                refine takeFg (i := 16) hA 111 rfl rfl (by decide) rfl rfl rfl (by kernel_rfl) (by kernel_rfl) (by kernel_rfl) (fun _ _ _ h => h) hS (fun wx hwx => R_eqlBT hA rfl rfl rfl true (by rw [full_low]; simp) _) (fun a hA => ?_)
                refine takeF (i := 17) hA 112 rfl rfl (by decide) rfl (by kernel_rfl) (by kernel_rfl) (by kernel_rfl) (fun _ _ _ h => h) hS (fun wx hwx => R_pick hA rfl rfl rfl _) (fun a hA => ?_)
                refine takeF (i := 18) hA 4 rfl rfl (by decide) rfl (by kernel_rfl) (by kernel_rfl) (by kernel_rfl) (fun _ _ _ h => h) hS (fun wx hwx => R_asg hA rfl rfl _) (fun a hA => ?_)
                refine wpAnyH_done (by kernel_rfl) ?_ _
                replace B3 := B3.below hS
                replace B5 := B5.below hS
                replace B7 := B7.below hS
                replace HB := HB.trans (hS.mono HB.size)
                clear hS
                refine then_nrm ?_
                show Code.wp Try.prog _ _ _ _
                refine wp_ret ?_
                exact ret_tmp (j := 4) (by kernel_rfl) hA (by decide) rfl ⟨rfl, HB⟩
              refine W_gskip hA rfl rfl rfl 89 rfl (by decide) (fun a hA => ?_)
              refine W_gskip hA rfl rfl rfl 90 rfl (by decide) (fun a hA => ?_)
              refine W_gskip hA rfl rfl rfl 91 rfl (by decide) (fun a hA => ?_)
              refine W_gskip hA rfl rfl rfl 92 rfl (by decide) (fun a hA => ?_)
              refine W_gval hA rfl rfl rfl 93 rfl (by decide) _ _ (R_pick hA rfl rfl rfl _) (fun a hA => ?_)
              refine W_val hA rfl 94 rfl (by decide) _ _ (R_pick hA rfl rfl rfl _) (fun a hA => ?_)
              refine W_nil ?_
              refine then_nrm ?_
              show Code.wp Try.prog _ _ _ _
              refine wp_cond_false (hA.ev (x := .tmp 94) rfl) ?_
              refine wp_skip ?_
              refine then_nrm ?_
              show Code.wp Try.prog _ _ _ _
              refine wp_seq ?_
              refine wp_region_held_drew (S := fun wx => Below w17.heap.size w17 wx) (by kernel_rfl) ((Below.refl _ _).drew) (fun hS => ?_)
              refine takeF (i := 0) hA 95 rfl rfl (by decide) rfl (by kernel_rfl) (by kernel_rfl) (by kernel_rfl) (fun _ _ _ h => h) hS (fun wx hwx => R_mov hA rfl rfl _) (fun a hA => ?_)
              refine takeF (i := 1) hA 96 rfl rfl (by decide) rfl (by kernel_rfl) (by kernel_rfl) (by kernel_rfl) (fun _ _ _ h => h) hS (fun wx hwx => R_row hA rfl rfl (B3.below hwx) Try.underlying25 (by kernel_rfl)) (fun a hA => ?_)
              refine takeF (i := 3) hA 98 rfl rfl (by decide) rfl (by kernel_rfl) (by kernel_rfl) (by kernel_rfl) (fun _ _ _ h => h) hS (fun wx hwx => R_mov hA rfl rfl _) (fun a hA => ?_)
              refine takeF (i := 4) hA 99 rfl rfl (by decide) rfl (by kernel_rfl) (by kernel_rfl) (by kernel_rfl) (fun _ _ _ h => h) hS (fun wx hwx => R_and hA rfl rfl rfl _) (fun a hA => ?_)
              refine takeF (i := 5) hA 100 rfl rfl (by decide) rfl (by kernel_rfl) (by kernel_rfl) (by kernel_rfl) (fun _ _ _ h => h) hS (fun wx hwx => R_row hA rfl rfl (B3.below hwx) Try.underlying25 (by kernel_rfl)) (fun a hA => ?_)
              refine wpAnyH_ready (rs := [2]) (by kernel_rfl) (by simp) (ready_call (i := 2) hA (by decide) rfl (fun _ _ => by kernel_rfl) (args2 hA rfl rfl) (allow_any x s hx sk _) (fun _ h => hS.trans (h.mono hS.size)) (fun w23 hw a hA => ?_) AllReadyH.nil)
              replace hS := hS.trans (hw.mono hS.size)
              clear hw
              refine wpAnyH_ready (rs := [6]) (by kernel_rfl) (by simp) (ready_call (i := 6) hA (by decide) rfl (fun _ _ => by kernel_rfl) (args2 hA rfl rfl) (allow_any _ s (bz_inA _ _) sk _) (fun _ h => hS.trans (h.mono hS.size)) (fun w24 hw a hA => ?_) AllReadyH.nil)
              replace hS := hS.trans (hw.mono hS.size)
              clear hw
              refine takeF (i := 7) hA 102 rfl rfl (by decide) rfl (by kernel_rfl) (by kernel_rfl) (by kernel_rfl) (fun _ _ _ h => h) hS (fun wx hwx => R_eqlBT hA rfl rfl rfl true (by rw [allow_low]; simp) _) (fun a hA => ?_)
              refine takeF (i := 8) hA 103 rfl rfl (by decide) rfl (by kernel_rfl) (by kernel_rfl) (by kernel_rfl) (fun _ _ _ h => h) hS (fun wx hwx => R_mov hA rfl rfl _) (fun a hA => ?_)
              refine takeFg (i := 9) hA 104 rfl rfl (by decide) rfl rfl rfl (by kernel_rfl) (by kernel_rfl) (by kernel_rfl) (fun _ _ _ h => h) hS (fun wx hwx => R_mov hA rfl rfl _) (fun a hA => ?_)
              refine takeFg (i := 10) hA 105 rfl rfl (by decide) rfl rfl rfl (by kernel_rfl) (by kernel_rfl) (by kernel_rfl) (fun _ _ _ h => h) hS (fun wx hwx => R_row hA rfl rfl (B3.below hwx) Try.underlying25 (by kernel_rfl)) (fun a hA => ?_)
              refine takeFg (i := 12) hA 107 rfl rfl (by decide) rfl rfl rfl (by kernel_rfl) (by kernel_rfl) (by kernel_rfl) (fun _ _ _ h => h) hS (fun wx hwx => R_mov hA rfl rfl _) (fun a hA => ?_)
              refine takeFg (i := 13) hA 108 rfl rfl (by decide) rfl rfl rfl (by kernel_rfl) (by kernel_rfl) (by kernel_rfl) (fun _ _ _ h => h) hS (fun wx hwx => R_and hA rfl rfl rfl _) (fun a hA => ?_)
              refine takeFg (i := 14) hA 109 rfl rfl (by decide) rfl rfl rfl (by kernel_rfl) (by kernel_rfl) (by kernel_rfl) (fun _ _ _ h => h) hS (fun wx hwx => R_row hA rfl rfl (B3.below hwx) Try.underlying25 (by kernel_rfl)) (fun a hA => ?_)
              refine wpAnyH_ready (rs := [11]) (by kernel_rfl) (by simp) (ready_gcall (i := 11) hA (by decide) rfl rfl rfl (fun _ _ => by kernel_rfl) (args2 hA rfl rfl) (full_any x s hx sk _) (fun _ h => hS.trans (h.mono hS.size)) (fun w25 hw a hA => ?_) AllReadyH.nil)
              replace hS := hS.trans (hw.mono hS.size)
              clear hw
              refine wpAnyH_ready (rs := [15]) (by kernel_rfl) (by simp) (ready_gcall (i := 15) hA (by decide) rfl rfl rfl (fun _ _ => by kernel_rfl) (args2 hA rfl rfl) (full_any _ s (bz_inA _ _) sk _) (fun _ h => hS.trans (h.mono hS.size)) (fun w26 hw a hA => ?_) AllReadyH.nil)
              replace hS := hS.trans (hw.mono hS.size)
              clear hw
              refine takeFg (i := 16) hA 111 rfl rfl (by decide) rfl rfl rfl (by kernel_rfl) (by kernel_rfl) (by kernel_rfl) (fun _ _ _ h => h) hS (fun wx hwx => R_eqlBT hA rfl rfl rfl true (by rw [full_low]; simp) _) (fun a hA => ?_)
              refine takeF (i := 17) hA 112 rfl rfl (by decide) rfl (by kernel_rfl) (by kernel_rfl) (by kernel_rfl) (fun _ _ _ h => h) hS (fun wx hwx => R_pick hA rfl rfl rfl _) (fun a hA => ?_)
              refine takeF (i := 18) hA 4 rfl rfl (by decide) rfl (by kernel_rfl) (by kernel_rfl) (by kernel_rfl) (fun _ _ _ h => h) hS (fun wx hwx => R_asg hA rfl rfl _) (fun a hA => ?_)
              refine wpAnyH_done (by kernel_rfl) ?_ _
              replace B3 := B3.below hS
              replace B5 := B5.below hS
              replace B7 := B7.below hS
              replace HB := HB.trans (hS.mono HB.size)
              clear hS
              refine then_nrm ?_
              show Code.wp Try.prog _ _ _ _
              refine wp_ret ?_
              exact ret_tmp (j := 4) (by kernel_rfl) hA (by decide) rfl ⟨rfl, HB⟩
            refine W_gskip hA rfl rfl rfl 75 rfl (by decide) (fun a hA => ?_)
            refine W_val hA rfl 76 rfl (by decide) _ _ (R_pick hA rfl rfl rfl _) (fun a hA => ?_)
            refine W_nil ?_
            refine then_nrm ?_
            show Code.wp Try.prog _ _ _ _
            refine wp_cond_false (hA.ev (x := .tmp 76) rfl) ?_
            refine wp_skip ?_
            refine then_nrm ?_
            show Code.wp Try.prog _ _ _ _
            refine wp_seq ?_
            refine wp_region_held_drew (S := fun wx => Below w11.heap.size w11 wx) (by kernel_rfl) ((Below.refl _ _).drew) (fun hS => ?_)
            refine takeF (i := 0) hA 95 rfl rfl (by decide) rfl (by kernel_rfl) (by kernel_rfl) (by kernel_rfl) (fun _ _ _ h => h) hS (fun wx hwx => R_mov hA rfl rfl _) (fun a hA => ?_)
            refine takeF (i := 1) hA 96 rfl rfl (by decide) rfl (by kernel_rfl) (by kernel_rfl) (by kernel_rfl) (fun _ _ _ h => h) hS (fun wx hwx => R_row hA rfl rfl (B3.below hwx) Try.underlying25 (by kernel_rfl)) (fun a hA => ?_)
            refine takeF (i := 3) hA 98 rfl rfl (by decide) rfl (by kernel_rfl) (by kernel_rfl) (by kernel_rfl) (fun _ _ _ h => h) hS (fun wx hwx => R_mov hA rfl rfl _) (fun a hA => ?_)
            refine takeF (i := 4) hA 99 rfl rfl (by decide) rfl (by kernel_rfl) (by kernel_rfl) (by kernel_rfl) (fun _ _ _ h => h) hS (fun wx hwx => R_and hA rfl rfl rfl _) (fun a hA => ?_)
            refine takeF (i := 5) hA 100 rfl rfl (by decide) rfl (by kernel_rfl) (by kernel_rfl) (by kernel_rfl) (fun _ _ _ h => h) hS (fun wx hwx => R_row hA rfl rfl (B3.below hwx) Try.underlying25 (by kernel_rfl)) (fun a hA => ?_)
            refine wpAnyH_ready (rs := [2]) (by kernel_rfl) (by simp) (ready_call (i := 2) hA (by decide) rfl (fun _ _ => by kernel_rfl) (args2 hA rfl rfl) (allow_any x s hx sk _) (fun _ h => hS.trans (h.mono hS.size)) (fun w27 hw a hA => ?_) AllReadyH.nil)
            replace hS := hS.trans (hw.mono hS.size)
            clear hw
            refine wpAnyH_ready (rs := [6]) (by kernel_rfl) (by simp) (ready_call (i := 6) hA (by decide) rfl (fun _ _ => by kernel_rfl) (args2 hA rfl rfl) (allow_any _ s (bz_inA _ _) sk _) (fun _ h => hS.trans (h.mono hS.size)) (fun w28 hw a hA => ?_) AllReadyH.nil)
            replace hS := hS.trans (hw.mono hS.size)
            clear hw
            refine takeF (i := 7) hA 102 rfl rfl (by decide) rfl (by kernel_rfl) (by kernel_rfl) (by kernel_rfl) (fun _ _ _ h => h) hS (fun wx hwx => R_eqlBT hA rfl rfl rfl true (by rw [allow_low]; simp) _) (fun a hA => ?_)
            refine takeF (i := 8) hA 103 rfl rfl (by decide) rfl (by kernel_rfl) (by kernel_rfl) (by kernel_rfl) (fun _ _ _ h => h) hS (fun wx hwx => R_mov hA rfl rfl _) (fun a hA => ?_)
            refine takeFg (i := 9) hA 104 rfl rfl (by decide) rfl rfl rfl (by kernel_rfl) (by kernel_rfl) (by kernel_rfl) (fun _ _ _ h => h) hS (fun wx hwx => R_mov hA rfl rfl _) (fun a hA => ?_)
            refine takeFg (i := 10) hA 105 rfl rfl (by decide) rfl rfl rfl (by kernel_rfl) (by kernel_rfl) (by kernel_rfl) (fun _ _ _ h => h) hS (fun wx hwx => R_row hA rfl rfl (B3.below hwx) Try.underlying25 (by kernel_rfl)) (fun a hA => ?_)
            refine takeFg (i := 12) hA 107 rfl rfl (by decide) rfl rfl rfl (by kernel_rfl) (by kernel_rfl) (by kernel_rfl) (fun _ _ _ h => h) hS (fun wx hwx => R_mov hA rfl rfl _) (fun a hA => ?_)
            refine takeFg (i := 13) hA 108 rfl rfl (by decide) rfl rfl rfl (by kernel_rfl) (by kernel_rfl) (by kernel_rfl) (fun _ _ _ h => h) hS (fun wx hwx => R_and hA rfl rfl rfl _) (fun a hA => ?_)
            refine takeFg (i := 14) hA 109 rfl rfl (by decide) rfl rfl rfl (by kernel_rfl) (by kernel_rfl) (by kernel_rfl) (fun _ _ _ h => h) hS (fun wx hwx => R_row hA rfl rfl (B3.below hwx) Try.underlying25 (by kernel_rfl)) (fun a hA => ?_)
            refine wpAnyH_ready (rs := [11]) (by kernel_rfl) (by simp) (ready_gcall (i := 11) hA (by decide) rfl rfl rfl (fun _ _ => by kernel_rfl) (args2 hA rfl rfl) (full_any x s hx sk _) (fun _ h => hS.trans (h.mono hS.size)) (fun w29 hw a hA => ?_) AllReadyH.nil)
            replace hS := hS.trans (hw.mono hS.size)
            clear hw
            refine wpAnyH_ready (rs := [15]) (by kernel_rfl) (by simp) (ready_gcall (i := 15) hA (by decide) rfl rfl rfl (fun _ _ => by kernel_rfl) (args2 hA rfl rfl) (full_any _ s (bz_inA _ _) sk _) (fun _ h => hS.trans (h.mono hS.size)) (fun w30 hw a hA => ?_) AllReadyH.nil)
            replace hS := hS.trans (hw.mono hS.size)
            clear hw
            refine takeFg (i := 16) hA 111 rfl rfl (by decide) rfl rfl rfl (by kernel_rfl) (by kernel_rfl) (by kernel_rfl) (fun _ _ _ h => h) hS (fun wx hwx => R_eqlBT hA rfl rfl rfl true (by rw [full_low]; simp) _) (fun a hA => ?_)
            refine takeF (i := 17) hA 112 rfl rfl (by decide) rfl (by kernel_rfl) (by kernel_rfl) (by kernel_rfl) (fun _ _ _ h => h) hS (fun wx hwx => R_pick hA rfl rfl rfl _) (fun a hA => ?_)
            refine takeF (i := 18) hA 4 rfl rfl (by decide) rfl (by kernel_rfl) (by kernel_rfl) (by kernel_rfl) (fun _ _ _ h => h) hS (fun wx hwx => R_asg hA rfl rfl _) (fun a hA => ?_)
            refine wpAnyH_done (by kernel_rfl) ?_ _
            replace B3 := B3.below hS
            replace B5 := B5.below hS
            replace HB := HB.trans (hS.mono HB.size)
            clear hS
            refine then_nrm ?_
            show Code.wp Try.prog _ _ _ _
            refine wp_ret ?_
            exact ret_tmp (j := 4) (by kernel_rfl) hA (by decide) rfl ⟨rfl, HB⟩
          refine W_gskip hA rfl rfl rfl 70 rfl (by decide) (fun a hA => ?_)
          refine W_gskip hA rfl rfl rfl 71 rfl (by decide) (fun a hA => ?_)
          refine W_gskip hA rfl rfl rfl 72 rfl (by decide) (fun a hA => ?_)
          refine W_val hA rfl 73 rfl (by decide) _ _ (R_pick hA rfl rfl rfl _) (fun a hA => ?_)
          refine W_val hA rfl 74 rfl (by decide) _ _ (R_mov hA rfl rfl _) (fun a hA => ?_)
          refine W_gskip hA rfl rfl rfl 75 rfl (by decide) (fun a hA => ?_)
          refine W_val hA rfl 76 rfl (by decide) _ _ (R_pick hA rfl rfl rfl _) (fun a hA => ?_)
          refine W_nil ?_
          refine then_nrm ?_
          show Code.wp Try.prog _ _ _ _
          refine wp_cond_false (hA.ev (x := .tmp 76) rfl) ?_
          refine wp_skip ?_
          refine then_nrm ?_
          show Code.wp Try.prog _ _ _ _
          refine wp_seq ?_
          refine wp_region_held_drew (S := fun wx => Below w11.heap.size w11 wx) (by kernel_rfl) ((Below.refl _ _).drew) (fun hS => ?_)
          refine takeF (i := 0) hA 95 rfl rfl (by decide) rfl (by kernel_rfl) (by kernel_rfl) (by kernel_rfl) (fun _ _ _ h => h) hS (fun wx hwx => R_mov hA rfl rfl _) (fun a hA => ?_)
          refine takeF (i := 1) hA 96 rfl rfl (by decide) rfl (by kernel_rfl) (by kernel_rfl) (by kernel_rfl) (fun _ _ _ h => h) hS (fun wx hwx => R_row hA rfl rfl (B3.below hwx) Try.underlying25 (by kernel_rfl)) (fun a hA => ?_)
          refine takeF (i := 3) hA 98 rfl rfl (by decide) rfl (by kernel_rfl) (by kernel_rfl) (by kernel_rfl) (fun _ _ _ h => h) hS (fun wx hwx => R_mov hA rfl rfl _) (fun a hA => ?_)
          refine takeF (i := 4) hA 99 rfl rfl (by decide) rfl (by kernel_rfl) (by kernel_rfl) (by kernel_rfl) (fun _ _ _ h => h) hS (fun wx hwx => R_and hA rfl rfl rfl _) (fun a hA => ?_)
          refine takeF (i := 5) hA 100 rfl rfl (by decide) rfl (by kernel_rfl) (by kernel_rfl) (by kernel_rfl) (fun _ _ _ h => h) hS (fun wx hwx => R_row hA rfl rfl (B3.below hwx) Try.underlying25 (by kernel_rfl)) (fun a hA => ?_)
          refine wpAnyH_ready (rs := [2]) (by kernel_rfl) (by simp) (ready_call (i := 2) hA (by decide) rfl (fun _ _ => by kernel_rfl) (args2 hA rfl rfl) (allow_any x s hx sk _) (fun _ h => hS.trans (h.mono hS.size)) (fun w31 hw a hA => ?_) AllReadyH.nil)
          replace hS := hS.trans (hw.mono hS.size)
          clear hw
          refine wpAnyH_ready (rs := [6]) (by kernel_rfl) (by simp) (ready_call (i := 6) hA (by decide) rfl (fun _ _ => by kernel_rfl) (args2 hA rfl rfl) (allow_any _ s (bz_inA _ _) sk _) (fun _ h => hS.trans (h.mono hS.size)) (fun w32 hw a hA => ?_) AllReadyH.nil)
          replace hS := hS.trans (hw.mono hS.size)
          clear hw
          refine takeF (i := 7) hA 102 rfl rfl (by decide) rfl (by kernel_rfl) (by kernel_rfl) (by kernel_rfl) (fun _ _ _ h => h) hS (fun wx hwx => R_eqlBT hA rfl rfl rfl true (by rw [allow_low]; simp) _) (fun a hA => ?_)
          refine takeF (i := 8) hA 103 rfl rfl (by decide) rfl (by kernel_rfl) (by kernel_rfl) (by kernel_rfl) (fun _ _ _ h => h) hS (fun wx hwx => R_mov hA rfl rfl _) (fun a hA => ?_)
          refine takeFg (i := 9) hA 104 rfl rfl (by decide) rfl rfl rfl (by kernel_rfl) (by kernel_rfl) (by kernel_rfl) (fun _ _ _ h => h) hS (fun wx hwx => R_mov hA rfl rfl _) (fun a hA => ?_)
          refine takeFg (i := 10) hA 105 rfl rfl (by decide) rfl rfl rfl (by kernel_rfl) (by kernel_rfl) (by kernel_rfl) (fun _ _ _ h => h) hS (fun wx hwx => R_row hA rfl rfl (B3.below hwx) Try.underlying25 (by kernel_rfl)) (fun a hA => ?_)
          refine takeFg (i := 12) hA 107 rfl rfl (by decide) rfl rfl rfl (by kernel_rfl) (by kernel_rfl) (by kernel_rfl) (fun _ _ _ h => h) hS (fun wx hwx => R_mov hA rfl rfl _) (fun a hA => ?_)
          refine takeFg (i := 13) hA 108 rfl rfl (by decide) rfl rfl rfl (by kernel_rfl) (by kernel_rfl) (by kernel_rfl) (fun _ _ _ h => h) hS (fun wx hwx => R_and hA rfl rfl rfl _) (fun a hA => ?_)
          refine takeFg (i := 14) hA 109 rfl rfl (by decide) rfl rfl rfl (by kernel_rfl) (by kernel_rfl) (by kernel_rfl) (fun _ _ _ h => h) hS (fun wx hwx => R_row hA rfl rfl (B3.below hwx) Try.underlying25 (by kernel_rfl)) (fun a hA => ?_)
          refine wpAnyH_ready (rs := [11]) (by kernel_rfl) (by simp) (ready_gcall (i := 11) hA (by decide) rfl rfl rfl (fun _ _ => by kernel_rfl) (args2 hA rfl rfl) (full_any x s hx sk _) (fun _ h => hS.trans (h.mono hS.size)) (fun w33 hw a hA => ?_) AllReadyH.nil)
          replace hS := hS.trans (hw.mono hS.size)
          clear hw
          refine wpAnyH_ready (rs := [15]) (by kernel_rfl) (by simp) (ready_gcall (i := 15) hA (by decide) rfl rfl rfl (fun _ _ => by kernel_rfl) (args2 hA rfl rfl) (full_any _ s (bz_inA _ _) sk _) (fun _ h => hS.trans (h.mono hS.size)) (fun w34 hw a hA => ?_) AllReadyH.nil)
          replace hS := hS.trans (hw.mono hS.size)
          clear hw
          refine takeFg (i := 16) hA 111 rfl rfl (by decide) rfl rfl rfl (by kernel_rfl) (by kernel_rfl) (by kernel_rfl) (fun _ _ _ h => h) hS (fun wx hwx => R_eqlBT hA rfl rfl rfl true (by rw [full_low]; simp) _) (fun a hA => ?_)
          refine takeF (i := 17) hA 112 rfl rfl (by decide) rfl (by kernel_rfl) (by kernel_rfl) (by kernel_rfl) (fun _ _ _ h => h) hS (fun wx hwx => R_pick hA rfl rfl rfl _) (fun a hA => ?_)
          refine takeF (i := 18) hA 4 rfl rfl (by decide) rfl (by kernel_rfl) (by kernel_rfl) (by kernel_rfl) (fun _ _ _ h => h) hS (fun wx hwx => R_asg hA rfl rfl _) (fun a hA => ?_)
          refine wpAnyH_done (by kernel_rfl) ?_ _
          replace B3 := B3.below hS
          replace B5 := B5.below hS
          replace HB := HB.trans (hS.mono HB.size)
          clear hS
          refine then_nrm ?_
          show Code.wp Try.prog _ _ _ _
          refine wp_ret ?_
          exact ret_tmp (j := 4) (by kernel_rfl) hA (by decide) rfl ⟨rfl, HB⟩
        refine W_gskip hA rfl rfl rfl 66 rfl (by decide) (fun a hA => ?_)
        refine W_gskip hA rfl rfl rfl 67 rfl (by decide) (fun a hA => ?_)
        refine W_val hA rfl 68 rfl (by decide) _ _ (R_pick hA rfl rfl rfl _) (fun a hA => ?_)
        refine W_val hA rfl 69 rfl (by decide) _ _ (R_mov hA rfl rfl _) (fun a hA => ?_)
        refine W_gskip hA rfl rfl rfl 70 rfl (by decide) (fun a hA => ?_)
        refine W_gskip hA rfl rfl rfl 71 rfl (by decide) (fun a hA => ?_)
        refine W_gskip hA rfl rfl rfl 72 rfl (by decide) (fun a hA => ?_)
        refine W_val hA rfl 73 rfl (by decide) _ _ (R_pick hA rfl rfl rfl _) (fun a hA => ?_)
        refine W_val hA rfl 74 rfl (by decide) _ _ (R_mov hA rfl rfl _) (fun a hA => ?_)
        refine W_gskip hA rfl rfl rfl 75 rfl (by decide) (fun a hA => ?_)
        refine W_val hA rfl 76 rfl (by decide) _ _ (R_pick hA rfl rfl rfl _) (fun a hA => ?_)
        refine W_nil ?_
        refine then_nrm ?_
        show Code.wp Try.prog _ _ _ _
        refine wp_cond_false (hA.ev (x := .tmp 76) rfl) ?_
        refine wp_skip ?_
        refine then_nrm ?_
        show Code.wp Try.prog _ _ _ _
        refine wp_seq ?_
        refine wp_region_held_drew (S := fun wx => Below w10.heap.size w10 wx) (by kernel_rfl) ((Below.refl _ _).drew) (fun hS => ?_)
        refine takeF (i := 0) hA 95 rfl rfl (by decide) rfl (by kernel_rfl) (by kernel_rfl) (by kernel_rfl) (fun _ _ _ h => h) hS (fun wx hwx => R_mov hA rfl rfl _) (fun a hA => ?_)
        refine takeF (i := 1) hA 96 rfl rfl (by decide) rfl (by kernel_rfl) (by kernel_rfl) (by kernel_rfl) (fun _ _ _ h => h) hS (fun wx hwx => R_row hA rfl rfl (B3.below hwx) Try.underlying25 (by kernel_rfl)) (fun a hA => ?_)
        refine takeF (i := 3) hA 98 rfl rfl (by decide) rfl (by kernel_rfl) (by kernel_rfl) (by kernel_rfl) (fun _ _ _ h => h) hS (fun wx hwx => R_mov hA rfl rfl _) (fun a hA => ?_)
        refine takeF (i := 4) hA 99 rfl rfl (by decide) rfl (by kernel_rfl) (by kernel_rfl) (by kernel_rfl) (fun _ _ _ h => h) hS (fun wx hwx => R_and hA rfl rfl rfl _) (fun a hA => ?_)
        refine takeF (i := 5) hA 100 rfl rfl (by decide) rfl (by kernel_rfl) (by kernel_rfl) (by kernel_rfl) (fun _ _ _ h => h) hS (fun wx hwx => R_row hA rfl rfl (B3.below hwx) Try.underlying25 (by kernel_rfl)) (fun a hA => ?_)
        refine wpAnyH_ready (rs := [2]) (by kernel_rfl) (by simp) (ready_call (i := 2) hA (by decide) rfl (fun _ _ => by kernel_rfl) (args2 hA rfl rfl) (allow_any x s hx sk _) (fun _ h => hS.trans (h.mono hS.size)) (fun w35 hw a hA => ?_) AllReadyH.nil)
        replace hS := hS.trans (hw.mono hS.size)
        clear hw
        refine wpAnyH_ready (rs := [6]) (by kernel_rfl) (by simp) (ready_call (i := 6) hA (by decide) rfl (fun _ _ => by kernel_rfl) (args2 hA rfl rfl) (allow_any _ s (bz_inA _ _) sk _) (fun _ h => hS.trans (h.mono hS.size)) (fun w36 hw a hA => ?_) AllReadyH.nil)
        replace hS := hS.trans (hw.mono hS.size)
        clear hw
        refine takeF (i := 7) hA 102 rfl rfl (by decide) rfl (by kernel_rfl) (by kernel_rfl) (by kernel_rfl) (fun _ _ _ h => h) hS (fun wx hwx => R_eqlBT hA rfl rfl rfl true (by rw [allow_low]; simp) _) (fun a hA => ?_)
        refine takeF (i := 8) hA 103 rfl rfl (by decide) rfl (by kernel_rfl) (by kernel_rfl) (by kernel_rfl) (fun _ _ _ h => h) hS (fun wx hwx => R_mov hA rfl rfl _) (fun a hA => ?_)
        refine takeFg (i := 9) hA 104 rfl rfl (by decide) rfl rfl rfl (by kernel_rfl) (by kernel_rfl) (by kernel_rfl) (fun _ _ _ h => h) hS (fun wx hwx => R_mov hA rfl rfl _) (fun a hA => ?_)
        refine takeFg (i := 10) hA 105 rfl rfl (by decide) rfl rfl rfl (by kernel_rfl) (by kernel_rfl) (by kernel_rfl) (fun _ _ _ h => h) hS (fun wx hwx => R_row hA rfl rfl (B3.below hwx) Try.underlying25 (by kernel_rfl)) (fun a hA => ?_)
        refine takeFg (i := 12) hA 107 rfl rfl (by decide) rfl rfl rfl (by kernel_rfl) (by kernel_rfl) (by kernel_rfl) (fun _ _ _ h => h) hS (fun wx hwx => R_mov hA rfl rfl _) (fun a hA => ?_)
        refine takeFg (i := 13) hA 108 rfl rfl (by decide) rfl rfl rfl (by kernel_rfl) (by kernel_rfl) (by kernel_rfl) (fun _ _ _ h => h) hS (fun wx hwx => R_and hA rfl rfl rfl _) (fun a hA => ?_)
        refine takeFg (i := 14) hA 109 rfl rfl (by decide) rfl rfl rfl (by kernel_rfl) (by kernel_rfl) (by kernel_rfl) (fun _ _ _ h => h) hS (fun wx hwx => R_row hA rfl rfl (B3.below hwx) Try.underlying25 (by kernel_rfl)) (fun a hA => ?_)
        refine wpAnyH_ready (rs := [11]) (by kernel_rfl) (by simp) (ready_gcall (i := 11) hA (by decide) rfl rfl rfl (fun _ _ => by kernel_rfl) (args2 hA rfl rfl) (full_any x s hx sk _) (fun _ h => hS.trans (h.mono hS.size)) (fun w37 hw a hA => ?_) AllReadyH.nil)
        replace hS := hS.trans (hw.mono hS.size)
        clear hw
        refine wpAnyH_ready (rs := [15]) (by kernel_rfl) (by simp) (ready_gcall (i := 15) hA (by decide) rfl rfl rfl (fun _ _ => by kernel_rfl) (args2 hA rfl rfl) (full_any _ s (bz_inA _ _) sk _) (fun _ h => hS.trans (h.mono hS.size)) (fun w38 hw a hA => ?_) AllReadyH.nil)
        replace hS := hS.trans (hw.mono hS.size)
        clear hw
        refine takeFg (i := 16) hA 111 rfl rfl (by decide) rfl rfl rfl (by kernel_rfl) (by kernel_rfl) (by kernel_rfl) (fun _ _ _ h => h) hS (fun wx hwx => R_eqlBT hA rfl rfl rfl true (by rw [full_low]; simp) _) (fun a hA => ?_)
        refine takeF (i := 17) hA 112 rfl rfl (by decide) rfl (by kernel_rfl) (by kernel_rfl) (by kernel_rfl) (fun _ _ _ h => h) hS (fun wx hwx => R_pick hA rfl rfl rfl _) (fun a hA => ?_)
        refine takeF (i := 18) hA 4 rfl rfl (by decide) rfl (by kernel_rfl) (by kernel_rfl) (by kernel_rfl) (fun _ _ _ h => h) hS (fun wx hwx => R_asg hA rfl rfl _) (fun a hA => ?_)
        refine wpAnyH_done (by kernel_rfl) ?_ _
        replace B3 := B3.below hS
        replace B5 := B5.below hS
        replace HB := HB.trans (hS.mono HB.size)
        clear hS
        refine then_nrm ?_
        show Code.wp Try.prog _ _ _ _
        refine wp_ret ?_
        exact ret_tmp (j := 4) (by kernel_rfl) hA (by decide) rfl ⟨rfl, HB⟩
      refine W_gskip hA rfl rfl rfl 50 rfl (by decide) (fun a hA => ?_)
      refine W_gskip hA rfl rfl rfl 51 rfl (by decide) (fun a hA => ?_)
      refine W_gskip hA rfl rfl rfl 52 rfl (by decide) (fun a hA => ?_)
      refine W_gval hA rfl rfl rfl 53 rfl (by decide) _ _ (R_pick hA rfl rfl rfl _) (fun a hA => ?_)
      refine W_val hA rfl 54 rfl (by decide) _ _ (R_pick hA rfl rfl rfl _) (fun a hA => ?_)
      refine W_val hA rfl 55 rfl (by decide) _ _ (R_mov hA rfl rfl _) (fun a hA => ?_)
      refine W_gval hA rfl rfl rfl 56 rfl (by decide) _ _ (R_mov hA rfl rfl _) (fun a hA => ?_)
      refine W_gval hA rfl rfl rfl 57 rfl (by decide) _ _ (R_mov hA rfl rfl _) (fun a hA => ?_)
      refine W_gval hA rfl rfl rfl 58 rfl (by decide) _ _ (R_fa hA rfl rfl (fun w => fa_want _ 0 (by decide) w) _) (fun a hA => ?_)
      refine W_gval hA rfl rfl rfl 59 rfl (by decide) _ _ (R_ld (v := .int .u8 s.kind) hA rfl rfl ag_u8 (RowC.cell B3 0 _ rfl)) (fun a hA => ?_)
      refine W_gval hA rfl rfl rfl 60 rfl (by decide) _ _ (R_gtrBT hA rfl rfl rfl false (allow_kind h) _) (fun a hA => ?_)
      refine W_gval hA rfl rfl rfl 61 rfl (by decide) _ _ (R_pick hA rfl rfl rfl _) (fun a hA => ?_)
      refine W_val hA rfl 62 rfl (by decide) _ _ (R_pick hA rfl rfl rfl _) (fun a hA => ?_)
      refine W_nil ?_
      refine then_nrm ?_
      show Code.wp Try.prog _ _ _ _
      refine wp_cond_false (hA.ev (x := .tmp 62) rfl) ?_
      refine wp_skip ?_
      refine then_nrm ?_
      show Code.wp Try.prog _ _ _ _
      refine wp_seq ?_
      refine wp_seq ?_
      refine wp_region_list ?_
      refine W_val hA rfl 63 rfl (by decide) _ _ (R_mov hA rfl rfl _) (fun a hA => ?_)
      refine W_callA hA (by decide) (fun _ _ => by kernel_rfl) (args1 hA rfl) (ok_any x hx _) (fun w39 hw a hA => ?_)
      replace HB := HB.trans (hw.mono HB.size)
      replace B3 := B3.below hw
      replace B5 := B5.below hw
      clear hw
      refine W_val hA rfl 65 rfl (by decide) _ _ (R_mov hA rfl rfl _) (fun a hA => ?_)
      refine W_split hA 65 rfl (fun c8 hA => ?_) (fun c8 hA => ?_)
      · skip
        refine W_gval hA rfl rfl rfl 66 rfl (by decide) _ _ (R_mov hA rfl rfl _) (fun a hA => ?_)
        refine W_gcallB hA rfl rfl (by decide) (fun _ _ => by kernel_rfl) (args1 hA rfl) (leaf_any x hx _) (fun w40 hw a hA => ?_)
        replace HB := HB.trans (hw.mono HB.size)
        replace B3 := B3.below hw
        replace B5 := B5.below hw
        clear hw
        refine W_val hA rfl 68 rfl (by decide) _ _ (R_pick hA rfl rfl rfl _) (fun a hA => ?_)
        refine W_val hA rfl 69 rfl (by decide) _ _ (R_mov hA rfl rfl _) (fun a hA => ?_)
        refine W_split hA 69 rfl (fun c9 hA => ?_) (fun c9 hA => ?_)
        · skip
          refine W_gval hA rfl rfl rfl 70 rfl (by decide) _ _ (R_fa hA rfl rfl (fun w => fa_want _ 0 (by decide) w) _) (fun a hA => ?_)
          refine W_gval hA rfl rfl rfl 71 rfl (by decide) _ _ (R_ld (v := .int .u8 s.kind) hA rfl rfl ag_u8 (RowC.cell B3 0 _ rfl)) (fun a hA => ?_)
          refine W_gval hA rfl rfl rfl 72 rfl (by decide) _ _ (R_eqlB hA rfl rfl rfl _) (fun a hA => ?_)
          refine W_val hA rfl 73 rfl (by decide) _ _ (R_pick hA rfl rfl rfl _) (fun a hA => ?_)
          refine W_val hA rfl 74 rfl (by decide) _ _ (R_mov hA rfl rfl _) (fun a hA => ?_)
          refine W_split hA 74 rfl (fun c10 hA => ?_) (fun c10 hA => ?_)
          · skip
            refine W_gval hA rfl rfl rfl 75 rfl (by decide) _ _ (R_mov hA rfl rfl _) (fun a hA => ?_)
            refine W_val hA rfl 76 rfl (by decide) _ _ (R_pick hA rfl rfl rfl _) (fun a hA => ?_)
            refine W_nil ?_
            refine then_nrm ?_
            show Code.wp Try.prog _ _ _ _
            refine wp_cond_true (hA.ev (x := .tmp 76) rfl) ?_
            refine wp_seq ?_
            refine wp_region_list ?_
            refine W_val hA rfl 77 rfl (by decide) _ _ (R_row hA rfl rfl B3 Try.underlying25 (by kernel_rfl)) (fun a hA => ?_)
            refine W_allocT (cs := #[.int .u8 0, .bool false, .int .u8 0, .bool false, .bool false, .bool false, .bool false]) hA rfl 7 rfl (by decide) rfl zero_want (fun w41 bB7 a hA hb B7 gB7 => ?_)
            have nB3B7 : bB3 < bB7 := by have := B3.lt; omega
            have nB5B7 : bB5 < bB7 := by have := B5.lt; omega
            replace gB7 := Nat.le_trans HB.size gB7
            replace HB := HB.trans (hb.mono HB.size)
            replace B3 := B3.below hb
            replace B5 := B5.below hb
            clear hb
            refine W_cpT (cs := wantC s) hA rfl rfl rfl rfl rfl B7 (by kernel_rfl) rfl (by simp [Value.oneCell']) (fun w42 hT HN => ?_)
            replace HB := HB.trans (hT.bel _ gB7)
            replace B3 := hT.row B3 (by omega)
            replace B5 := hT.row B5 (by omega)
            replace B7 := HN
            clear hT HN
            refine W_nil ?_
            refine then_nrm ?_
            show Code.wp Try.prog _ _ _ _
            refine wp_seq ?_
            refine wp_region_list ?_
            refine W_val hA rfl 78 rfl (by decide) _ _ (R_fa hA rfl rfl (fun w => fa_want _ 0 (by decide) w) _) (fun a hA => ?_)
            refine W_stT (cs' := #[.int .u8 0, .bool s.ex, .int .u8 s.priv, .bool s.v, .bool s.sum, .bool s.mxr, .bool s.vmxr]) hA rfl rfl rfl rfl rfl B7 (stT_B B7 _ rfl) rfl (fun w43 hT HN => ?_)
            replace HB := HB.trans (hT.bel _ gB7)
            replace B3 := hT.row B3 (by omega)
            replace B5 := hT.row B5 (by omega)
            replace B7 := HN
            clear hT HN
            refine W_nil ?_
            refine then_nrm ?_
            show Code.wp Try.prog _ _ _ _
            refine wp_seq ?_
            refine wp_region_list ?_
            refine W_val hA rfl 79 rfl (by decide) _ _ (R_fa hA rfl rfl (fun w => fa_want _ 1 (by decide) w) _) (fun a hA => ?_)
            refine W_stT (cs' := #[.int .u8 0, .bool false, .int .u8 s.priv, .bool s.v, .bool s.sum, .bool s.mxr, .bool s.vmxr]) hA rfl rfl rfl rfl rfl B7 (stT_b B7 _ rfl) rfl (fun w44 hT HN => ?_)
            replace HB := HB.trans (hT.bel _ gB7)
            replace B3 := hT.row B3 (by omega)
            replace B5 := hT.row B5 (by omega)
            replace B7 := HN
            clear hT HN
            replace B7 : RowC w44 bB7 25 (wantC s.load) := B7
            refine W_nil ?_
            refine then_nrm ?_
            show Code.wp Try.prog _ _ _ _
            refine wp_seq ?_
            refine wp_region_list ?_
            refine W_val hA rfl 80 rfl (by decide) _ _ (R_mov hA rfl rfl _) (fun a hA => ?_)
            refine W_val hA rfl 81 rfl (by decide) _ _ (R_row hA rfl rfl B7 Try.underlying25 (by kernel_rfl)) (fun a hA => ?_)
            refine W_callA hA (by decide) (fun _ _ => by kernel_rfl) (args2 hA rfl rfl) (allow_to (s := s.load) hx (ok_load sk) (allow_load h c8 c10) _) (fun w45 hw a hA => ?_)
            replace HB := HB.trans (hw.mono HB.size)
            replace B3 := B3.below hw
            replace B5 := B5.below hw
            replace B7 := B7.below hw
            clear hw
            refine W_val hA rfl 83 rfl (by decide) _ _ (R_not hA rfl rfl _) (fun a hA => ?_)
            refine W_val hA rfl 84 rfl (by decide) _ _ (R_mov hA rfl rfl _) (fun a hA => ?_)
            refine W_gval hA rfl rfl rfl 85 rfl (by decide) _ _ (R_mov hA rfl rfl _) (fun a hA => ?_)
            refine W_gval hA rfl rfl rfl 86 rfl (by decide) _ _ (R_row hA rfl rfl B3 Try.underlying25 (by kernel_rfl)) (fun a hA => ?_)
            refine W_gcallB hA rfl rfl (by decide) (fun _ _ => by kernel_rfl) (args2 hA rfl rfl) (full_any x s hx sk _) (fun w46 hw a hA => ?_)
            replace HB := HB.trans (hw.mono HB.size)
            replace B3 := B3.below hw
            replace B5 := B5.below hw
            replace B7 := B7.below hw
            clear hw
            refine W_gval hA rfl rfl rfl 88 rfl (by decide) _ _ (R_mov hA rfl rfl _) (fun a hA => ?_)
            refine W_split hA 88 rfl (fun c11 hA => ?_) (fun c11 hA => ?_)
            · skip
              refine W_gval hA rfl rfl rfl 89 rfl (by decide) _ _ (R_mov hA rfl rfl _) (fun a hA => ?_)
              refine W_gval hA rfl rfl rfl 90 rfl (by decide) _ _ (R_row hA rfl rfl B7 Try.underlying25 (by kernel_rfl)) (fun a hA => ?_)
              refine W_gcallB hA rfl rfl (by decide) (fun _ _ => by kernel_rfl) (args2 hA rfl rfl) (full_to (s := s.load) hx (ok_load sk) (full_load c11) _) (fun w47 hw a hA => ?_)
              replace HB := HB.trans (hw.mono HB.size)
              replace B3 := B3.below hw
              replace B5 := B5.below hw
              replace B7 := B7.below hw
              clear hw
              refine W_gval hA rfl rfl rfl 92 rfl (by decide) _ _ (R_not hA rfl rfl _) (fun a hA => ?_)
              refine W_gval hA rfl rfl rfl 93 rfl (by decide) _ _ (R_pick hA rfl rfl rfl _) (fun a hA => ?_)
              refine W_val hA rfl 94 rfl (by decide) _ _ (R_pick hA rfl rfl rfl _) (fun a hA => ?_)
              refine W_nil ?_
              refine then_nrm ?_
              show Code.wp Try.prog _ _ _ _
              refine wp_cond_false (hA.ev (x := .tmp 94) rfl) ?_
              refine wp_skip ?_
              refine then_nrm ?_
              show Code.wp Try.prog _ _ _ _
              refine wp_seq ?_
              refine wp_region_held_drew (S := fun wx => Below w47.heap.size w47 wx) (by kernel_rfl) ((Below.refl _ _).drew) (fun hS => ?_)
              refine takeF (i := 0) hA 95 rfl rfl (by decide) rfl (by kernel_rfl) (by kernel_rfl) (by kernel_rfl) (fun _ _ _ h => h) hS (fun wx hwx => R_mov hA rfl rfl _) (fun a hA => ?_)
              refine takeF (i := 1) hA 96 rfl rfl (by decide) rfl (by kernel_rfl) (by kernel_rfl) (by kernel_rfl) (fun _ _ _ h => h) hS (fun wx hwx => R_row hA rfl rfl (B3.below hwx) Try.underlying25 (by kernel_rfl)) (fun a hA => ?_)
              refine takeF (i := 3) hA 98 rfl rfl (by decide) rfl (by kernel_rfl) (by kernel_rfl) (by kernel_rfl) (fun _ _ _ h => h) hS (fun wx hwx => R_mov hA rfl rfl _) (fun a hA => ?_)
              refine takeF (i := 4) hA 99 rfl rfl (by decide) rfl (by kernel_rfl) (by kernel_rfl) (by kernel_rfl) (fun _ _ _ h => h) hS (fun wx hwx => R_and hA rfl rfl rfl _) (fun a hA => ?_)
              refine takeF (i := 5) hA 100 rfl rfl (by decide) rfl (by kernel_rfl) (by kernel_rfl) (by kernel_rfl) (fun _ _ _ h => h) hS (fun wx hwx => R_row hA rfl rfl (B3.below hwx) Try.underlying25 (by kernel_rfl)) (fun a hA => ?_)
              refine wpAnyH_ready (rs := [2]) (by kernel_rfl) (by simp) (ready_call (i := 2) hA (by decide) rfl (fun _ _ => by kernel_rfl) (args2 hA rfl rfl) (allow_any x s hx sk _) (fun _ h => hS.trans (h.mono hS.size)) (fun w48 hw a hA => ?_) AllReadyH.nil)
              replace hS := hS.trans (hw.mono hS.size)
              clear hw
              refine wpAnyH_ready (rs := [6]) (by kernel_rfl) (by simp) (ready_call (i := 6) hA (by decide) rfl (fun _ _ => by kernel_rfl) (args2 hA rfl rfl) (allow_any _ s (bz_inA _ _) sk _) (fun _ h => hS.trans (h.mono hS.size)) (fun w49 hw a hA => ?_) AllReadyH.nil)
              replace hS := hS.trans (hw.mono hS.size)
              clear hw
              refine takeF (i := 7) hA 102 rfl rfl (by decide) rfl (by kernel_rfl) (by kernel_rfl) (by kernel_rfl) (fun _ _ _ h => h) hS (fun wx hwx => R_eqlBT hA rfl rfl rfl true (by rw [allow_low]; simp) _) (fun a hA => ?_)
              refine takeF (i := 8) hA 103 rfl rfl (by decide) rfl (by kernel_rfl) (by kernel_rfl) (by kernel_rfl) (fun _ _ _ h => h) hS (fun wx hwx => R_mov hA rfl rfl _) (fun a hA => ?_)
              refine takeFg (i := 9) hA 104 rfl rfl (by decide) rfl rfl rfl (by kernel_rfl) (by kernel_rfl) (by kernel_rfl) (fun _ _ _ h => h) hS (fun wx hwx => R_mov hA rfl rfl _) (fun a hA => ?_)
              refine takeFg (i := 10) hA 105 rfl rfl (by decide) rfl rfl rfl (by kernel_rfl) (by kernel_rfl) (by kernel_rfl) (fun _ _ _ h => h) hS (fun wx hwx => R_row hA rfl rfl (B3.below hwx) Try.underlying25 (by kernel_rfl)) (fun a hA => ?_)
              refine takeFg (i := 12) hA 107 rfl rfl (by decide) rfl rfl rfl (by kernel_rfl) (by kernel_rfl) (by kernel_rfl) (fun _ _ _ h => h) hS (fun wx hwx => R_mov hA rfl rfl _) (fun a hA => ?_)
              refine takeFg (i := 13) hA 108 rfl rfl (by decide) rfl rfl rfl (by kernel_rfl) (by kernel_rfl) (by kernel_rfl) (fun _ _ _ h => h) hS (fun wx hwx => R_and hA rfl rfl rfl _) (fun a hA => ?_)
              refine takeFg (i := 14) hA 109 rfl rfl (by decide) rfl rfl rfl (by kernel_rfl) (by kernel_rfl) (by kernel_rfl) (fun _ _ _ h => h) hS (fun wx hwx => R_row hA rfl rfl (B3.below hwx) Try.underlying25 (by kernel_rfl)) (fun a hA => ?_)
              refine wpAnyH_ready (rs := [11]) (by kernel_rfl) (by simp) (ready_gcall (i := 11) hA (by decide) rfl rfl rfl (fun _ _ => by kernel_rfl) (args2 hA rfl rfl) (full_any x s hx sk _) (fun _ h => hS.trans (h.mono hS.size)) (fun w50 hw a hA => ?_) AllReadyH.nil)
              replace hS := hS.trans (hw.mono hS.size)
              clear hw
              refine wpAnyH_ready (rs := [15]) (by kernel_rfl) (by simp) (ready_gcall (i := 15) hA (by decide) rfl rfl rfl (fun _ _ => by kernel_rfl) (args2 hA rfl rfl) (full_any _ s (bz_inA _ _) sk _) (fun _ h => hS.trans (h.mono hS.size)) (fun w51 hw a hA => ?_) AllReadyH.nil)
              replace hS := hS.trans (hw.mono hS.size)
              clear hw
              refine takeFg (i := 16) hA 111 rfl rfl (by decide) rfl rfl rfl (by kernel_rfl) (by kernel_rfl) (by kernel_rfl) (fun _ _ _ h => h) hS (fun wx hwx => R_eqlBT hA rfl rfl rfl true (by rw [full_low]; simp) _) (fun a hA => ?_)
              refine takeF (i := 17) hA 112 rfl rfl (by decide) rfl (by kernel_rfl) (by kernel_rfl) (by kernel_rfl) (fun _ _ _ h => h) hS (fun wx hwx => R_pick hA rfl rfl rfl _) (fun a hA => ?_)
              refine takeF (i := 18) hA 4 rfl rfl (by decide) rfl (by kernel_rfl) (by kernel_rfl) (by kernel_rfl) (fun _ _ _ h => h) hS (fun wx hwx => R_asg hA rfl rfl _) (fun a hA => ?_)
              refine wpAnyH_done (by kernel_rfl) ?_ _
              replace B3 := B3.below hS
              replace B5 := B5.below hS
              replace B7 := B7.below hS
              replace HB := HB.trans (hS.mono HB.size)
              clear hS
              refine then_nrm ?_
              show Code.wp Try.prog _ _ _ _
              refine wp_ret ?_
              exact ret_tmp (j := 4) (by kernel_rfl) hA (by decide) rfl ⟨rfl, HB⟩
            refine W_gskip hA rfl rfl rfl 89 rfl (by decide) (fun a hA => ?_)
            refine W_gskip hA rfl rfl rfl 90 rfl (by decide) (fun a hA => ?_)
            refine W_gskip hA rfl rfl rfl 91 rfl (by decide) (fun a hA => ?_)
            refine W_gskip hA rfl rfl rfl 92 rfl (by decide) (fun a hA => ?_)
            refine W_gval hA rfl rfl rfl 93 rfl (by decide) _ _ (R_pick hA rfl rfl rfl _) (fun a hA => ?_)
            refine W_val hA rfl 94 rfl (by decide) _ _ (R_pick hA rfl rfl rfl _) (fun a hA => ?_)
            refine W_nil ?_
            refine then_nrm ?_
            show Code.wp Try.prog _ _ _ _
            refine wp_cond_false (hA.ev (x := .tmp 94) rfl) ?_
            refine wp_skip ?_
            refine then_nrm ?_
            show Code.wp Try.prog _ _ _ _
            refine wp_seq ?_
            refine wp_region_held_drew (S := fun wx => Below w46.heap.size w46 wx) (by kernel_rfl) ((Below.refl _ _).drew) (fun hS => ?_)
            refine takeF (i := 0) hA 95 rfl rfl (by decide) rfl (by kernel_rfl) (by kernel_rfl) (by kernel_rfl) (fun _ _ _ h => h) hS (fun wx hwx => R_mov hA rfl rfl _) (fun a hA => ?_)
            refine takeF (i := 1) hA 96 rfl rfl (by decide) rfl (by kernel_rfl) (by kernel_rfl) (by kernel_rfl) (fun _ _ _ h => h) hS (fun wx hwx => R_row hA rfl rfl (B3.below hwx) Try.underlying25 (by kernel_rfl)) (fun a hA => ?_)
            refine takeF (i := 3) hA 98 rfl rfl (by decide) rfl (by kernel_rfl) (by kernel_rfl) (by kernel_rfl) (fun _ _ _ h => h) hS (fun wx hwx => R_mov hA rfl rfl _) (fun a hA => ?_)
            refine takeF (i := 4) hA 99 rfl rfl (by decide) rfl (by kernel_rfl) (by kernel_rfl) (by kernel_rfl) (fun _ _ _ h => h) hS (fun wx hwx => R_and hA rfl rfl rfl _) (fun a hA => ?_)
            refine takeF (i := 5) hA 100 rfl rfl (by decide) rfl (by kernel_rfl) (by kernel_rfl) (by kernel_rfl) (fun _ _ _ h => h) hS (fun wx hwx => R_row hA rfl rfl (B3.below hwx) Try.underlying25 (by kernel_rfl)) (fun a hA => ?_)
            refine wpAnyH_ready (rs := [2]) (by kernel_rfl) (by simp) (ready_call (i := 2) hA (by decide) rfl (fun _ _ => by kernel_rfl) (args2 hA rfl rfl) (allow_any x s hx sk _) (fun _ h => hS.trans (h.mono hS.size)) (fun w52 hw a hA => ?_) AllReadyH.nil)
            replace hS := hS.trans (hw.mono hS.size)
            clear hw
            refine wpAnyH_ready (rs := [6]) (by kernel_rfl) (by simp) (ready_call (i := 6) hA (by decide) rfl (fun _ _ => by kernel_rfl) (args2 hA rfl rfl) (allow_any _ s (bz_inA _ _) sk _) (fun _ h => hS.trans (h.mono hS.size)) (fun w53 hw a hA => ?_) AllReadyH.nil)
            replace hS := hS.trans (hw.mono hS.size)
            clear hw
            refine takeF (i := 7) hA 102 rfl rfl (by decide) rfl (by kernel_rfl) (by kernel_rfl) (by kernel_rfl) (fun _ _ _ h => h) hS (fun wx hwx => R_eqlBT hA rfl rfl rfl true (by rw [allow_low]; simp) _) (fun a hA => ?_)
            refine takeF (i := 8) hA 103 rfl rfl (by decide) rfl (by kernel_rfl) (by kernel_rfl) (by kernel_rfl) (fun _ _ _ h => h) hS (fun wx hwx => R_mov hA rfl rfl _) (fun a hA => ?_)
            refine takeFg (i := 9) hA 104 rfl rfl (by decide) rfl rfl rfl (by kernel_rfl) (by kernel_rfl) (by kernel_rfl) (fun _ _ _ h => h) hS (fun wx hwx => R_mov hA rfl rfl _) (fun a hA => ?_)
            refine takeFg (i := 10) hA 105 rfl rfl (by decide) rfl rfl rfl (by kernel_rfl) (by kernel_rfl) (by kernel_rfl) (fun _ _ _ h => h) hS (fun wx hwx => R_row hA rfl rfl (B3.below hwx) Try.underlying25 (by kernel_rfl)) (fun a hA => ?_)
            refine takeFg (i := 12) hA 107 rfl rfl (by decide) rfl rfl rfl (by kernel_rfl) (by kernel_rfl) (by kernel_rfl) (fun _ _ _ h => h) hS (fun wx hwx => R_mov hA rfl rfl _) (fun a hA => ?_)
            refine takeFg (i := 13) hA 108 rfl rfl (by decide) rfl rfl rfl (by kernel_rfl) (by kernel_rfl) (by kernel_rfl) (fun _ _ _ h => h) hS (fun wx hwx => R_and hA rfl rfl rfl _) (fun a hA => ?_)
            refine takeFg (i := 14) hA 109 rfl rfl (by decide) rfl rfl rfl (by kernel_rfl) (by kernel_rfl) (by kernel_rfl) (fun _ _ _ h => h) hS (fun wx hwx => R_row hA rfl rfl (B3.below hwx) Try.underlying25 (by kernel_rfl)) (fun a hA => ?_)
            refine wpAnyH_ready (rs := [11]) (by kernel_rfl) (by simp) (ready_gcall (i := 11) hA (by decide) rfl rfl rfl (fun _ _ => by kernel_rfl) (args2 hA rfl rfl) (full_any x s hx sk _) (fun _ h => hS.trans (h.mono hS.size)) (fun w54 hw a hA => ?_) AllReadyH.nil)
            replace hS := hS.trans (hw.mono hS.size)
            clear hw
            refine wpAnyH_ready (rs := [15]) (by kernel_rfl) (by simp) (ready_gcall (i := 15) hA (by decide) rfl rfl rfl (fun _ _ => by kernel_rfl) (args2 hA rfl rfl) (full_any _ s (bz_inA _ _) sk _) (fun _ h => hS.trans (h.mono hS.size)) (fun w55 hw a hA => ?_) AllReadyH.nil)
            replace hS := hS.trans (hw.mono hS.size)
            clear hw
            refine takeFg (i := 16) hA 111 rfl rfl (by decide) rfl rfl rfl (by kernel_rfl) (by kernel_rfl) (by kernel_rfl) (fun _ _ _ h => h) hS (fun wx hwx => R_eqlBT hA rfl rfl rfl true (by rw [full_low]; simp) _) (fun a hA => ?_)
            refine takeF (i := 17) hA 112 rfl rfl (by decide) rfl (by kernel_rfl) (by kernel_rfl) (by kernel_rfl) (fun _ _ _ h => h) hS (fun wx hwx => R_pick hA rfl rfl rfl _) (fun a hA => ?_)
            refine takeF (i := 18) hA 4 rfl rfl (by decide) rfl (by kernel_rfl) (by kernel_rfl) (by kernel_rfl) (fun _ _ _ h => h) hS (fun wx hwx => R_asg hA rfl rfl _) (fun a hA => ?_)
            refine wpAnyH_done (by kernel_rfl) ?_ _
            replace B3 := B3.below hS
            replace B5 := B5.below hS
            replace B7 := B7.below hS
            replace HB := HB.trans (hS.mono HB.size)
            clear hS
            refine then_nrm ?_
            show Code.wp Try.prog _ _ _ _
            refine wp_ret ?_
            exact ret_tmp (j := 4) (by kernel_rfl) hA (by decide) rfl ⟨rfl, HB⟩
          refine W_gskip hA rfl rfl rfl 75 rfl (by decide) (fun a hA => ?_)
          refine W_val hA rfl 76 rfl (by decide) _ _ (R_pick hA rfl rfl rfl _) (fun a hA => ?_)
          refine W_nil ?_
          refine then_nrm ?_
          show Code.wp Try.prog _ _ _ _
          refine wp_cond_false (hA.ev (x := .tmp 76) rfl) ?_
          refine wp_skip ?_
          refine then_nrm ?_
          show Code.wp Try.prog _ _ _ _
          refine wp_seq ?_
          refine wp_region_held_drew (S := fun wx => Below w40.heap.size w40 wx) (by kernel_rfl) ((Below.refl _ _).drew) (fun hS => ?_)
          refine takeF (i := 0) hA 95 rfl rfl (by decide) rfl (by kernel_rfl) (by kernel_rfl) (by kernel_rfl) (fun _ _ _ h => h) hS (fun wx hwx => R_mov hA rfl rfl _) (fun a hA => ?_)
          refine takeF (i := 1) hA 96 rfl rfl (by decide) rfl (by kernel_rfl) (by kernel_rfl) (by kernel_rfl) (fun _ _ _ h => h) hS (fun wx hwx => R_row hA rfl rfl (B3.below hwx) Try.underlying25 (by kernel_rfl)) (fun a hA => ?_)
          refine takeF (i := 3) hA 98 rfl rfl (by decide) rfl (by kernel_rfl) (by kernel_rfl) (by kernel_rfl) (fun _ _ _ h => h) hS (fun wx hwx => R_mov hA rfl rfl _) (fun a hA => ?_)
          refine takeF (i := 4) hA 99 rfl rfl (by decide) rfl (by kernel_rfl) (by kernel_rfl) (by kernel_rfl) (fun _ _ _ h => h) hS (fun wx hwx => R_and hA rfl rfl rfl _) (fun a hA => ?_)
          refine takeF (i := 5) hA 100 rfl rfl (by decide) rfl (by kernel_rfl) (by kernel_rfl) (by kernel_rfl) (fun _ _ _ h => h) hS (fun wx hwx => R_row hA rfl rfl (B3.below hwx) Try.underlying25 (by kernel_rfl)) (fun a hA => ?_)
          refine wpAnyH_ready (rs := [2]) (by kernel_rfl) (by simp) (ready_call (i := 2) hA (by decide) rfl (fun _ _ => by kernel_rfl) (args2 hA rfl rfl) (allow_any x s hx sk _) (fun _ h => hS.trans (h.mono hS.size)) (fun w56 hw a hA => ?_) AllReadyH.nil)
          replace hS := hS.trans (hw.mono hS.size)
          clear hw
          refine wpAnyH_ready (rs := [6]) (by kernel_rfl) (by simp) (ready_call (i := 6) hA (by decide) rfl (fun _ _ => by kernel_rfl) (args2 hA rfl rfl) (allow_any _ s (bz_inA _ _) sk _) (fun _ h => hS.trans (h.mono hS.size)) (fun w57 hw a hA => ?_) AllReadyH.nil)
          replace hS := hS.trans (hw.mono hS.size)
          clear hw
          refine takeF (i := 7) hA 102 rfl rfl (by decide) rfl (by kernel_rfl) (by kernel_rfl) (by kernel_rfl) (fun _ _ _ h => h) hS (fun wx hwx => R_eqlBT hA rfl rfl rfl true (by rw [allow_low]; simp) _) (fun a hA => ?_)
          refine takeF (i := 8) hA 103 rfl rfl (by decide) rfl (by kernel_rfl) (by kernel_rfl) (by kernel_rfl) (fun _ _ _ h => h) hS (fun wx hwx => R_mov hA rfl rfl _) (fun a hA => ?_)
          refine takeFg (i := 9) hA 104 rfl rfl (by decide) rfl rfl rfl (by kernel_rfl) (by kernel_rfl) (by kernel_rfl) (fun _ _ _ h => h) hS (fun wx hwx => R_mov hA rfl rfl _) (fun a hA => ?_)
          refine takeFg (i := 10) hA 105 rfl rfl (by decide) rfl rfl rfl (by kernel_rfl) (by kernel_rfl) (by kernel_rfl) (fun _ _ _ h => h) hS (fun wx hwx => R_row hA rfl rfl (B3.below hwx) Try.underlying25 (by kernel_rfl)) (fun a hA => ?_)
          refine takeFg (i := 12) hA 107 rfl rfl (by decide) rfl rfl rfl (by kernel_rfl) (by kernel_rfl) (by kernel_rfl) (fun _ _ _ h => h) hS (fun wx hwx => R_mov hA rfl rfl _) (fun a hA => ?_)
          refine takeFg (i := 13) hA 108 rfl rfl (by decide) rfl rfl rfl (by kernel_rfl) (by kernel_rfl) (by kernel_rfl) (fun _ _ _ h => h) hS (fun wx hwx => R_and hA rfl rfl rfl _) (fun a hA => ?_)
          refine takeFg (i := 14) hA 109 rfl rfl (by decide) rfl rfl rfl (by kernel_rfl) (by kernel_rfl) (by kernel_rfl) (fun _ _ _ h => h) hS (fun wx hwx => R_row hA rfl rfl (B3.below hwx) Try.underlying25 (by kernel_rfl)) (fun a hA => ?_)
          refine wpAnyH_ready (rs := [11]) (by kernel_rfl) (by simp) (ready_gcall (i := 11) hA (by decide) rfl rfl rfl (fun _ _ => by kernel_rfl) (args2 hA rfl rfl) (full_any x s hx sk _) (fun _ h => hS.trans (h.mono hS.size)) (fun w58 hw a hA => ?_) AllReadyH.nil)
          replace hS := hS.trans (hw.mono hS.size)
          clear hw
          refine wpAnyH_ready (rs := [15]) (by kernel_rfl) (by simp) (ready_gcall (i := 15) hA (by decide) rfl rfl rfl (fun _ _ => by kernel_rfl) (args2 hA rfl rfl) (full_any _ s (bz_inA _ _) sk _) (fun _ h => hS.trans (h.mono hS.size)) (fun w59 hw a hA => ?_) AllReadyH.nil)
          replace hS := hS.trans (hw.mono hS.size)
          clear hw
          refine takeFg (i := 16) hA 111 rfl rfl (by decide) rfl rfl rfl (by kernel_rfl) (by kernel_rfl) (by kernel_rfl) (fun _ _ _ h => h) hS (fun wx hwx => R_eqlBT hA rfl rfl rfl true (by rw [full_low]; simp) _) (fun a hA => ?_)
          refine takeF (i := 17) hA 112 rfl rfl (by decide) rfl (by kernel_rfl) (by kernel_rfl) (by kernel_rfl) (fun _ _ _ h => h) hS (fun wx hwx => R_pick hA rfl rfl rfl _) (fun a hA => ?_)
          refine takeF (i := 18) hA 4 rfl rfl (by decide) rfl (by kernel_rfl) (by kernel_rfl) (by kernel_rfl) (fun _ _ _ h => h) hS (fun wx hwx => R_asg hA rfl rfl _) (fun a hA => ?_)
          refine wpAnyH_done (by kernel_rfl) ?_ _
          replace B3 := B3.below hS
          replace B5 := B5.below hS
          replace HB := HB.trans (hS.mono HB.size)
          clear hS
          refine then_nrm ?_
          show Code.wp Try.prog _ _ _ _
          refine wp_ret ?_
          exact ret_tmp (j := 4) (by kernel_rfl) hA (by decide) rfl ⟨rfl, HB⟩
        refine W_gskip hA rfl rfl rfl 70 rfl (by decide) (fun a hA => ?_)
        refine W_gskip hA rfl rfl rfl 71 rfl (by decide) (fun a hA => ?_)
        refine W_gskip hA rfl rfl rfl 72 rfl (by decide) (fun a hA => ?_)
        refine W_val hA rfl 73 rfl (by decide) _ _ (R_pick hA rfl rfl rfl _) (fun a hA => ?_)
        refine W_val hA rfl 74 rfl (by decide) _ _ (R_mov hA rfl rfl _) (fun a hA => ?_)
        refine W_gskip hA rfl rfl rfl 75 rfl (by decide) (fun a hA => ?_)
        refine W_val hA rfl 76 rfl (by decide) _ _ (R_pick hA rfl rfl rfl _) (fun a hA => ?_)
        refine W_nil ?_
        refine then_nrm ?_
        show Code.wp Try.prog _ _ _ _
        refine wp_cond_false (hA.ev (x := .tmp 76) rfl) ?_
        refine wp_skip ?_
        refine then_nrm ?_
        show Code.wp Try.prog _ _ _ _
        refine wp_seq ?_
        refine wp_region_held_drew (S := fun wx => Below w40.heap.size w40 wx) (by kernel_rfl) ((Below.refl _ _).drew) (fun hS => ?_)
        refine takeF (i := 0) hA 95 rfl rfl (by decide) rfl (by kernel_rfl) (by kernel_rfl) (by kernel_rfl) (fun _ _ _ h => h) hS (fun wx hwx => R_mov hA rfl rfl _) (fun a hA => ?_)
        refine takeF (i := 1) hA 96 rfl rfl (by decide) rfl (by kernel_rfl) (by kernel_rfl) (by kernel_rfl) (fun _ _ _ h => h) hS (fun wx hwx => R_row hA rfl rfl (B3.below hwx) Try.underlying25 (by kernel_rfl)) (fun a hA => ?_)
        refine takeF (i := 3) hA 98 rfl rfl (by decide) rfl (by kernel_rfl) (by kernel_rfl) (by kernel_rfl) (fun _ _ _ h => h) hS (fun wx hwx => R_mov hA rfl rfl _) (fun a hA => ?_)
        refine takeF (i := 4) hA 99 rfl rfl (by decide) rfl (by kernel_rfl) (by kernel_rfl) (by kernel_rfl) (fun _ _ _ h => h) hS (fun wx hwx => R_and hA rfl rfl rfl _) (fun a hA => ?_)
        refine takeF (i := 5) hA 100 rfl rfl (by decide) rfl (by kernel_rfl) (by kernel_rfl) (by kernel_rfl) (fun _ _ _ h => h) hS (fun wx hwx => R_row hA rfl rfl (B3.below hwx) Try.underlying25 (by kernel_rfl)) (fun a hA => ?_)
        refine wpAnyH_ready (rs := [2]) (by kernel_rfl) (by simp) (ready_call (i := 2) hA (by decide) rfl (fun _ _ => by kernel_rfl) (args2 hA rfl rfl) (allow_any x s hx sk _) (fun _ h => hS.trans (h.mono hS.size)) (fun w60 hw a hA => ?_) AllReadyH.nil)
        replace hS := hS.trans (hw.mono hS.size)
        clear hw
        refine wpAnyH_ready (rs := [6]) (by kernel_rfl) (by simp) (ready_call (i := 6) hA (by decide) rfl (fun _ _ => by kernel_rfl) (args2 hA rfl rfl) (allow_any _ s (bz_inA _ _) sk _) (fun _ h => hS.trans (h.mono hS.size)) (fun w61 hw a hA => ?_) AllReadyH.nil)
        replace hS := hS.trans (hw.mono hS.size)
        clear hw
        refine takeF (i := 7) hA 102 rfl rfl (by decide) rfl (by kernel_rfl) (by kernel_rfl) (by kernel_rfl) (fun _ _ _ h => h) hS (fun wx hwx => R_eqlBT hA rfl rfl rfl true (by rw [allow_low]; simp) _) (fun a hA => ?_)
        refine takeF (i := 8) hA 103 rfl rfl (by decide) rfl (by kernel_rfl) (by kernel_rfl) (by kernel_rfl) (fun _ _ _ h => h) hS (fun wx hwx => R_mov hA rfl rfl _) (fun a hA => ?_)
        refine takeFg (i := 9) hA 104 rfl rfl (by decide) rfl rfl rfl (by kernel_rfl) (by kernel_rfl) (by kernel_rfl) (fun _ _ _ h => h) hS (fun wx hwx => R_mov hA rfl rfl _) (fun a hA => ?_)
        refine takeFg (i := 10) hA 105 rfl rfl (by decide) rfl rfl rfl (by kernel_rfl) (by kernel_rfl) (by kernel_rfl) (fun _ _ _ h => h) hS (fun wx hwx => R_row hA rfl rfl (B3.below hwx) Try.underlying25 (by kernel_rfl)) (fun a hA => ?_)
        refine takeFg (i := 12) hA 107 rfl rfl (by decide) rfl rfl rfl (by kernel_rfl) (by kernel_rfl) (by kernel_rfl) (fun _ _ _ h => h) hS (fun wx hwx => R_mov hA rfl rfl _) (fun a hA => ?_)
        refine takeFg (i := 13) hA 108 rfl rfl (by decide) rfl rfl rfl (by kernel_rfl) (by kernel_rfl) (by kernel_rfl) (fun _ _ _ h => h) hS (fun wx hwx => R_and hA rfl rfl rfl _) (fun a hA => ?_)
        refine takeFg (i := 14) hA 109 rfl rfl (by decide) rfl rfl rfl (by kernel_rfl) (by kernel_rfl) (by kernel_rfl) (fun _ _ _ h => h) hS (fun wx hwx => R_row hA rfl rfl (B3.below hwx) Try.underlying25 (by kernel_rfl)) (fun a hA => ?_)
        refine wpAnyH_ready (rs := [11]) (by kernel_rfl) (by simp) (ready_gcall (i := 11) hA (by decide) rfl rfl rfl (fun _ _ => by kernel_rfl) (args2 hA rfl rfl) (full_any x s hx sk _) (fun _ h => hS.trans (h.mono hS.size)) (fun w62 hw a hA => ?_) AllReadyH.nil)
        replace hS := hS.trans (hw.mono hS.size)
        clear hw
        refine wpAnyH_ready (rs := [15]) (by kernel_rfl) (by simp) (ready_gcall (i := 15) hA (by decide) rfl rfl rfl (fun _ _ => by kernel_rfl) (args2 hA rfl rfl) (full_any _ s (bz_inA _ _) sk _) (fun _ h => hS.trans (h.mono hS.size)) (fun w63 hw a hA => ?_) AllReadyH.nil)
        replace hS := hS.trans (hw.mono hS.size)
        clear hw
        refine takeFg (i := 16) hA 111 rfl rfl (by decide) rfl rfl rfl (by kernel_rfl) (by kernel_rfl) (by kernel_rfl) (fun _ _ _ h => h) hS (fun wx hwx => R_eqlBT hA rfl rfl rfl true (by rw [full_low]; simp) _) (fun a hA => ?_)
        refine takeF (i := 17) hA 112 rfl rfl (by decide) rfl (by kernel_rfl) (by kernel_rfl) (by kernel_rfl) (fun _ _ _ h => h) hS (fun wx hwx => R_pick hA rfl rfl rfl _) (fun a hA => ?_)
        refine takeF (i := 18) hA 4 rfl rfl (by decide) rfl (by kernel_rfl) (by kernel_rfl) (by kernel_rfl) (fun _ _ _ h => h) hS (fun wx hwx => R_asg hA rfl rfl _) (fun a hA => ?_)
        refine wpAnyH_done (by kernel_rfl) ?_ _
        replace B3 := B3.below hS
        replace B5 := B5.below hS
        replace HB := HB.trans (hS.mono HB.size)
        clear hS
        refine then_nrm ?_
        show Code.wp Try.prog _ _ _ _
        refine wp_ret ?_
        exact ret_tmp (j := 4) (by kernel_rfl) hA (by decide) rfl ⟨rfl, HB⟩
      refine W_gskip hA rfl rfl rfl 66 rfl (by decide) (fun a hA => ?_)
      refine W_gskip hA rfl rfl rfl 67 rfl (by decide) (fun a hA => ?_)
      refine W_val hA rfl 68 rfl (by decide) _ _ (R_pick hA rfl rfl rfl _) (fun a hA => ?_)
      refine W_val hA rfl 69 rfl (by decide) _ _ (R_mov hA rfl rfl _) (fun a hA => ?_)
      refine W_gskip hA rfl rfl rfl 70 rfl (by decide) (fun a hA => ?_)
      refine W_gskip hA rfl rfl rfl 71 rfl (by decide) (fun a hA => ?_)
      refine W_gskip hA rfl rfl rfl 72 rfl (by decide) (fun a hA => ?_)
      refine W_val hA rfl 73 rfl (by decide) _ _ (R_pick hA rfl rfl rfl _) (fun a hA => ?_)
      refine W_val hA rfl 74 rfl (by decide) _ _ (R_mov hA rfl rfl _) (fun a hA => ?_)
      refine W_gskip hA rfl rfl rfl 75 rfl (by decide) (fun a hA => ?_)
      refine W_val hA rfl 76 rfl (by decide) _ _ (R_pick hA rfl rfl rfl _) (fun a hA => ?_)
      refine W_nil ?_
      refine then_nrm ?_
      show Code.wp Try.prog _ _ _ _
      refine wp_cond_false (hA.ev (x := .tmp 76) rfl) ?_
      refine wp_skip ?_
      refine then_nrm ?_
      show Code.wp Try.prog _ _ _ _
      refine wp_seq ?_
      refine wp_region_held_drew (S := fun wx => Below w39.heap.size w39 wx) (by kernel_rfl) ((Below.refl _ _).drew) (fun hS => ?_)
      refine takeF (i := 0) hA 95 rfl rfl (by decide) rfl (by kernel_rfl) (by kernel_rfl) (by kernel_rfl) (fun _ _ _ h => h) hS (fun wx hwx => R_mov hA rfl rfl _) (fun a hA => ?_)
      refine takeF (i := 1) hA 96 rfl rfl (by decide) rfl (by kernel_rfl) (by kernel_rfl) (by kernel_rfl) (fun _ _ _ h => h) hS (fun wx hwx => R_row hA rfl rfl (B3.below hwx) Try.underlying25 (by kernel_rfl)) (fun a hA => ?_)
      refine takeF (i := 3) hA 98 rfl rfl (by decide) rfl (by kernel_rfl) (by kernel_rfl) (by kernel_rfl) (fun _ _ _ h => h) hS (fun wx hwx => R_mov hA rfl rfl _) (fun a hA => ?_)
      refine takeF (i := 4) hA 99 rfl rfl (by decide) rfl (by kernel_rfl) (by kernel_rfl) (by kernel_rfl) (fun _ _ _ h => h) hS (fun wx hwx => R_and hA rfl rfl rfl _) (fun a hA => ?_)
      refine takeF (i := 5) hA 100 rfl rfl (by decide) rfl (by kernel_rfl) (by kernel_rfl) (by kernel_rfl) (fun _ _ _ h => h) hS (fun wx hwx => R_row hA rfl rfl (B3.below hwx) Try.underlying25 (by kernel_rfl)) (fun a hA => ?_)
      refine wpAnyH_ready (rs := [2]) (by kernel_rfl) (by simp) (ready_call (i := 2) hA (by decide) rfl (fun _ _ => by kernel_rfl) (args2 hA rfl rfl) (allow_any x s hx sk _) (fun _ h => hS.trans (h.mono hS.size)) (fun w64 hw a hA => ?_) AllReadyH.nil)
      replace hS := hS.trans (hw.mono hS.size)
      clear hw
      refine wpAnyH_ready (rs := [6]) (by kernel_rfl) (by simp) (ready_call (i := 6) hA (by decide) rfl (fun _ _ => by kernel_rfl) (args2 hA rfl rfl) (allow_any _ s (bz_inA _ _) sk _) (fun _ h => hS.trans (h.mono hS.size)) (fun w65 hw a hA => ?_) AllReadyH.nil)
      replace hS := hS.trans (hw.mono hS.size)
      clear hw
      refine takeF (i := 7) hA 102 rfl rfl (by decide) rfl (by kernel_rfl) (by kernel_rfl) (by kernel_rfl) (fun _ _ _ h => h) hS (fun wx hwx => R_eqlBT hA rfl rfl rfl true (by rw [allow_low]; simp) _) (fun a hA => ?_)
      refine takeF (i := 8) hA 103 rfl rfl (by decide) rfl (by kernel_rfl) (by kernel_rfl) (by kernel_rfl) (fun _ _ _ h => h) hS (fun wx hwx => R_mov hA rfl rfl _) (fun a hA => ?_)
      refine takeFg (i := 9) hA 104 rfl rfl (by decide) rfl rfl rfl (by kernel_rfl) (by kernel_rfl) (by kernel_rfl) (fun _ _ _ h => h) hS (fun wx hwx => R_mov hA rfl rfl _) (fun a hA => ?_)
      refine takeFg (i := 10) hA 105 rfl rfl (by decide) rfl rfl rfl (by kernel_rfl) (by kernel_rfl) (by kernel_rfl) (fun _ _ _ h => h) hS (fun wx hwx => R_row hA rfl rfl (B3.below hwx) Try.underlying25 (by kernel_rfl)) (fun a hA => ?_)
      refine takeFg (i := 12) hA 107 rfl rfl (by decide) rfl rfl rfl (by kernel_rfl) (by kernel_rfl) (by kernel_rfl) (fun _ _ _ h => h) hS (fun wx hwx => R_mov hA rfl rfl _) (fun a hA => ?_)
      refine takeFg (i := 13) hA 108 rfl rfl (by decide) rfl rfl rfl (by kernel_rfl) (by kernel_rfl) (by kernel_rfl) (fun _ _ _ h => h) hS (fun wx hwx => R_and hA rfl rfl rfl _) (fun a hA => ?_)
      refine takeFg (i := 14) hA 109 rfl rfl (by decide) rfl rfl rfl (by kernel_rfl) (by kernel_rfl) (by kernel_rfl) (fun _ _ _ h => h) hS (fun wx hwx => R_row hA rfl rfl (B3.below hwx) Try.underlying25 (by kernel_rfl)) (fun a hA => ?_)
      refine wpAnyH_ready (rs := [11]) (by kernel_rfl) (by simp) (ready_gcall (i := 11) hA (by decide) rfl rfl rfl (fun _ _ => by kernel_rfl) (args2 hA rfl rfl) (full_any x s hx sk _) (fun _ h => hS.trans (h.mono hS.size)) (fun w66 hw a hA => ?_) AllReadyH.nil)
      replace hS := hS.trans (hw.mono hS.size)
      clear hw
      refine wpAnyH_ready (rs := [15]) (by kernel_rfl) (by simp) (ready_gcall (i := 15) hA (by decide) rfl rfl rfl (fun _ _ => by kernel_rfl) (args2 hA rfl rfl) (full_any _ s (bz_inA _ _) sk _) (fun _ h => hS.trans (h.mono hS.size)) (fun w67 hw a hA => ?_) AllReadyH.nil)
      replace hS := hS.trans (hw.mono hS.size)
      clear hw
      refine takeFg (i := 16) hA 111 rfl rfl (by decide) rfl rfl rfl (by kernel_rfl) (by kernel_rfl) (by kernel_rfl) (fun _ _ _ h => h) hS (fun wx hwx => R_eqlBT hA rfl rfl rfl true (by rw [full_low]; simp) _) (fun a hA => ?_)
      refine takeF (i := 17) hA 112 rfl rfl (by decide) rfl (by kernel_rfl) (by kernel_rfl) (by kernel_rfl) (fun _ _ _ h => h) hS (fun wx hwx => R_pick hA rfl rfl rfl _) (fun a hA => ?_)
      refine takeF (i := 18) hA 4 rfl rfl (by decide) rfl (by kernel_rfl) (by kernel_rfl) (by kernel_rfl) (fun _ _ _ h => h) hS (fun wx hwx => R_asg hA rfl rfl _) (fun a hA => ?_)
      refine wpAnyH_done (by kernel_rfl) ?_ _
      replace B3 := B3.below hS
      replace B5 := B5.below hS
      replace HB := HB.trans (hS.mono HB.size)
      clear hS
      refine then_nrm ?_
      show Code.wp Try.prog _ _ _ _
      refine wp_ret ?_
      exact ret_tmp (j := 4) (by kernel_rfl) hA (by decide) rfl ⟨rfl, HB⟩
    refine W_gskip hA rfl rfl rfl 45 rfl (by decide) (fun a hA => ?_)
    refine W_gskip hA rfl rfl rfl 46 rfl (by decide) (fun a hA => ?_)
    refine W_gskip hA rfl rfl rfl 47 rfl (by decide) (fun a hA => ?_)
    refine W_gval hA rfl rfl rfl 48 rfl (by decide) _ _ (R_pick hA rfl rfl rfl _) (fun a hA => ?_)
    refine W_gval hA rfl rfl rfl 49 rfl (by decide) _ _ (R_mov hA rfl rfl _) (fun a hA => ?_)
    refine W_gskip hA rfl rfl rfl 50 rfl (by decide) (fun a hA => ?_)
    refine W_gskip hA rfl rfl rfl 51 rfl (by decide) (fun a hA => ?_)
    refine W_gskip hA rfl rfl rfl 52 rfl (by decide) (fun a hA => ?_)
    refine W_gval hA rfl rfl rfl 53 rfl (by decide) _ _ (R_pick hA rfl rfl rfl _) (fun a hA => ?_)
    refine W_val hA rfl 54 rfl (by decide) _ _ (R_pick hA rfl rfl rfl _) (fun a hA => ?_)
    refine W_val hA rfl 55 rfl (by decide) _ _ (R_mov hA rfl rfl _) (fun a hA => ?_)
    refine W_gval hA rfl rfl rfl 56 rfl (by decide) _ _ (R_mov hA rfl rfl _) (fun a hA => ?_)
    refine W_gval hA rfl rfl rfl 57 rfl (by decide) _ _ (R_mov hA rfl rfl _) (fun a hA => ?_)
    refine W_gval hA rfl rfl rfl 58 rfl (by decide) _ _ (R_fa hA rfl rfl (fun w => fa_want _ 0 (by decide) w) _) (fun a hA => ?_)
    refine W_gval hA rfl rfl rfl 59 rfl (by decide) _ _ (R_ld (v := .int .u8 s.kind) hA rfl rfl ag_u8 (RowC.cell B3 0 _ rfl)) (fun a hA => ?_)
    refine W_gval hA rfl rfl rfl 60 rfl (by decide) _ _ (R_gtrBT hA rfl rfl rfl false (allow_kind h) _) (fun a hA => ?_)
    refine W_gval hA rfl rfl rfl 61 rfl (by decide) _ _ (R_pick hA rfl rfl rfl _) (fun a hA => ?_)
    refine W_val hA rfl 62 rfl (by decide) _ _ (R_pick hA rfl rfl rfl _) (fun a hA => ?_)
    refine W_nil ?_
    refine then_nrm ?_
    show Code.wp Try.prog _ _ _ _
    refine wp_cond_false (hA.ev (x := .tmp 62) rfl) ?_
    refine wp_skip ?_
    refine then_nrm ?_
    show Code.wp Try.prog _ _ _ _
    refine wp_seq ?_
    refine wp_seq ?_
    refine wp_region_list ?_
    refine W_val hA rfl 63 rfl (by decide) _ _ (R_mov hA rfl rfl _) (fun a hA => ?_)
    refine W_callA hA (by decide) (fun _ _ => by kernel_rfl) (args1 hA rfl) (ok_any x hx _) (fun w68 hw a hA => ?_)
    replace HB := HB.trans (hw.mono HB.size)
    replace B3 := B3.below hw
    replace B5 := B5.below hw
    clear hw
    refine W_val hA rfl 65 rfl (by decide) _ _ (R_mov hA rfl rfl _) (fun a hA => ?_)
    refine W_split hA 65 rfl (fun c12 hA => ?_) (fun c12 hA => ?_)
    · skip
      refine W_gval hA rfl rfl rfl 66 rfl (by decide) _ _ (R_mov hA rfl rfl _) (fun a hA => ?_)
      refine W_gcallB hA rfl rfl (by decide) (fun _ _ => by kernel_rfl) (args1 hA rfl) (leaf_any x hx _) (fun w69 hw a hA => ?_)
      replace HB := HB.trans (hw.mono HB.size)
      replace B3 := B3.below hw
      replace B5 := B5.below hw
      clear hw
      refine W_val hA rfl 68 rfl (by decide) _ _ (R_pick hA rfl rfl rfl _) (fun a hA => ?_)
      refine W_val hA rfl 69 rfl (by decide) _ _ (R_mov hA rfl rfl _) (fun a hA => ?_)
      refine W_split hA 69 rfl (fun c13 hA => ?_) (fun c13 hA => ?_)
      · skip
        refine W_gval hA rfl rfl rfl 70 rfl (by decide) _ _ (R_fa hA rfl rfl (fun w => fa_want _ 0 (by decide) w) _) (fun a hA => ?_)
        refine W_gval hA rfl rfl rfl 71 rfl (by decide) _ _ (R_ld (v := .int .u8 s.kind) hA rfl rfl ag_u8 (RowC.cell B3 0 _ rfl)) (fun a hA => ?_)
        refine W_gval hA rfl rfl rfl 72 rfl (by decide) _ _ (R_eqlB hA rfl rfl rfl _) (fun a hA => ?_)
        refine W_val hA rfl 73 rfl (by decide) _ _ (R_pick hA rfl rfl rfl _) (fun a hA => ?_)
        refine W_val hA rfl 74 rfl (by decide) _ _ (R_mov hA rfl rfl _) (fun a hA => ?_)
        refine W_split hA 74 rfl (fun c14 hA => ?_) (fun c14 hA => ?_)
        · skip
          refine W_gval hA rfl rfl rfl 75 rfl (by decide) _ _ (R_mov hA rfl rfl _) (fun a hA => ?_)
          refine W_val hA rfl 76 rfl (by decide) _ _ (R_pick hA rfl rfl rfl _) (fun a hA => ?_)
          refine W_nil ?_
          refine then_nrm ?_
          show Code.wp Try.prog _ _ _ _
          refine wp_cond_true (hA.ev (x := .tmp 76) rfl) ?_
          refine wp_seq ?_
          refine wp_region_list ?_
          refine W_val hA rfl 77 rfl (by decide) _ _ (R_row hA rfl rfl B3 Try.underlying25 (by kernel_rfl)) (fun a hA => ?_)
          refine W_allocT (cs := #[.int .u8 0, .bool false, .int .u8 0, .bool false, .bool false, .bool false, .bool false]) hA rfl 7 rfl (by decide) rfl zero_want (fun w70 bB7 a hA hb B7 gB7 => ?_)
          have nB3B7 : bB3 < bB7 := by have := B3.lt; omega
          have nB5B7 : bB5 < bB7 := by have := B5.lt; omega
          replace gB7 := Nat.le_trans HB.size gB7
          replace HB := HB.trans (hb.mono HB.size)
          replace B3 := B3.below hb
          replace B5 := B5.below hb
          clear hb
          refine W_cpT (cs := wantC s) hA rfl rfl rfl rfl rfl B7 (by kernel_rfl) rfl (by simp [Value.oneCell']) (fun w71 hT HN => ?_)
          replace HB := HB.trans (hT.bel _ gB7)
          replace B3 := hT.row B3 (by omega)
          replace B5 := hT.row B5 (by omega)
          replace B7 := HN
          clear hT HN
          refine W_nil ?_
          refine then_nrm ?_
          show Code.wp Try.prog _ _ _ _
          refine wp_seq ?_
          refine wp_region_list ?_
          refine W_val hA rfl 78 rfl (by decide) _ _ (R_fa hA rfl rfl (fun w => fa_want _ 0 (by decide) w) _) (fun a hA => ?_)
          refine W_stT (cs' := #[.int .u8 0, .bool s.ex, .int .u8 s.priv, .bool s.v, .bool s.sum, .bool s.mxr, .bool s.vmxr]) hA rfl rfl rfl rfl rfl B7 (stT_B B7 _ rfl) rfl (fun w72 hT HN => ?_)
          replace HB := HB.trans (hT.bel _ gB7)
          replace B3 := hT.row B3 (by omega)
          replace B5 := hT.row B5 (by omega)
          replace B7 := HN
          clear hT HN
          refine W_nil ?_
          refine then_nrm ?_
          show Code.wp Try.prog _ _ _ _
          refine wp_seq ?_
          refine wp_region_list ?_
          refine W_val hA rfl 79 rfl (by decide) _ _ (R_fa hA rfl rfl (fun w => fa_want _ 1 (by decide) w) _) (fun a hA => ?_)
          refine W_stT (cs' := #[.int .u8 0, .bool false, .int .u8 s.priv, .bool s.v, .bool s.sum, .bool s.mxr, .bool s.vmxr]) hA rfl rfl rfl rfl rfl B7 (stT_b B7 _ rfl) rfl (fun w73 hT HN => ?_)
          replace HB := HB.trans (hT.bel _ gB7)
          replace B3 := hT.row B3 (by omega)
          replace B5 := hT.row B5 (by omega)
          replace B7 := HN
          clear hT HN
          replace B7 : RowC w73 bB7 25 (wantC s.load) := B7
          refine W_nil ?_
          refine then_nrm ?_
          show Code.wp Try.prog _ _ _ _
          refine wp_seq ?_
          refine wp_region_list ?_
          refine W_val hA rfl 80 rfl (by decide) _ _ (R_mov hA rfl rfl _) (fun a hA => ?_)
          refine W_val hA rfl 81 rfl (by decide) _ _ (R_row hA rfl rfl B7 Try.underlying25 (by kernel_rfl)) (fun a hA => ?_)
          refine W_callA hA (by decide) (fun _ _ => by kernel_rfl) (args2 hA rfl rfl) (allow_to (s := s.load) hx (ok_load sk) (allow_load h c12 c14) _) (fun w74 hw a hA => ?_)
          replace HB := HB.trans (hw.mono HB.size)
          replace B3 := B3.below hw
          replace B5 := B5.below hw
          replace B7 := B7.below hw
          clear hw
          refine W_val hA rfl 83 rfl (by decide) _ _ (R_not hA rfl rfl _) (fun a hA => ?_)
          refine W_val hA rfl 84 rfl (by decide) _ _ (R_mov hA rfl rfl _) (fun a hA => ?_)
          refine W_gval hA rfl rfl rfl 85 rfl (by decide) _ _ (R_mov hA rfl rfl _) (fun a hA => ?_)
          refine W_gval hA rfl rfl rfl 86 rfl (by decide) _ _ (R_row hA rfl rfl B3 Try.underlying25 (by kernel_rfl)) (fun a hA => ?_)
          refine W_gcallB hA rfl rfl (by decide) (fun _ _ => by kernel_rfl) (args2 hA rfl rfl) (full_any x s hx sk _) (fun w75 hw a hA => ?_)
          replace HB := HB.trans (hw.mono HB.size)
          replace B3 := B3.below hw
          replace B5 := B5.below hw
          replace B7 := B7.below hw
          clear hw
          refine W_gval hA rfl rfl rfl 88 rfl (by decide) _ _ (R_mov hA rfl rfl _) (fun a hA => ?_)
          refine W_split hA 88 rfl (fun c15 hA => ?_) (fun c15 hA => ?_)
          · skip
            refine W_gval hA rfl rfl rfl 89 rfl (by decide) _ _ (R_mov hA rfl rfl _) (fun a hA => ?_)
            refine W_gval hA rfl rfl rfl 90 rfl (by decide) _ _ (R_row hA rfl rfl B7 Try.underlying25 (by kernel_rfl)) (fun a hA => ?_)
            refine W_gcallB hA rfl rfl (by decide) (fun _ _ => by kernel_rfl) (args2 hA rfl rfl) (full_to (s := s.load) hx (ok_load sk) (full_load c15) _) (fun w76 hw a hA => ?_)
            replace HB := HB.trans (hw.mono HB.size)
            replace B3 := B3.below hw
            replace B5 := B5.below hw
            replace B7 := B7.below hw
            clear hw
            refine W_gval hA rfl rfl rfl 92 rfl (by decide) _ _ (R_not hA rfl rfl _) (fun a hA => ?_)
            refine W_gval hA rfl rfl rfl 93 rfl (by decide) _ _ (R_pick hA rfl rfl rfl _) (fun a hA => ?_)
            refine W_val hA rfl 94 rfl (by decide) _ _ (R_pick hA rfl rfl rfl _) (fun a hA => ?_)
            refine W_nil ?_
            refine then_nrm ?_
            show Code.wp Try.prog _ _ _ _
            refine wp_cond_false (hA.ev (x := .tmp 94) rfl) ?_
            refine wp_skip ?_
            refine then_nrm ?_
            show Code.wp Try.prog _ _ _ _
            refine wp_seq ?_
            refine wp_region_held_drew (S := fun wx => Below w76.heap.size w76 wx) (by kernel_rfl) ((Below.refl _ _).drew) (fun hS => ?_)
            refine takeF (i := 0) hA 95 rfl rfl (by decide) rfl (by kernel_rfl) (by kernel_rfl) (by kernel_rfl) (fun _ _ _ h => h) hS (fun wx hwx => R_mov hA rfl rfl _) (fun a hA => ?_)
            refine takeF (i := 1) hA 96 rfl rfl (by decide) rfl (by kernel_rfl) (by kernel_rfl) (by kernel_rfl) (fun _ _ _ h => h) hS (fun wx hwx => R_row hA rfl rfl (B3.below hwx) Try.underlying25 (by kernel_rfl)) (fun a hA => ?_)
            refine takeF (i := 3) hA 98 rfl rfl (by decide) rfl (by kernel_rfl) (by kernel_rfl) (by kernel_rfl) (fun _ _ _ h => h) hS (fun wx hwx => R_mov hA rfl rfl _) (fun a hA => ?_)
            refine takeF (i := 4) hA 99 rfl rfl (by decide) rfl (by kernel_rfl) (by kernel_rfl) (by kernel_rfl) (fun _ _ _ h => h) hS (fun wx hwx => R_and hA rfl rfl rfl _) (fun a hA => ?_)
            refine takeF (i := 5) hA 100 rfl rfl (by decide) rfl (by kernel_rfl) (by kernel_rfl) (by kernel_rfl) (fun _ _ _ h => h) hS (fun wx hwx => R_row hA rfl rfl (B3.below hwx) Try.underlying25 (by kernel_rfl)) (fun a hA => ?_)
            refine wpAnyH_ready (rs := [2]) (by kernel_rfl) (by simp) (ready_call (i := 2) hA (by decide) rfl (fun _ _ => by kernel_rfl) (args2 hA rfl rfl) (allow_any x s hx sk _) (fun _ h => hS.trans (h.mono hS.size)) (fun w77 hw a hA => ?_) AllReadyH.nil)
            replace hS := hS.trans (hw.mono hS.size)
            clear hw
            refine wpAnyH_ready (rs := [6]) (by kernel_rfl) (by simp) (ready_call (i := 6) hA (by decide) rfl (fun _ _ => by kernel_rfl) (args2 hA rfl rfl) (allow_any _ s (bz_inA _ _) sk _) (fun _ h => hS.trans (h.mono hS.size)) (fun w78 hw a hA => ?_) AllReadyH.nil)
            replace hS := hS.trans (hw.mono hS.size)
            clear hw
            refine takeF (i := 7) hA 102 rfl rfl (by decide) rfl (by kernel_rfl) (by kernel_rfl) (by kernel_rfl) (fun _ _ _ h => h) hS (fun wx hwx => R_eqlBT hA rfl rfl rfl true (by rw [allow_low]; simp) _) (fun a hA => ?_)
            refine takeF (i := 8) hA 103 rfl rfl (by decide) rfl (by kernel_rfl) (by kernel_rfl) (by kernel_rfl) (fun _ _ _ h => h) hS (fun wx hwx => R_mov hA rfl rfl _) (fun a hA => ?_)
            refine takeFg (i := 9) hA 104 rfl rfl (by decide) rfl rfl rfl (by kernel_rfl) (by kernel_rfl) (by kernel_rfl) (fun _ _ _ h => h) hS (fun wx hwx => R_mov hA rfl rfl _) (fun a hA => ?_)
            refine takeFg (i := 10) hA 105 rfl rfl (by decide) rfl rfl rfl (by kernel_rfl) (by kernel_rfl) (by kernel_rfl) (fun _ _ _ h => h) hS (fun wx hwx => R_row hA rfl rfl (B3.below hwx) Try.underlying25 (by kernel_rfl)) (fun a hA => ?_)
            refine takeFg (i := 12) hA 107 rfl rfl (by decide) rfl rfl rfl (by kernel_rfl) (by kernel_rfl) (by kernel_rfl) (fun _ _ _ h => h) hS (fun wx hwx => R_mov hA rfl rfl _) (fun a hA => ?_)
            refine takeFg (i := 13) hA 108 rfl rfl (by decide) rfl rfl rfl (by kernel_rfl) (by kernel_rfl) (by kernel_rfl) (fun _ _ _ h => h) hS (fun wx hwx => R_and hA rfl rfl rfl _) (fun a hA => ?_)
            refine takeFg (i := 14) hA 109 rfl rfl (by decide) rfl rfl rfl (by kernel_rfl) (by kernel_rfl) (by kernel_rfl) (fun _ _ _ h => h) hS (fun wx hwx => R_row hA rfl rfl (B3.below hwx) Try.underlying25 (by kernel_rfl)) (fun a hA => ?_)
            refine wpAnyH_ready (rs := [11]) (by kernel_rfl) (by simp) (ready_gcall (i := 11) hA (by decide) rfl rfl rfl (fun _ _ => by kernel_rfl) (args2 hA rfl rfl) (full_any x s hx sk _) (fun _ h => hS.trans (h.mono hS.size)) (fun w79 hw a hA => ?_) AllReadyH.nil)
            replace hS := hS.trans (hw.mono hS.size)
            clear hw
            refine wpAnyH_ready (rs := [15]) (by kernel_rfl) (by simp) (ready_gcall (i := 15) hA (by decide) rfl rfl rfl (fun _ _ => by kernel_rfl) (args2 hA rfl rfl) (full_any _ s (bz_inA _ _) sk _) (fun _ h => hS.trans (h.mono hS.size)) (fun w80 hw a hA => ?_) AllReadyH.nil)
            replace hS := hS.trans (hw.mono hS.size)
            clear hw
            refine takeFg (i := 16) hA 111 rfl rfl (by decide) rfl rfl rfl (by kernel_rfl) (by kernel_rfl) (by kernel_rfl) (fun _ _ _ h => h) hS (fun wx hwx => R_eqlBT hA rfl rfl rfl true (by rw [full_low]; simp) _) (fun a hA => ?_)
            refine takeF (i := 17) hA 112 rfl rfl (by decide) rfl (by kernel_rfl) (by kernel_rfl) (by kernel_rfl) (fun _ _ _ h => h) hS (fun wx hwx => R_pick hA rfl rfl rfl _) (fun a hA => ?_)
            refine takeF (i := 18) hA 4 rfl rfl (by decide) rfl (by kernel_rfl) (by kernel_rfl) (by kernel_rfl) (fun _ _ _ h => h) hS (fun wx hwx => R_asg hA rfl rfl _) (fun a hA => ?_)
            refine wpAnyH_done (by kernel_rfl) ?_ _
            replace B3 := B3.below hS
            replace B5 := B5.below hS
            replace B7 := B7.below hS
            replace HB := HB.trans (hS.mono HB.size)
            clear hS
            refine then_nrm ?_
            show Code.wp Try.prog _ _ _ _
            refine wp_ret ?_
            exact ret_tmp (j := 4) (by kernel_rfl) hA (by decide) rfl ⟨rfl, HB⟩
          refine W_gskip hA rfl rfl rfl 89 rfl (by decide) (fun a hA => ?_)
          refine W_gskip hA rfl rfl rfl 90 rfl (by decide) (fun a hA => ?_)
          refine W_gskip hA rfl rfl rfl 91 rfl (by decide) (fun a hA => ?_)
          refine W_gskip hA rfl rfl rfl 92 rfl (by decide) (fun a hA => ?_)
          refine W_gval hA rfl rfl rfl 93 rfl (by decide) _ _ (R_pick hA rfl rfl rfl _) (fun a hA => ?_)
          refine W_val hA rfl 94 rfl (by decide) _ _ (R_pick hA rfl rfl rfl _) (fun a hA => ?_)
          refine W_nil ?_
          refine then_nrm ?_
          show Code.wp Try.prog _ _ _ _
          refine wp_cond_false (hA.ev (x := .tmp 94) rfl) ?_
          refine wp_skip ?_
          refine then_nrm ?_
          show Code.wp Try.prog _ _ _ _
          refine wp_seq ?_
          refine wp_region_held_drew (S := fun wx => Below w75.heap.size w75 wx) (by kernel_rfl) ((Below.refl _ _).drew) (fun hS => ?_)
          refine takeF (i := 0) hA 95 rfl rfl (by decide) rfl (by kernel_rfl) (by kernel_rfl) (by kernel_rfl) (fun _ _ _ h => h) hS (fun wx hwx => R_mov hA rfl rfl _) (fun a hA => ?_)
          refine takeF (i := 1) hA 96 rfl rfl (by decide) rfl (by kernel_rfl) (by kernel_rfl) (by kernel_rfl) (fun _ _ _ h => h) hS (fun wx hwx => R_row hA rfl rfl (B3.below hwx) Try.underlying25 (by kernel_rfl)) (fun a hA => ?_)
          refine takeF (i := 3) hA 98 rfl rfl (by decide) rfl (by kernel_rfl) (by kernel_rfl) (by kernel_rfl) (fun _ _ _ h => h) hS (fun wx hwx => R_mov hA rfl rfl _) (fun a hA => ?_)
          refine takeF (i := 4) hA 99 rfl rfl (by decide) rfl (by kernel_rfl) (by kernel_rfl) (by kernel_rfl) (fun _ _ _ h => h) hS (fun wx hwx => R_and hA rfl rfl rfl _) (fun a hA => ?_)
          refine takeF (i := 5) hA 100 rfl rfl (by decide) rfl (by kernel_rfl) (by kernel_rfl) (by kernel_rfl) (fun _ _ _ h => h) hS (fun wx hwx => R_row hA rfl rfl (B3.below hwx) Try.underlying25 (by kernel_rfl)) (fun a hA => ?_)
          refine wpAnyH_ready (rs := [2]) (by kernel_rfl) (by simp) (ready_call (i := 2) hA (by decide) rfl (fun _ _ => by kernel_rfl) (args2 hA rfl rfl) (allow_any x s hx sk _) (fun _ h => hS.trans (h.mono hS.size)) (fun w81 hw a hA => ?_) AllReadyH.nil)
          replace hS := hS.trans (hw.mono hS.size)
          clear hw
          refine wpAnyH_ready (rs := [6]) (by kernel_rfl) (by simp) (ready_call (i := 6) hA (by decide) rfl (fun _ _ => by kernel_rfl) (args2 hA rfl rfl) (allow_any _ s (bz_inA _ _) sk _) (fun _ h => hS.trans (h.mono hS.size)) (fun w82 hw a hA => ?_) AllReadyH.nil)
          replace hS := hS.trans (hw.mono hS.size)
          clear hw
          refine takeF (i := 7) hA 102 rfl rfl (by decide) rfl (by kernel_rfl) (by kernel_rfl) (by kernel_rfl) (fun _ _ _ h => h) hS (fun wx hwx => R_eqlBT hA rfl rfl rfl true (by rw [allow_low]; simp) _) (fun a hA => ?_)
          refine takeF (i := 8) hA 103 rfl rfl (by decide) rfl (by kernel_rfl) (by kernel_rfl) (by kernel_rfl) (fun _ _ _ h => h) hS (fun wx hwx => R_mov hA rfl rfl _) (fun a hA => ?_)
          refine takeFg (i := 9) hA 104 rfl rfl (by decide) rfl rfl rfl (by kernel_rfl) (by kernel_rfl) (by kernel_rfl) (fun _ _ _ h => h) hS (fun wx hwx => R_mov hA rfl rfl _) (fun a hA => ?_)
          refine takeFg (i := 10) hA 105 rfl rfl (by decide) rfl rfl rfl (by kernel_rfl) (by kernel_rfl) (by kernel_rfl) (fun _ _ _ h => h) hS (fun wx hwx => R_row hA rfl rfl (B3.below hwx) Try.underlying25 (by kernel_rfl)) (fun a hA => ?_)
          refine takeFg (i := 12) hA 107 rfl rfl (by decide) rfl rfl rfl (by kernel_rfl) (by kernel_rfl) (by kernel_rfl) (fun _ _ _ h => h) hS (fun wx hwx => R_mov hA rfl rfl _) (fun a hA => ?_)
          refine takeFg (i := 13) hA 108 rfl rfl (by decide) rfl rfl rfl (by kernel_rfl) (by kernel_rfl) (by kernel_rfl) (fun _ _ _ h => h) hS (fun wx hwx => R_and hA rfl rfl rfl _) (fun a hA => ?_)
          refine takeFg (i := 14) hA 109 rfl rfl (by decide) rfl rfl rfl (by kernel_rfl) (by kernel_rfl) (by kernel_rfl) (fun _ _ _ h => h) hS (fun wx hwx => R_row hA rfl rfl (B3.below hwx) Try.underlying25 (by kernel_rfl)) (fun a hA => ?_)
          refine wpAnyH_ready (rs := [11]) (by kernel_rfl) (by simp) (ready_gcall (i := 11) hA (by decide) rfl rfl rfl (fun _ _ => by kernel_rfl) (args2 hA rfl rfl) (full_any x s hx sk _) (fun _ h => hS.trans (h.mono hS.size)) (fun w83 hw a hA => ?_) AllReadyH.nil)
          replace hS := hS.trans (hw.mono hS.size)
          clear hw
          refine wpAnyH_ready (rs := [15]) (by kernel_rfl) (by simp) (ready_gcall (i := 15) hA (by decide) rfl rfl rfl (fun _ _ => by kernel_rfl) (args2 hA rfl rfl) (full_any _ s (bz_inA _ _) sk _) (fun _ h => hS.trans (h.mono hS.size)) (fun w84 hw a hA => ?_) AllReadyH.nil)
          replace hS := hS.trans (hw.mono hS.size)
          clear hw
          refine takeFg (i := 16) hA 111 rfl rfl (by decide) rfl rfl rfl (by kernel_rfl) (by kernel_rfl) (by kernel_rfl) (fun _ _ _ h => h) hS (fun wx hwx => R_eqlBT hA rfl rfl rfl true (by rw [full_low]; simp) _) (fun a hA => ?_)
          refine takeF (i := 17) hA 112 rfl rfl (by decide) rfl (by kernel_rfl) (by kernel_rfl) (by kernel_rfl) (fun _ _ _ h => h) hS (fun wx hwx => R_pick hA rfl rfl rfl _) (fun a hA => ?_)
          refine takeF (i := 18) hA 4 rfl rfl (by decide) rfl (by kernel_rfl) (by kernel_rfl) (by kernel_rfl) (fun _ _ _ h => h) hS (fun wx hwx => R_asg hA rfl rfl _) (fun a hA => ?_)
          refine wpAnyH_done (by kernel_rfl) ?_ _
          replace B3 := B3.below hS
          replace B5 := B5.below hS
          replace B7 := B7.below hS
          replace HB := HB.trans (hS.mono HB.size)
          clear hS
          refine then_nrm ?_
          show Code.wp Try.prog _ _ _ _
          refine wp_ret ?_
          exact ret_tmp (j := 4) (by kernel_rfl) hA (by decide) rfl ⟨rfl, HB⟩
        refine W_gskip hA rfl rfl rfl 75 rfl (by decide) (fun a hA => ?_)
        refine W_val hA rfl 76 rfl (by decide) _ _ (R_pick hA rfl rfl rfl _) (fun a hA => ?_)
        refine W_nil ?_
        refine then_nrm ?_
        show Code.wp Try.prog _ _ _ _
        refine wp_cond_false (hA.ev (x := .tmp 76) rfl) ?_
        refine wp_skip ?_
        refine then_nrm ?_
        show Code.wp Try.prog _ _ _ _
        refine wp_seq ?_
        refine wp_region_held_drew (S := fun wx => Below w69.heap.size w69 wx) (by kernel_rfl) ((Below.refl _ _).drew) (fun hS => ?_)
        refine takeF (i := 0) hA 95 rfl rfl (by decide) rfl (by kernel_rfl) (by kernel_rfl) (by kernel_rfl) (fun _ _ _ h => h) hS (fun wx hwx => R_mov hA rfl rfl _) (fun a hA => ?_)
        refine takeF (i := 1) hA 96 rfl rfl (by decide) rfl (by kernel_rfl) (by kernel_rfl) (by kernel_rfl) (fun _ _ _ h => h) hS (fun wx hwx => R_row hA rfl rfl (B3.below hwx) Try.underlying25 (by kernel_rfl)) (fun a hA => ?_)
        refine takeF (i := 3) hA 98 rfl rfl (by decide) rfl (by kernel_rfl) (by kernel_rfl) (by kernel_rfl) (fun _ _ _ h => h) hS (fun wx hwx => R_mov hA rfl rfl _) (fun a hA => ?_)
        refine takeF (i := 4) hA 99 rfl rfl (by decide) rfl (by kernel_rfl) (by kernel_rfl) (by kernel_rfl) (fun _ _ _ h => h) hS (fun wx hwx => R_and hA rfl rfl rfl _) (fun a hA => ?_)
        refine takeF (i := 5) hA 100 rfl rfl (by decide) rfl (by kernel_rfl) (by kernel_rfl) (by kernel_rfl) (fun _ _ _ h => h) hS (fun wx hwx => R_row hA rfl rfl (B3.below hwx) Try.underlying25 (by kernel_rfl)) (fun a hA => ?_)
        refine wpAnyH_ready (rs := [2]) (by kernel_rfl) (by simp) (ready_call (i := 2) hA (by decide) rfl (fun _ _ => by kernel_rfl) (args2 hA rfl rfl) (allow_any x s hx sk _) (fun _ h => hS.trans (h.mono hS.size)) (fun w85 hw a hA => ?_) AllReadyH.nil)
        replace hS := hS.trans (hw.mono hS.size)
        clear hw
        refine wpAnyH_ready (rs := [6]) (by kernel_rfl) (by simp) (ready_call (i := 6) hA (by decide) rfl (fun _ _ => by kernel_rfl) (args2 hA rfl rfl) (allow_any _ s (bz_inA _ _) sk _) (fun _ h => hS.trans (h.mono hS.size)) (fun w86 hw a hA => ?_) AllReadyH.nil)
        replace hS := hS.trans (hw.mono hS.size)
        clear hw
        refine takeF (i := 7) hA 102 rfl rfl (by decide) rfl (by kernel_rfl) (by kernel_rfl) (by kernel_rfl) (fun _ _ _ h => h) hS (fun wx hwx => R_eqlBT hA rfl rfl rfl true (by rw [allow_low]; simp) _) (fun a hA => ?_)
        refine takeF (i := 8) hA 103 rfl rfl (by decide) rfl (by kernel_rfl) (by kernel_rfl) (by kernel_rfl) (fun _ _ _ h => h) hS (fun wx hwx => R_mov hA rfl rfl _) (fun a hA => ?_)
        refine takeFg (i := 9) hA 104 rfl rfl (by decide) rfl rfl rfl (by kernel_rfl) (by kernel_rfl) (by kernel_rfl) (fun _ _ _ h => h) hS (fun wx hwx => R_mov hA rfl rfl _) (fun a hA => ?_)
        refine takeFg (i := 10) hA 105 rfl rfl (by decide) rfl rfl rfl (by kernel_rfl) (by kernel_rfl) (by kernel_rfl) (fun _ _ _ h => h) hS (fun wx hwx => R_row hA rfl rfl (B3.below hwx) Try.underlying25 (by kernel_rfl)) (fun a hA => ?_)
        refine takeFg (i := 12) hA 107 rfl rfl (by decide) rfl rfl rfl (by kernel_rfl) (by kernel_rfl) (by kernel_rfl) (fun _ _ _ h => h) hS (fun wx hwx => R_mov hA rfl rfl _) (fun a hA => ?_)
        refine takeFg (i := 13) hA 108 rfl rfl (by decide) rfl rfl rfl (by kernel_rfl) (by kernel_rfl) (by kernel_rfl) (fun _ _ _ h => h) hS (fun wx hwx => R_and hA rfl rfl rfl _) (fun a hA => ?_)
        refine takeFg (i := 14) hA 109 rfl rfl (by decide) rfl rfl rfl (by kernel_rfl) (by kernel_rfl) (by kernel_rfl) (fun _ _ _ h => h) hS (fun wx hwx => R_row hA rfl rfl (B3.below hwx) Try.underlying25 (by kernel_rfl)) (fun a hA => ?_)
        refine wpAnyH_ready (rs := [11]) (by kernel_rfl) (by simp) (ready_gcall (i := 11) hA (by decide) rfl rfl rfl (fun _ _ => by kernel_rfl) (args2 hA rfl rfl) (full_any x s hx sk _) (fun _ h => hS.trans (h.mono hS.size)) (fun w87 hw a hA => ?_) AllReadyH.nil)
        replace hS := hS.trans (hw.mono hS.size)
        clear hw
        refine wpAnyH_ready (rs := [15]) (by kernel_rfl) (by simp) (ready_gcall (i := 15) hA (by decide) rfl rfl rfl (fun _ _ => by kernel_rfl) (args2 hA rfl rfl) (full_any _ s (bz_inA _ _) sk _) (fun _ h => hS.trans (h.mono hS.size)) (fun w88 hw a hA => ?_) AllReadyH.nil)
        replace hS := hS.trans (hw.mono hS.size)
        clear hw
        refine takeFg (i := 16) hA 111 rfl rfl (by decide) rfl rfl rfl (by kernel_rfl) (by kernel_rfl) (by kernel_rfl) (fun _ _ _ h => h) hS (fun wx hwx => R_eqlBT hA rfl rfl rfl true (by rw [full_low]; simp) _) (fun a hA => ?_)
        refine takeF (i := 17) hA 112 rfl rfl (by decide) rfl (by kernel_rfl) (by kernel_rfl) (by kernel_rfl) (fun _ _ _ h => h) hS (fun wx hwx => R_pick hA rfl rfl rfl _) (fun a hA => ?_)
        refine takeF (i := 18) hA 4 rfl rfl (by decide) rfl (by kernel_rfl) (by kernel_rfl) (by kernel_rfl) (fun _ _ _ h => h) hS (fun wx hwx => R_asg hA rfl rfl _) (fun a hA => ?_)
        refine wpAnyH_done (by kernel_rfl) ?_ _
        replace B3 := B3.below hS
        replace B5 := B5.below hS
        replace HB := HB.trans (hS.mono HB.size)
        clear hS
        refine then_nrm ?_
        show Code.wp Try.prog _ _ _ _
        refine wp_ret ?_
        exact ret_tmp (j := 4) (by kernel_rfl) hA (by decide) rfl ⟨rfl, HB⟩
      refine W_gskip hA rfl rfl rfl 70 rfl (by decide) (fun a hA => ?_)
      refine W_gskip hA rfl rfl rfl 71 rfl (by decide) (fun a hA => ?_)
      refine W_gskip hA rfl rfl rfl 72 rfl (by decide) (fun a hA => ?_)
      refine W_val hA rfl 73 rfl (by decide) _ _ (R_pick hA rfl rfl rfl _) (fun a hA => ?_)
      refine W_val hA rfl 74 rfl (by decide) _ _ (R_mov hA rfl rfl _) (fun a hA => ?_)
      refine W_gskip hA rfl rfl rfl 75 rfl (by decide) (fun a hA => ?_)
      refine W_val hA rfl 76 rfl (by decide) _ _ (R_pick hA rfl rfl rfl _) (fun a hA => ?_)
      refine W_nil ?_
      refine then_nrm ?_
      show Code.wp Try.prog _ _ _ _
      refine wp_cond_false (hA.ev (x := .tmp 76) rfl) ?_
      refine wp_skip ?_
      refine then_nrm ?_
      show Code.wp Try.prog _ _ _ _
      refine wp_seq ?_
      refine wp_region_held_drew (S := fun wx => Below w69.heap.size w69 wx) (by kernel_rfl) ((Below.refl _ _).drew) (fun hS => ?_)
      refine takeF (i := 0) hA 95 rfl rfl (by decide) rfl (by kernel_rfl) (by kernel_rfl) (by kernel_rfl) (fun _ _ _ h => h) hS (fun wx hwx => R_mov hA rfl rfl _) (fun a hA => ?_)
      refine takeF (i := 1) hA 96 rfl rfl (by decide) rfl (by kernel_rfl) (by kernel_rfl) (by kernel_rfl) (fun _ _ _ h => h) hS (fun wx hwx => R_row hA rfl rfl (B3.below hwx) Try.underlying25 (by kernel_rfl)) (fun a hA => ?_)
      refine takeF (i := 3) hA 98 rfl rfl (by decide) rfl (by kernel_rfl) (by kernel_rfl) (by kernel_rfl) (fun _ _ _ h => h) hS (fun wx hwx => R_mov hA rfl rfl _) (fun a hA => ?_)
      refine takeF (i := 4) hA 99 rfl rfl (by decide) rfl (by kernel_rfl) (by kernel_rfl) (by kernel_rfl) (fun _ _ _ h => h) hS (fun wx hwx => R_and hA rfl rfl rfl _) (fun a hA => ?_)
      refine takeF (i := 5) hA 100 rfl rfl (by decide) rfl (by kernel_rfl) (by kernel_rfl) (by kernel_rfl) (fun _ _ _ h => h) hS (fun wx hwx => R_row hA rfl rfl (B3.below hwx) Try.underlying25 (by kernel_rfl)) (fun a hA => ?_)
      refine wpAnyH_ready (rs := [2]) (by kernel_rfl) (by simp) (ready_call (i := 2) hA (by decide) rfl (fun _ _ => by kernel_rfl) (args2 hA rfl rfl) (allow_any x s hx sk _) (fun _ h => hS.trans (h.mono hS.size)) (fun w89 hw a hA => ?_) AllReadyH.nil)
      replace hS := hS.trans (hw.mono hS.size)
      clear hw
      refine wpAnyH_ready (rs := [6]) (by kernel_rfl) (by simp) (ready_call (i := 6) hA (by decide) rfl (fun _ _ => by kernel_rfl) (args2 hA rfl rfl) (allow_any _ s (bz_inA _ _) sk _) (fun _ h => hS.trans (h.mono hS.size)) (fun w90 hw a hA => ?_) AllReadyH.nil)
      replace hS := hS.trans (hw.mono hS.size)
      clear hw
      refine takeF (i := 7) hA 102 rfl rfl (by decide) rfl (by kernel_rfl) (by kernel_rfl) (by kernel_rfl) (fun _ _ _ h => h) hS (fun wx hwx => R_eqlBT hA rfl rfl rfl true (by rw [allow_low]; simp) _) (fun a hA => ?_)
      refine takeF (i := 8) hA 103 rfl rfl (by decide) rfl (by kernel_rfl) (by kernel_rfl) (by kernel_rfl) (fun _ _ _ h => h) hS (fun wx hwx => R_mov hA rfl rfl _) (fun a hA => ?_)
      refine takeFg (i := 9) hA 104 rfl rfl (by decide) rfl rfl rfl (by kernel_rfl) (by kernel_rfl) (by kernel_rfl) (fun _ _ _ h => h) hS (fun wx hwx => R_mov hA rfl rfl _) (fun a hA => ?_)
      refine takeFg (i := 10) hA 105 rfl rfl (by decide) rfl rfl rfl (by kernel_rfl) (by kernel_rfl) (by kernel_rfl) (fun _ _ _ h => h) hS (fun wx hwx => R_row hA rfl rfl (B3.below hwx) Try.underlying25 (by kernel_rfl)) (fun a hA => ?_)
      refine takeFg (i := 12) hA 107 rfl rfl (by decide) rfl rfl rfl (by kernel_rfl) (by kernel_rfl) (by kernel_rfl) (fun _ _ _ h => h) hS (fun wx hwx => R_mov hA rfl rfl _) (fun a hA => ?_)
      refine takeFg (i := 13) hA 108 rfl rfl (by decide) rfl rfl rfl (by kernel_rfl) (by kernel_rfl) (by kernel_rfl) (fun _ _ _ h => h) hS (fun wx hwx => R_and hA rfl rfl rfl _) (fun a hA => ?_)
      refine takeFg (i := 14) hA 109 rfl rfl (by decide) rfl rfl rfl (by kernel_rfl) (by kernel_rfl) (by kernel_rfl) (fun _ _ _ h => h) hS (fun wx hwx => R_row hA rfl rfl (B3.below hwx) Try.underlying25 (by kernel_rfl)) (fun a hA => ?_)
      refine wpAnyH_ready (rs := [11]) (by kernel_rfl) (by simp) (ready_gcall (i := 11) hA (by decide) rfl rfl rfl (fun _ _ => by kernel_rfl) (args2 hA rfl rfl) (full_any x s hx sk _) (fun _ h => hS.trans (h.mono hS.size)) (fun w91 hw a hA => ?_) AllReadyH.nil)
      replace hS := hS.trans (hw.mono hS.size)
      clear hw
      refine wpAnyH_ready (rs := [15]) (by kernel_rfl) (by simp) (ready_gcall (i := 15) hA (by decide) rfl rfl rfl (fun _ _ => by kernel_rfl) (args2 hA rfl rfl) (full_any _ s (bz_inA _ _) sk _) (fun _ h => hS.trans (h.mono hS.size)) (fun w92 hw a hA => ?_) AllReadyH.nil)
      replace hS := hS.trans (hw.mono hS.size)
      clear hw
      refine takeFg (i := 16) hA 111 rfl rfl (by decide) rfl rfl rfl (by kernel_rfl) (by kernel_rfl) (by kernel_rfl) (fun _ _ _ h => h) hS (fun wx hwx => R_eqlBT hA rfl rfl rfl true (by rw [full_low]; simp) _) (fun a hA => ?_)
      refine takeF (i := 17) hA 112 rfl rfl (by decide) rfl (by kernel_rfl) (by kernel_rfl) (by kernel_rfl) (fun _ _ _ h => h) hS (fun wx hwx => R_pick hA rfl rfl rfl _) (fun a hA => ?_)
      refine takeF (i := 18) hA 4 rfl rfl (by decide) rfl (by kernel_rfl) (by kernel_rfl) (by kernel_rfl) (fun _ _ _ h => h) hS (fun wx hwx => R_asg hA rfl rfl _) (fun a hA => ?_)
      refine wpAnyH_done (by kernel_rfl) ?_ _
      replace B3 := B3.below hS
      replace B5 := B5.below hS
      replace HB := HB.trans (hS.mono HB.size)
      clear hS
      refine then_nrm ?_
      show Code.wp Try.prog _ _ _ _
      refine wp_ret ?_
      exact ret_tmp (j := 4) (by kernel_rfl) hA (by decide) rfl ⟨rfl, HB⟩
    refine W_gskip hA rfl rfl rfl 66 rfl (by decide) (fun a hA => ?_)
    refine W_gskip hA rfl rfl rfl 67 rfl (by decide) (fun a hA => ?_)
    refine W_val hA rfl 68 rfl (by decide) _ _ (R_pick hA rfl rfl rfl _) (fun a hA => ?_)
    refine W_val hA rfl 69 rfl (by decide) _ _ (R_mov hA rfl rfl _) (fun a hA => ?_)
    refine W_gskip hA rfl rfl rfl 70 rfl (by decide) (fun a hA => ?_)
    refine W_gskip hA rfl rfl rfl 71 rfl (by decide) (fun a hA => ?_)
    refine W_gskip hA rfl rfl rfl 72 rfl (by decide) (fun a hA => ?_)
    refine W_val hA rfl 73 rfl (by decide) _ _ (R_pick hA rfl rfl rfl _) (fun a hA => ?_)
    refine W_val hA rfl 74 rfl (by decide) _ _ (R_mov hA rfl rfl _) (fun a hA => ?_)
    refine W_gskip hA rfl rfl rfl 75 rfl (by decide) (fun a hA => ?_)
    refine W_val hA rfl 76 rfl (by decide) _ _ (R_pick hA rfl rfl rfl _) (fun a hA => ?_)
    refine W_nil ?_
    refine then_nrm ?_
    show Code.wp Try.prog _ _ _ _
    refine wp_cond_false (hA.ev (x := .tmp 76) rfl) ?_
    refine wp_skip ?_
    refine then_nrm ?_
    show Code.wp Try.prog _ _ _ _
    refine wp_seq ?_
    refine wp_region_held_drew (S := fun wx => Below w68.heap.size w68 wx) (by kernel_rfl) ((Below.refl _ _).drew) (fun hS => ?_)
    refine takeF (i := 0) hA 95 rfl rfl (by decide) rfl (by kernel_rfl) (by kernel_rfl) (by kernel_rfl) (fun _ _ _ h => h) hS (fun wx hwx => R_mov hA rfl rfl _) (fun a hA => ?_)
    refine takeF (i := 1) hA 96 rfl rfl (by decide) rfl (by kernel_rfl) (by kernel_rfl) (by kernel_rfl) (fun _ _ _ h => h) hS (fun wx hwx => R_row hA rfl rfl (B3.below hwx) Try.underlying25 (by kernel_rfl)) (fun a hA => ?_)
    refine takeF (i := 3) hA 98 rfl rfl (by decide) rfl (by kernel_rfl) (by kernel_rfl) (by kernel_rfl) (fun _ _ _ h => h) hS (fun wx hwx => R_mov hA rfl rfl _) (fun a hA => ?_)
    refine takeF (i := 4) hA 99 rfl rfl (by decide) rfl (by kernel_rfl) (by kernel_rfl) (by kernel_rfl) (fun _ _ _ h => h) hS (fun wx hwx => R_and hA rfl rfl rfl _) (fun a hA => ?_)
    refine takeF (i := 5) hA 100 rfl rfl (by decide) rfl (by kernel_rfl) (by kernel_rfl) (by kernel_rfl) (fun _ _ _ h => h) hS (fun wx hwx => R_row hA rfl rfl (B3.below hwx) Try.underlying25 (by kernel_rfl)) (fun a hA => ?_)
    refine wpAnyH_ready (rs := [2]) (by kernel_rfl) (by simp) (ready_call (i := 2) hA (by decide) rfl (fun _ _ => by kernel_rfl) (args2 hA rfl rfl) (allow_any x s hx sk _) (fun _ h => hS.trans (h.mono hS.size)) (fun w93 hw a hA => ?_) AllReadyH.nil)
    replace hS := hS.trans (hw.mono hS.size)
    clear hw
    refine wpAnyH_ready (rs := [6]) (by kernel_rfl) (by simp) (ready_call (i := 6) hA (by decide) rfl (fun _ _ => by kernel_rfl) (args2 hA rfl rfl) (allow_any _ s (bz_inA _ _) sk _) (fun _ h => hS.trans (h.mono hS.size)) (fun w94 hw a hA => ?_) AllReadyH.nil)
    replace hS := hS.trans (hw.mono hS.size)
    clear hw
    refine takeF (i := 7) hA 102 rfl rfl (by decide) rfl (by kernel_rfl) (by kernel_rfl) (by kernel_rfl) (fun _ _ _ h => h) hS (fun wx hwx => R_eqlBT hA rfl rfl rfl true (by rw [allow_low]; simp) _) (fun a hA => ?_)
    refine takeF (i := 8) hA 103 rfl rfl (by decide) rfl (by kernel_rfl) (by kernel_rfl) (by kernel_rfl) (fun _ _ _ h => h) hS (fun wx hwx => R_mov hA rfl rfl _) (fun a hA => ?_)
    refine takeFg (i := 9) hA 104 rfl rfl (by decide) rfl rfl rfl (by kernel_rfl) (by kernel_rfl) (by kernel_rfl) (fun _ _ _ h => h) hS (fun wx hwx => R_mov hA rfl rfl _) (fun a hA => ?_)
    refine takeFg (i := 10) hA 105 rfl rfl (by decide) rfl rfl rfl (by kernel_rfl) (by kernel_rfl) (by kernel_rfl) (fun _ _ _ h => h) hS (fun wx hwx => R_row hA rfl rfl (B3.below hwx) Try.underlying25 (by kernel_rfl)) (fun a hA => ?_)
    refine takeFg (i := 12) hA 107 rfl rfl (by decide) rfl rfl rfl (by kernel_rfl) (by kernel_rfl) (by kernel_rfl) (fun _ _ _ h => h) hS (fun wx hwx => R_mov hA rfl rfl _) (fun a hA => ?_)
    refine takeFg (i := 13) hA 108 rfl rfl (by decide) rfl rfl rfl (by kernel_rfl) (by kernel_rfl) (by kernel_rfl) (fun _ _ _ h => h) hS (fun wx hwx => R_and hA rfl rfl rfl _) (fun a hA => ?_)
    refine takeFg (i := 14) hA 109 rfl rfl (by decide) rfl rfl rfl (by kernel_rfl) (by kernel_rfl) (by kernel_rfl) (fun _ _ _ h => h) hS (fun wx hwx => R_row hA rfl rfl (B3.below hwx) Try.underlying25 (by kernel_rfl)) (fun a hA => ?_)
    refine wpAnyH_ready (rs := [11]) (by kernel_rfl) (by simp) (ready_gcall (i := 11) hA (by decide) rfl rfl rfl (fun _ _ => by kernel_rfl) (args2 hA rfl rfl) (full_any x s hx sk _) (fun _ h => hS.trans (h.mono hS.size)) (fun w95 hw a hA => ?_) AllReadyH.nil)
    replace hS := hS.trans (hw.mono hS.size)
    clear hw
    refine wpAnyH_ready (rs := [15]) (by kernel_rfl) (by simp) (ready_gcall (i := 15) hA (by decide) rfl rfl rfl (fun _ _ => by kernel_rfl) (args2 hA rfl rfl) (full_any _ s (bz_inA _ _) sk _) (fun _ h => hS.trans (h.mono hS.size)) (fun w96 hw a hA => ?_) AllReadyH.nil)
    replace hS := hS.trans (hw.mono hS.size)
    clear hw
    refine takeFg (i := 16) hA 111 rfl rfl (by decide) rfl rfl rfl (by kernel_rfl) (by kernel_rfl) (by kernel_rfl) (fun _ _ _ h => h) hS (fun wx hwx => R_eqlBT hA rfl rfl rfl true (by rw [full_low]; simp) _) (fun a hA => ?_)
    refine takeF (i := 17) hA 112 rfl rfl (by decide) rfl (by kernel_rfl) (by kernel_rfl) (by kernel_rfl) (fun _ _ _ h => h) hS (fun wx hwx => R_pick hA rfl rfl rfl _) (fun a hA => ?_)
    refine takeF (i := 18) hA 4 rfl rfl (by decide) rfl (by kernel_rfl) (by kernel_rfl) (by kernel_rfl) (fun _ _ _ h => h) hS (fun wx hwx => R_asg hA rfl rfl _) (fun a hA => ?_)
    refine wpAnyH_done (by kernel_rfl) ?_ _
    replace B3 := B3.below hS
    replace B5 := B5.below hS
    replace HB := HB.trans (hS.mono HB.size)
    clear hS
    refine then_nrm ?_
    show Code.wp Try.prog _ _ _ _
    refine wp_ret ?_
    exact ret_tmp (j := 4) (by kernel_rfl) hA (by decide) rfl ⟨rfl, HB⟩
  refine W_gskip hA rfl rfl rfl 32 rfl (by decide) (fun a hA => ?_)
  refine W_gskip hA rfl rfl rfl 33 rfl (by decide) (fun a hA => ?_)
  refine W_gskip hA rfl rfl rfl 34 rfl (by decide) (fun a hA => ?_)
  refine W_gval hA rfl rfl rfl 35 rfl (by decide) _ _ (R_pick hA rfl rfl rfl _) (fun a hA => ?_)
  refine W_val hA rfl 36 rfl (by decide) _ _ (R_pick hA rfl rfl rfl _) (fun a hA => ?_)
  refine W_val hA rfl 37 rfl (by decide) _ _ (R_mov hA rfl rfl _) (fun a hA => ?_)
  refine W_gval hA rfl rfl rfl 38 rfl (by decide) _ _ (R_mov hA rfl rfl _) (fun a hA => ?_)
  refine W_gval hA rfl rfl rfl 39 rfl (by decide) _ _ (R_mov hA rfl rfl _) (fun a hA => ?_)
  refine W_gval hA rfl rfl rfl 40 rfl (by decide) _ _ (R_fa hA rfl rfl (fun w => fa_want _ 2 (by decide) w) _) (fun a hA => ?_)
  refine W_gval hA rfl rfl rfl 41 rfl (by decide) _ _ (R_ld (v := .int .u8 s.priv) hA rfl rfl ag_u8 (RowC.cell B3 2 _ rfl)) (fun a hA => ?_)
  refine W_gval hA rfl rfl rfl 42 rfl (by decide) _ _ (R_neqB hA rfl rfl rfl _) (fun a hA => ?_)
  refine W_gval hA rfl rfl rfl 43 rfl (by decide) _ _ (R_pick hA rfl rfl rfl _) (fun a hA => ?_)
  refine W_gval hA rfl rfl rfl 44 rfl (by decide) _ _ (R_mov hA rfl rfl _) (fun a hA => ?_)
  refine W_split hA 44 rfl (fun c16 hA => ?_) (fun c16 hA => ?_)
  · skip
    refine W_gval hA rfl rfl rfl 45 rfl (by decide) _ _ (R_fa hA rfl rfl (fun w => fa_want _ 0 (by decide) w) _) (fun a hA => ?_)
    refine W_gval hA rfl rfl rfl 46 rfl (by decide) _ _ (R_ld (v := .int .u8 s.kind) hA rfl rfl ag_u8 (RowC.cell B3 0 _ rfl)) (fun a hA => ?_)
    refine W_gval hA rfl rfl rfl 47 rfl (by decide) _ _ (R_eqlB hA rfl rfl rfl _) (fun a hA => ?_)
    refine W_gval hA rfl rfl rfl 48 rfl (by decide) _ _ (R_pick hA rfl rfl rfl _) (fun a hA => ?_)
    refine W_gval hA rfl rfl rfl 49 rfl (by decide) _ _ (R_mov hA rfl rfl _) (fun a hA => ?_)
    refine W_split hA 49 rfl (fun c17 hA => ?_) (fun c17 hA => ?_)
    · skip
      refine W_gval hA rfl rfl rfl 50 rfl (by decide) _ _ (R_mov hA rfl rfl _) (fun a hA => ?_)
      refine W_gval hA rfl rfl rfl 51 rfl (by decide) _ _ (R_and hA rfl rfl rfl _) (fun a hA => ?_)
      refine W_gval hA rfl rfl rfl 52 rfl (by decide) _ _ (R_neqUT hA rfl rfl rfl false (by rw [bz_ne x 16 4 (by decide) (by decide)]; exact allow_fetch h c16 c17) _) (fun a hA => ?_)
      refine W_gval hA rfl rfl rfl 53 rfl (by decide) _ _ (R_pick hA rfl rfl rfl _) (fun a hA => ?_)
      refine W_val hA rfl 54 rfl (by decide) _ _ (R_pick hA rfl rfl rfl _) (fun a hA => ?_)
      refine W_val hA rfl 55 rfl (by decide) _ _ (R_mov hA rfl rfl _) (fun a hA => ?_)
      refine W_gval hA rfl rfl rfl 56 rfl (by decide) _ _ (R_mov hA rfl rfl _) (fun a hA => ?_)
      refine W_gval hA rfl rfl rfl 57 rfl (by decide) _ _ (R_mov hA rfl rfl _) (fun a hA => ?_)
      refine W_gval hA rfl rfl rfl 58 rfl (by decide) _ _ (R_fa hA rfl rfl (fun w => fa_want _ 0 (by decide) w) _) (fun a hA => ?_)
      refine W_gval hA rfl rfl rfl 59 rfl (by decide) _ _ (R_ld (v := .int .u8 s.kind) hA rfl rfl ag_u8 (RowC.cell B3 0 _ rfl)) (fun a hA => ?_)
      refine W_gval hA rfl rfl rfl 60 rfl (by decide) _ _ (R_gtrBT hA rfl rfl rfl false (allow_kind h) _) (fun a hA => ?_)
      refine W_gval hA rfl rfl rfl 61 rfl (by decide) _ _ (R_pick hA rfl rfl rfl _) (fun a hA => ?_)
      refine W_val hA rfl 62 rfl (by decide) _ _ (R_pick hA rfl rfl rfl _) (fun a hA => ?_)
      refine W_nil ?_
      refine then_nrm ?_
      show Code.wp Try.prog _ _ _ _
      refine wp_cond_false (hA.ev (x := .tmp 62) rfl) ?_
      refine wp_skip ?_
      refine then_nrm ?_
      show Code.wp Try.prog _ _ _ _
      refine wp_seq ?_
      refine wp_seq ?_
      refine wp_region_list ?_
      refine W_val hA rfl 63 rfl (by decide) _ _ (R_mov hA rfl rfl _) (fun a hA => ?_)
      refine W_callA hA (by decide) (fun _ _ => by kernel_rfl) (args1 hA rfl) (ok_any x hx _) (fun w97 hw a hA => ?_)
      replace HB := HB.trans (hw.mono HB.size)
      replace B3 := B3.below hw
      replace B5 := B5.below hw
      clear hw
      refine W_val hA rfl 65 rfl (by decide) _ _ (R_mov hA rfl rfl _) (fun a hA => ?_)
      refine W_split hA 65 rfl (fun c18 hA => ?_) (fun c18 hA => ?_)
      · skip
        refine W_gval hA rfl rfl rfl 66 rfl (by decide) _ _ (R_mov hA rfl rfl _) (fun a hA => ?_)
        refine W_gcallB hA rfl rfl (by decide) (fun _ _ => by kernel_rfl) (args1 hA rfl) (leaf_any x hx _) (fun w98 hw a hA => ?_)
        replace HB := HB.trans (hw.mono HB.size)
        replace B3 := B3.below hw
        replace B5 := B5.below hw
        clear hw
        refine W_val hA rfl 68 rfl (by decide) _ _ (R_pick hA rfl rfl rfl _) (fun a hA => ?_)
        refine W_val hA rfl 69 rfl (by decide) _ _ (R_mov hA rfl rfl _) (fun a hA => ?_)
        refine W_split hA 69 rfl (fun c19 hA => ?_) (fun c19 hA => ?_)
        · skip
          refine W_gval hA rfl rfl rfl 70 rfl (by decide) _ _ (R_fa hA rfl rfl (fun w => fa_want _ 0 (by decide) w) _) (fun a hA => ?_)
          refine W_gval hA rfl rfl rfl 71 rfl (by decide) _ _ (R_ld (v := .int .u8 s.kind) hA rfl rfl ag_u8 (RowC.cell B3 0 _ rfl)) (fun a hA => ?_)
          refine W_gval hA rfl rfl rfl 72 rfl (by decide) _ _ (R_eqlB hA rfl rfl rfl _) (fun a hA => ?_)
          refine W_val hA rfl 73 rfl (by decide) _ _ (R_pick hA rfl rfl rfl _) (fun a hA => ?_)
          refine W_val hA rfl 74 rfl (by decide) _ _ (R_mov hA rfl rfl _) (fun a hA => ?_)
          refine W_split hA 74 rfl (fun c20 hA => ?_) (fun c20 hA => ?_)
          · skip
            refine W_gval hA rfl rfl rfl 75 rfl (by decide) _ _ (R_mov hA rfl rfl _) (fun a hA => ?_)
            refine W_val hA rfl 76 rfl (by decide) _ _ (R_pick hA rfl rfl rfl _) (fun a hA => ?_)
            refine W_nil ?_
            refine then_nrm ?_
            show Code.wp Try.prog _ _ _ _
            refine wp_cond_true (hA.ev (x := .tmp 76) rfl) ?_
            refine wp_seq ?_
            refine wp_region_list ?_
            refine W_val hA rfl 77 rfl (by decide) _ _ (R_row hA rfl rfl B3 Try.underlying25 (by kernel_rfl)) (fun a hA => ?_)
            refine W_allocT (cs := #[.int .u8 0, .bool false, .int .u8 0, .bool false, .bool false, .bool false, .bool false]) hA rfl 7 rfl (by decide) rfl zero_want (fun w99 bB7 a hA hb B7 gB7 => ?_)
            have nB3B7 : bB3 < bB7 := by have := B3.lt; omega
            have nB5B7 : bB5 < bB7 := by have := B5.lt; omega
            replace gB7 := Nat.le_trans HB.size gB7
            replace HB := HB.trans (hb.mono HB.size)
            replace B3 := B3.below hb
            replace B5 := B5.below hb
            clear hb
            refine W_cpT (cs := wantC s) hA rfl rfl rfl rfl rfl B7 (by kernel_rfl) rfl (by simp [Value.oneCell']) (fun w100 hT HN => ?_)
            replace HB := HB.trans (hT.bel _ gB7)
            replace B3 := hT.row B3 (by omega)
            replace B5 := hT.row B5 (by omega)
            replace B7 := HN
            clear hT HN
            refine W_nil ?_
            refine then_nrm ?_
            show Code.wp Try.prog _ _ _ _
            refine wp_seq ?_
            refine wp_region_list ?_
            refine W_val hA rfl 78 rfl (by decide) _ _ (R_fa hA rfl rfl (fun w => fa_want _ 0 (by decide) w) _) (fun a hA => ?_)
            refine W_stT (cs' := #[.int .u8 0, .bool s.ex, .int .u8 s.priv, .bool s.v, .bool s.sum, .bool s.mxr, .bool s.vmxr]) hA rfl rfl rfl rfl rfl B7 (stT_B B7 _ rfl) rfl (fun w101 hT HN => ?_)
            replace HB := HB.trans (hT.bel _ gB7)
            replace B3 := hT.row B3 (by omega)
            replace B5 := hT.row B5 (by omega)
            replace B7 := HN
            clear hT HN
            refine W_nil ?_
            refine then_nrm ?_
            show Code.wp Try.prog _ _ _ _
            refine wp_seq ?_
            refine wp_region_list ?_
            refine W_val hA rfl 79 rfl (by decide) _ _ (R_fa hA rfl rfl (fun w => fa_want _ 1 (by decide) w) _) (fun a hA => ?_)
            refine W_stT (cs' := #[.int .u8 0, .bool false, .int .u8 s.priv, .bool s.v, .bool s.sum, .bool s.mxr, .bool s.vmxr]) hA rfl rfl rfl rfl rfl B7 (stT_b B7 _ rfl) rfl (fun w102 hT HN => ?_)
            replace HB := HB.trans (hT.bel _ gB7)
            replace B3 := hT.row B3 (by omega)
            replace B5 := hT.row B5 (by omega)
            replace B7 := HN
            clear hT HN
            replace B7 : RowC w102 bB7 25 (wantC s.load) := B7
            refine W_nil ?_
            refine then_nrm ?_
            show Code.wp Try.prog _ _ _ _
            refine wp_seq ?_
            refine wp_region_list ?_
            refine W_val hA rfl 80 rfl (by decide) _ _ (R_mov hA rfl rfl _) (fun a hA => ?_)
            refine W_val hA rfl 81 rfl (by decide) _ _ (R_row hA rfl rfl B7 Try.underlying25 (by kernel_rfl)) (fun a hA => ?_)
            refine W_callA hA (by decide) (fun _ _ => by kernel_rfl) (args2 hA rfl rfl) (allow_to (s := s.load) hx (ok_load sk) (allow_load h c18 c20) _) (fun w103 hw a hA => ?_)
            replace HB := HB.trans (hw.mono HB.size)
            replace B3 := B3.below hw
            replace B5 := B5.below hw
            replace B7 := B7.below hw
            clear hw
            refine W_val hA rfl 83 rfl (by decide) _ _ (R_not hA rfl rfl _) (fun a hA => ?_)
            refine W_val hA rfl 84 rfl (by decide) _ _ (R_mov hA rfl rfl _) (fun a hA => ?_)
            refine W_gval hA rfl rfl rfl 85 rfl (by decide) _ _ (R_mov hA rfl rfl _) (fun a hA => ?_)
            refine W_gval hA rfl rfl rfl 86 rfl (by decide) _ _ (R_row hA rfl rfl B3 Try.underlying25 (by kernel_rfl)) (fun a hA => ?_)
            refine W_gcallB hA rfl rfl (by decide) (fun _ _ => by kernel_rfl) (args2 hA rfl rfl) (full_any x s hx sk _) (fun w104 hw a hA => ?_)
            replace HB := HB.trans (hw.mono HB.size)
            replace B3 := B3.below hw
            replace B5 := B5.below hw
            replace B7 := B7.below hw
            clear hw
            refine W_gval hA rfl rfl rfl 88 rfl (by decide) _ _ (R_mov hA rfl rfl _) (fun a hA => ?_)
            refine W_split hA 88 rfl (fun c21 hA => ?_) (fun c21 hA => ?_)
            · skip
              refine W_gval hA rfl rfl rfl 89 rfl (by decide) _ _ (R_mov hA rfl rfl _) (fun a hA => ?_)
              refine W_gval hA rfl rfl rfl 90 rfl (by decide) _ _ (R_row hA rfl rfl B7 Try.underlying25 (by kernel_rfl)) (fun a hA => ?_)
              refine W_gcallB hA rfl rfl (by decide) (fun _ _ => by kernel_rfl) (args2 hA rfl rfl) (full_to (s := s.load) hx (ok_load sk) (full_load c21) _) (fun w105 hw a hA => ?_)
              replace HB := HB.trans (hw.mono HB.size)
              replace B3 := B3.below hw
              replace B5 := B5.below hw
              replace B7 := B7.below hw
              clear hw
              refine W_gval hA rfl rfl rfl 92 rfl (by decide) _ _ (R_not hA rfl rfl _) (fun a hA => ?_)
              refine W_gval hA rfl rfl rfl 93 rfl (by decide) _ _ (R_pick hA rfl rfl rfl _) (fun a hA => ?_)
              refine W_val hA rfl 94 rfl (by decide) _ _ (R_pick hA rfl rfl rfl _) (fun a hA => ?_)
              refine W_nil ?_
              refine then_nrm ?_
              show Code.wp Try.prog _ _ _ _
              refine wp_cond_false (hA.ev (x := .tmp 94) rfl) ?_
              refine wp_skip ?_
              refine then_nrm ?_
              show Code.wp Try.prog _ _ _ _
              refine wp_seq ?_
              refine wp_region_held_drew (S := fun wx => Below w105.heap.size w105 wx) (by kernel_rfl) ((Below.refl _ _).drew) (fun hS => ?_)
              refine takeF (i := 0) hA 95 rfl rfl (by decide) rfl (by kernel_rfl) (by kernel_rfl) (by kernel_rfl) (fun _ _ _ h => h) hS (fun wx hwx => R_mov hA rfl rfl _) (fun a hA => ?_)
              refine takeF (i := 1) hA 96 rfl rfl (by decide) rfl (by kernel_rfl) (by kernel_rfl) (by kernel_rfl) (fun _ _ _ h => h) hS (fun wx hwx => R_row hA rfl rfl (B3.below hwx) Try.underlying25 (by kernel_rfl)) (fun a hA => ?_)
              refine takeF (i := 3) hA 98 rfl rfl (by decide) rfl (by kernel_rfl) (by kernel_rfl) (by kernel_rfl) (fun _ _ _ h => h) hS (fun wx hwx => R_mov hA rfl rfl _) (fun a hA => ?_)
              refine takeF (i := 4) hA 99 rfl rfl (by decide) rfl (by kernel_rfl) (by kernel_rfl) (by kernel_rfl) (fun _ _ _ h => h) hS (fun wx hwx => R_and hA rfl rfl rfl _) (fun a hA => ?_)
              refine takeF (i := 5) hA 100 rfl rfl (by decide) rfl (by kernel_rfl) (by kernel_rfl) (by kernel_rfl) (fun _ _ _ h => h) hS (fun wx hwx => R_row hA rfl rfl (B3.below hwx) Try.underlying25 (by kernel_rfl)) (fun a hA => ?_)
              refine wpAnyH_ready (rs := [2]) (by kernel_rfl) (by simp) (ready_call (i := 2) hA (by decide) rfl (fun _ _ => by kernel_rfl) (args2 hA rfl rfl) (allow_any x s hx sk _) (fun _ h => hS.trans (h.mono hS.size)) (fun w106 hw a hA => ?_) AllReadyH.nil)
              replace hS := hS.trans (hw.mono hS.size)
              clear hw
              refine wpAnyH_ready (rs := [6]) (by kernel_rfl) (by simp) (ready_call (i := 6) hA (by decide) rfl (fun _ _ => by kernel_rfl) (args2 hA rfl rfl) (allow_any _ s (bz_inA _ _) sk _) (fun _ h => hS.trans (h.mono hS.size)) (fun w107 hw a hA => ?_) AllReadyH.nil)
              replace hS := hS.trans (hw.mono hS.size)
              clear hw
              refine takeF (i := 7) hA 102 rfl rfl (by decide) rfl (by kernel_rfl) (by kernel_rfl) (by kernel_rfl) (fun _ _ _ h => h) hS (fun wx hwx => R_eqlBT hA rfl rfl rfl true (by rw [allow_low]; simp) _) (fun a hA => ?_)
              refine takeF (i := 8) hA 103 rfl rfl (by decide) rfl (by kernel_rfl) (by kernel_rfl) (by kernel_rfl) (fun _ _ _ h => h) hS (fun wx hwx => R_mov hA rfl rfl _) (fun a hA => ?_)
              refine takeFg (i := 9) hA 104 rfl rfl (by decide) rfl rfl rfl (by kernel_rfl) (by kernel_rfl) (by kernel_rfl) (fun _ _ _ h => h) hS (fun wx hwx => R_mov hA rfl rfl _) (fun a hA => ?_)
              refine takeFg (i := 10) hA 105 rfl rfl (by decide) rfl rfl rfl (by kernel_rfl) (by kernel_rfl) (by kernel_rfl) (fun _ _ _ h => h) hS (fun wx hwx => R_row hA rfl rfl (B3.below hwx) Try.underlying25 (by kernel_rfl)) (fun a hA => ?_)
              refine takeFg (i := 12) hA 107 rfl rfl (by decide) rfl rfl rfl (by kernel_rfl) (by kernel_rfl) (by kernel_rfl) (fun _ _ _ h => h) hS (fun wx hwx => R_mov hA rfl rfl _) (fun a hA => ?_)
              refine takeFg (i := 13) hA 108 rfl rfl (by decide) rfl rfl rfl (by kernel_rfl) (by kernel_rfl) (by kernel_rfl) (fun _ _ _ h => h) hS (fun wx hwx => R_and hA rfl rfl rfl _) (fun a hA => ?_)
              refine takeFg (i := 14) hA 109 rfl rfl (by decide) rfl rfl rfl (by kernel_rfl) (by kernel_rfl) (by kernel_rfl) (fun _ _ _ h => h) hS (fun wx hwx => R_row hA rfl rfl (B3.below hwx) Try.underlying25 (by kernel_rfl)) (fun a hA => ?_)
              refine wpAnyH_ready (rs := [11]) (by kernel_rfl) (by simp) (ready_gcall (i := 11) hA (by decide) rfl rfl rfl (fun _ _ => by kernel_rfl) (args2 hA rfl rfl) (full_any x s hx sk _) (fun _ h => hS.trans (h.mono hS.size)) (fun w108 hw a hA => ?_) AllReadyH.nil)
              replace hS := hS.trans (hw.mono hS.size)
              clear hw
              refine wpAnyH_ready (rs := [15]) (by kernel_rfl) (by simp) (ready_gcall (i := 15) hA (by decide) rfl rfl rfl (fun _ _ => by kernel_rfl) (args2 hA rfl rfl) (full_any _ s (bz_inA _ _) sk _) (fun _ h => hS.trans (h.mono hS.size)) (fun w109 hw a hA => ?_) AllReadyH.nil)
              replace hS := hS.trans (hw.mono hS.size)
              clear hw
              refine takeFg (i := 16) hA 111 rfl rfl (by decide) rfl rfl rfl (by kernel_rfl) (by kernel_rfl) (by kernel_rfl) (fun _ _ _ h => h) hS (fun wx hwx => R_eqlBT hA rfl rfl rfl true (by rw [full_low]; simp) _) (fun a hA => ?_)
              refine takeF (i := 17) hA 112 rfl rfl (by decide) rfl (by kernel_rfl) (by kernel_rfl) (by kernel_rfl) (fun _ _ _ h => h) hS (fun wx hwx => R_pick hA rfl rfl rfl _) (fun a hA => ?_)
              refine takeF (i := 18) hA 4 rfl rfl (by decide) rfl (by kernel_rfl) (by kernel_rfl) (by kernel_rfl) (fun _ _ _ h => h) hS (fun wx hwx => R_asg hA rfl rfl _) (fun a hA => ?_)
              refine wpAnyH_done (by kernel_rfl) ?_ _
              replace B3 := B3.below hS
              replace B5 := B5.below hS
              replace B7 := B7.below hS
              replace HB := HB.trans (hS.mono HB.size)
              clear hS
              refine then_nrm ?_
              show Code.wp Try.prog _ _ _ _
              refine wp_ret ?_
              exact ret_tmp (j := 4) (by kernel_rfl) hA (by decide) rfl ⟨rfl, HB⟩
            refine W_gskip hA rfl rfl rfl 89 rfl (by decide) (fun a hA => ?_)
            refine W_gskip hA rfl rfl rfl 90 rfl (by decide) (fun a hA => ?_)
            refine W_gskip hA rfl rfl rfl 91 rfl (by decide) (fun a hA => ?_)
            refine W_gskip hA rfl rfl rfl 92 rfl (by decide) (fun a hA => ?_)
            refine W_gval hA rfl rfl rfl 93 rfl (by decide) _ _ (R_pick hA rfl rfl rfl _) (fun a hA => ?_)
            refine W_val hA rfl 94 rfl (by decide) _ _ (R_pick hA rfl rfl rfl _) (fun a hA => ?_)
            refine W_nil ?_
            refine then_nrm ?_
            show Code.wp Try.prog _ _ _ _
            refine wp_cond_false (hA.ev (x := .tmp 94) rfl) ?_
            refine wp_skip ?_
            refine then_nrm ?_
            show Code.wp Try.prog _ _ _ _
            refine wp_seq ?_
            refine wp_region_held_drew (S := fun wx => Below w104.heap.size w104 wx) (by kernel_rfl) ((Below.refl _ _).drew) (fun hS => ?_)
            refine takeF (i := 0) hA 95 rfl rfl (by decide) rfl (by kernel_rfl) (by kernel_rfl) (by kernel_rfl) (fun _ _ _ h => h) hS (fun wx hwx => R_mov hA rfl rfl _) (fun a hA => ?_)
            refine takeF (i := 1) hA 96 rfl rfl (by decide) rfl (by kernel_rfl) (by kernel_rfl) (by kernel_rfl) (fun _ _ _ h => h) hS (fun wx hwx => R_row hA rfl rfl (B3.below hwx) Try.underlying25 (by kernel_rfl)) (fun a hA => ?_)
            refine takeF (i := 3) hA 98 rfl rfl (by decide) rfl (by kernel_rfl) (by kernel_rfl) (by kernel_rfl) (fun _ _ _ h => h) hS (fun wx hwx => R_mov hA rfl rfl _) (fun a hA => ?_)
            refine takeF (i := 4) hA 99 rfl rfl (by decide) rfl (by kernel_rfl) (by kernel_rfl) (by kernel_rfl) (fun _ _ _ h => h) hS (fun wx hwx => R_and hA rfl rfl rfl _) (fun a hA => ?_)
            refine takeF (i := 5) hA 100 rfl rfl (by decide) rfl (by kernel_rfl) (by kernel_rfl) (by kernel_rfl) (fun _ _ _ h => h) hS (fun wx hwx => R_row hA rfl rfl (B3.below hwx) Try.underlying25 (by kernel_rfl)) (fun a hA => ?_)
            refine wpAnyH_ready (rs := [2]) (by kernel_rfl) (by simp) (ready_call (i := 2) hA (by decide) rfl (fun _ _ => by kernel_rfl) (args2 hA rfl rfl) (allow_any x s hx sk _) (fun _ h => hS.trans (h.mono hS.size)) (fun w110 hw a hA => ?_) AllReadyH.nil)
            replace hS := hS.trans (hw.mono hS.size)
            clear hw
            refine wpAnyH_ready (rs := [6]) (by kernel_rfl) (by simp) (ready_call (i := 6) hA (by decide) rfl (fun _ _ => by kernel_rfl) (args2 hA rfl rfl) (allow_any _ s (bz_inA _ _) sk _) (fun _ h => hS.trans (h.mono hS.size)) (fun w111 hw a hA => ?_) AllReadyH.nil)
            replace hS := hS.trans (hw.mono hS.size)
            clear hw
            refine takeF (i := 7) hA 102 rfl rfl (by decide) rfl (by kernel_rfl) (by kernel_rfl) (by kernel_rfl) (fun _ _ _ h => h) hS (fun wx hwx => R_eqlBT hA rfl rfl rfl true (by rw [allow_low]; simp) _) (fun a hA => ?_)
            refine takeF (i := 8) hA 103 rfl rfl (by decide) rfl (by kernel_rfl) (by kernel_rfl) (by kernel_rfl) (fun _ _ _ h => h) hS (fun wx hwx => R_mov hA rfl rfl _) (fun a hA => ?_)
            refine takeFg (i := 9) hA 104 rfl rfl (by decide) rfl rfl rfl (by kernel_rfl) (by kernel_rfl) (by kernel_rfl) (fun _ _ _ h => h) hS (fun wx hwx => R_mov hA rfl rfl _) (fun a hA => ?_)
            refine takeFg (i := 10) hA 105 rfl rfl (by decide) rfl rfl rfl (by kernel_rfl) (by kernel_rfl) (by kernel_rfl) (fun _ _ _ h => h) hS (fun wx hwx => R_row hA rfl rfl (B3.below hwx) Try.underlying25 (by kernel_rfl)) (fun a hA => ?_)
            refine takeFg (i := 12) hA 107 rfl rfl (by decide) rfl rfl rfl (by kernel_rfl) (by kernel_rfl) (by kernel_rfl) (fun _ _ _ h => h) hS (fun wx hwx => R_mov hA rfl rfl _) (fun a hA => ?_)
            refine takeFg (i := 13) hA 108 rfl rfl (by decide) rfl rfl rfl (by kernel_rfl) (by kernel_rfl) (by kernel_rfl) (fun _ _ _ h => h) hS (fun wx hwx => R_and hA rfl rfl rfl _) (fun a hA => ?_)
            refine takeFg (i := 14) hA 109 rfl rfl (by decide) rfl rfl rfl (by kernel_rfl) (by kernel_rfl) (by kernel_rfl) (fun _ _ _ h => h) hS (fun wx hwx => R_row hA rfl rfl (B3.below hwx) Try.underlying25 (by kernel_rfl)) (fun a hA => ?_)
            refine wpAnyH_ready (rs := [11]) (by kernel_rfl) (by simp) (ready_gcall (i := 11) hA (by decide) rfl rfl rfl (fun _ _ => by kernel_rfl) (args2 hA rfl rfl) (full_any x s hx sk _) (fun _ h => hS.trans (h.mono hS.size)) (fun w112 hw a hA => ?_) AllReadyH.nil)
            replace hS := hS.trans (hw.mono hS.size)
            clear hw
            refine wpAnyH_ready (rs := [15]) (by kernel_rfl) (by simp) (ready_gcall (i := 15) hA (by decide) rfl rfl rfl (fun _ _ => by kernel_rfl) (args2 hA rfl rfl) (full_any _ s (bz_inA _ _) sk _) (fun _ h => hS.trans (h.mono hS.size)) (fun w113 hw a hA => ?_) AllReadyH.nil)
            replace hS := hS.trans (hw.mono hS.size)
            clear hw
            refine takeFg (i := 16) hA 111 rfl rfl (by decide) rfl rfl rfl (by kernel_rfl) (by kernel_rfl) (by kernel_rfl) (fun _ _ _ h => h) hS (fun wx hwx => R_eqlBT hA rfl rfl rfl true (by rw [full_low]; simp) _) (fun a hA => ?_)
            refine takeF (i := 17) hA 112 rfl rfl (by decide) rfl (by kernel_rfl) (by kernel_rfl) (by kernel_rfl) (fun _ _ _ h => h) hS (fun wx hwx => R_pick hA rfl rfl rfl _) (fun a hA => ?_)
            refine takeF (i := 18) hA 4 rfl rfl (by decide) rfl (by kernel_rfl) (by kernel_rfl) (by kernel_rfl) (fun _ _ _ h => h) hS (fun wx hwx => R_asg hA rfl rfl _) (fun a hA => ?_)
            refine wpAnyH_done (by kernel_rfl) ?_ _
            replace B3 := B3.below hS
            replace B5 := B5.below hS
            replace B7 := B7.below hS
            replace HB := HB.trans (hS.mono HB.size)
            clear hS
            refine then_nrm ?_
            show Code.wp Try.prog _ _ _ _
            refine wp_ret ?_
            exact ret_tmp (j := 4) (by kernel_rfl) hA (by decide) rfl ⟨rfl, HB⟩
          refine W_gskip hA rfl rfl rfl 75 rfl (by decide) (fun a hA => ?_)
          refine W_val hA rfl 76 rfl (by decide) _ _ (R_pick hA rfl rfl rfl _) (fun a hA => ?_)
          refine W_nil ?_
          refine then_nrm ?_
          show Code.wp Try.prog _ _ _ _
          refine wp_cond_false (hA.ev (x := .tmp 76) rfl) ?_
          refine wp_skip ?_
          refine then_nrm ?_
          show Code.wp Try.prog _ _ _ _
          refine wp_seq ?_
          refine wp_region_held_drew (S := fun wx => Below w98.heap.size w98 wx) (by kernel_rfl) ((Below.refl _ _).drew) (fun hS => ?_)
          refine takeF (i := 0) hA 95 rfl rfl (by decide) rfl (by kernel_rfl) (by kernel_rfl) (by kernel_rfl) (fun _ _ _ h => h) hS (fun wx hwx => R_mov hA rfl rfl _) (fun a hA => ?_)
          refine takeF (i := 1) hA 96 rfl rfl (by decide) rfl (by kernel_rfl) (by kernel_rfl) (by kernel_rfl) (fun _ _ _ h => h) hS (fun wx hwx => R_row hA rfl rfl (B3.below hwx) Try.underlying25 (by kernel_rfl)) (fun a hA => ?_)
          refine takeF (i := 3) hA 98 rfl rfl (by decide) rfl (by kernel_rfl) (by kernel_rfl) (by kernel_rfl) (fun _ _ _ h => h) hS (fun wx hwx => R_mov hA rfl rfl _) (fun a hA => ?_)
          refine takeF (i := 4) hA 99 rfl rfl (by decide) rfl (by kernel_rfl) (by kernel_rfl) (by kernel_rfl) (fun _ _ _ h => h) hS (fun wx hwx => R_and hA rfl rfl rfl _) (fun a hA => ?_)
          refine takeF (i := 5) hA 100 rfl rfl (by decide) rfl (by kernel_rfl) (by kernel_rfl) (by kernel_rfl) (fun _ _ _ h => h) hS (fun wx hwx => R_row hA rfl rfl (B3.below hwx) Try.underlying25 (by kernel_rfl)) (fun a hA => ?_)
          refine wpAnyH_ready (rs := [2]) (by kernel_rfl) (by simp) (ready_call (i := 2) hA (by decide) rfl (fun _ _ => by kernel_rfl) (args2 hA rfl rfl) (allow_any x s hx sk _) (fun _ h => hS.trans (h.mono hS.size)) (fun w114 hw a hA => ?_) AllReadyH.nil)
          replace hS := hS.trans (hw.mono hS.size)
          clear hw
          refine wpAnyH_ready (rs := [6]) (by kernel_rfl) (by simp) (ready_call (i := 6) hA (by decide) rfl (fun _ _ => by kernel_rfl) (args2 hA rfl rfl) (allow_any _ s (bz_inA _ _) sk _) (fun _ h => hS.trans (h.mono hS.size)) (fun w115 hw a hA => ?_) AllReadyH.nil)
          replace hS := hS.trans (hw.mono hS.size)
          clear hw
          refine takeF (i := 7) hA 102 rfl rfl (by decide) rfl (by kernel_rfl) (by kernel_rfl) (by kernel_rfl) (fun _ _ _ h => h) hS (fun wx hwx => R_eqlBT hA rfl rfl rfl true (by rw [allow_low]; simp) _) (fun a hA => ?_)
          refine takeF (i := 8) hA 103 rfl rfl (by decide) rfl (by kernel_rfl) (by kernel_rfl) (by kernel_rfl) (fun _ _ _ h => h) hS (fun wx hwx => R_mov hA rfl rfl _) (fun a hA => ?_)
          refine takeFg (i := 9) hA 104 rfl rfl (by decide) rfl rfl rfl (by kernel_rfl) (by kernel_rfl) (by kernel_rfl) (fun _ _ _ h => h) hS (fun wx hwx => R_mov hA rfl rfl _) (fun a hA => ?_)
          refine takeFg (i := 10) hA 105 rfl rfl (by decide) rfl rfl rfl (by kernel_rfl) (by kernel_rfl) (by kernel_rfl) (fun _ _ _ h => h) hS (fun wx hwx => R_row hA rfl rfl (B3.below hwx) Try.underlying25 (by kernel_rfl)) (fun a hA => ?_)
          refine takeFg (i := 12) hA 107 rfl rfl (by decide) rfl rfl rfl (by kernel_rfl) (by kernel_rfl) (by kernel_rfl) (fun _ _ _ h => h) hS (fun wx hwx => R_mov hA rfl rfl _) (fun a hA => ?_)
          refine takeFg (i := 13) hA 108 rfl rfl (by decide) rfl rfl rfl (by kernel_rfl) (by kernel_rfl) (by kernel_rfl) (fun _ _ _ h => h) hS (fun wx hwx => R_and hA rfl rfl rfl _) (fun a hA => ?_)
          refine takeFg (i := 14) hA 109 rfl rfl (by decide) rfl rfl rfl (by kernel_rfl) (by kernel_rfl) (by kernel_rfl) (fun _ _ _ h => h) hS (fun wx hwx => R_row hA rfl rfl (B3.below hwx) Try.underlying25 (by kernel_rfl)) (fun a hA => ?_)
          refine wpAnyH_ready (rs := [11]) (by kernel_rfl) (by simp) (ready_gcall (i := 11) hA (by decide) rfl rfl rfl (fun _ _ => by kernel_rfl) (args2 hA rfl rfl) (full_any x s hx sk _) (fun _ h => hS.trans (h.mono hS.size)) (fun w116 hw a hA => ?_) AllReadyH.nil)
          replace hS := hS.trans (hw.mono hS.size)
          clear hw
          refine wpAnyH_ready (rs := [15]) (by kernel_rfl) (by simp) (ready_gcall (i := 15) hA (by decide) rfl rfl rfl (fun _ _ => by kernel_rfl) (args2 hA rfl rfl) (full_any _ s (bz_inA _ _) sk _) (fun _ h => hS.trans (h.mono hS.size)) (fun w117 hw a hA => ?_) AllReadyH.nil)
          replace hS := hS.trans (hw.mono hS.size)
          clear hw
          refine takeFg (i := 16) hA 111 rfl rfl (by decide) rfl rfl rfl (by kernel_rfl) (by kernel_rfl) (by kernel_rfl) (fun _ _ _ h => h) hS (fun wx hwx => R_eqlBT hA rfl rfl rfl true (by rw [full_low]; simp) _) (fun a hA => ?_)
          refine takeF (i := 17) hA 112 rfl rfl (by decide) rfl (by kernel_rfl) (by kernel_rfl) (by kernel_rfl) (fun _ _ _ h => h) hS (fun wx hwx => R_pick hA rfl rfl rfl _) (fun a hA => ?_)
          refine takeF (i := 18) hA 4 rfl rfl (by decide) rfl (by kernel_rfl) (by kernel_rfl) (by kernel_rfl) (fun _ _ _ h => h) hS (fun wx hwx => R_asg hA rfl rfl _) (fun a hA => ?_)
          refine wpAnyH_done (by kernel_rfl) ?_ _
          replace B3 := B3.below hS
          replace B5 := B5.below hS
          replace HB := HB.trans (hS.mono HB.size)
          clear hS
          refine then_nrm ?_
          show Code.wp Try.prog _ _ _ _
          refine wp_ret ?_
          exact ret_tmp (j := 4) (by kernel_rfl) hA (by decide) rfl ⟨rfl, HB⟩
        refine W_gskip hA rfl rfl rfl 70 rfl (by decide) (fun a hA => ?_)
        refine W_gskip hA rfl rfl rfl 71 rfl (by decide) (fun a hA => ?_)
        refine W_gskip hA rfl rfl rfl 72 rfl (by decide) (fun a hA => ?_)
        refine W_val hA rfl 73 rfl (by decide) _ _ (R_pick hA rfl rfl rfl _) (fun a hA => ?_)
        refine W_val hA rfl 74 rfl (by decide) _ _ (R_mov hA rfl rfl _) (fun a hA => ?_)
        refine W_gskip hA rfl rfl rfl 75 rfl (by decide) (fun a hA => ?_)
        refine W_val hA rfl 76 rfl (by decide) _ _ (R_pick hA rfl rfl rfl _) (fun a hA => ?_)
        refine W_nil ?_
        refine then_nrm ?_
        show Code.wp Try.prog _ _ _ _
        refine wp_cond_false (hA.ev (x := .tmp 76) rfl) ?_
        refine wp_skip ?_
        refine then_nrm ?_
        show Code.wp Try.prog _ _ _ _
        refine wp_seq ?_
        refine wp_region_held_drew (S := fun wx => Below w98.heap.size w98 wx) (by kernel_rfl) ((Below.refl _ _).drew) (fun hS => ?_)
        refine takeF (i := 0) hA 95 rfl rfl (by decide) rfl (by kernel_rfl) (by kernel_rfl) (by kernel_rfl) (fun _ _ _ h => h) hS (fun wx hwx => R_mov hA rfl rfl _) (fun a hA => ?_)
        refine takeF (i := 1) hA 96 rfl rfl (by decide) rfl (by kernel_rfl) (by kernel_rfl) (by kernel_rfl) (fun _ _ _ h => h) hS (fun wx hwx => R_row hA rfl rfl (B3.below hwx) Try.underlying25 (by kernel_rfl)) (fun a hA => ?_)
        refine takeF (i := 3) hA 98 rfl rfl (by decide) rfl (by kernel_rfl) (by kernel_rfl) (by kernel_rfl) (fun _ _ _ h => h) hS (fun wx hwx => R_mov hA rfl rfl _) (fun a hA => ?_)
        refine takeF (i := 4) hA 99 rfl rfl (by decide) rfl (by kernel_rfl) (by kernel_rfl) (by kernel_rfl) (fun _ _ _ h => h) hS (fun wx hwx => R_and hA rfl rfl rfl _) (fun a hA => ?_)
        refine takeF (i := 5) hA 100 rfl rfl (by decide) rfl (by kernel_rfl) (by kernel_rfl) (by kernel_rfl) (fun _ _ _ h => h) hS (fun wx hwx => R_row hA rfl rfl (B3.below hwx) Try.underlying25 (by kernel_rfl)) (fun a hA => ?_)
        refine wpAnyH_ready (rs := [2]) (by kernel_rfl) (by simp) (ready_call (i := 2) hA (by decide) rfl (fun _ _ => by kernel_rfl) (args2 hA rfl rfl) (allow_any x s hx sk _) (fun _ h => hS.trans (h.mono hS.size)) (fun w118 hw a hA => ?_) AllReadyH.nil)
        replace hS := hS.trans (hw.mono hS.size)
        clear hw
        refine wpAnyH_ready (rs := [6]) (by kernel_rfl) (by simp) (ready_call (i := 6) hA (by decide) rfl (fun _ _ => by kernel_rfl) (args2 hA rfl rfl) (allow_any _ s (bz_inA _ _) sk _) (fun _ h => hS.trans (h.mono hS.size)) (fun w119 hw a hA => ?_) AllReadyH.nil)
        replace hS := hS.trans (hw.mono hS.size)
        clear hw
        refine takeF (i := 7) hA 102 rfl rfl (by decide) rfl (by kernel_rfl) (by kernel_rfl) (by kernel_rfl) (fun _ _ _ h => h) hS (fun wx hwx => R_eqlBT hA rfl rfl rfl true (by rw [allow_low]; simp) _) (fun a hA => ?_)
        refine takeF (i := 8) hA 103 rfl rfl (by decide) rfl (by kernel_rfl) (by kernel_rfl) (by kernel_rfl) (fun _ _ _ h => h) hS (fun wx hwx => R_mov hA rfl rfl _) (fun a hA => ?_)
        refine takeFg (i := 9) hA 104 rfl rfl (by decide) rfl rfl rfl (by kernel_rfl) (by kernel_rfl) (by kernel_rfl) (fun _ _ _ h => h) hS (fun wx hwx => R_mov hA rfl rfl _) (fun a hA => ?_)
        refine takeFg (i := 10) hA 105 rfl rfl (by decide) rfl rfl rfl (by kernel_rfl) (by kernel_rfl) (by kernel_rfl) (fun _ _ _ h => h) hS (fun wx hwx => R_row hA rfl rfl (B3.below hwx) Try.underlying25 (by kernel_rfl)) (fun a hA => ?_)
        refine takeFg (i := 12) hA 107 rfl rfl (by decide) rfl rfl rfl (by kernel_rfl) (by kernel_rfl) (by kernel_rfl) (fun _ _ _ h => h) hS (fun wx hwx => R_mov hA rfl rfl _) (fun a hA => ?_)
        refine takeFg (i := 13) hA 108 rfl rfl (by decide) rfl rfl rfl (by kernel_rfl) (by kernel_rfl) (by kernel_rfl) (fun _ _ _ h => h) hS (fun wx hwx => R_and hA rfl rfl rfl _) (fun a hA => ?_)
        refine takeFg (i := 14) hA 109 rfl rfl (by decide) rfl rfl rfl (by kernel_rfl) (by kernel_rfl) (by kernel_rfl) (fun _ _ _ h => h) hS (fun wx hwx => R_row hA rfl rfl (B3.below hwx) Try.underlying25 (by kernel_rfl)) (fun a hA => ?_)
        refine wpAnyH_ready (rs := [11]) (by kernel_rfl) (by simp) (ready_gcall (i := 11) hA (by decide) rfl rfl rfl (fun _ _ => by kernel_rfl) (args2 hA rfl rfl) (full_any x s hx sk _) (fun _ h => hS.trans (h.mono hS.size)) (fun w120 hw a hA => ?_) AllReadyH.nil)
        replace hS := hS.trans (hw.mono hS.size)
        clear hw
        refine wpAnyH_ready (rs := [15]) (by kernel_rfl) (by simp) (ready_gcall (i := 15) hA (by decide) rfl rfl rfl (fun _ _ => by kernel_rfl) (args2 hA rfl rfl) (full_any _ s (bz_inA _ _) sk _) (fun _ h => hS.trans (h.mono hS.size)) (fun w121 hw a hA => ?_) AllReadyH.nil)
        replace hS := hS.trans (hw.mono hS.size)
        clear hw
        refine takeFg (i := 16) hA 111 rfl rfl (by decide) rfl rfl rfl (by kernel_rfl) (by kernel_rfl) (by kernel_rfl) (fun _ _ _ h => h) hS (fun wx hwx => R_eqlBT hA rfl rfl rfl true (by rw [full_low]; simp) _) (fun a hA => ?_)
        refine takeF (i := 17) hA 112 rfl rfl (by decide) rfl (by kernel_rfl) (by kernel_rfl) (by kernel_rfl) (fun _ _ _ h => h) hS (fun wx hwx => R_pick hA rfl rfl rfl _) (fun a hA => ?_)
        refine takeF (i := 18) hA 4 rfl rfl (by decide) rfl (by kernel_rfl) (by kernel_rfl) (by kernel_rfl) (fun _ _ _ h => h) hS (fun wx hwx => R_asg hA rfl rfl _) (fun a hA => ?_)
        refine wpAnyH_done (by kernel_rfl) ?_ _
        replace B3 := B3.below hS
        replace B5 := B5.below hS
        replace HB := HB.trans (hS.mono HB.size)
        clear hS
        refine then_nrm ?_
        show Code.wp Try.prog _ _ _ _
        refine wp_ret ?_
        exact ret_tmp (j := 4) (by kernel_rfl) hA (by decide) rfl ⟨rfl, HB⟩
      refine W_gskip hA rfl rfl rfl 66 rfl (by decide) (fun a hA => ?_)
      refine W_gskip hA rfl rfl rfl 67 rfl (by decide) (fun a hA => ?_)
      refine W_val hA rfl 68 rfl (by decide) _ _ (R_pick hA rfl rfl rfl _) (fun a hA => ?_)
      refine W_val hA rfl 69 rfl (by decide) _ _ (R_mov hA rfl rfl _) (fun a hA => ?_)
      refine W_gskip hA rfl rfl rfl 70 rfl (by decide) (fun a hA => ?_)
      refine W_gskip hA rfl rfl rfl 71 rfl (by decide) (fun a hA => ?_)
      refine W_gskip hA rfl rfl rfl 72 rfl (by decide) (fun a hA => ?_)
      refine W_val hA rfl 73 rfl (by decide) _ _ (R_pick hA rfl rfl rfl _) (fun a hA => ?_)
      refine W_val hA rfl 74 rfl (by decide) _ _ (R_mov hA rfl rfl _) (fun a hA => ?_)
      refine W_gskip hA rfl rfl rfl 75 rfl (by decide) (fun a hA => ?_)
      refine W_val hA rfl 76 rfl (by decide) _ _ (R_pick hA rfl rfl rfl _) (fun a hA => ?_)
      refine W_nil ?_
      refine then_nrm ?_
      show Code.wp Try.prog _ _ _ _
      refine wp_cond_false (hA.ev (x := .tmp 76) rfl) ?_
      refine wp_skip ?_
      refine then_nrm ?_
      show Code.wp Try.prog _ _ _ _
      refine wp_seq ?_
      refine wp_region_held_drew (S := fun wx => Below w97.heap.size w97 wx) (by kernel_rfl) ((Below.refl _ _).drew) (fun hS => ?_)
      refine takeF (i := 0) hA 95 rfl rfl (by decide) rfl (by kernel_rfl) (by kernel_rfl) (by kernel_rfl) (fun _ _ _ h => h) hS (fun wx hwx => R_mov hA rfl rfl _) (fun a hA => ?_)
      refine takeF (i := 1) hA 96 rfl rfl (by decide) rfl (by kernel_rfl) (by kernel_rfl) (by kernel_rfl) (fun _ _ _ h => h) hS (fun wx hwx => R_row hA rfl rfl (B3.below hwx) Try.underlying25 (by kernel_rfl)) (fun a hA => ?_)
      refine takeF (i := 3) hA 98 rfl rfl (by decide) rfl (by kernel_rfl) (by kernel_rfl) (by kernel_rfl) (fun _ _ _ h => h) hS (fun wx hwx => R_mov hA rfl rfl _) (fun a hA => ?_)
      refine takeF (i := 4) hA 99 rfl rfl (by decide) rfl (by kernel_rfl) (by kernel_rfl) (by kernel_rfl) (fun _ _ _ h => h) hS (fun wx hwx => R_and hA rfl rfl rfl _) (fun a hA => ?_)
      refine takeF (i := 5) hA 100 rfl rfl (by decide) rfl (by kernel_rfl) (by kernel_rfl) (by kernel_rfl) (fun _ _ _ h => h) hS (fun wx hwx => R_row hA rfl rfl (B3.below hwx) Try.underlying25 (by kernel_rfl)) (fun a hA => ?_)
      refine wpAnyH_ready (rs := [2]) (by kernel_rfl) (by simp) (ready_call (i := 2) hA (by decide) rfl (fun _ _ => by kernel_rfl) (args2 hA rfl rfl) (allow_any x s hx sk _) (fun _ h => hS.trans (h.mono hS.size)) (fun w122 hw a hA => ?_) AllReadyH.nil)
      replace hS := hS.trans (hw.mono hS.size)
      clear hw
      refine wpAnyH_ready (rs := [6]) (by kernel_rfl) (by simp) (ready_call (i := 6) hA (by decide) rfl (fun _ _ => by kernel_rfl) (args2 hA rfl rfl) (allow_any _ s (bz_inA _ _) sk _) (fun _ h => hS.trans (h.mono hS.size)) (fun w123 hw a hA => ?_) AllReadyH.nil)
      replace hS := hS.trans (hw.mono hS.size)
      clear hw
      refine takeF (i := 7) hA 102 rfl rfl (by decide) rfl (by kernel_rfl) (by kernel_rfl) (by kernel_rfl) (fun _ _ _ h => h) hS (fun wx hwx => R_eqlBT hA rfl rfl rfl true (by rw [allow_low]; simp) _) (fun a hA => ?_)
      refine takeF (i := 8) hA 103 rfl rfl (by decide) rfl (by kernel_rfl) (by kernel_rfl) (by kernel_rfl) (fun _ _ _ h => h) hS (fun wx hwx => R_mov hA rfl rfl _) (fun a hA => ?_)
      refine takeFg (i := 9) hA 104 rfl rfl (by decide) rfl rfl rfl (by kernel_rfl) (by kernel_rfl) (by kernel_rfl) (fun _ _ _ h => h) hS (fun wx hwx => R_mov hA rfl rfl _) (fun a hA => ?_)
      refine takeFg (i := 10) hA 105 rfl rfl (by decide) rfl rfl rfl (by kernel_rfl) (by kernel_rfl) (by kernel_rfl) (fun _ _ _ h => h) hS (fun wx hwx => R_row hA rfl rfl (B3.below hwx) Try.underlying25 (by kernel_rfl)) (fun a hA => ?_)
      refine takeFg (i := 12) hA 107 rfl rfl (by decide) rfl rfl rfl (by kernel_rfl) (by kernel_rfl) (by kernel_rfl) (fun _ _ _ h => h) hS (fun wx hwx => R_mov hA rfl rfl _) (fun a hA => ?_)
      refine takeFg (i := 13) hA 108 rfl rfl (by decide) rfl rfl rfl (by kernel_rfl) (by kernel_rfl) (by kernel_rfl) (fun _ _ _ h => h) hS (fun wx hwx => R_and hA rfl rfl rfl _) (fun a hA => ?_)
      refine takeFg (i := 14) hA 109 rfl rfl (by decide) rfl rfl rfl (by kernel_rfl) (by kernel_rfl) (by kernel_rfl) (fun _ _ _ h => h) hS (fun wx hwx => R_row hA rfl rfl (B3.below hwx) Try.underlying25 (by kernel_rfl)) (fun a hA => ?_)
      refine wpAnyH_ready (rs := [11]) (by kernel_rfl) (by simp) (ready_gcall (i := 11) hA (by decide) rfl rfl rfl (fun _ _ => by kernel_rfl) (args2 hA rfl rfl) (full_any x s hx sk _) (fun _ h => hS.trans (h.mono hS.size)) (fun w124 hw a hA => ?_) AllReadyH.nil)
      replace hS := hS.trans (hw.mono hS.size)
      clear hw
      refine wpAnyH_ready (rs := [15]) (by kernel_rfl) (by simp) (ready_gcall (i := 15) hA (by decide) rfl rfl rfl (fun _ _ => by kernel_rfl) (args2 hA rfl rfl) (full_any _ s (bz_inA _ _) sk _) (fun _ h => hS.trans (h.mono hS.size)) (fun w125 hw a hA => ?_) AllReadyH.nil)
      replace hS := hS.trans (hw.mono hS.size)
      clear hw
      refine takeFg (i := 16) hA 111 rfl rfl (by decide) rfl rfl rfl (by kernel_rfl) (by kernel_rfl) (by kernel_rfl) (fun _ _ _ h => h) hS (fun wx hwx => R_eqlBT hA rfl rfl rfl true (by rw [full_low]; simp) _) (fun a hA => ?_)
      refine takeF (i := 17) hA 112 rfl rfl (by decide) rfl (by kernel_rfl) (by kernel_rfl) (by kernel_rfl) (fun _ _ _ h => h) hS (fun wx hwx => R_pick hA rfl rfl rfl _) (fun a hA => ?_)
      refine takeF (i := 18) hA 4 rfl rfl (by decide) rfl (by kernel_rfl) (by kernel_rfl) (by kernel_rfl) (fun _ _ _ h => h) hS (fun wx hwx => R_asg hA rfl rfl _) (fun a hA => ?_)
      refine wpAnyH_done (by kernel_rfl) ?_ _
      replace B3 := B3.below hS
      replace B5 := B5.below hS
      replace HB := HB.trans (hS.mono HB.size)
      clear hS
      refine then_nrm ?_
      show Code.wp Try.prog _ _ _ _
      refine wp_ret ?_
      exact ret_tmp (j := 4) (by kernel_rfl) hA (by decide) rfl ⟨rfl, HB⟩
    refine W_gskip hA rfl rfl rfl 50 rfl (by decide) (fun a hA => ?_)
    refine W_gskip hA rfl rfl rfl 51 rfl (by decide) (fun a hA => ?_)
    refine W_gskip hA rfl rfl rfl 52 rfl (by decide) (fun a hA => ?_)
    refine W_gval hA rfl rfl rfl 53 rfl (by decide) _ _ (R_pick hA rfl rfl rfl _) (fun a hA => ?_)
    refine W_val hA rfl 54 rfl (by decide) _ _ (R_pick hA rfl rfl rfl _) (fun a hA => ?_)
    refine W_val hA rfl 55 rfl (by decide) _ _ (R_mov hA rfl rfl _) (fun a hA => ?_)
    refine W_gval hA rfl rfl rfl 56 rfl (by decide) _ _ (R_mov hA rfl rfl _) (fun a hA => ?_)
    refine W_gval hA rfl rfl rfl 57 rfl (by decide) _ _ (R_mov hA rfl rfl _) (fun a hA => ?_)
    refine W_gval hA rfl rfl rfl 58 rfl (by decide) _ _ (R_fa hA rfl rfl (fun w => fa_want _ 0 (by decide) w) _) (fun a hA => ?_)
    refine W_gval hA rfl rfl rfl 59 rfl (by decide) _ _ (R_ld (v := .int .u8 s.kind) hA rfl rfl ag_u8 (RowC.cell B3 0 _ rfl)) (fun a hA => ?_)
    refine W_gval hA rfl rfl rfl 60 rfl (by decide) _ _ (R_gtrBT hA rfl rfl rfl false (allow_kind h) _) (fun a hA => ?_)
    refine W_gval hA rfl rfl rfl 61 rfl (by decide) _ _ (R_pick hA rfl rfl rfl _) (fun a hA => ?_)
    refine W_val hA rfl 62 rfl (by decide) _ _ (R_pick hA rfl rfl rfl _) (fun a hA => ?_)
    refine W_nil ?_
    refine then_nrm ?_
    show Code.wp Try.prog _ _ _ _
    refine wp_cond_false (hA.ev (x := .tmp 62) rfl) ?_
    refine wp_skip ?_
    refine then_nrm ?_
    show Code.wp Try.prog _ _ _ _
    refine wp_seq ?_
    refine wp_seq ?_
    refine wp_region_list ?_
    refine W_val hA rfl 63 rfl (by decide) _ _ (R_mov hA rfl rfl _) (fun a hA => ?_)
    refine W_callA hA (by decide) (fun _ _ => by kernel_rfl) (args1 hA rfl) (ok_any x hx _) (fun w126 hw a hA => ?_)
    replace HB := HB.trans (hw.mono HB.size)
    replace B3 := B3.below hw
    replace B5 := B5.below hw
    clear hw
    refine W_val hA rfl 65 rfl (by decide) _ _ (R_mov hA rfl rfl _) (fun a hA => ?_)
    refine W_split hA 65 rfl (fun c22 hA => ?_) (fun c22 hA => ?_)
    · skip
      refine W_gval hA rfl rfl rfl 66 rfl (by decide) _ _ (R_mov hA rfl rfl _) (fun a hA => ?_)
      refine W_gcallB hA rfl rfl (by decide) (fun _ _ => by kernel_rfl) (args1 hA rfl) (leaf_any x hx _) (fun w127 hw a hA => ?_)
      replace HB := HB.trans (hw.mono HB.size)
      replace B3 := B3.below hw
      replace B5 := B5.below hw
      clear hw
      refine W_val hA rfl 68 rfl (by decide) _ _ (R_pick hA rfl rfl rfl _) (fun a hA => ?_)
      refine W_val hA rfl 69 rfl (by decide) _ _ (R_mov hA rfl rfl _) (fun a hA => ?_)
      refine W_split hA 69 rfl (fun c23 hA => ?_) (fun c23 hA => ?_)
      · skip
        refine W_gval hA rfl rfl rfl 70 rfl (by decide) _ _ (R_fa hA rfl rfl (fun w => fa_want _ 0 (by decide) w) _) (fun a hA => ?_)
        refine W_gval hA rfl rfl rfl 71 rfl (by decide) _ _ (R_ld (v := .int .u8 s.kind) hA rfl rfl ag_u8 (RowC.cell B3 0 _ rfl)) (fun a hA => ?_)
        refine W_gval hA rfl rfl rfl 72 rfl (by decide) _ _ (R_eqlB hA rfl rfl rfl _) (fun a hA => ?_)
        refine W_val hA rfl 73 rfl (by decide) _ _ (R_pick hA rfl rfl rfl _) (fun a hA => ?_)
        refine W_val hA rfl 74 rfl (by decide) _ _ (R_mov hA rfl rfl _) (fun a hA => ?_)
        refine W_split hA 74 rfl (fun c24 hA => ?_) (fun c24 hA => ?_)
        · skip
          refine W_gval hA rfl rfl rfl 75 rfl (by decide) _ _ (R_mov hA rfl rfl _) (fun a hA => ?_)
          refine W_val hA rfl 76 rfl (by decide) _ _ (R_pick hA rfl rfl rfl _) (fun a hA => ?_)
          refine W_nil ?_
          refine then_nrm ?_
          show Code.wp Try.prog _ _ _ _
          refine wp_cond_true (hA.ev (x := .tmp 76) rfl) ?_
          refine wp_seq ?_
          refine wp_region_list ?_
          refine W_val hA rfl 77 rfl (by decide) _ _ (R_row hA rfl rfl B3 Try.underlying25 (by kernel_rfl)) (fun a hA => ?_)
          refine W_allocT (cs := #[.int .u8 0, .bool false, .int .u8 0, .bool false, .bool false, .bool false, .bool false]) hA rfl 7 rfl (by decide) rfl zero_want (fun w128 bB7 a hA hb B7 gB7 => ?_)
          have nB3B7 : bB3 < bB7 := by have := B3.lt; omega
          have nB5B7 : bB5 < bB7 := by have := B5.lt; omega
          replace gB7 := Nat.le_trans HB.size gB7
          replace HB := HB.trans (hb.mono HB.size)
          replace B3 := B3.below hb
          replace B5 := B5.below hb
          clear hb
          refine W_cpT (cs := wantC s) hA rfl rfl rfl rfl rfl B7 (by kernel_rfl) rfl (by simp [Value.oneCell']) (fun w129 hT HN => ?_)
          replace HB := HB.trans (hT.bel _ gB7)
          replace B3 := hT.row B3 (by omega)
          replace B5 := hT.row B5 (by omega)
          replace B7 := HN
          clear hT HN
          refine W_nil ?_
          refine then_nrm ?_
          show Code.wp Try.prog _ _ _ _
          refine wp_seq ?_
          refine wp_region_list ?_
          refine W_val hA rfl 78 rfl (by decide) _ _ (R_fa hA rfl rfl (fun w => fa_want _ 0 (by decide) w) _) (fun a hA => ?_)
          refine W_stT (cs' := #[.int .u8 0, .bool s.ex, .int .u8 s.priv, .bool s.v, .bool s.sum, .bool s.mxr, .bool s.vmxr]) hA rfl rfl rfl rfl rfl B7 (stT_B B7 _ rfl) rfl (fun w130 hT HN => ?_)
          replace HB := HB.trans (hT.bel _ gB7)
          replace B3 := hT.row B3 (by omega)
          replace B5 := hT.row B5 (by omega)
          replace B7 := HN
          clear hT HN
          refine W_nil ?_
          refine then_nrm ?_
          show Code.wp Try.prog _ _ _ _
          refine wp_seq ?_
          refine wp_region_list ?_
          refine W_val hA rfl 79 rfl (by decide) _ _ (R_fa hA rfl rfl (fun w => fa_want _ 1 (by decide) w) _) (fun a hA => ?_)
          refine W_stT (cs' := #[.int .u8 0, .bool false, .int .u8 s.priv, .bool s.v, .bool s.sum, .bool s.mxr, .bool s.vmxr]) hA rfl rfl rfl rfl rfl B7 (stT_b B7 _ rfl) rfl (fun w131 hT HN => ?_)
          replace HB := HB.trans (hT.bel _ gB7)
          replace B3 := hT.row B3 (by omega)
          replace B5 := hT.row B5 (by omega)
          replace B7 := HN
          clear hT HN
          replace B7 : RowC w131 bB7 25 (wantC s.load) := B7
          refine W_nil ?_
          refine then_nrm ?_
          show Code.wp Try.prog _ _ _ _
          refine wp_seq ?_
          refine wp_region_list ?_
          refine W_val hA rfl 80 rfl (by decide) _ _ (R_mov hA rfl rfl _) (fun a hA => ?_)
          refine W_val hA rfl 81 rfl (by decide) _ _ (R_row hA rfl rfl B7 Try.underlying25 (by kernel_rfl)) (fun a hA => ?_)
          refine W_callA hA (by decide) (fun _ _ => by kernel_rfl) (args2 hA rfl rfl) (allow_to (s := s.load) hx (ok_load sk) (allow_load h c22 c24) _) (fun w132 hw a hA => ?_)
          replace HB := HB.trans (hw.mono HB.size)
          replace B3 := B3.below hw
          replace B5 := B5.below hw
          replace B7 := B7.below hw
          clear hw
          refine W_val hA rfl 83 rfl (by decide) _ _ (R_not hA rfl rfl _) (fun a hA => ?_)
          refine W_val hA rfl 84 rfl (by decide) _ _ (R_mov hA rfl rfl _) (fun a hA => ?_)
          refine W_gval hA rfl rfl rfl 85 rfl (by decide) _ _ (R_mov hA rfl rfl _) (fun a hA => ?_)
          refine W_gval hA rfl rfl rfl 86 rfl (by decide) _ _ (R_row hA rfl rfl B3 Try.underlying25 (by kernel_rfl)) (fun a hA => ?_)
          refine W_gcallB hA rfl rfl (by decide) (fun _ _ => by kernel_rfl) (args2 hA rfl rfl) (full_any x s hx sk _) (fun w133 hw a hA => ?_)
          replace HB := HB.trans (hw.mono HB.size)
          replace B3 := B3.below hw
          replace B5 := B5.below hw
          replace B7 := B7.below hw
          clear hw
          refine W_gval hA rfl rfl rfl 88 rfl (by decide) _ _ (R_mov hA rfl rfl _) (fun a hA => ?_)
          refine W_split hA 88 rfl (fun c25 hA => ?_) (fun c25 hA => ?_)
          · skip
            refine W_gval hA rfl rfl rfl 89 rfl (by decide) _ _ (R_mov hA rfl rfl _) (fun a hA => ?_)
            refine W_gval hA rfl rfl rfl 90 rfl (by decide) _ _ (R_row hA rfl rfl B7 Try.underlying25 (by kernel_rfl)) (fun a hA => ?_)
            refine W_gcallB hA rfl rfl (by decide) (fun _ _ => by kernel_rfl) (args2 hA rfl rfl) (full_to (s := s.load) hx (ok_load sk) (full_load c25) _) (fun w134 hw a hA => ?_)
            replace HB := HB.trans (hw.mono HB.size)
            replace B3 := B3.below hw
            replace B5 := B5.below hw
            replace B7 := B7.below hw
            clear hw
            refine W_gval hA rfl rfl rfl 92 rfl (by decide) _ _ (R_not hA rfl rfl _) (fun a hA => ?_)
            refine W_gval hA rfl rfl rfl 93 rfl (by decide) _ _ (R_pick hA rfl rfl rfl _) (fun a hA => ?_)
            refine W_val hA rfl 94 rfl (by decide) _ _ (R_pick hA rfl rfl rfl _) (fun a hA => ?_)
            refine W_nil ?_
            refine then_nrm ?_
            show Code.wp Try.prog _ _ _ _
            refine wp_cond_false (hA.ev (x := .tmp 94) rfl) ?_
            refine wp_skip ?_
            refine then_nrm ?_
            show Code.wp Try.prog _ _ _ _
            refine wp_seq ?_
            refine wp_region_held_drew (S := fun wx => Below w134.heap.size w134 wx) (by kernel_rfl) ((Below.refl _ _).drew) (fun hS => ?_)
            refine takeF (i := 0) hA 95 rfl rfl (by decide) rfl (by kernel_rfl) (by kernel_rfl) (by kernel_rfl) (fun _ _ _ h => h) hS (fun wx hwx => R_mov hA rfl rfl _) (fun a hA => ?_)
            refine takeF (i := 1) hA 96 rfl rfl (by decide) rfl (by kernel_rfl) (by kernel_rfl) (by kernel_rfl) (fun _ _ _ h => h) hS (fun wx hwx => R_row hA rfl rfl (B3.below hwx) Try.underlying25 (by kernel_rfl)) (fun a hA => ?_)
            refine takeF (i := 3) hA 98 rfl rfl (by decide) rfl (by kernel_rfl) (by kernel_rfl) (by kernel_rfl) (fun _ _ _ h => h) hS (fun wx hwx => R_mov hA rfl rfl _) (fun a hA => ?_)
            refine takeF (i := 4) hA 99 rfl rfl (by decide) rfl (by kernel_rfl) (by kernel_rfl) (by kernel_rfl) (fun _ _ _ h => h) hS (fun wx hwx => R_and hA rfl rfl rfl _) (fun a hA => ?_)
            refine takeF (i := 5) hA 100 rfl rfl (by decide) rfl (by kernel_rfl) (by kernel_rfl) (by kernel_rfl) (fun _ _ _ h => h) hS (fun wx hwx => R_row hA rfl rfl (B3.below hwx) Try.underlying25 (by kernel_rfl)) (fun a hA => ?_)
            refine wpAnyH_ready (rs := [2]) (by kernel_rfl) (by simp) (ready_call (i := 2) hA (by decide) rfl (fun _ _ => by kernel_rfl) (args2 hA rfl rfl) (allow_any x s hx sk _) (fun _ h => hS.trans (h.mono hS.size)) (fun w135 hw a hA => ?_) AllReadyH.nil)
            replace hS := hS.trans (hw.mono hS.size)
            clear hw
            refine wpAnyH_ready (rs := [6]) (by kernel_rfl) (by simp) (ready_call (i := 6) hA (by decide) rfl (fun _ _ => by kernel_rfl) (args2 hA rfl rfl) (allow_any _ s (bz_inA _ _) sk _) (fun _ h => hS.trans (h.mono hS.size)) (fun w136 hw a hA => ?_) AllReadyH.nil)
            replace hS := hS.trans (hw.mono hS.size)
            clear hw
            refine takeF (i := 7) hA 102 rfl rfl (by decide) rfl (by kernel_rfl) (by kernel_rfl) (by kernel_rfl) (fun _ _ _ h => h) hS (fun wx hwx => R_eqlBT hA rfl rfl rfl true (by rw [allow_low]; simp) _) (fun a hA => ?_)
            refine takeF (i := 8) hA 103 rfl rfl (by decide) rfl (by kernel_rfl) (by kernel_rfl) (by kernel_rfl) (fun _ _ _ h => h) hS (fun wx hwx => R_mov hA rfl rfl _) (fun a hA => ?_)
            refine takeFg (i := 9) hA 104 rfl rfl (by decide) rfl rfl rfl (by kernel_rfl) (by kernel_rfl) (by kernel_rfl) (fun _ _ _ h => h) hS (fun wx hwx => R_mov hA rfl rfl _) (fun a hA => ?_)
            refine takeFg (i := 10) hA 105 rfl rfl (by decide) rfl rfl rfl (by kernel_rfl) (by kernel_rfl) (by kernel_rfl) (fun _ _ _ h => h) hS (fun wx hwx => R_row hA rfl rfl (B3.below hwx) Try.underlying25 (by kernel_rfl)) (fun a hA => ?_)
            refine takeFg (i := 12) hA 107 rfl rfl (by decide) rfl rfl rfl (by kernel_rfl) (by kernel_rfl) (by kernel_rfl) (fun _ _ _ h => h) hS (fun wx hwx => R_mov hA rfl rfl _) (fun a hA => ?_)
            refine takeFg (i := 13) hA 108 rfl rfl (by decide) rfl rfl rfl (by kernel_rfl) (by kernel_rfl) (by kernel_rfl) (fun _ _ _ h => h) hS (fun wx hwx => R_and hA rfl rfl rfl _) (fun a hA => ?_)
            refine takeFg (i := 14) hA 109 rfl rfl (by decide) rfl rfl rfl (by kernel_rfl) (by kernel_rfl) (by kernel_rfl) (fun _ _ _ h => h) hS (fun wx hwx => R_row hA rfl rfl (B3.below hwx) Try.underlying25 (by kernel_rfl)) (fun a hA => ?_)
            refine wpAnyH_ready (rs := [11]) (by kernel_rfl) (by simp) (ready_gcall (i := 11) hA (by decide) rfl rfl rfl (fun _ _ => by kernel_rfl) (args2 hA rfl rfl) (full_any x s hx sk _) (fun _ h => hS.trans (h.mono hS.size)) (fun w137 hw a hA => ?_) AllReadyH.nil)
            replace hS := hS.trans (hw.mono hS.size)
            clear hw
            refine wpAnyH_ready (rs := [15]) (by kernel_rfl) (by simp) (ready_gcall (i := 15) hA (by decide) rfl rfl rfl (fun _ _ => by kernel_rfl) (args2 hA rfl rfl) (full_any _ s (bz_inA _ _) sk _) (fun _ h => hS.trans (h.mono hS.size)) (fun w138 hw a hA => ?_) AllReadyH.nil)
            replace hS := hS.trans (hw.mono hS.size)
            clear hw
            refine takeFg (i := 16) hA 111 rfl rfl (by decide) rfl rfl rfl (by kernel_rfl) (by kernel_rfl) (by kernel_rfl) (fun _ _ _ h => h) hS (fun wx hwx => R_eqlBT hA rfl rfl rfl true (by rw [full_low]; simp) _) (fun a hA => ?_)
            refine takeF (i := 17) hA 112 rfl rfl (by decide) rfl (by kernel_rfl) (by kernel_rfl) (by kernel_rfl) (fun _ _ _ h => h) hS (fun wx hwx => R_pick hA rfl rfl rfl _) (fun a hA => ?_)
            refine takeF (i := 18) hA 4 rfl rfl (by decide) rfl (by kernel_rfl) (by kernel_rfl) (by kernel_rfl) (fun _ _ _ h => h) hS (fun wx hwx => R_asg hA rfl rfl _) (fun a hA => ?_)
            refine wpAnyH_done (by kernel_rfl) ?_ _
            replace B3 := B3.below hS
            replace B5 := B5.below hS
            replace B7 := B7.below hS
            replace HB := HB.trans (hS.mono HB.size)
            clear hS
            refine then_nrm ?_
            show Code.wp Try.prog _ _ _ _
            refine wp_ret ?_
            exact ret_tmp (j := 4) (by kernel_rfl) hA (by decide) rfl ⟨rfl, HB⟩
          refine W_gskip hA rfl rfl rfl 89 rfl (by decide) (fun a hA => ?_)
          refine W_gskip hA rfl rfl rfl 90 rfl (by decide) (fun a hA => ?_)
          refine W_gskip hA rfl rfl rfl 91 rfl (by decide) (fun a hA => ?_)
          refine W_gskip hA rfl rfl rfl 92 rfl (by decide) (fun a hA => ?_)
          refine W_gval hA rfl rfl rfl 93 rfl (by decide) _ _ (R_pick hA rfl rfl rfl _) (fun a hA => ?_)
          refine W_val hA rfl 94 rfl (by decide) _ _ (R_pick hA rfl rfl rfl _) (fun a hA => ?_)
          refine W_nil ?_
          refine then_nrm ?_
          show Code.wp Try.prog _ _ _ _
          refine wp_cond_false (hA.ev (x := .tmp 94) rfl) ?_
          refine wp_skip ?_
          refine then_nrm ?_
          show Code.wp Try.prog _ _ _ _
          refine wp_seq ?_
          refine wp_region_held_drew (S := fun wx => Below w133.heap.size w133 wx) (by kernel_rfl) ((Below.refl _ _).drew) (fun hS => ?_)
          refine takeF (i := 0) hA 95 rfl rfl (by decide) rfl (by kernel_rfl) (by kernel_rfl) (by kernel_rfl) (fun _ _ _ h => h) hS (fun wx hwx => R_mov hA rfl rfl _) (fun a hA => ?_)
          refine takeF (i := 1) hA 96 rfl rfl (by decide) rfl (by kernel_rfl) (by kernel_rfl) (by kernel_rfl) (fun _ _ _ h => h) hS (fun wx hwx => R_row hA rfl rfl (B3.below hwx) Try.underlying25 (by kernel_rfl)) (fun a hA => ?_)
          refine takeF (i := 3) hA 98 rfl rfl (by decide) rfl (by kernel_rfl) (by kernel_rfl) (by kernel_rfl) (fun _ _ _ h => h) hS (fun wx hwx => R_mov hA rfl rfl _) (fun a hA => ?_)
          refine takeF (i := 4) hA 99 rfl rfl (by decide) rfl (by kernel_rfl) (by kernel_rfl) (by kernel_rfl) (fun _ _ _ h => h) hS (fun wx hwx => R_and hA rfl rfl rfl _) (fun a hA => ?_)
          refine takeF (i := 5) hA 100 rfl rfl (by decide) rfl (by kernel_rfl) (by kernel_rfl) (by kernel_rfl) (fun _ _ _ h => h) hS (fun wx hwx => R_row hA rfl rfl (B3.below hwx) Try.underlying25 (by kernel_rfl)) (fun a hA => ?_)
          refine wpAnyH_ready (rs := [2]) (by kernel_rfl) (by simp) (ready_call (i := 2) hA (by decide) rfl (fun _ _ => by kernel_rfl) (args2 hA rfl rfl) (allow_any x s hx sk _) (fun _ h => hS.trans (h.mono hS.size)) (fun w139 hw a hA => ?_) AllReadyH.nil)
          replace hS := hS.trans (hw.mono hS.size)
          clear hw
          refine wpAnyH_ready (rs := [6]) (by kernel_rfl) (by simp) (ready_call (i := 6) hA (by decide) rfl (fun _ _ => by kernel_rfl) (args2 hA rfl rfl) (allow_any _ s (bz_inA _ _) sk _) (fun _ h => hS.trans (h.mono hS.size)) (fun w140 hw a hA => ?_) AllReadyH.nil)
          replace hS := hS.trans (hw.mono hS.size)
          clear hw
          refine takeF (i := 7) hA 102 rfl rfl (by decide) rfl (by kernel_rfl) (by kernel_rfl) (by kernel_rfl) (fun _ _ _ h => h) hS (fun wx hwx => R_eqlBT hA rfl rfl rfl true (by rw [allow_low]; simp) _) (fun a hA => ?_)
          refine takeF (i := 8) hA 103 rfl rfl (by decide) rfl (by kernel_rfl) (by kernel_rfl) (by kernel_rfl) (fun _ _ _ h => h) hS (fun wx hwx => R_mov hA rfl rfl _) (fun a hA => ?_)
          refine takeFg (i := 9) hA 104 rfl rfl (by decide) rfl rfl rfl (by kernel_rfl) (by kernel_rfl) (by kernel_rfl) (fun _ _ _ h => h) hS (fun wx hwx => R_mov hA rfl rfl _) (fun a hA => ?_)
          refine takeFg (i := 10) hA 105 rfl rfl (by decide) rfl rfl rfl (by kernel_rfl) (by kernel_rfl) (by kernel_rfl) (fun _ _ _ h => h) hS (fun wx hwx => R_row hA rfl rfl (B3.below hwx) Try.underlying25 (by kernel_rfl)) (fun a hA => ?_)
          refine takeFg (i := 12) hA 107 rfl rfl (by decide) rfl rfl rfl (by kernel_rfl) (by kernel_rfl) (by kernel_rfl) (fun _ _ _ h => h) hS (fun wx hwx => R_mov hA rfl rfl _) (fun a hA => ?_)
          refine takeFg (i := 13) hA 108 rfl rfl (by decide) rfl rfl rfl (by kernel_rfl) (by kernel_rfl) (by kernel_rfl) (fun _ _ _ h => h) hS (fun wx hwx => R_and hA rfl rfl rfl _) (fun a hA => ?_)
          refine takeFg (i := 14) hA 109 rfl rfl (by decide) rfl rfl rfl (by kernel_rfl) (by kernel_rfl) (by kernel_rfl) (fun _ _ _ h => h) hS (fun wx hwx => R_row hA rfl rfl (B3.below hwx) Try.underlying25 (by kernel_rfl)) (fun a hA => ?_)
          refine wpAnyH_ready (rs := [11]) (by kernel_rfl) (by simp) (ready_gcall (i := 11) hA (by decide) rfl rfl rfl (fun _ _ => by kernel_rfl) (args2 hA rfl rfl) (full_any x s hx sk _) (fun _ h => hS.trans (h.mono hS.size)) (fun w141 hw a hA => ?_) AllReadyH.nil)
          replace hS := hS.trans (hw.mono hS.size)
          clear hw
          refine wpAnyH_ready (rs := [15]) (by kernel_rfl) (by simp) (ready_gcall (i := 15) hA (by decide) rfl rfl rfl (fun _ _ => by kernel_rfl) (args2 hA rfl rfl) (full_any _ s (bz_inA _ _) sk _) (fun _ h => hS.trans (h.mono hS.size)) (fun w142 hw a hA => ?_) AllReadyH.nil)
          replace hS := hS.trans (hw.mono hS.size)
          clear hw
          refine takeFg (i := 16) hA 111 rfl rfl (by decide) rfl rfl rfl (by kernel_rfl) (by kernel_rfl) (by kernel_rfl) (fun _ _ _ h => h) hS (fun wx hwx => R_eqlBT hA rfl rfl rfl true (by rw [full_low]; simp) _) (fun a hA => ?_)
          refine takeF (i := 17) hA 112 rfl rfl (by decide) rfl (by kernel_rfl) (by kernel_rfl) (by kernel_rfl) (fun _ _ _ h => h) hS (fun wx hwx => R_pick hA rfl rfl rfl _) (fun a hA => ?_)
          refine takeF (i := 18) hA 4 rfl rfl (by decide) rfl (by kernel_rfl) (by kernel_rfl) (by kernel_rfl) (fun _ _ _ h => h) hS (fun wx hwx => R_asg hA rfl rfl _) (fun a hA => ?_)
          refine wpAnyH_done (by kernel_rfl) ?_ _
          replace B3 := B3.below hS
          replace B5 := B5.below hS
          replace B7 := B7.below hS
          replace HB := HB.trans (hS.mono HB.size)
          clear hS
          refine then_nrm ?_
          show Code.wp Try.prog _ _ _ _
          refine wp_ret ?_
          exact ret_tmp (j := 4) (by kernel_rfl) hA (by decide) rfl ⟨rfl, HB⟩
        refine W_gskip hA rfl rfl rfl 75 rfl (by decide) (fun a hA => ?_)
        refine W_val hA rfl 76 rfl (by decide) _ _ (R_pick hA rfl rfl rfl _) (fun a hA => ?_)
        refine W_nil ?_
        refine then_nrm ?_
        show Code.wp Try.prog _ _ _ _
        refine wp_cond_false (hA.ev (x := .tmp 76) rfl) ?_
        refine wp_skip ?_
        refine then_nrm ?_
        show Code.wp Try.prog _ _ _ _
        refine wp_seq ?_
        refine wp_region_held_drew (S := fun wx => Below w127.heap.size w127 wx) (by kernel_rfl) ((Below.refl _ _).drew) (fun hS => ?_)
        refine takeF (i := 0) hA 95 rfl rfl (by decide) rfl (by kernel_rfl) (by kernel_rfl) (by kernel_rfl) (fun _ _ _ h => h) hS (fun wx hwx => R_mov hA rfl rfl _) (fun a hA => ?_)
        refine takeF (i := 1) hA 96 rfl rfl (by decide) rfl (by kernel_rfl) (by kernel_rfl) (by kernel_rfl) (fun _ _ _ h => h) hS (fun wx hwx => R_row hA rfl rfl (B3.below hwx) Try.underlying25 (by kernel_rfl)) (fun a hA => ?_)
        refine takeF (i := 3) hA 98 rfl rfl (by decide) rfl (by kernel_rfl) (by kernel_rfl) (by kernel_rfl) (fun _ _ _ h => h) hS (fun wx hwx => R_mov hA rfl rfl _) (fun a hA => ?_)
        refine takeF (i := 4) hA 99 rfl rfl (by decide) rfl (by kernel_rfl) (by kernel_rfl) (by kernel_rfl) (fun _ _ _ h => h) hS (fun wx hwx => R_and hA rfl rfl rfl _) (fun a hA => ?_)
        refine takeF (i := 5) hA 100 rfl rfl (by decide) rfl (by kernel_rfl) (by kernel_rfl) (by kernel_rfl) (fun _ _ _ h => h) hS (fun wx hwx => R_row hA rfl rfl (B3.below hwx) Try.underlying25 (by kernel_rfl)) (fun a hA => ?_)
        refine wpAnyH_ready (rs := [2]) (by kernel_rfl) (by simp) (ready_call (i := 2) hA (by decide) rfl (fun _ _ => by kernel_rfl) (args2 hA rfl rfl) (allow_any x s hx sk _) (fun _ h => hS.trans (h.mono hS.size)) (fun w143 hw a hA => ?_) AllReadyH.nil)
        replace hS := hS.trans (hw.mono hS.size)
        clear hw
        refine wpAnyH_ready (rs := [6]) (by kernel_rfl) (by simp) (ready_call (i := 6) hA (by decide) rfl (fun _ _ => by kernel_rfl) (args2 hA rfl rfl) (allow_any _ s (bz_inA _ _) sk _) (fun _ h => hS.trans (h.mono hS.size)) (fun w144 hw a hA => ?_) AllReadyH.nil)
        replace hS := hS.trans (hw.mono hS.size)
        clear hw
        refine takeF (i := 7) hA 102 rfl rfl (by decide) rfl (by kernel_rfl) (by kernel_rfl) (by kernel_rfl) (fun _ _ _ h => h) hS (fun wx hwx => R_eqlBT hA rfl rfl rfl true (by rw [allow_low]; simp) _) (fun a hA => ?_)
        refine takeF (i := 8) hA 103 rfl rfl (by decide) rfl (by kernel_rfl) (by kernel_rfl) (by kernel_rfl) (fun _ _ _ h => h) hS (fun wx hwx => R_mov hA rfl rfl _) (fun a hA => ?_)
        refine takeFg (i := 9) hA 104 rfl rfl (by decide) rfl rfl rfl (by kernel_rfl) (by kernel_rfl) (by kernel_rfl) (fun _ _ _ h => h) hS (fun wx hwx => R_mov hA rfl rfl _) (fun a hA => ?_)
        refine takeFg (i := 10) hA 105 rfl rfl (by decide) rfl rfl rfl (by kernel_rfl) (by kernel_rfl) (by kernel_rfl) (fun _ _ _ h => h) hS (fun wx hwx => R_row hA rfl rfl (B3.below hwx) Try.underlying25 (by kernel_rfl)) (fun a hA => ?_)
        refine takeFg (i := 12) hA 107 rfl rfl (by decide) rfl rfl rfl (by kernel_rfl) (by kernel_rfl) (by kernel_rfl) (fun _ _ _ h => h) hS (fun wx hwx => R_mov hA rfl rfl _) (fun a hA => ?_)
        refine takeFg (i := 13) hA 108 rfl rfl (by decide) rfl rfl rfl (by kernel_rfl) (by kernel_rfl) (by kernel_rfl) (fun _ _ _ h => h) hS (fun wx hwx => R_and hA rfl rfl rfl _) (fun a hA => ?_)
        refine takeFg (i := 14) hA 109 rfl rfl (by decide) rfl rfl rfl (by kernel_rfl) (by kernel_rfl) (by kernel_rfl) (fun _ _ _ h => h) hS (fun wx hwx => R_row hA rfl rfl (B3.below hwx) Try.underlying25 (by kernel_rfl)) (fun a hA => ?_)
        refine wpAnyH_ready (rs := [11]) (by kernel_rfl) (by simp) (ready_gcall (i := 11) hA (by decide) rfl rfl rfl (fun _ _ => by kernel_rfl) (args2 hA rfl rfl) (full_any x s hx sk _) (fun _ h => hS.trans (h.mono hS.size)) (fun w145 hw a hA => ?_) AllReadyH.nil)
        replace hS := hS.trans (hw.mono hS.size)
        clear hw
        refine wpAnyH_ready (rs := [15]) (by kernel_rfl) (by simp) (ready_gcall (i := 15) hA (by decide) rfl rfl rfl (fun _ _ => by kernel_rfl) (args2 hA rfl rfl) (full_any _ s (bz_inA _ _) sk _) (fun _ h => hS.trans (h.mono hS.size)) (fun w146 hw a hA => ?_) AllReadyH.nil)
        replace hS := hS.trans (hw.mono hS.size)
        clear hw
        refine takeFg (i := 16) hA 111 rfl rfl (by decide) rfl rfl rfl (by kernel_rfl) (by kernel_rfl) (by kernel_rfl) (fun _ _ _ h => h) hS (fun wx hwx => R_eqlBT hA rfl rfl rfl true (by rw [full_low]; simp) _) (fun a hA => ?_)
        refine takeF (i := 17) hA 112 rfl rfl (by decide) rfl (by kernel_rfl) (by kernel_rfl) (by kernel_rfl) (fun _ _ _ h => h) hS (fun wx hwx => R_pick hA rfl rfl rfl _) (fun a hA => ?_)
        refine takeF (i := 18) hA 4 rfl rfl (by decide) rfl (by kernel_rfl) (by kernel_rfl) (by kernel_rfl) (fun _ _ _ h => h) hS (fun wx hwx => R_asg hA rfl rfl _) (fun a hA => ?_)
        refine wpAnyH_done (by kernel_rfl) ?_ _
        replace B3 := B3.below hS
        replace B5 := B5.below hS
        replace HB := HB.trans (hS.mono HB.size)
        clear hS
        refine then_nrm ?_
        show Code.wp Try.prog _ _ _ _
        refine wp_ret ?_
        exact ret_tmp (j := 4) (by kernel_rfl) hA (by decide) rfl ⟨rfl, HB⟩
      refine W_gskip hA rfl rfl rfl 70 rfl (by decide) (fun a hA => ?_)
      refine W_gskip hA rfl rfl rfl 71 rfl (by decide) (fun a hA => ?_)
      refine W_gskip hA rfl rfl rfl 72 rfl (by decide) (fun a hA => ?_)
      refine W_val hA rfl 73 rfl (by decide) _ _ (R_pick hA rfl rfl rfl _) (fun a hA => ?_)
      refine W_val hA rfl 74 rfl (by decide) _ _ (R_mov hA rfl rfl _) (fun a hA => ?_)
      refine W_gskip hA rfl rfl rfl 75 rfl (by decide) (fun a hA => ?_)
      refine W_val hA rfl 76 rfl (by decide) _ _ (R_pick hA rfl rfl rfl _) (fun a hA => ?_)
      refine W_nil ?_
      refine then_nrm ?_
      show Code.wp Try.prog _ _ _ _
      refine wp_cond_false (hA.ev (x := .tmp 76) rfl) ?_
      refine wp_skip ?_
      refine then_nrm ?_
      show Code.wp Try.prog _ _ _ _
      refine wp_seq ?_
      refine wp_region_held_drew (S := fun wx => Below w127.heap.size w127 wx) (by kernel_rfl) ((Below.refl _ _).drew) (fun hS => ?_)
      refine takeF (i := 0) hA 95 rfl rfl (by decide) rfl (by kernel_rfl) (by kernel_rfl) (by kernel_rfl) (fun _ _ _ h => h) hS (fun wx hwx => R_mov hA rfl rfl _) (fun a hA => ?_)
      refine takeF (i := 1) hA 96 rfl rfl (by decide) rfl (by kernel_rfl) (by kernel_rfl) (by kernel_rfl) (fun _ _ _ h => h) hS (fun wx hwx => R_row hA rfl rfl (B3.below hwx) Try.underlying25 (by kernel_rfl)) (fun a hA => ?_)
      refine takeF (i := 3) hA 98 rfl rfl (by decide) rfl (by kernel_rfl) (by kernel_rfl) (by kernel_rfl) (fun _ _ _ h => h) hS (fun wx hwx => R_mov hA rfl rfl _) (fun a hA => ?_)
      refine takeF (i := 4) hA 99 rfl rfl (by decide) rfl (by kernel_rfl) (by kernel_rfl) (by kernel_rfl) (fun _ _ _ h => h) hS (fun wx hwx => R_and hA rfl rfl rfl _) (fun a hA => ?_)
      refine takeF (i := 5) hA 100 rfl rfl (by decide) rfl (by kernel_rfl) (by kernel_rfl) (by kernel_rfl) (fun _ _ _ h => h) hS (fun wx hwx => R_row hA rfl rfl (B3.below hwx) Try.underlying25 (by kernel_rfl)) (fun a hA => ?_)
      refine wpAnyH_ready (rs := [2]) (by kernel_rfl) (by simp) (ready_call (i := 2) hA (by decide) rfl (fun _ _ => by kernel_rfl) (args2 hA rfl rfl) (allow_any x s hx sk _) (fun _ h => hS.trans (h.mono hS.size)) (fun w147 hw a hA => ?_) AllReadyH.nil)
      replace hS := hS.trans (hw.mono hS.size)
      clear hw
      refine wpAnyH_ready (rs := [6]) (by kernel_rfl) (by simp) (ready_call (i := 6) hA (by decide) rfl (fun _ _ => by kernel_rfl) (args2 hA rfl rfl) (allow_any _ s (bz_inA _ _) sk _) (fun _ h => hS.trans (h.mono hS.size)) (fun w148 hw a hA => ?_) AllReadyH.nil)
      replace hS := hS.trans (hw.mono hS.size)
      clear hw
      refine takeF (i := 7) hA 102 rfl rfl (by decide) rfl (by kernel_rfl) (by kernel_rfl) (by kernel_rfl) (fun _ _ _ h => h) hS (fun wx hwx => R_eqlBT hA rfl rfl rfl true (by rw [allow_low]; simp) _) (fun a hA => ?_)
      refine takeF (i := 8) hA 103 rfl rfl (by decide) rfl (by kernel_rfl) (by kernel_rfl) (by kernel_rfl) (fun _ _ _ h => h) hS (fun wx hwx => R_mov hA rfl rfl _) (fun a hA => ?_)
      refine takeFg (i := 9) hA 104 rfl rfl (by decide) rfl rfl rfl (by kernel_rfl) (by kernel_rfl) (by kernel_rfl) (fun _ _ _ h => h) hS (fun wx hwx => R_mov hA rfl rfl _) (fun a hA => ?_)
      refine takeFg (i := 10) hA 105 rfl rfl (by decide) rfl rfl rfl (by kernel_rfl) (by kernel_rfl) (by kernel_rfl) (fun _ _ _ h => h) hS (fun wx hwx => R_row hA rfl rfl (B3.below hwx) Try.underlying25 (by kernel_rfl)) (fun a hA => ?_)
      refine takeFg (i := 12) hA 107 rfl rfl (by decide) rfl rfl rfl (by kernel_rfl) (by kernel_rfl) (by kernel_rfl) (fun _ _ _ h => h) hS (fun wx hwx => R_mov hA rfl rfl _) (fun a hA => ?_)
      refine takeFg (i := 13) hA 108 rfl rfl (by decide) rfl rfl rfl (by kernel_rfl) (by kernel_rfl) (by kernel_rfl) (fun _ _ _ h => h) hS (fun wx hwx => R_and hA rfl rfl rfl _) (fun a hA => ?_)
      refine takeFg (i := 14) hA 109 rfl rfl (by decide) rfl rfl rfl (by kernel_rfl) (by kernel_rfl) (by kernel_rfl) (fun _ _ _ h => h) hS (fun wx hwx => R_row hA rfl rfl (B3.below hwx) Try.underlying25 (by kernel_rfl)) (fun a hA => ?_)
      refine wpAnyH_ready (rs := [11]) (by kernel_rfl) (by simp) (ready_gcall (i := 11) hA (by decide) rfl rfl rfl (fun _ _ => by kernel_rfl) (args2 hA rfl rfl) (full_any x s hx sk _) (fun _ h => hS.trans (h.mono hS.size)) (fun w149 hw a hA => ?_) AllReadyH.nil)
      replace hS := hS.trans (hw.mono hS.size)
      clear hw
      refine wpAnyH_ready (rs := [15]) (by kernel_rfl) (by simp) (ready_gcall (i := 15) hA (by decide) rfl rfl rfl (fun _ _ => by kernel_rfl) (args2 hA rfl rfl) (full_any _ s (bz_inA _ _) sk _) (fun _ h => hS.trans (h.mono hS.size)) (fun w150 hw a hA => ?_) AllReadyH.nil)
      replace hS := hS.trans (hw.mono hS.size)
      clear hw
      refine takeFg (i := 16) hA 111 rfl rfl (by decide) rfl rfl rfl (by kernel_rfl) (by kernel_rfl) (by kernel_rfl) (fun _ _ _ h => h) hS (fun wx hwx => R_eqlBT hA rfl rfl rfl true (by rw [full_low]; simp) _) (fun a hA => ?_)
      refine takeF (i := 17) hA 112 rfl rfl (by decide) rfl (by kernel_rfl) (by kernel_rfl) (by kernel_rfl) (fun _ _ _ h => h) hS (fun wx hwx => R_pick hA rfl rfl rfl _) (fun a hA => ?_)
      refine takeF (i := 18) hA 4 rfl rfl (by decide) rfl (by kernel_rfl) (by kernel_rfl) (by kernel_rfl) (fun _ _ _ h => h) hS (fun wx hwx => R_asg hA rfl rfl _) (fun a hA => ?_)
      refine wpAnyH_done (by kernel_rfl) ?_ _
      replace B3 := B3.below hS
      replace B5 := B5.below hS
      replace HB := HB.trans (hS.mono HB.size)
      clear hS
      refine then_nrm ?_
      show Code.wp Try.prog _ _ _ _
      refine wp_ret ?_
      exact ret_tmp (j := 4) (by kernel_rfl) hA (by decide) rfl ⟨rfl, HB⟩
    refine W_gskip hA rfl rfl rfl 66 rfl (by decide) (fun a hA => ?_)
    refine W_gskip hA rfl rfl rfl 67 rfl (by decide) (fun a hA => ?_)
    refine W_val hA rfl 68 rfl (by decide) _ _ (R_pick hA rfl rfl rfl _) (fun a hA => ?_)
    refine W_val hA rfl 69 rfl (by decide) _ _ (R_mov hA rfl rfl _) (fun a hA => ?_)
    refine W_gskip hA rfl rfl rfl 70 rfl (by decide) (fun a hA => ?_)
    refine W_gskip hA rfl rfl rfl 71 rfl (by decide) (fun a hA => ?_)
    refine W_gskip hA rfl rfl rfl 72 rfl (by decide) (fun a hA => ?_)
    refine W_val hA rfl 73 rfl (by decide) _ _ (R_pick hA rfl rfl rfl _) (fun a hA => ?_)
    refine W_val hA rfl 74 rfl (by decide) _ _ (R_mov hA rfl rfl _) (fun a hA => ?_)
    refine W_gskip hA rfl rfl rfl 75 rfl (by decide) (fun a hA => ?_)
    refine W_val hA rfl 76 rfl (by decide) _ _ (R_pick hA rfl rfl rfl _) (fun a hA => ?_)
    refine W_nil ?_
    refine then_nrm ?_
    show Code.wp Try.prog _ _ _ _
    refine wp_cond_false (hA.ev (x := .tmp 76) rfl) ?_
    refine wp_skip ?_
    refine then_nrm ?_
    show Code.wp Try.prog _ _ _ _
    refine wp_seq ?_
    refine wp_region_held_drew (S := fun wx => Below w126.heap.size w126 wx) (by kernel_rfl) ((Below.refl _ _).drew) (fun hS => ?_)
    refine takeF (i := 0) hA 95 rfl rfl (by decide) rfl (by kernel_rfl) (by kernel_rfl) (by kernel_rfl) (fun _ _ _ h => h) hS (fun wx hwx => R_mov hA rfl rfl _) (fun a hA => ?_)
    refine takeF (i := 1) hA 96 rfl rfl (by decide) rfl (by kernel_rfl) (by kernel_rfl) (by kernel_rfl) (fun _ _ _ h => h) hS (fun wx hwx => R_row hA rfl rfl (B3.below hwx) Try.underlying25 (by kernel_rfl)) (fun a hA => ?_)
    refine takeF (i := 3) hA 98 rfl rfl (by decide) rfl (by kernel_rfl) (by kernel_rfl) (by kernel_rfl) (fun _ _ _ h => h) hS (fun wx hwx => R_mov hA rfl rfl _) (fun a hA => ?_)
    refine takeF (i := 4) hA 99 rfl rfl (by decide) rfl (by kernel_rfl) (by kernel_rfl) (by kernel_rfl) (fun _ _ _ h => h) hS (fun wx hwx => R_and hA rfl rfl rfl _) (fun a hA => ?_)
    refine takeF (i := 5) hA 100 rfl rfl (by decide) rfl (by kernel_rfl) (by kernel_rfl) (by kernel_rfl) (fun _ _ _ h => h) hS (fun wx hwx => R_row hA rfl rfl (B3.below hwx) Try.underlying25 (by kernel_rfl)) (fun a hA => ?_)
    refine wpAnyH_ready (rs := [2]) (by kernel_rfl) (by simp) (ready_call (i := 2) hA (by decide) rfl (fun _ _ => by kernel_rfl) (args2 hA rfl rfl) (allow_any x s hx sk _) (fun _ h => hS.trans (h.mono hS.size)) (fun w151 hw a hA => ?_) AllReadyH.nil)
    replace hS := hS.trans (hw.mono hS.size)
    clear hw
    refine wpAnyH_ready (rs := [6]) (by kernel_rfl) (by simp) (ready_call (i := 6) hA (by decide) rfl (fun _ _ => by kernel_rfl) (args2 hA rfl rfl) (allow_any _ s (bz_inA _ _) sk _) (fun _ h => hS.trans (h.mono hS.size)) (fun w152 hw a hA => ?_) AllReadyH.nil)
    replace hS := hS.trans (hw.mono hS.size)
    clear hw
    refine takeF (i := 7) hA 102 rfl rfl (by decide) rfl (by kernel_rfl) (by kernel_rfl) (by kernel_rfl) (fun _ _ _ h => h) hS (fun wx hwx => R_eqlBT hA rfl rfl rfl true (by rw [allow_low]; simp) _) (fun a hA => ?_)
    refine takeF (i := 8) hA 103 rfl rfl (by decide) rfl (by kernel_rfl) (by kernel_rfl) (by kernel_rfl) (fun _ _ _ h => h) hS (fun wx hwx => R_mov hA rfl rfl _) (fun a hA => ?_)
    refine takeFg (i := 9) hA 104 rfl rfl (by decide) rfl rfl rfl (by kernel_rfl) (by kernel_rfl) (by kernel_rfl) (fun _ _ _ h => h) hS (fun wx hwx => R_mov hA rfl rfl _) (fun a hA => ?_)
    refine takeFg (i := 10) hA 105 rfl rfl (by decide) rfl rfl rfl (by kernel_rfl) (by kernel_rfl) (by kernel_rfl) (fun _ _ _ h => h) hS (fun wx hwx => R_row hA rfl rfl (B3.below hwx) Try.underlying25 (by kernel_rfl)) (fun a hA => ?_)
    refine takeFg (i := 12) hA 107 rfl rfl (by decide) rfl rfl rfl (by kernel_rfl) (by kernel_rfl) (by kernel_rfl) (fun _ _ _ h => h) hS (fun wx hwx => R_mov hA rfl rfl _) (fun a hA => ?_)
    refine takeFg (i := 13) hA 108 rfl rfl (by decide) rfl rfl rfl (by kernel_rfl) (by kernel_rfl) (by kernel_rfl) (fun _ _ _ h => h) hS (fun wx hwx => R_and hA rfl rfl rfl _) (fun a hA => ?_)
    refine takeFg (i := 14) hA 109 rfl rfl (by decide) rfl rfl rfl (by kernel_rfl) (by kernel_rfl) (by kernel_rfl) (fun _ _ _ h => h) hS (fun wx hwx => R_row hA rfl rfl (B3.below hwx) Try.underlying25 (by kernel_rfl)) (fun a hA => ?_)
    refine wpAnyH_ready (rs := [11]) (by kernel_rfl) (by simp) (ready_gcall (i := 11) hA (by decide) rfl rfl rfl (fun _ _ => by kernel_rfl) (args2 hA rfl rfl) (full_any x s hx sk _) (fun _ h => hS.trans (h.mono hS.size)) (fun w153 hw a hA => ?_) AllReadyH.nil)
    replace hS := hS.trans (hw.mono hS.size)
    clear hw
    refine wpAnyH_ready (rs := [15]) (by kernel_rfl) (by simp) (ready_gcall (i := 15) hA (by decide) rfl rfl rfl (fun _ _ => by kernel_rfl) (args2 hA rfl rfl) (full_any _ s (bz_inA _ _) sk _) (fun _ h => hS.trans (h.mono hS.size)) (fun w154 hw a hA => ?_) AllReadyH.nil)
    replace hS := hS.trans (hw.mono hS.size)
    clear hw
    refine takeFg (i := 16) hA 111 rfl rfl (by decide) rfl rfl rfl (by kernel_rfl) (by kernel_rfl) (by kernel_rfl) (fun _ _ _ h => h) hS (fun wx hwx => R_eqlBT hA rfl rfl rfl true (by rw [full_low]; simp) _) (fun a hA => ?_)
    refine takeF (i := 17) hA 112 rfl rfl (by decide) rfl (by kernel_rfl) (by kernel_rfl) (by kernel_rfl) (fun _ _ _ h => h) hS (fun wx hwx => R_pick hA rfl rfl rfl _) (fun a hA => ?_)
    refine takeF (i := 18) hA 4 rfl rfl (by decide) rfl (by kernel_rfl) (by kernel_rfl) (by kernel_rfl) (fun _ _ _ h => h) hS (fun wx hwx => R_asg hA rfl rfl _) (fun a hA => ?_)
    refine wpAnyH_done (by kernel_rfl) ?_ _
    replace B3 := B3.below hS
    replace B5 := B5.below hS
    replace HB := HB.trans (hS.mono HB.size)
    clear hS
    refine then_nrm ?_
    show Code.wp Try.prog _ _ _ _
    refine wp_ret ?_
    exact ret_tmp (j := 4) (by kernel_rfl) hA (by decide) rfl ⟨rfl, HB⟩
  refine W_gskip hA rfl rfl rfl 45 rfl (by decide) (fun a hA => ?_)
  refine W_gskip hA rfl rfl rfl 46 rfl (by decide) (fun a hA => ?_)
  refine W_gskip hA rfl rfl rfl 47 rfl (by decide) (fun a hA => ?_)
  refine W_gval hA rfl rfl rfl 48 rfl (by decide) _ _ (R_pick hA rfl rfl rfl _) (fun a hA => ?_)
  refine W_gval hA rfl rfl rfl 49 rfl (by decide) _ _ (R_mov hA rfl rfl _) (fun a hA => ?_)
  refine W_gskip hA rfl rfl rfl 50 rfl (by decide) (fun a hA => ?_)
  refine W_gskip hA rfl rfl rfl 51 rfl (by decide) (fun a hA => ?_)
  refine W_gskip hA rfl rfl rfl 52 rfl (by decide) (fun a hA => ?_)
  refine W_gval hA rfl rfl rfl 53 rfl (by decide) _ _ (R_pick hA rfl rfl rfl _) (fun a hA => ?_)
  refine W_val hA rfl 54 rfl (by decide) _ _ (R_pick hA rfl rfl rfl _) (fun a hA => ?_)
  refine W_val hA rfl 55 rfl (by decide) _ _ (R_mov hA rfl rfl _) (fun a hA => ?_)
  refine W_gval hA rfl rfl rfl 56 rfl (by decide) _ _ (R_mov hA rfl rfl _) (fun a hA => ?_)
  refine W_gval hA rfl rfl rfl 57 rfl (by decide) _ _ (R_mov hA rfl rfl _) (fun a hA => ?_)
  refine W_gval hA rfl rfl rfl 58 rfl (by decide) _ _ (R_fa hA rfl rfl (fun w => fa_want _ 0 (by decide) w) _) (fun a hA => ?_)
  refine W_gval hA rfl rfl rfl 59 rfl (by decide) _ _ (R_ld (v := .int .u8 s.kind) hA rfl rfl ag_u8 (RowC.cell B3 0 _ rfl)) (fun a hA => ?_)
  refine W_gval hA rfl rfl rfl 60 rfl (by decide) _ _ (R_gtrBT hA rfl rfl rfl false (allow_kind h) _) (fun a hA => ?_)
  refine W_gval hA rfl rfl rfl 61 rfl (by decide) _ _ (R_pick hA rfl rfl rfl _) (fun a hA => ?_)
  refine W_val hA rfl 62 rfl (by decide) _ _ (R_pick hA rfl rfl rfl _) (fun a hA => ?_)
  refine W_nil ?_
  refine then_nrm ?_
  show Code.wp Try.prog _ _ _ _
  refine wp_cond_false (hA.ev (x := .tmp 62) rfl) ?_
  refine wp_skip ?_
  refine then_nrm ?_
  show Code.wp Try.prog _ _ _ _
  refine wp_seq ?_
  refine wp_seq ?_
  refine wp_region_list ?_
  refine W_val hA rfl 63 rfl (by decide) _ _ (R_mov hA rfl rfl _) (fun a hA => ?_)
  refine W_callA hA (by decide) (fun _ _ => by kernel_rfl) (args1 hA rfl) (ok_any x hx _) (fun w155 hw a hA => ?_)
  replace HB := HB.trans (hw.mono HB.size)
  replace B3 := B3.below hw
  replace B5 := B5.below hw
  clear hw
  refine W_val hA rfl 65 rfl (by decide) _ _ (R_mov hA rfl rfl _) (fun a hA => ?_)
  refine W_split hA 65 rfl (fun c26 hA => ?_) (fun c26 hA => ?_)
  · skip
    refine W_gval hA rfl rfl rfl 66 rfl (by decide) _ _ (R_mov hA rfl rfl _) (fun a hA => ?_)
    refine W_gcallB hA rfl rfl (by decide) (fun _ _ => by kernel_rfl) (args1 hA rfl) (leaf_any x hx _) (fun w156 hw a hA => ?_)
    replace HB := HB.trans (hw.mono HB.size)
    replace B3 := B3.below hw
    replace B5 := B5.below hw
    clear hw
    refine W_val hA rfl 68 rfl (by decide) _ _ (R_pick hA rfl rfl rfl _) (fun a hA => ?_)
    refine W_val hA rfl 69 rfl (by decide) _ _ (R_mov hA rfl rfl _) (fun a hA => ?_)
    refine W_split hA 69 rfl (fun c27 hA => ?_) (fun c27 hA => ?_)
    · skip
      refine W_gval hA rfl rfl rfl 70 rfl (by decide) _ _ (R_fa hA rfl rfl (fun w => fa_want _ 0 (by decide) w) _) (fun a hA => ?_)
      refine W_gval hA rfl rfl rfl 71 rfl (by decide) _ _ (R_ld (v := .int .u8 s.kind) hA rfl rfl ag_u8 (RowC.cell B3 0 _ rfl)) (fun a hA => ?_)
      refine W_gval hA rfl rfl rfl 72 rfl (by decide) _ _ (R_eqlB hA rfl rfl rfl _) (fun a hA => ?_)
      refine W_val hA rfl 73 rfl (by decide) _ _ (R_pick hA rfl rfl rfl _) (fun a hA => ?_)
      refine W_val hA rfl 74 rfl (by decide) _ _ (R_mov hA rfl rfl _) (fun a hA => ?_)
      refine W_split hA 74 rfl (fun c28 hA => ?_) (fun c28 hA => ?_)
      · skip
        refine W_gval hA rfl rfl rfl 75 rfl (by decide) _ _ (R_mov hA rfl rfl _) (fun a hA => ?_)
        refine W_val hA rfl 76 rfl (by decide) _ _ (R_pick hA rfl rfl rfl _) (fun a hA => ?_)
        refine W_nil ?_
        refine then_nrm ?_
        show Code.wp Try.prog _ _ _ _
        refine wp_cond_true (hA.ev (x := .tmp 76) rfl) ?_
        refine wp_seq ?_
        refine wp_region_list ?_
        refine W_val hA rfl 77 rfl (by decide) _ _ (R_row hA rfl rfl B3 Try.underlying25 (by kernel_rfl)) (fun a hA => ?_)
        refine W_allocT (cs := #[.int .u8 0, .bool false, .int .u8 0, .bool false, .bool false, .bool false, .bool false]) hA rfl 7 rfl (by decide) rfl zero_want (fun w157 bB7 a hA hb B7 gB7 => ?_)
        have nB3B7 : bB3 < bB7 := by have := B3.lt; omega
        have nB5B7 : bB5 < bB7 := by have := B5.lt; omega
        replace gB7 := Nat.le_trans HB.size gB7
        replace HB := HB.trans (hb.mono HB.size)
        replace B3 := B3.below hb
        replace B5 := B5.below hb
        clear hb
        refine W_cpT (cs := wantC s) hA rfl rfl rfl rfl rfl B7 (by kernel_rfl) rfl (by simp [Value.oneCell']) (fun w158 hT HN => ?_)
        replace HB := HB.trans (hT.bel _ gB7)
        replace B3 := hT.row B3 (by omega)
        replace B5 := hT.row B5 (by omega)
        replace B7 := HN
        clear hT HN
        refine W_nil ?_
        refine then_nrm ?_
        show Code.wp Try.prog _ _ _ _
        refine wp_seq ?_
        refine wp_region_list ?_
        refine W_val hA rfl 78 rfl (by decide) _ _ (R_fa hA rfl rfl (fun w => fa_want _ 0 (by decide) w) _) (fun a hA => ?_)
        refine W_stT (cs' := #[.int .u8 0, .bool s.ex, .int .u8 s.priv, .bool s.v, .bool s.sum, .bool s.mxr, .bool s.vmxr]) hA rfl rfl rfl rfl rfl B7 (stT_B B7 _ rfl) rfl (fun w159 hT HN => ?_)
        replace HB := HB.trans (hT.bel _ gB7)
        replace B3 := hT.row B3 (by omega)
        replace B5 := hT.row B5 (by omega)
        replace B7 := HN
        clear hT HN
        refine W_nil ?_
        refine then_nrm ?_
        show Code.wp Try.prog _ _ _ _
        refine wp_seq ?_
        refine wp_region_list ?_
        refine W_val hA rfl 79 rfl (by decide) _ _ (R_fa hA rfl rfl (fun w => fa_want _ 1 (by decide) w) _) (fun a hA => ?_)
        refine W_stT (cs' := #[.int .u8 0, .bool false, .int .u8 s.priv, .bool s.v, .bool s.sum, .bool s.mxr, .bool s.vmxr]) hA rfl rfl rfl rfl rfl B7 (stT_b B7 _ rfl) rfl (fun w160 hT HN => ?_)
        replace HB := HB.trans (hT.bel _ gB7)
        replace B3 := hT.row B3 (by omega)
        replace B5 := hT.row B5 (by omega)
        replace B7 := HN
        clear hT HN
        replace B7 : RowC w160 bB7 25 (wantC s.load) := B7
        refine W_nil ?_
        refine then_nrm ?_
        show Code.wp Try.prog _ _ _ _
        refine wp_seq ?_
        refine wp_region_list ?_
        refine W_val hA rfl 80 rfl (by decide) _ _ (R_mov hA rfl rfl _) (fun a hA => ?_)
        refine W_val hA rfl 81 rfl (by decide) _ _ (R_row hA rfl rfl B7 Try.underlying25 (by kernel_rfl)) (fun a hA => ?_)
        refine W_callA hA (by decide) (fun _ _ => by kernel_rfl) (args2 hA rfl rfl) (allow_to (s := s.load) hx (ok_load sk) (allow_load h c26 c28) _) (fun w161 hw a hA => ?_)
        replace HB := HB.trans (hw.mono HB.size)
        replace B3 := B3.below hw
        replace B5 := B5.below hw
        replace B7 := B7.below hw
        clear hw
        refine W_val hA rfl 83 rfl (by decide) _ _ (R_not hA rfl rfl _) (fun a hA => ?_)
        refine W_val hA rfl 84 rfl (by decide) _ _ (R_mov hA rfl rfl _) (fun a hA => ?_)
        refine W_gval hA rfl rfl rfl 85 rfl (by decide) _ _ (R_mov hA rfl rfl _) (fun a hA => ?_)
        refine W_gval hA rfl rfl rfl 86 rfl (by decide) _ _ (R_row hA rfl rfl B3 Try.underlying25 (by kernel_rfl)) (fun a hA => ?_)
        refine W_gcallB hA rfl rfl (by decide) (fun _ _ => by kernel_rfl) (args2 hA rfl rfl) (full_any x s hx sk _) (fun w162 hw a hA => ?_)
        replace HB := HB.trans (hw.mono HB.size)
        replace B3 := B3.below hw
        replace B5 := B5.below hw
        replace B7 := B7.below hw
        clear hw
        refine W_gval hA rfl rfl rfl 88 rfl (by decide) _ _ (R_mov hA rfl rfl _) (fun a hA => ?_)
        refine W_split hA 88 rfl (fun c29 hA => ?_) (fun c29 hA => ?_)
        · skip
          refine W_gval hA rfl rfl rfl 89 rfl (by decide) _ _ (R_mov hA rfl rfl _) (fun a hA => ?_)
          refine W_gval hA rfl rfl rfl 90 rfl (by decide) _ _ (R_row hA rfl rfl B7 Try.underlying25 (by kernel_rfl)) (fun a hA => ?_)
          refine W_gcallB hA rfl rfl (by decide) (fun _ _ => by kernel_rfl) (args2 hA rfl rfl) (full_to (s := s.load) hx (ok_load sk) (full_load c29) _) (fun w163 hw a hA => ?_)
          replace HB := HB.trans (hw.mono HB.size)
          replace B3 := B3.below hw
          replace B5 := B5.below hw
          replace B7 := B7.below hw
          clear hw
          refine W_gval hA rfl rfl rfl 92 rfl (by decide) _ _ (R_not hA rfl rfl _) (fun a hA => ?_)
          refine W_gval hA rfl rfl rfl 93 rfl (by decide) _ _ (R_pick hA rfl rfl rfl _) (fun a hA => ?_)
          refine W_val hA rfl 94 rfl (by decide) _ _ (R_pick hA rfl rfl rfl _) (fun a hA => ?_)
          refine W_nil ?_
          refine then_nrm ?_
          show Code.wp Try.prog _ _ _ _
          refine wp_cond_false (hA.ev (x := .tmp 94) rfl) ?_
          refine wp_skip ?_
          refine then_nrm ?_
          show Code.wp Try.prog _ _ _ _
          refine wp_seq ?_
          refine wp_region_held_drew (S := fun wx => Below w163.heap.size w163 wx) (by kernel_rfl) ((Below.refl _ _).drew) (fun hS => ?_)
          refine takeF (i := 0) hA 95 rfl rfl (by decide) rfl (by kernel_rfl) (by kernel_rfl) (by kernel_rfl) (fun _ _ _ h => h) hS (fun wx hwx => R_mov hA rfl rfl _) (fun a hA => ?_)
          refine takeF (i := 1) hA 96 rfl rfl (by decide) rfl (by kernel_rfl) (by kernel_rfl) (by kernel_rfl) (fun _ _ _ h => h) hS (fun wx hwx => R_row hA rfl rfl (B3.below hwx) Try.underlying25 (by kernel_rfl)) (fun a hA => ?_)
          refine takeF (i := 3) hA 98 rfl rfl (by decide) rfl (by kernel_rfl) (by kernel_rfl) (by kernel_rfl) (fun _ _ _ h => h) hS (fun wx hwx => R_mov hA rfl rfl _) (fun a hA => ?_)
          refine takeF (i := 4) hA 99 rfl rfl (by decide) rfl (by kernel_rfl) (by kernel_rfl) (by kernel_rfl) (fun _ _ _ h => h) hS (fun wx hwx => R_and hA rfl rfl rfl _) (fun a hA => ?_)
          refine takeF (i := 5) hA 100 rfl rfl (by decide) rfl (by kernel_rfl) (by kernel_rfl) (by kernel_rfl) (fun _ _ _ h => h) hS (fun wx hwx => R_row hA rfl rfl (B3.below hwx) Try.underlying25 (by kernel_rfl)) (fun a hA => ?_)
          refine wpAnyH_ready (rs := [2]) (by kernel_rfl) (by simp) (ready_call (i := 2) hA (by decide) rfl (fun _ _ => by kernel_rfl) (args2 hA rfl rfl) (allow_any x s hx sk _) (fun _ h => hS.trans (h.mono hS.size)) (fun w164 hw a hA => ?_) AllReadyH.nil)
          replace hS := hS.trans (hw.mono hS.size)
          clear hw
          refine wpAnyH_ready (rs := [6]) (by kernel_rfl) (by simp) (ready_call (i := 6) hA (by decide) rfl (fun _ _ => by kernel_rfl) (args2 hA rfl rfl) (allow_any _ s (bz_inA _ _) sk _) (fun _ h => hS.trans (h.mono hS.size)) (fun w165 hw a hA => ?_) AllReadyH.nil)
          replace hS := hS.trans (hw.mono hS.size)
          clear hw
          refine takeF (i := 7) hA 102 rfl rfl (by decide) rfl (by kernel_rfl) (by kernel_rfl) (by kernel_rfl) (fun _ _ _ h => h) hS (fun wx hwx => R_eqlBT hA rfl rfl rfl true (by rw [allow_low]; simp) _) (fun a hA => ?_)
          refine takeF (i := 8) hA 103 rfl rfl (by decide) rfl (by kernel_rfl) (by kernel_rfl) (by kernel_rfl) (fun _ _ _ h => h) hS (fun wx hwx => R_mov hA rfl rfl _) (fun a hA => ?_)
          refine takeFg (i := 9) hA 104 rfl rfl (by decide) rfl rfl rfl (by kernel_rfl) (by kernel_rfl) (by kernel_rfl) (fun _ _ _ h => h) hS (fun wx hwx => R_mov hA rfl rfl _) (fun a hA => ?_)
          refine takeFg (i := 10) hA 105 rfl rfl (by decide) rfl rfl rfl (by kernel_rfl) (by kernel_rfl) (by kernel_rfl) (fun _ _ _ h => h) hS (fun wx hwx => R_row hA rfl rfl (B3.below hwx) Try.underlying25 (by kernel_rfl)) (fun a hA => ?_)
          refine takeFg (i := 12) hA 107 rfl rfl (by decide) rfl rfl rfl (by kernel_rfl) (by kernel_rfl) (by kernel_rfl) (fun _ _ _ h => h) hS (fun wx hwx => R_mov hA rfl rfl _) (fun a hA => ?_)
          refine takeFg (i := 13) hA 108 rfl rfl (by decide) rfl rfl rfl (by kernel_rfl) (by kernel_rfl) (by kernel_rfl) (fun _ _ _ h => h) hS (fun wx hwx => R_and hA rfl rfl rfl _) (fun a hA => ?_)
          refine takeFg (i := 14) hA 109 rfl rfl (by decide) rfl rfl rfl (by kernel_rfl) (by kernel_rfl) (by kernel_rfl) (fun _ _ _ h => h) hS (fun wx hwx => R_row hA rfl rfl (B3.below hwx) Try.underlying25 (by kernel_rfl)) (fun a hA => ?_)
          refine wpAnyH_ready (rs := [11]) (by kernel_rfl) (by simp) (ready_gcall (i := 11) hA (by decide) rfl rfl rfl (fun _ _ => by kernel_rfl) (args2 hA rfl rfl) (full_any x s hx sk _) (fun _ h => hS.trans (h.mono hS.size)) (fun w166 hw a hA => ?_) AllReadyH.nil)
          replace hS := hS.trans (hw.mono hS.size)
          clear hw
          refine wpAnyH_ready (rs := [15]) (by kernel_rfl) (by simp) (ready_gcall (i := 15) hA (by decide) rfl rfl rfl (fun _ _ => by kernel_rfl) (args2 hA rfl rfl) (full_any _ s (bz_inA _ _) sk _) (fun _ h => hS.trans (h.mono hS.size)) (fun w167 hw a hA => ?_) AllReadyH.nil)
          replace hS := hS.trans (hw.mono hS.size)
          clear hw
          refine takeFg (i := 16) hA 111 rfl rfl (by decide) rfl rfl rfl (by kernel_rfl) (by kernel_rfl) (by kernel_rfl) (fun _ _ _ h => h) hS (fun wx hwx => R_eqlBT hA rfl rfl rfl true (by rw [full_low]; simp) _) (fun a hA => ?_)
          refine takeF (i := 17) hA 112 rfl rfl (by decide) rfl (by kernel_rfl) (by kernel_rfl) (by kernel_rfl) (fun _ _ _ h => h) hS (fun wx hwx => R_pick hA rfl rfl rfl _) (fun a hA => ?_)
          refine takeF (i := 18) hA 4 rfl rfl (by decide) rfl (by kernel_rfl) (by kernel_rfl) (by kernel_rfl) (fun _ _ _ h => h) hS (fun wx hwx => R_asg hA rfl rfl _) (fun a hA => ?_)
          refine wpAnyH_done (by kernel_rfl) ?_ _
          replace B3 := B3.below hS
          replace B5 := B5.below hS
          replace B7 := B7.below hS
          replace HB := HB.trans (hS.mono HB.size)
          clear hS
          refine then_nrm ?_
          show Code.wp Try.prog _ _ _ _
          refine wp_ret ?_
          exact ret_tmp (j := 4) (by kernel_rfl) hA (by decide) rfl ⟨rfl, HB⟩
        refine W_gskip hA rfl rfl rfl 89 rfl (by decide) (fun a hA => ?_)
        refine W_gskip hA rfl rfl rfl 90 rfl (by decide) (fun a hA => ?_)
        refine W_gskip hA rfl rfl rfl 91 rfl (by decide) (fun a hA => ?_)
        refine W_gskip hA rfl rfl rfl 92 rfl (by decide) (fun a hA => ?_)
        refine W_gval hA rfl rfl rfl 93 rfl (by decide) _ _ (R_pick hA rfl rfl rfl _) (fun a hA => ?_)
        refine W_val hA rfl 94 rfl (by decide) _ _ (R_pick hA rfl rfl rfl _) (fun a hA => ?_)
        refine W_nil ?_
        refine then_nrm ?_
        show Code.wp Try.prog _ _ _ _
        refine wp_cond_false (hA.ev (x := .tmp 94) rfl) ?_
        refine wp_skip ?_
        refine then_nrm ?_
        show Code.wp Try.prog _ _ _ _
        refine wp_seq ?_
        refine wp_region_held_drew (S := fun wx => Below w162.heap.size w162 wx) (by kernel_rfl) ((Below.refl _ _).drew) (fun hS => ?_)
        refine takeF (i := 0) hA 95 rfl rfl (by decide) rfl (by kernel_rfl) (by kernel_rfl) (by kernel_rfl) (fun _ _ _ h => h) hS (fun wx hwx => R_mov hA rfl rfl _) (fun a hA => ?_)
        refine takeF (i := 1) hA 96 rfl rfl (by decide) rfl (by kernel_rfl) (by kernel_rfl) (by kernel_rfl) (fun _ _ _ h => h) hS (fun wx hwx => R_row hA rfl rfl (B3.below hwx) Try.underlying25 (by kernel_rfl)) (fun a hA => ?_)
        refine takeF (i := 3) hA 98 rfl rfl (by decide) rfl (by kernel_rfl) (by kernel_rfl) (by kernel_rfl) (fun _ _ _ h => h) hS (fun wx hwx => R_mov hA rfl rfl _) (fun a hA => ?_)
        refine takeF (i := 4) hA 99 rfl rfl (by decide) rfl (by kernel_rfl) (by kernel_rfl) (by kernel_rfl) (fun _ _ _ h => h) hS (fun wx hwx => R_and hA rfl rfl rfl _) (fun a hA => ?_)
        refine takeF (i := 5) hA 100 rfl rfl (by decide) rfl (by kernel_rfl) (by kernel_rfl) (by kernel_rfl) (fun _ _ _ h => h) hS (fun wx hwx => R_row hA rfl rfl (B3.below hwx) Try.underlying25 (by kernel_rfl)) (fun a hA => ?_)
        refine wpAnyH_ready (rs := [2]) (by kernel_rfl) (by simp) (ready_call (i := 2) hA (by decide) rfl (fun _ _ => by kernel_rfl) (args2 hA rfl rfl) (allow_any x s hx sk _) (fun _ h => hS.trans (h.mono hS.size)) (fun w168 hw a hA => ?_) AllReadyH.nil)
        replace hS := hS.trans (hw.mono hS.size)
        clear hw
        refine wpAnyH_ready (rs := [6]) (by kernel_rfl) (by simp) (ready_call (i := 6) hA (by decide) rfl (fun _ _ => by kernel_rfl) (args2 hA rfl rfl) (allow_any _ s (bz_inA _ _) sk _) (fun _ h => hS.trans (h.mono hS.size)) (fun w169 hw a hA => ?_) AllReadyH.nil)
        replace hS := hS.trans (hw.mono hS.size)
        clear hw
        refine takeF (i := 7) hA 102 rfl rfl (by decide) rfl (by kernel_rfl) (by kernel_rfl) (by kernel_rfl) (fun _ _ _ h => h) hS (fun wx hwx => R_eqlBT hA rfl rfl rfl true (by rw [allow_low]; simp) _) (fun a hA => ?_)
        refine takeF (i := 8) hA 103 rfl rfl (by decide) rfl (by kernel_rfl) (by kernel_rfl) (by kernel_rfl) (fun _ _ _ h => h) hS (fun wx hwx => R_mov hA rfl rfl _) (fun a hA => ?_)
        refine takeFg (i := 9) hA 104 rfl rfl (by decide) rfl rfl rfl (by kernel_rfl) (by kernel_rfl) (by kernel_rfl) (fun _ _ _ h => h) hS (fun wx hwx => R_mov hA rfl rfl _) (fun a hA => ?_)
        refine takeFg (i := 10) hA 105 rfl rfl (by decide) rfl rfl rfl (by kernel_rfl) (by kernel_rfl) (by kernel_rfl) (fun _ _ _ h => h) hS (fun wx hwx => R_row hA rfl rfl (B3.below hwx) Try.underlying25 (by kernel_rfl)) (fun a hA => ?_)
        refine takeFg (i := 12) hA 107 rfl rfl (by decide) rfl rfl rfl (by kernel_rfl) (by kernel_rfl) (by kernel_rfl) (fun _ _ _ h => h) hS (fun wx hwx => R_mov hA rfl rfl _) (fun a hA => ?_)
        refine takeFg (i := 13) hA 108 rfl rfl (by decide) rfl rfl rfl (by kernel_rfl) (by kernel_rfl) (by kernel_rfl) (fun _ _ _ h => h) hS (fun wx hwx => R_and hA rfl rfl rfl _) (fun a hA => ?_)
        refine takeFg (i := 14) hA 109 rfl rfl (by decide) rfl rfl rfl (by kernel_rfl) (by kernel_rfl) (by kernel_rfl) (fun _ _ _ h => h) hS (fun wx hwx => R_row hA rfl rfl (B3.below hwx) Try.underlying25 (by kernel_rfl)) (fun a hA => ?_)
        refine wpAnyH_ready (rs := [11]) (by kernel_rfl) (by simp) (ready_gcall (i := 11) hA (by decide) rfl rfl rfl (fun _ _ => by kernel_rfl) (args2 hA rfl rfl) (full_any x s hx sk _) (fun _ h => hS.trans (h.mono hS.size)) (fun w170 hw a hA => ?_) AllReadyH.nil)
        replace hS := hS.trans (hw.mono hS.size)
        clear hw
        refine wpAnyH_ready (rs := [15]) (by kernel_rfl) (by simp) (ready_gcall (i := 15) hA (by decide) rfl rfl rfl (fun _ _ => by kernel_rfl) (args2 hA rfl rfl) (full_any _ s (bz_inA _ _) sk _) (fun _ h => hS.trans (h.mono hS.size)) (fun w171 hw a hA => ?_) AllReadyH.nil)
        replace hS := hS.trans (hw.mono hS.size)
        clear hw
        refine takeFg (i := 16) hA 111 rfl rfl (by decide) rfl rfl rfl (by kernel_rfl) (by kernel_rfl) (by kernel_rfl) (fun _ _ _ h => h) hS (fun wx hwx => R_eqlBT hA rfl rfl rfl true (by rw [full_low]; simp) _) (fun a hA => ?_)
        refine takeF (i := 17) hA 112 rfl rfl (by decide) rfl (by kernel_rfl) (by kernel_rfl) (by kernel_rfl) (fun _ _ _ h => h) hS (fun wx hwx => R_pick hA rfl rfl rfl _) (fun a hA => ?_)
        refine takeF (i := 18) hA 4 rfl rfl (by decide) rfl (by kernel_rfl) (by kernel_rfl) (by kernel_rfl) (fun _ _ _ h => h) hS (fun wx hwx => R_asg hA rfl rfl _) (fun a hA => ?_)
        refine wpAnyH_done (by kernel_rfl) ?_ _
        replace B3 := B3.below hS
        replace B5 := B5.below hS
        replace B7 := B7.below hS
        replace HB := HB.trans (hS.mono HB.size)
        clear hS
        refine then_nrm ?_
        show Code.wp Try.prog _ _ _ _
        refine wp_ret ?_
        exact ret_tmp (j := 4) (by kernel_rfl) hA (by decide) rfl ⟨rfl, HB⟩
      refine W_gskip hA rfl rfl rfl 75 rfl (by decide) (fun a hA => ?_)
      refine W_val hA rfl 76 rfl (by decide) _ _ (R_pick hA rfl rfl rfl _) (fun a hA => ?_)
      refine W_nil ?_
      refine then_nrm ?_
      show Code.wp Try.prog _ _ _ _
      refine wp_cond_false (hA.ev (x := .tmp 76) rfl) ?_
      refine wp_skip ?_
      refine then_nrm ?_
      show Code.wp Try.prog _ _ _ _
      refine wp_seq ?_
      refine wp_region_held_drew (S := fun wx => Below w156.heap.size w156 wx) (by kernel_rfl) ((Below.refl _ _).drew) (fun hS => ?_)
      refine takeF (i := 0) hA 95 rfl rfl (by decide) rfl (by kernel_rfl) (by kernel_rfl) (by kernel_rfl) (fun _ _ _ h => h) hS (fun wx hwx => R_mov hA rfl rfl _) (fun a hA => ?_)
      refine takeF (i := 1) hA 96 rfl rfl (by decide) rfl (by kernel_rfl) (by kernel_rfl) (by kernel_rfl) (fun _ _ _ h => h) hS (fun wx hwx => R_row hA rfl rfl (B3.below hwx) Try.underlying25 (by kernel_rfl)) (fun a hA => ?_)
      refine takeF (i := 3) hA 98 rfl rfl (by decide) rfl (by kernel_rfl) (by kernel_rfl) (by kernel_rfl) (fun _ _ _ h => h) hS (fun wx hwx => R_mov hA rfl rfl _) (fun a hA => ?_)
      refine takeF (i := 4) hA 99 rfl rfl (by decide) rfl (by kernel_rfl) (by kernel_rfl) (by kernel_rfl) (fun _ _ _ h => h) hS (fun wx hwx => R_and hA rfl rfl rfl _) (fun a hA => ?_)
      refine takeF (i := 5) hA 100 rfl rfl (by decide) rfl (by kernel_rfl) (by kernel_rfl) (by kernel_rfl) (fun _ _ _ h => h) hS (fun wx hwx => R_row hA rfl rfl (B3.below hwx) Try.underlying25 (by kernel_rfl)) (fun a hA => ?_)
      refine wpAnyH_ready (rs := [2]) (by kernel_rfl) (by simp) (ready_call (i := 2) hA (by decide) rfl (fun _ _ => by kernel_rfl) (args2 hA rfl rfl) (allow_any x s hx sk _) (fun _ h => hS.trans (h.mono hS.size)) (fun w172 hw a hA => ?_) AllReadyH.nil)
      replace hS := hS.trans (hw.mono hS.size)
      clear hw
      refine wpAnyH_ready (rs := [6]) (by kernel_rfl) (by simp) (ready_call (i := 6) hA (by decide) rfl (fun _ _ => by kernel_rfl) (args2 hA rfl rfl) (allow_any _ s (bz_inA _ _) sk _) (fun _ h => hS.trans (h.mono hS.size)) (fun w173 hw a hA => ?_) AllReadyH.nil)
      replace hS := hS.trans (hw.mono hS.size)
      clear hw
      refine takeF (i := 7) hA 102 rfl rfl (by decide) rfl (by kernel_rfl) (by kernel_rfl) (by kernel_rfl) (fun _ _ _ h => h) hS (fun wx hwx => R_eqlBT hA rfl rfl rfl true (by rw [allow_low]; simp) _) (fun a hA => ?_)
      refine takeF (i := 8) hA 103 rfl rfl (by decide) rfl (by kernel_rfl) (by kernel_rfl) (by kernel_rfl) (fun _ _ _ h => h) hS (fun wx hwx => R_mov hA rfl rfl _) (fun a hA => ?_)
      refine takeFg (i := 9) hA 104 rfl rfl (by decide) rfl rfl rfl (by kernel_rfl) (by kernel_rfl) (by kernel_rfl) (fun _ _ _ h => h) hS (fun wx hwx => R_mov hA rfl rfl _) (fun a hA => ?_)
      refine takeFg (i := 10) hA 105 rfl rfl (by decide) rfl rfl rfl (by kernel_rfl) (by kernel_rfl) (by kernel_rfl) (fun _ _ _ h => h) hS (fun wx hwx => R_row hA rfl rfl (B3.below hwx) Try.underlying25 (by kernel_rfl)) (fun a hA => ?_)
      refine takeFg (i := 12) hA 107 rfl rfl (by decide) rfl rfl rfl (by kernel_rfl) (by kernel_rfl) (by kernel_rfl) (fun _ _ _ h => h) hS (fun wx hwx => R_mov hA rfl rfl _) (fun a hA => ?_)
      refine takeFg (i := 13) hA 108 rfl rfl (by decide) rfl rfl rfl (by kernel_rfl) (by kernel_rfl) (by kernel_rfl) (fun _ _ _ h => h) hS (fun wx hwx => R_and hA rfl rfl rfl _) (fun a hA => ?_)
      refine takeFg (i := 14) hA 109 rfl rfl (by decide) rfl rfl rfl (by kernel_rfl) (by kernel_rfl) (by kernel_rfl) (fun _ _ _ h => h) hS (fun wx hwx => R_row hA rfl rfl (B3.below hwx) Try.underlying25 (by kernel_rfl)) (fun a hA => ?_)
      refine wpAnyH_ready (rs := [11]) (by kernel_rfl) (by simp) (ready_gcall (i := 11) hA (by decide) rfl rfl rfl (fun _ _ => by kernel_rfl) (args2 hA rfl rfl) (full_any x s hx sk _) (fun _ h => hS.trans (h.mono hS.size)) (fun w174 hw a hA => ?_) AllReadyH.nil)
      replace hS := hS.trans (hw.mono hS.size)
      clear hw
      refine wpAnyH_ready (rs := [15]) (by kernel_rfl) (by simp) (ready_gcall (i := 15) hA (by decide) rfl rfl rfl (fun _ _ => by kernel_rfl) (args2 hA rfl rfl) (full_any _ s (bz_inA _ _) sk _) (fun _ h => hS.trans (h.mono hS.size)) (fun w175 hw a hA => ?_) AllReadyH.nil)
      replace hS := hS.trans (hw.mono hS.size)
      clear hw
      refine takeFg (i := 16) hA 111 rfl rfl (by decide) rfl rfl rfl (by kernel_rfl) (by kernel_rfl) (by kernel_rfl) (fun _ _ _ h => h) hS (fun wx hwx => R_eqlBT hA rfl rfl rfl true (by rw [full_low]; simp) _) (fun a hA => ?_)
      refine takeF (i := 17) hA 112 rfl rfl (by decide) rfl (by kernel_rfl) (by kernel_rfl) (by kernel_rfl) (fun _ _ _ h => h) hS (fun wx hwx => R_pick hA rfl rfl rfl _) (fun a hA => ?_)
      refine takeF (i := 18) hA 4 rfl rfl (by decide) rfl (by kernel_rfl) (by kernel_rfl) (by kernel_rfl) (fun _ _ _ h => h) hS (fun wx hwx => R_asg hA rfl rfl _) (fun a hA => ?_)
      refine wpAnyH_done (by kernel_rfl) ?_ _
      replace B3 := B3.below hS
      replace B5 := B5.below hS
      replace HB := HB.trans (hS.mono HB.size)
      clear hS
      refine then_nrm ?_
      show Code.wp Try.prog _ _ _ _
      refine wp_ret ?_
      exact ret_tmp (j := 4) (by kernel_rfl) hA (by decide) rfl ⟨rfl, HB⟩
    refine W_gskip hA rfl rfl rfl 70 rfl (by decide) (fun a hA => ?_)
    refine W_gskip hA rfl rfl rfl 71 rfl (by decide) (fun a hA => ?_)
    refine W_gskip hA rfl rfl rfl 72 rfl (by decide) (fun a hA => ?_)
    refine W_val hA rfl 73 rfl (by decide) _ _ (R_pick hA rfl rfl rfl _) (fun a hA => ?_)
    refine W_val hA rfl 74 rfl (by decide) _ _ (R_mov hA rfl rfl _) (fun a hA => ?_)
    refine W_gskip hA rfl rfl rfl 75 rfl (by decide) (fun a hA => ?_)
    refine W_val hA rfl 76 rfl (by decide) _ _ (R_pick hA rfl rfl rfl _) (fun a hA => ?_)
    refine W_nil ?_
    refine then_nrm ?_
    show Code.wp Try.prog _ _ _ _
    refine wp_cond_false (hA.ev (x := .tmp 76) rfl) ?_
    refine wp_skip ?_
    refine then_nrm ?_
    show Code.wp Try.prog _ _ _ _
    refine wp_seq ?_
    refine wp_region_held_drew (S := fun wx => Below w156.heap.size w156 wx) (by kernel_rfl) ((Below.refl _ _).drew) (fun hS => ?_)
    refine takeF (i := 0) hA 95 rfl rfl (by decide) rfl (by kernel_rfl) (by kernel_rfl) (by kernel_rfl) (fun _ _ _ h => h) hS (fun wx hwx => R_mov hA rfl rfl _) (fun a hA => ?_)
    refine takeF (i := 1) hA 96 rfl rfl (by decide) rfl (by kernel_rfl) (by kernel_rfl) (by kernel_rfl) (fun _ _ _ h => h) hS (fun wx hwx => R_row hA rfl rfl (B3.below hwx) Try.underlying25 (by kernel_rfl)) (fun a hA => ?_)
    refine takeF (i := 3) hA 98 rfl rfl (by decide) rfl (by kernel_rfl) (by kernel_rfl) (by kernel_rfl) (fun _ _ _ h => h) hS (fun wx hwx => R_mov hA rfl rfl _) (fun a hA => ?_)
    refine takeF (i := 4) hA 99 rfl rfl (by decide) rfl (by kernel_rfl) (by kernel_rfl) (by kernel_rfl) (fun _ _ _ h => h) hS (fun wx hwx => R_and hA rfl rfl rfl _) (fun a hA => ?_)
    refine takeF (i := 5) hA 100 rfl rfl (by decide) rfl (by kernel_rfl) (by kernel_rfl) (by kernel_rfl) (fun _ _ _ h => h) hS (fun wx hwx => R_row hA rfl rfl (B3.below hwx) Try.underlying25 (by kernel_rfl)) (fun a hA => ?_)
    refine wpAnyH_ready (rs := [2]) (by kernel_rfl) (by simp) (ready_call (i := 2) hA (by decide) rfl (fun _ _ => by kernel_rfl) (args2 hA rfl rfl) (allow_any x s hx sk _) (fun _ h => hS.trans (h.mono hS.size)) (fun w176 hw a hA => ?_) AllReadyH.nil)
    replace hS := hS.trans (hw.mono hS.size)
    clear hw
    refine wpAnyH_ready (rs := [6]) (by kernel_rfl) (by simp) (ready_call (i := 6) hA (by decide) rfl (fun _ _ => by kernel_rfl) (args2 hA rfl rfl) (allow_any _ s (bz_inA _ _) sk _) (fun _ h => hS.trans (h.mono hS.size)) (fun w177 hw a hA => ?_) AllReadyH.nil)
    replace hS := hS.trans (hw.mono hS.size)
    clear hw
    refine takeF (i := 7) hA 102 rfl rfl (by decide) rfl (by kernel_rfl) (by kernel_rfl) (by kernel_rfl) (fun _ _ _ h => h) hS (fun wx hwx => R_eqlBT hA rfl rfl rfl true (by rw [allow_low]; simp) _) (fun a hA => ?_)
    refine takeF (i := 8) hA 103 rfl rfl (by decide) rfl (by kernel_rfl) (by kernel_rfl) (by kernel_rfl) (fun _ _ _ h => h) hS (fun wx hwx => R_mov hA rfl rfl _) (fun a hA => ?_)
    refine takeFg (i := 9) hA 104 rfl rfl (by decide) rfl rfl rfl (by kernel_rfl) (by kernel_rfl) (by kernel_rfl) (fun _ _ _ h => h) hS (fun wx hwx => R_mov hA rfl rfl _) (fun a hA => ?_)
    refine takeFg (i := 10) hA 105 rfl rfl (by decide) rfl rfl rfl (by kernel_rfl) (by kernel_rfl) (by kernel_rfl) (fun _ _ _ h => h) hS (fun wx hwx => R_row hA rfl rfl (B3.below hwx) Try.underlying25 (by kernel_rfl)) (fun a hA => ?_)
    refine takeFg (i := 12) hA 107 rfl rfl (by decide) rfl rfl rfl (by kernel_rfl) (by kernel_rfl) (by kernel_rfl) (fun _ _ _ h => h) hS (fun wx hwx => R_mov hA rfl rfl _) (fun a hA => ?_)
    refine takeFg (i := 13) hA 108 rfl rfl (by decide) rfl rfl rfl (by kernel_rfl) (by kernel_rfl) (by kernel_rfl) (fun _ _ _ h => h) hS (fun wx hwx => R_and hA rfl rfl rfl _) (fun a hA => ?_)
    refine takeFg (i := 14) hA 109 rfl rfl (by decide) rfl rfl rfl (by kernel_rfl) (by kernel_rfl) (by kernel_rfl) (fun _ _ _ h => h) hS (fun wx hwx => R_row hA rfl rfl (B3.below hwx) Try.underlying25 (by kernel_rfl)) (fun a hA => ?_)
    refine wpAnyH_ready (rs := [11]) (by kernel_rfl) (by simp) (ready_gcall (i := 11) hA (by decide) rfl rfl rfl (fun _ _ => by kernel_rfl) (args2 hA rfl rfl) (full_any x s hx sk _) (fun _ h => hS.trans (h.mono hS.size)) (fun w178 hw a hA => ?_) AllReadyH.nil)
    replace hS := hS.trans (hw.mono hS.size)
    clear hw
    refine wpAnyH_ready (rs := [15]) (by kernel_rfl) (by simp) (ready_gcall (i := 15) hA (by decide) rfl rfl rfl (fun _ _ => by kernel_rfl) (args2 hA rfl rfl) (full_any _ s (bz_inA _ _) sk _) (fun _ h => hS.trans (h.mono hS.size)) (fun w179 hw a hA => ?_) AllReadyH.nil)
    replace hS := hS.trans (hw.mono hS.size)
    clear hw
    refine takeFg (i := 16) hA 111 rfl rfl (by decide) rfl rfl rfl (by kernel_rfl) (by kernel_rfl) (by kernel_rfl) (fun _ _ _ h => h) hS (fun wx hwx => R_eqlBT hA rfl rfl rfl true (by rw [full_low]; simp) _) (fun a hA => ?_)
    refine takeF (i := 17) hA 112 rfl rfl (by decide) rfl (by kernel_rfl) (by kernel_rfl) (by kernel_rfl) (fun _ _ _ h => h) hS (fun wx hwx => R_pick hA rfl rfl rfl _) (fun a hA => ?_)
    refine takeF (i := 18) hA 4 rfl rfl (by decide) rfl (by kernel_rfl) (by kernel_rfl) (by kernel_rfl) (fun _ _ _ h => h) hS (fun wx hwx => R_asg hA rfl rfl _) (fun a hA => ?_)
    refine wpAnyH_done (by kernel_rfl) ?_ _
    replace B3 := B3.below hS
    replace B5 := B5.below hS
    replace HB := HB.trans (hS.mono HB.size)
    clear hS
    refine then_nrm ?_
    show Code.wp Try.prog _ _ _ _
    refine wp_ret ?_
    exact ret_tmp (j := 4) (by kernel_rfl) hA (by decide) rfl ⟨rfl, HB⟩
  refine W_gskip hA rfl rfl rfl 66 rfl (by decide) (fun a hA => ?_)
  refine W_gskip hA rfl rfl rfl 67 rfl (by decide) (fun a hA => ?_)
  refine W_val hA rfl 68 rfl (by decide) _ _ (R_pick hA rfl rfl rfl _) (fun a hA => ?_)
  refine W_val hA rfl 69 rfl (by decide) _ _ (R_mov hA rfl rfl _) (fun a hA => ?_)
  refine W_gskip hA rfl rfl rfl 70 rfl (by decide) (fun a hA => ?_)
  refine W_gskip hA rfl rfl rfl 71 rfl (by decide) (fun a hA => ?_)
  refine W_gskip hA rfl rfl rfl 72 rfl (by decide) (fun a hA => ?_)
  refine W_val hA rfl 73 rfl (by decide) _ _ (R_pick hA rfl rfl rfl _) (fun a hA => ?_)
  refine W_val hA rfl 74 rfl (by decide) _ _ (R_mov hA rfl rfl _) (fun a hA => ?_)
  refine W_gskip hA rfl rfl rfl 75 rfl (by decide) (fun a hA => ?_)
  refine W_val hA rfl 76 rfl (by decide) _ _ (R_pick hA rfl rfl rfl _) (fun a hA => ?_)
  refine W_nil ?_
  refine then_nrm ?_
  show Code.wp Try.prog _ _ _ _
  refine wp_cond_false (hA.ev (x := .tmp 76) rfl) ?_
  refine wp_skip ?_
  refine then_nrm ?_
  show Code.wp Try.prog _ _ _ _
  refine wp_seq ?_
  refine wp_region_held_drew (S := fun wx => Below w155.heap.size w155 wx) (by kernel_rfl) ((Below.refl _ _).drew) (fun hS => ?_)
  refine takeF (i := 0) hA 95 rfl rfl (by decide) rfl (by kernel_rfl) (by kernel_rfl) (by kernel_rfl) (fun _ _ _ h => h) hS (fun wx hwx => R_mov hA rfl rfl _) (fun a hA => ?_)
  refine takeF (i := 1) hA 96 rfl rfl (by decide) rfl (by kernel_rfl) (by kernel_rfl) (by kernel_rfl) (fun _ _ _ h => h) hS (fun wx hwx => R_row hA rfl rfl (B3.below hwx) Try.underlying25 (by kernel_rfl)) (fun a hA => ?_)
  refine takeF (i := 3) hA 98 rfl rfl (by decide) rfl (by kernel_rfl) (by kernel_rfl) (by kernel_rfl) (fun _ _ _ h => h) hS (fun wx hwx => R_mov hA rfl rfl _) (fun a hA => ?_)
  refine takeF (i := 4) hA 99 rfl rfl (by decide) rfl (by kernel_rfl) (by kernel_rfl) (by kernel_rfl) (fun _ _ _ h => h) hS (fun wx hwx => R_and hA rfl rfl rfl _) (fun a hA => ?_)
  refine takeF (i := 5) hA 100 rfl rfl (by decide) rfl (by kernel_rfl) (by kernel_rfl) (by kernel_rfl) (fun _ _ _ h => h) hS (fun wx hwx => R_row hA rfl rfl (B3.below hwx) Try.underlying25 (by kernel_rfl)) (fun a hA => ?_)
  refine wpAnyH_ready (rs := [2]) (by kernel_rfl) (by simp) (ready_call (i := 2) hA (by decide) rfl (fun _ _ => by kernel_rfl) (args2 hA rfl rfl) (allow_any x s hx sk _) (fun _ h => hS.trans (h.mono hS.size)) (fun w180 hw a hA => ?_) AllReadyH.nil)
  replace hS := hS.trans (hw.mono hS.size)
  clear hw
  refine wpAnyH_ready (rs := [6]) (by kernel_rfl) (by simp) (ready_call (i := 6) hA (by decide) rfl (fun _ _ => by kernel_rfl) (args2 hA rfl rfl) (allow_any _ s (bz_inA _ _) sk _) (fun _ h => hS.trans (h.mono hS.size)) (fun w181 hw a hA => ?_) AllReadyH.nil)
  replace hS := hS.trans (hw.mono hS.size)
  clear hw
  refine takeF (i := 7) hA 102 rfl rfl (by decide) rfl (by kernel_rfl) (by kernel_rfl) (by kernel_rfl) (fun _ _ _ h => h) hS (fun wx hwx => R_eqlBT hA rfl rfl rfl true (by rw [allow_low]; simp) _) (fun a hA => ?_)
  refine takeF (i := 8) hA 103 rfl rfl (by decide) rfl (by kernel_rfl) (by kernel_rfl) (by kernel_rfl) (fun _ _ _ h => h) hS (fun wx hwx => R_mov hA rfl rfl _) (fun a hA => ?_)
  refine takeFg (i := 9) hA 104 rfl rfl (by decide) rfl rfl rfl (by kernel_rfl) (by kernel_rfl) (by kernel_rfl) (fun _ _ _ h => h) hS (fun wx hwx => R_mov hA rfl rfl _) (fun a hA => ?_)
  refine takeFg (i := 10) hA 105 rfl rfl (by decide) rfl rfl rfl (by kernel_rfl) (by kernel_rfl) (by kernel_rfl) (fun _ _ _ h => h) hS (fun wx hwx => R_row hA rfl rfl (B3.below hwx) Try.underlying25 (by kernel_rfl)) (fun a hA => ?_)
  refine takeFg (i := 12) hA 107 rfl rfl (by decide) rfl rfl rfl (by kernel_rfl) (by kernel_rfl) (by kernel_rfl) (fun _ _ _ h => h) hS (fun wx hwx => R_mov hA rfl rfl _) (fun a hA => ?_)
  refine takeFg (i := 13) hA 108 rfl rfl (by decide) rfl rfl rfl (by kernel_rfl) (by kernel_rfl) (by kernel_rfl) (fun _ _ _ h => h) hS (fun wx hwx => R_and hA rfl rfl rfl _) (fun a hA => ?_)
  refine takeFg (i := 14) hA 109 rfl rfl (by decide) rfl rfl rfl (by kernel_rfl) (by kernel_rfl) (by kernel_rfl) (fun _ _ _ h => h) hS (fun wx hwx => R_row hA rfl rfl (B3.below hwx) Try.underlying25 (by kernel_rfl)) (fun a hA => ?_)
  refine wpAnyH_ready (rs := [11]) (by kernel_rfl) (by simp) (ready_gcall (i := 11) hA (by decide) rfl rfl rfl (fun _ _ => by kernel_rfl) (args2 hA rfl rfl) (full_any x s hx sk _) (fun _ h => hS.trans (h.mono hS.size)) (fun w182 hw a hA => ?_) AllReadyH.nil)
  replace hS := hS.trans (hw.mono hS.size)
  clear hw
  refine wpAnyH_ready (rs := [15]) (by kernel_rfl) (by simp) (ready_gcall (i := 15) hA (by decide) rfl rfl rfl (fun _ _ => by kernel_rfl) (args2 hA rfl rfl) (full_any _ s (bz_inA _ _) sk _) (fun _ h => hS.trans (h.mono hS.size)) (fun w183 hw a hA => ?_) AllReadyH.nil)
  replace hS := hS.trans (hw.mono hS.size)
  clear hw
  refine takeFg (i := 16) hA 111 rfl rfl (by decide) rfl rfl rfl (by kernel_rfl) (by kernel_rfl) (by kernel_rfl) (fun _ _ _ h => h) hS (fun wx hwx => R_eqlBT hA rfl rfl rfl true (by rw [full_low]; simp) _) (fun a hA => ?_)
  refine takeF (i := 17) hA 112 rfl rfl (by decide) rfl (by kernel_rfl) (by kernel_rfl) (by kernel_rfl) (fun _ _ _ h => h) hS (fun wx hwx => R_pick hA rfl rfl rfl _) (fun a hA => ?_)
  refine takeF (i := 18) hA 4 rfl rfl (by decide) rfl (by kernel_rfl) (by kernel_rfl) (by kernel_rfl) (fun _ _ _ h => h) hS (fun wx hwx => R_asg hA rfl rfl _) (fun a hA => ?_)
  refine wpAnyH_done (by kernel_rfl) ?_ _
  replace B3 := B3.below hS
  replace B5 := B5.below hS
  replace HB := HB.trans (hS.mono HB.size)
  clear hS
  refine then_nrm ?_
  show Code.wp Try.prog _ _ _ _
  refine wp_ret ?_
  exact ret_tmp (j := 4) (by kernel_rfl) hA (by decide) rfl ⟨rfl, HB⟩
theorem pteMarks_walk (x : Int) (s : WS) (w : World) (hx : In64 x) (sk : WOk s) : Calls Try.prog 7 #[.int .u64 x, wantV s] w fun e w' => e = .returned (.bool true) ∧ Below w.heap.size w w' := by
  cases h : allowB x s
  · exact pteMarks_f x s w hx sk h
  · exact pteMarks_t x s w hx sk h
end Go.Proofs.YtflaadnlmcgfoaaR
