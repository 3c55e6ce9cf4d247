/- Layer 12: the document's Fix (written by gen_csk.py by walkf.py). -/
import Derived.Test.YtiblfdgmleckiaaCsKa
namespace Go.Proofs.Ytiblfdgmleckiaa
open Go.RowKit
set_option linter.unusedVariables false
set_option maxRecDepth 100000

set_option maxHeartbeats 8000000 in
theorem dfix_any (t : HS) (ok : HOk t) (w : World) : Calls Try.prog 21 #[hartV t] w fun e w' => e = .returned (hartV (fixZ t)) ∧ Below w.heap.size w w' := by
  have HB := Below.refl w.heap.size w
  go_enter Try.func21, Try.ntmps21
  refine begin_fr [(0, hartV t)] 144 ?_ (fun a hA => ?_)
  · exact FrA.add (FrA.nil (by rfl) (by rfl)) 0 _ (by rfl)
  refine wp_seq ?_
  refine wp_region_list ?_
  refine W_boxH hA rfl 1 rfl (by decide) rfl rfl (fun w1 bHH a hA hb HH gHH => ?_)
  replace gHH := Nat.le_trans HB.size gHH
  replace HB := HB.trans (hb.mono HB.size)
  clear hb
  refine W_allocH hA rfl 2 rfl (by decide) rfl (fun w2 bRR a hA hb RR gRR => ?_)
  have nHHRR : bHH < bRR := by have := HH.lt; omega
  replace HH := HH.below hb
  replace gRR := Nat.le_trans HB.size gRR
  replace HB := HB.trans (hb.mono HB.size)
  clear hb
  refine W_nil ?_
  refine then_nrm ?_
  show Code.wp Try.prog _ _ _ _
  refine wp_seq ?_
  refine wp_region_list ?_
  refine W_val hA rfl 3 rfl (by decide) _ _ (R_fa hA rfl rfl (fun w => fa_hart _ 7 38 (by decide) rfl w) _) (fun a hA => ?_)
  refine W_val hA rfl 4 rfl (by decide) _ _ (R_ld hA rfl rfl ag_u64 (show _ = some (Value.int .u64 (t.n 38)) from HH.u 38 (by decide) (by decide))) (fun a hA => ?_)
  refine W_val hA rfl 5 rfl (by decide) _ _ (R_and hA rfl rfl rfl _) (fun a hA => ?_)
  refine W_val hA rfl 6 rfl (by decide) _ _ (R_or hA rfl rfl rfl _) (fun a hA => ?_)
  refine W_val hA rfl 7 rfl (by decide) _ _ (R_fa hA rfl rfl (fun w => fa_hart _ 7 38 (by decide) rfl w) _) (fun a hA => ?_)
  refine W_stUx hA rfl rfl rfl rfl rfl HH (by decide) (by decide) (fun w3 x38_1 hx38_1 hT HN => ?_)
  replace HB := HB.trans (hT.bel _ gHH)
  replace RR := hT.hart RR (by omega)
  replace HH := HN
  clear hT HN
  refine W_nil ?_
  refine then_nrm ?_
  show Code.wp Try.prog _ _ _ _
  refine wp_seq ?_
  refine wp_seq ?_
  refine wp_region_list ?_
  refine W_val hA rfl 8 rfl (by decide) _ _ (R_fa hA rfl rfl (fun w => fa_hart _ 7 38 (by decide) rfl w) _) (fun a hA => ?_)
  refine W_val hA rfl 9 rfl (by decide) _ _ (R_ld hA rfl rfl ag_u64 (show _ = some (Value.int .u64 (x38_1)) from HH.u 38 (by decide) (by decide))) (fun a hA => ?_)
  refine W_call2 hA (by decide) (fun _ _ => by kernel_rfl) rfl rfl (dbit_at _ 12 (by omega) _ rfl (by first | exact or_in _ _ | (rw [hx38_1]; exact or_in _ _)) _) (fun w4 hw a hA => ?_)
  subst hw
  refine W_val hA rfl 11 rfl (by decide) _ _ (R_mov hA rfl rfl _) (fun a hA => ?_)
  refine W_split hA 11 rfl (fun c1 hA => ?_) (fun c1 hA => ?_)
  · skip
    refine W_gval hA rfl rfl rfl 12 rfl (by decide) _ _ (R_fa hA rfl rfl (fun w => fa_hart _ 7 38 (by decide) rfl w) _) (fun a hA => ?_)
    refine W_gval hA rfl rfl rfl 13 rfl (by decide) _ _ (R_ld hA rfl rfl ag_u64 (show _ = some (Value.int .u64 (x38_1)) from HH.u 38 (by decide) (by decide))) (fun a hA => ?_)
    refine W_gcall hA rfl rfl (by decide) (fun _ _ => by kernel_rfl) (args2 hA rfl rfl) (dbit_at _ 11 (by omega) _ rfl (by first | exact or_in _ _ | (rw [hx38_1]; exact or_in _ _)) _) (fun w5 hw a hA => ?_)
    subst hw
    refine W_gval hA rfl rfl rfl 15 rfl (by decide) _ _ (R_not hA rfl rfl _) (fun a hA => ?_)
    refine W_val hA rfl 16 rfl (by decide) _ _ (R_pick hA rfl rfl rfl _) (fun a hA => ?_)
    refine W_nil ?_
    refine then_nrm ?_
    show Code.wp Try.prog _ _ _ _
    refine wp_cond_split (hA.ev (x := .tmp 16) rfl) (fun c2 => ?_) (fun c2 => ?_)
    · skip
      refine wp_region_list ?_
      refine W_val hA rfl 17 rfl (by decide) _ _ (R_fa hA rfl rfl (fun w => fa_hart _ 7 38 (by decide) rfl w) _) (fun a hA => ?_)
      refine W_val hA rfl 18 rfl (by decide) _ _ (R_ld hA rfl rfl ag_u64 (show _ = some (Value.int .u64 (x38_1)) from HH.u 38 (by decide) (by decide))) (fun a hA => ?_)
      refine W_val hA rfl 19 rfl (by decide) _ _ (R_andNot hA rfl rfl rfl _) (fun a hA => ?_)
      refine W_val hA rfl 20 rfl (by decide) _ _ (R_fa hA rfl rfl (fun w => fa_hart _ 7 38 (by decide) rfl w) _) (fun a hA => ?_)
      refine W_stUx hA rfl rfl rfl rfl rfl HH (by decide) (by decide) (fun w6 x38_2 hx38_2 hT HN => ?_)
      replace HB := HB.trans (hT.bel _ gHH)
      replace RR := hT.hart RR (by omega)
      replace HH := HN
      clear hT HN
      refine W_nil ?_
      refine then_nrm ?_
      show Code.wp Try.prog _ _ _ _
      refine wp_seq ?_
      refine wp_region_list ?_
      refine W_val hA rfl 21 rfl (by decide) _ _ (R_fa hA rfl rfl (fun w => fa_hart _ 8 39 (by decide) rfl w) _) (fun a hA => ?_)
      refine W_val hA rfl 22 rfl (by decide) _ _ (R_ld hA rfl rfl ag_u64 (show _ = some (Value.int .u64 (t.n 39)) from HH.u 39 (by decide) (by decide))) (fun a hA => ?_)
      refine W_val hA rfl 23 rfl (by decide) _ _ (R_and hA rfl rfl rfl _) (fun a hA => ?_)
      refine W_val hA rfl 24 rfl (by decide) _ _ (R_fa hA rfl rfl (fun w => fa_hart _ 8 39 (by decide) rfl w) _) (fun a hA => ?_)
      refine W_stUx hA rfl rfl rfl rfl rfl HH (by decide) (by decide) (fun w7 x39_3 hx39_3 hT HN => ?_)
      replace HB := HB.trans (hT.bel _ gHH)
      replace RR := hT.hart RR (by omega)
      replace HH := HN
      clear hT HN
      refine W_nil ?_
      refine then_nrm ?_
      show Code.wp Try.prog _ _ _ _
      refine wp_seq ?_
      refine wp_region_list ?_
      refine W_val hA rfl 25 rfl (by decide) _ _ (R_fa hA rfl rfl (fun w => fa_hart _ 9 40 (by decide) rfl w) _) (fun a hA => ?_)
      refine W_val hA rfl 26 rfl (by decide) _ _ (R_ld hA rfl rfl ag_u64 (show _ = some (Value.int .u64 (t.n 40)) from HH.u 40 (by decide) (by decide))) (fun a hA => ?_)
      refine W_val hA rfl 27 rfl (by decide) _ _ (R_and hA rfl rfl rfl _) (fun a hA => ?_)
      refine W_val hA rfl 28 rfl (by decide) _ _ (R_or hA rfl rfl rfl _) (fun a hA => ?_)
      refine W_val hA rfl 29 rfl (by decide) _ _ (R_fa hA rfl rfl (fun w => fa_hart _ 9 40 (by decide) rfl w) _) (fun a hA => ?_)
      refine W_stUx hA rfl rfl rfl rfl rfl HH (by decide) (by decide) (fun w8 x40_4 hx40_4 hT HN => ?_)
      replace HB := HB.trans (hT.bel _ gHH)
      replace RR := hT.hart RR (by omega)
      replace HH := HN
      clear hT HN
      refine W_nil ?_
      refine then_nrm ?_
      show Code.wp Try.prog _ _ _ _
      refine wp_seq ?_
      refine wp_region_list ?_
      refine W_val hA rfl 30 rfl (by decide) _ _ (R_fa hA rfl rfl (fun w => fa_hart _ 10 41 (by decide) rfl w) _) (fun a hA => ?_)
      refine W_val hA rfl 31 rfl (by decide) _ _ (R_ld hA rfl rfl ag_u64 (show _ = some (Value.int .u64 (t.n 41)) from HH.u 41 (by decide) (by decide))) (fun a hA => ?_)
      refine W_val hA rfl 32 rfl (by decide) _ _ (R_and hA rfl rfl rfl _) (fun a hA => ?_)
      refine W_val hA rfl 33 rfl (by decide) _ _ (R_fa hA rfl rfl (fun w => fa_hart _ 10 41 (by decide) rfl w) _) (fun a hA => ?_)
      refine W_stUx hA rfl rfl rfl rfl rfl HH (by decide) (by decide) (fun w9 x41_5 hx41_5 hT HN => ?_)
      replace HB := HB.trans (hT.bel _ gHH)
      replace RR := hT.hart RR (by omega)
      replace HH := HN
      clear hT HN
      refine W_nil ?_
      refine then_nrm ?_
      show Code.wp Try.prog _ _ _ _
      refine wp_seq ?_
      refine wp_region_list ?_
      refine W_val hA rfl 34 rfl (by decide) _ _ (R_fa hA rfl rfl (fun w => fa_hart _ 11 42 (by decide) rfl w) _) (fun a hA => ?_)
      refine W_val hA rfl 35 rfl (by decide) _ _ (R_ld hA rfl rfl ag_u64 (show _ = some (Value.int .u64 (t.n 42)) from HH.u 42 (by decide) (by decide))) (fun a hA => ?_)
      refine W_val hA rfl 36 rfl (by decide) _ _ (R_and hA rfl rfl rfl _) (fun a hA => ?_)
      refine W_val hA rfl 37 rfl (by decide) _ _ (R_fa hA rfl rfl (fun w => fa_hart _ 11 42 (by decide) rfl w) _) (fun a hA => ?_)
      refine W_stUx hA rfl rfl rfl rfl rfl HH (by decide) (by decide) (fun w10 x42_6 hx42_6 hT HN => ?_)
      replace HB := HB.trans (hT.bel _ gHH)
      replace RR := hT.hart RR (by omega)
      replace HH := HN
      clear hT HN
      refine W_nil ?_
      refine then_nrm ?_
      show Code.wp Try.prog _ _ _ _
      refine wp_seq ?_
      refine wp_region_list ?_
      refine W_val hA rfl 38 rfl (by decide) _ _ (R_fa hA rfl rfl (fun w => fa_hart _ 12 43 (by decide) rfl w) _) (fun a hA => ?_)
      refine W_val hA rfl 39 rfl (by decide) _ _ (R_ld hA rfl rfl ag_u64 (show _ = some (Value.int .u64 (t.n 43)) from HH.u 43 (by decide) (by decide))) (fun a hA => ?_)
      refine W_val hA rfl 40 rfl (by decide) _ _ (R_andNot hA rfl rfl rfl _) (fun a hA => ?_)
      refine W_val hA rfl 41 rfl (by decide) _ _ (R_fa hA rfl rfl (fun w => fa_hart _ 12 43 (by decide) rfl w) _) (fun a hA => ?_)
      refine W_stUx hA rfl rfl rfl rfl rfl HH (by decide) (by decide) (fun w11 x43_7 hx43_7 hT HN => ?_)
      replace HB := HB.trans (hT.bel _ gHH)
      replace RR := hT.hart RR (by omega)
      replace HH := HN
      clear hT HN
      refine W_nil ?_
      refine then_nrm ?_
      show Code.wp Try.prog _ _ _ _
      refine wp_seq ?_
      refine wp_region_list ?_
      refine W_val hA rfl 42 rfl (by decide) _ _ (R_fa hA rfl rfl (fun w => fa_hart _ 13 44 (by decide) rfl w) _) (fun a hA => ?_)
      refine W_val hA rfl 43 rfl (by decide) _ _ (R_ld hA rfl rfl ag_u64 (show _ = some (Value.int .u64 (t.n 44)) from HH.u 44 (by decide) (by decide))) (fun a hA => ?_)
      refine W_val hA rfl 44 rfl (by decide) _ _ (R_and hA rfl rfl rfl _) (fun a hA => ?_)
      refine W_val hA rfl 45 rfl (by decide) _ _ (R_fa hA rfl rfl (fun w => fa_hart _ 13 44 (by decide) rfl w) _) (fun a hA => ?_)
      refine W_stUx hA rfl rfl rfl rfl rfl HH (by decide) (by decide) (fun w12 x44_8 hx44_8 hT HN => ?_)
      replace HB := HB.trans (hT.bel _ gHH)
      replace RR := hT.hart RR (by omega)
      replace HH := HN
      clear hT HN
      refine W_nil ?_
      refine then_nrm ?_
      show Code.wp Try.prog _ _ _ _
      refine wp_seq ?_
      refine wp_region_list ?_
      refine W_val hA rfl 46 rfl (by decide) _ _ (R_fa hA rfl rfl (fun w => fa_hart _ 15 46 (by decide) rfl w) _) (fun a hA => ?_)
      refine W_val hA rfl 47 rfl (by decide) _ _ (R_ld hA rfl rfl ag_u64 (show _ = some (Value.int .u64 (t.n 46)) from HH.u 46 (by decide) (by decide))) (fun a hA => ?_)
      refine W_val hA rfl 48 rfl (by decide) _ _ (R_andNot hA rfl rfl rfl _) (fun a hA => ?_)
      refine W_val hA rfl 49 rfl (by decide) _ _ (R_fa hA rfl rfl (fun w => fa_hart _ 15 46 (by decide) rfl w) _) (fun a hA => ?_)
      refine W_stUx hA rfl rfl rfl rfl rfl HH (by decide) (by decide) (fun w13 x46_9 hx46_9 hT HN => ?_)
      replace HB := HB.trans (hT.bel _ gHH)
      replace RR := hT.hart RR (by omega)
      replace HH := HN
      clear hT HN
      refine W_nil ?_
      refine then_nrm ?_
      show Code.wp Try.prog _ _ _ _
      refine wp_seq ?_
      refine wp_region_list ?_
      refine W_val hA rfl 50 rfl (by decide) _ _ (R_fa hA rfl rfl (fun w => fa_hart _ 20 51 (by decide) rfl w) _) (fun a hA => ?_)
      refine W_val hA rfl 51 rfl (by decide) _ _ (R_ld hA rfl rfl ag_u64 (show _ = some (Value.int .u64 (t.n 51)) from HH.u 51 (by decide) (by decide))) (fun a hA => ?_)
      refine W_val hA rfl 52 rfl (by decide) _ _ (R_andNot hA rfl rfl rfl _) (fun a hA => ?_)
      refine W_val hA rfl 53 rfl (by decide) _ _ (R_fa hA rfl rfl (fun w => fa_hart _ 20 51 (by decide) rfl w) _) (fun a hA => ?_)
      refine W_stUx hA rfl rfl rfl rfl rfl HH (by decide) (by decide) (fun w14 x51_10 hx51_10 hT HN => ?_)
      replace HB := HB.trans (hT.bel _ gHH)
      replace RR := hT.hart RR (by omega)
      replace HH := HN
      clear hT HN
      refine W_nil ?_
      refine then_nrm ?_
      show Code.wp Try.prog _ _ _ _
      refine wp_seq ?_
      refine wp_region_list ?_
      refine W_val hA rfl 54 rfl (by decide) _ _ (R_fa hA rfl rfl (fun w => fa_hart _ 21 52 (by decide) rfl w) _) (fun a hA => ?_)
      refine W_val hA rfl 55 rfl (by decide) _ _ (R_ld hA rfl rfl ag_u64 (show _ = some (Value.int .u64 (t.n 52)) from HH.u 52 (by decide) (by decide))) (fun a hA => ?_)
      refine W_val hA rfl 56 rfl (by decide) _ _ (R_and hA rfl rfl rfl _) (fun a hA => ?_)
      refine W_val hA rfl 57 rfl (by decide) _ _ (R_fa hA rfl rfl (fun w => fa_hart _ 21 52 (by decide) rfl w) _) (fun a hA => ?_)
      refine W_stUx hA rfl rfl rfl rfl rfl HH (by decide) (by decide) (fun w15 x52_11 hx52_11 hT HN => ?_)
      replace HB := HB.trans (hT.bel _ gHH)
      replace RR := hT.hart RR (by omega)
      replace HH := HN
      clear hT HN
      refine W_nil ?_
      refine then_nrm ?_
      show Code.wp Try.prog _ _ _ _
      refine wp_seq ?_
      refine wp_region_list ?_
      refine W_val hA rfl 58 rfl (by decide) _ _ (R_fa hA rfl rfl (fun w => fa_hart _ 23 54 (by decide) rfl w) _) (fun a hA => ?_)
      refine W_val hA rfl 59 rfl (by decide) _ _ (R_ld hA rfl rfl ag_u64 (show _ = some (Value.int .u64 (t.n 54)) from HH.u 54 (by decide) (by decide))) (fun a hA => ?_)
      refine W_val hA rfl 60 rfl (by decide) _ _ (R_andNot hA rfl rfl rfl _) (fun a hA => ?_)
      refine W_val hA rfl 61 rfl (by decide) _ _ (R_fa hA rfl rfl (fun w => fa_hart _ 23 54 (by decide) rfl w) _) (fun a hA => ?_)
      refine W_stUx hA rfl rfl rfl rfl rfl HH (by decide) (by decide) (fun w16 x54_12 hx54_12 hT HN => ?_)
      replace HB := HB.trans (hT.bel _ gHH)
      replace RR := hT.hart RR (by omega)
      replace HH := HN
      clear hT HN
      refine W_nil ?_
      refine then_nrm ?_
      show Code.wp Try.prog _ _ _ _
      refine wp_seq ?_
      refine still_tail 5 (by kernel_rfl) (fun w4 hw => ?_)
      replace HB := HB.trans (hw.mono HB.size)
      replace HH := HH.below hw
      replace RR := RR.below hw
      clear hw
      refine S_val hA rfl 62 rfl (by decide) _ (R_fa hA rfl rfl (fun w => fa_hart _ 26 57 (by decide) rfl w) _) (fun a hA => ?_)
      refine S_val hA rfl 63 rfl (by decide) _ (R_ld hA rfl rfl ag_u64 (show _ = some (Value.int .u64 (t.n 57)) from HH.u 57 (by decide) (by decide))) (fun a hA => ?_)
      refine S_call hA (by decide) (fun _ _ => by kernel_rfl) (args1 hA rfl) (dbut_any _ 18446744073709551615 (by kernel_rfl) _) (fun a hA => ?_)
      refine S_call hA (by decide) (fun _ _ => by kernel_rfl) (args2 hA rfl rfl) (dtable_any _ _ (ok.n _).1 _) (fun a hA => ?_)
      refine S_val hA rfl 66 rfl (by decide) _ (R_fa hA rfl rfl (fun w => fa_hart _ 26 57 (by decide) rfl w) _) (fun a hA => ?_)
      refine still_nil ?_
      refine W_stUx hA rfl rfl rfl rfl rfl HH (by decide) (by decide) (fun w17 x57_13 hx57_13 hT HN => ?_)
      replace HB := HB.trans (hT.bel _ gHH)
      replace RR := hT.hart RR (by omega)
      replace HH := HN
      clear hT HN
      refine W_nil ?_
      refine then_nrm ?_
      show Code.wp Try.prog _ _ _ _
      refine wp_seq ?_
      refine wp_region_list ?_
      refine W_val hA rfl 67 rfl (by decide) _ _ (R_fa hA rfl rfl (fun w => fa_hart _ 27 58 (by decide) rfl w) _) (fun a hA => ?_)
      refine W_val hA rfl 68 rfl (by decide) _ _ (R_ld hA rfl rfl ag_u64 (show _ = some (Value.int .u64 (t.n 58)) from HH.u 58 (by decide) (by decide))) (fun a hA => ?_)
      refine W_val hA rfl 69 rfl (by decide) _ _ (R_and hA rfl rfl rfl _) (fun a hA => ?_)
      refine W_val hA rfl 70 rfl (by decide) _ _ (R_or hA rfl rfl rfl _) (fun a hA => ?_)
      refine W_val hA rfl 71 rfl (by decide) _ _ (R_fa hA rfl rfl (fun w => fa_hart _ 27 58 (by decide) rfl w) _) (fun a hA => ?_)
      refine W_stUx hA rfl rfl rfl rfl rfl HH (by decide) (by decide) (fun w18 x58_14 hx58_14 hT HN => ?_)
      replace HB := HB.trans (hT.bel _ gHH)
      replace RR := hT.hart RR (by omega)
      replace HH := HN
      clear hT HN
      refine W_nil ?_
      refine then_nrm ?_
      show Code.wp Try.prog _ _ _ _
      refine wp_seq ?_
      refine wp_region_list ?_
      refine W_val hA rfl 72 rfl (by decide) _ _ (R_fa hA rfl rfl (fun w => fa_hart _ 28 59 (by decide) rfl w) _) (fun a hA => ?_)
      refine W_val hA rfl 73 rfl (by decide) _ _ (R_ld hA rfl rfl ag_u64 (show _ = some (Value.int .u64 (t.n 59)) from HH.u 59 (by decide) (by decide))) (fun a hA => ?_)
      refine W_val hA rfl 74 rfl (by decide) _ _ (R_and hA rfl rfl rfl _) (fun a hA => ?_)
      refine W_val hA rfl 75 rfl (by decide) _ _ (R_fa hA rfl rfl (fun w => fa_hart _ 28 59 (by decide) rfl w) _) (fun a hA => ?_)
      refine W_stUx hA rfl rfl rfl rfl rfl HH (by decide) (by decide) (fun w19 x59_15 hx59_15 hT HN => ?_)
      replace HB := HB.trans (hT.bel _ gHH)
      replace RR := hT.hart RR (by omega)
      replace HH := HN
      clear hT HN
      refine W_nil ?_
      refine then_nrm ?_
      show Code.wp Try.prog _ _ _ _
      refine wp_seq ?_
      refine wp_region_list ?_
      refine W_val hA rfl 76 rfl (by decide) _ _ (R_fa hA rfl rfl (fun w => fa_hart _ 29 60 (by decide) rfl w) _) (fun a hA => ?_)
      refine W_val hA rfl 77 rfl (by decide) _ _ (R_ld hA rfl rfl ag_u64 (show _ = some (Value.int .u64 (t.n 60)) from HH.u 60 (by decide) (by decide))) (fun a hA => ?_)
      refine W_val hA rfl 78 rfl (by decide) _ _ (R_and hA rfl rfl rfl _) (fun a hA => ?_)
      refine W_val hA rfl 79 rfl (by decide) _ _ (R_fa hA rfl rfl (fun w => fa_hart _ 29 60 (by decide) rfl w) _) (fun a hA => ?_)
      refine W_stUx hA rfl rfl rfl rfl rfl HH (by decide) (by decide) (fun w20 x60_16 hx60_16 hT HN => ?_)
      replace HB := HB.trans (hT.bel _ gHH)
      replace RR := hT.hart RR (by omega)
      replace HH := HN
      clear hT HN
      refine W_nil ?_
      refine then_nrm ?_
      show Code.wp Try.prog _ _ _ _
      refine wp_seq ?_
      refine wp_region_list ?_
      refine W_val hA rfl 80 rfl (by decide) _ _ (R_fa hA rfl rfl (fun w => fa_hart _ 30 61 (by decide) rfl w) _) (fun a hA => ?_)
      refine W_val hA rfl 81 rfl (by decide) _ _ (R_ld hA rfl rfl ag_u64 (show _ = some (Value.int .u64 (t.n 61)) from HH.u 61 (by decide) (by decide))) (fun a hA => ?_)
      refine W_val hA rfl 82 rfl (by decide) _ _ (R_and hA rfl rfl rfl _) (fun a hA => ?_)
      refine W_val hA rfl 83 rfl (by decide) _ _ (R_fa hA rfl rfl (fun w => fa_hart _ 30 61 (by decide) rfl w) _) (fun a hA => ?_)
      refine W_stUx hA rfl rfl rfl rfl rfl HH (by decide) (by decide) (fun w21 x61_17 hx61_17 hT HN => ?_)
      replace HB := HB.trans (hT.bel _ gHH)
      replace RR := hT.hart RR (by omega)
      replace HH := HN
      clear hT HN
      refine W_nil ?_
      refine then_nrm ?_
      show Code.wp Try.prog _ _ _ _
      refine wp_seq ?_
      refine wp_region_list ?_
      refine W_val hA rfl 84 rfl (by decide) _ _ (R_fa hA rfl rfl (fun w => fa_hart _ 31 62 (by decide) rfl w) _) (fun a hA => ?_)
      refine W_val hA rfl 85 rfl (by decide) _ _ (R_ld hA rfl rfl ag_u64 (show _ = some (Value.int .u64 (t.n 62)) from HH.u 62 (by decide) (by decide))) (fun a hA => ?_)
      refine W_val hA rfl 86 rfl (by decide) _ _ (R_and hA rfl rfl rfl _) (fun a hA => ?_)
      refine W_val hA rfl 87 rfl (by decide) _ _ (R_fa hA rfl rfl (fun w => fa_hart _ 31 62 (by decide) rfl w) _) (fun a hA => ?_)
      refine W_stUx hA rfl rfl rfl rfl rfl HH (by decide) (by decide) (fun w22 x62_18 hx62_18 hT HN => ?_)
      replace HB := HB.trans (hT.bel _ gHH)
      replace RR := hT.hart RR (by omega)
      replace HH := HN
      clear hT HN
      refine W_nil ?_
      refine then_nrm ?_
      show Code.wp Try.prog _ _ _ _
      refine wp_seq ?_
      refine wp_region_list ?_
      refine W_val hA rfl 88 rfl (by decide) _ _ (R_fa hA rfl rfl (fun w => fa_hart _ 32 63 (by decide) rfl w) _) (fun a hA => ?_)
      refine W_val hA rfl 89 rfl (by decide) _ _ (R_ld hA rfl rfl ag_u64 (show _ = some (Value.int .u64 (t.n 63)) from HH.u 63 (by decide) (by decide))) (fun a hA => ?_)
      refine W_val hA rfl 90 rfl (by decide) _ _ (R_and hA rfl rfl rfl _) (fun a hA => ?_)
      refine W_val hA rfl 91 rfl (by decide) _ _ (R_fa hA rfl rfl (fun w => fa_hart _ 32 63 (by decide) rfl w) _) (fun a hA => ?_)
      refine W_stUx hA rfl rfl rfl rfl rfl HH (by decide) (by decide) (fun w23 x63_19 hx63_19 hT HN => ?_)
      replace HB := HB.trans (hT.bel _ gHH)
      replace RR := hT.hart RR (by omega)
      replace HH := HN
      clear hT HN
      refine W_nil ?_
      refine then_nrm ?_
      show Code.wp Try.prog _ _ _ _
      refine wp_seq ?_
      refine still_tail 5 (by kernel_rfl) (fun w4 hw => ?_)
      replace HB := HB.trans (hw.mono HB.size)
      replace HH := HH.below hw
      replace RR := RR.below hw
      clear hw
      refine S_val hA rfl 92 rfl (by decide) _ (R_fa hA rfl rfl (fun w => fa_hart _ 35 66 (by decide) rfl w) _) (fun a hA => ?_)
      refine S_val hA rfl 93 rfl (by decide) _ (R_ld hA rfl rfl ag_u64 (show _ = some (Value.int .u64 (t.n 66)) from HH.u 66 (by decide) (by decide))) (fun a hA => ?_)
      refine S_call hA (by decide) (fun _ _ => by kernel_rfl) (args1 hA rfl) (dbut_any _ 17582052945254416380 (by kernel_rfl) _) (fun a hA => ?_)
      refine S_call hA (by decide) (fun _ _ => by kernel_rfl) (args2 hA rfl rfl) (dtable_any _ _ (ok.n _).1 _) (fun a hA => ?_)
      refine S_val hA rfl 96 rfl (by decide) _ (R_fa hA rfl rfl (fun w => fa_hart _ 35 66 (by decide) rfl w) _) (fun a hA => ?_)
      refine still_nil ?_
      refine W_stUx hA rfl rfl rfl rfl rfl HH (by decide) (by decide) (fun w24 x66_20 hx66_20 hT HN => ?_)
      replace HB := HB.trans (hT.bel _ gHH)
      replace RR := hT.hart RR (by omega)
      replace HH := HN
      clear hT HN
      refine W_nil ?_
      refine then_nrm ?_
      show Code.wp Try.prog _ _ _ _
      refine wp_seq ?_
      refine wp_region_list ?_
      refine W_val hA rfl 97 rfl (by decide) _ _ (R_fa hA rfl rfl (fun w => fa_hart _ 37 68 (by decide) rfl w) _) (fun a hA => ?_)
      refine W_val hA rfl 98 rfl (by decide) _ _ (R_ld hA rfl rfl ag_u64 (show _ = some (Value.int .u64 (t.n 68)) from HH.u 68 (by decide) (by decide))) (fun a hA => ?_)
      refine W_val hA rfl 99 rfl (by decide) _ _ (R_and hA rfl rfl rfl _) (fun a hA => ?_)
      refine W_val hA rfl 100 rfl (by decide) _ _ (R_or hA rfl rfl rfl _) (fun a hA => ?_)
      refine W_val hA rfl 101 rfl (by decide) _ _ (R_fa hA rfl rfl (fun w => fa_hart _ 37 68 (by decide) rfl w) _) (fun a hA => ?_)
      refine W_stUx hA rfl rfl rfl rfl rfl HH (by decide) (by decide) (fun w25 x68_21 hx68_21 hT HN => ?_)
      replace HB := HB.trans (hT.bel _ gHH)
      replace RR := hT.hart RR (by omega)
      replace HH := HN
      clear hT HN
      refine W_nil ?_
      refine then_nrm ?_
      show Code.wp Try.prog _ _ _ _
      refine wp_seq ?_
      refine wp_region_list ?_
      refine W_val hA rfl 102 rfl (by decide) _ _ (R_fa hA rfl rfl (fun w => fa_hart _ 38 69 (by decide) rfl w) _) (fun a hA => ?_)
      refine W_val hA rfl 103 rfl (by decide) _ _ (R_ld hA rfl rfl ag_u64 (show _ = some (Value.int .u64 (t.n 69)) from HH.u 69 (by decide) (by decide))) (fun a hA => ?_)
      refine W_val hA rfl 104 rfl (by decide) _ _ (R_andNot hA rfl rfl rfl _) (fun a hA => ?_)
      refine W_val hA rfl 105 rfl (by decide) _ _ (R_fa hA rfl rfl (fun w => fa_hart _ 38 69 (by decide) rfl w) _) (fun a hA => ?_)
      refine W_stUx hA rfl rfl rfl rfl rfl HH (by decide) (by decide) (fun w26 x69_22 hx69_22 hT HN => ?_)
      replace HB := HB.trans (hT.bel _ gHH)
      replace RR := hT.hart RR (by omega)
      replace HH := HN
      clear hT HN
      refine W_nil ?_
      refine then_nrm ?_
      show Code.wp Try.prog _ _ _ _
      refine wp_seq ?_
      refine wp_region_list ?_
      refine W_val hA rfl 106 rfl (by decide) _ _ (R_fa hA rfl rfl (fun w => fa_hart _ 40 71 (by decide) rfl w) _) (fun a hA => ?_)
      refine W_val hA rfl 107 rfl (by decide) _ _ (R_ld hA rfl rfl ag_u64 (show _ = some (Value.int .u64 (t.n 71)) from HH.u 71 (by decide) (by decide))) (fun a hA => ?_)
      refine W_val hA rfl 108 rfl (by decide) _ _ (R_andNot hA rfl rfl rfl _) (fun a hA => ?_)
      refine W_val hA rfl 109 rfl (by decide) _ _ (R_fa hA rfl rfl (fun w => fa_hart _ 40 71 (by decide) rfl w) _) (fun a hA => ?_)
      refine W_stUx hA rfl rfl rfl rfl rfl HH (by decide) (by decide) (fun w27 x71_23 hx71_23 hT HN => ?_)
      replace HB := HB.trans (hT.bel _ gHH)
      replace RR := hT.hart RR (by omega)
      replace HH := HN
      clear hT HN
      refine W_nil ?_
      refine then_nrm ?_
      show Code.wp Try.prog _ _ _ _
      refine wp_seq ?_
      refine still_tail 5 (by kernel_rfl) (fun w4 hw => ?_)
      replace HB := HB.trans (hw.mono HB.size)
      replace HH := HH.below hw
      replace RR := RR.below hw
      clear hw
      refine S_val hA rfl 110 rfl (by decide) _ (R_fa hA rfl rfl (fun w => fa_hart _ 43 74 (by decide) rfl w) _) (fun a hA => ?_)
      refine S_val hA rfl 111 rfl (by decide) _ (R_ld hA rfl rfl ag_u64 (show _ = some (Value.int .u64 (t.n 74)) from HH.u 74 (by decide) (by decide))) (fun a hA => ?_)
      refine S_call hA (by decide) (fun _ _ => by kernel_rfl) (args1 hA rfl) (dbut_any _ 18446744073709551615 (by kernel_rfl) _) (fun a hA => ?_)
      refine S_call hA (by decide) (fun _ _ => by kernel_rfl) (args2 hA rfl rfl) (dtable_any _ _ (ok.n _).1 _) (fun a hA => ?_)
      refine S_val hA rfl 114 rfl (by decide) _ (R_fa hA rfl rfl (fun w => fa_hart _ 43 74 (by decide) rfl w) _) (fun a hA => ?_)
      refine still_nil ?_
      refine W_stUx hA rfl rfl rfl rfl rfl HH (by decide) (by decide) (fun w28 x74_24 hx74_24 hT HN => ?_)
      replace HB := HB.trans (hT.bel _ gHH)
      replace RR := hT.hart RR (by omega)
      replace HH := HN
      clear hT HN
      refine W_nil ?_
      refine then_nrm ?_
      show Code.wp Try.prog _ _ _ _
      refine wp_seq ?_
      refine wp_region_list ?_
      refine W_val hA rfl 115 rfl (by decide) _ _ (R_fa hA rfl rfl (fun w => fa_hart _ 1 1 (by decide) rfl w) _) (fun a hA => ?_)
      refine W_val hA rfl 116 rfl (by decide) _ _ (R_ixa hA rfl rfl rfl (fun w => ixa_hart _ w) _) (fun a hA => ?_)
      refine W_stUx hA rfl rfl rfl rfl rfl HH (by decide) (by decide) (fun w29 x1_25 hx1_25 hT HN => ?_)
      replace HB := HB.trans (hT.bel _ gHH)
      replace RR := hT.hart RR (by omega)
      replace HH := HN
      clear hT HN
      refine W_nil ?_
      refine then_nrm ?_
      show Code.wp Try.prog _ _ _ _
      refine wp_seq ?_
      refine wp_region_list ?_
      refine W_val hA rfl 117 rfl (by decide) _ _ (R_fa hA rfl rfl (fun w => fa_hart _ 0 0 (by decide) rfl w) _) (fun a hA => ?_)
      refine W_val hA rfl 118 rfl (by decide) _ _ (R_ld hA rfl rfl ag_u64 (show _ = some (Value.int .u64 (t.n 0)) from HH.u 0 (by decide) (by decide))) (fun a hA => ?_)
      refine W_val hA rfl 119 rfl (by decide) _ _ (R_andNot hA rfl rfl rfl _) (fun a hA => ?_)
      refine W_val hA rfl 120 rfl (by decide) _ _ (R_fa hA rfl rfl (fun w => fa_hart _ 0 0 (by decide) rfl w) _) (fun a hA => ?_)
      refine W_stUx hA rfl rfl rfl rfl rfl HH (by decide) (by decide) (fun w30 x0_26 hx0_26 hT HN => ?_)
      replace HB := HB.trans (hT.bel _ gHH)
      replace RR := hT.hart RR (by omega)
      replace HH := HN
      clear hT HN
      refine W_nil ?_
      refine then_nrm ?_
      show Code.wp Try.prog _ _ _ _
      refine wp_seq ?_
      refine wp_seq ?_
      refine wp_region_list ?_
      refine W_val hA rfl 121 rfl (by decide) _ _ (R_fa hA rfl rfl (fun w => fa_hart _ 2 33 (by decide) rfl w) _) (fun a hA => ?_)
      refine W_val hA rfl 122 rfl (by decide) _ _ (R_ld hA rfl rfl ag_u8 (show _ = some (Value.int .u8 (t.n 33)) from HH.p)) (fun a hA => ?_)
      refine W_val hA rfl 123 rfl (by decide) _ _ (R_neqB hA rfl rfl rfl _) (fun a hA => ?_)
      refine W_val hA rfl 124 rfl (by decide) _ _ (R_mov hA rfl rfl _) (fun a hA => ?_)
      refine W_split hA 124 rfl (fun c3 hA => ?_) (fun c3 hA => ?_)
      · skip
        refine W_gval hA rfl rfl rfl 125 rfl (by decide) _ _ (R_fa hA rfl rfl (fun w => fa_hart _ 2 33 (by decide) rfl w) _) (fun a hA => ?_)
        refine W_gval hA rfl rfl rfl 126 rfl (by decide) _ _ (R_ld hA rfl rfl ag_u8 (show _ = some (Value.int .u8 (t.n 33)) from HH.p)) (fun a hA => ?_)
        refine W_gval hA rfl rfl rfl 127 rfl (by decide) _ _ (R_neqB hA rfl rfl rfl _) (fun a hA => ?_)
        refine W_val hA rfl 128 rfl (by decide) _ _ (R_pick hA rfl rfl rfl _) (fun a hA => ?_)
        refine W_nil ?_
        refine then_nrm ?_
        show Code.wp Try.prog _ _ _ _
        refine wp_cond_split (hA.ev (x := .tmp 128) rfl) (fun c4 => ?_) (fun c4 => ?_)
        · skip
          refine wp_region_list ?_
          refine W_val hA rfl 129 rfl (by decide) _ _ (R_fa hA rfl rfl (fun w => fa_hart _ 2 33 (by decide) rfl w) _) (fun a hA => ?_)
          refine W_stPx hA rfl rfl rfl rfl rfl HH (fun w31 x33_27 hx33_27 hT HN => ?_)
          replace HB := HB.trans (hT.bel _ gHH)
          replace RR := hT.hart RR (by omega)
          replace HH := HN
          clear hT HN
          refine W_nil ?_
          refine then_nrm ?_
          show Code.wp Try.prog _ _ _ _
          refine wp_seq ?_
          refine wp_seq ?_
          refine wp_region_list ?_
          refine W_val hA rfl 130 rfl (by decide) _ _ (R_fa hA rfl rfl (fun w => fa_hart _ 2 33 (by decide) rfl w) _) (fun a hA => ?_)
          refine W_val hA rfl 131 rfl (by decide) _ _ (R_ld hA rfl rfl ag_u8 (show _ = some (Value.int .u8 (x33_27)) from HH.p)) (fun a hA => ?_)
          refine W_val hA rfl 132 rfl (by decide) _ _ (R_eqlB hA rfl rfl rfl _) (fun a hA => ?_)
          refine W_nil ?_
          refine then_nrm ?_
          show Code.wp Try.prog _ _ _ _
          refine wp_cond_split (hA.ev (x := .tmp 132) rfl) (fun c5 => ?_) (fun c5 => ?_)
          · skip
            refine wp_region_list ?_
            refine W_val hA rfl 133 rfl (by decide) _ _ (R_fa hA rfl rfl (fun w => fa_hart _ 3 34 (by decide) rfl w) _) (fun a hA => ?_)
            refine W_stVx hA rfl rfl rfl rfl rfl HH (fun w32 x34_28 hx34_28 hT HN => ?_)
            replace HB := HB.trans (hT.bel _ gHH)
            replace RR := hT.hart RR (by omega)
            replace HH := HN
            clear hT HN
            refine W_nil ?_
            refine then_nrm ?_
            show Code.wp Try.prog _ _ _ _
            refine wp_seq ?_
            refine wp_region_list ?_
            refine W_val hA rfl 134 rfl (by decide) _ _ (R_fa hA rfl rfl (fun w => fa_hart _ 6 37 (by decide) rfl w) _) (fun a hA => ?_)
            refine W_val hA rfl 135 rfl (by decide) _ _ (R_ld hA rfl rfl ag_u64 (show _ = some (Value.int .u64 (t.n 37)) from HH.u 37 (by decide) (by decide))) (fun a hA => ?_)
            refine W_val hA rfl 136 rfl (by decide) _ _ (R_andNot hA rfl rfl rfl _) (fun a hA => ?_)
            refine W_val hA rfl 137 rfl (by decide) _ _ (R_and hA rfl rfl rfl _) (fun a hA => ?_)
            refine W_val hA rfl 138 rfl (by decide) _ _ (R_fa hA rfl rfl (fun w => fa_hart _ 6 37 (by decide) rfl w) _) (fun a hA => ?_)
            refine W_stUx hA rfl rfl rfl rfl rfl HH (by decide) (by decide) (fun w33 x37_29 hx37_29 hT HN => ?_)
            replace HB := HB.trans (hT.bel _ gHH)
            replace RR := hT.hart RR (by omega)
            replace HH := HN
            clear hT HN
            refine W_nil ?_
            refine then_nrm ?_
            show Code.wp Try.prog _ _ _ _
            refine wp_seq ?_
            refine wp_seq ?_
            refine wp_region_list ?_
            refine W_val hA rfl 139 rfl (by decide) _ _ (R_fa hA rfl rfl (fun w => fa_hart _ 5 36 (by decide) rfl w) _) (fun a hA => ?_)
            refine W_val hA rfl 140 rfl (by decide) _ _ (R_ld hA rfl rfl ag_bool (show _ = some (Value.bool t.held) from HH.hd)) (fun a hA => ?_)
            refine W_val hA rfl 141 rfl (by decide) _ _ (R_not hA rfl rfl _) (fun a hA => ?_)
            refine W_nil ?_
            refine then_nrm ?_
            show Code.wp Try.prog _ _ _ _
            refine wp_cond_split (hA.ev (x := .tmp 141) rfl) (fun c6 => ?_) (fun c6 => ?_)
            · skip
              refine wp_region_list ?_
              refine W_val hA rfl 142 rfl (by decide) _ _ (R_fa hA rfl rfl (fun w => fa_hart _ 6 37 (by decide) rfl w) _) (fun a hA => ?_)
              refine W_stUx hA rfl rfl rfl rfl rfl HH (by decide) (by decide) (fun w34 x37_30 hx37_30 hT HN => ?_)
              replace HB := HB.trans (hT.bel _ gHH)
              replace RR := hT.hart RR (by omega)
              replace HH := HN
              clear hT HN
              refine W_nil ?_
              refine then_nrm ?_
              show Code.wp Try.prog _ _ _ _
              refine wp_seq ?_
              refine wp_region_list ?_
              refine W_val hA rfl 143 rfl (by decide) _ _ (R_row hA rfl rfl HH Try.underlying25 (size_hart.trans (by rw [varr_size]))) (fun a hA => ?_)
              refine W_cpH hA rfl rfl rfl rfl rfl RR (fun w35 hT HN => ?_)
              replace HB := HB.trans (hT.bel _ gRR)
              replace HH := hT.hart HH (by omega)
              replace RR := HN
              clear hT HN
              refine W_nil ?_
              refine then_nrm ?_
              show Code.wp Try.prog _ _ _ _
              refine wp_ret ?_
              rw [hx33_27] at c5
              cases c5
            refine wp_skip ?_
            refine then_nrm ?_
            show Code.wp Try.prog _ _ _ _
            refine wp_seq ?_
            refine wp_region_list ?_
            refine W_val hA rfl 143 rfl (by decide) _ _ (R_row hA rfl rfl HH Try.underlying25 (size_hart.trans (by rw [varr_size]))) (fun a hA => ?_)
            refine W_cpH hA rfl rfl rfl rfl rfl RR (fun w36 hT HN => ?_)
            replace HB := HB.trans (hT.bel _ gRR)
            replace HH := hT.hart HH (by omega)
            replace RR := HN
            clear hT HN
            refine W_nil ?_
            refine then_nrm ?_
            show Code.wp Try.prog _ _ _ _
            refine wp_ret ?_
            rw [hx33_27] at c5
            cases c5
          refine wp_skip ?_
          refine then_nrm ?_
          show Code.wp Try.prog _ _ _ _
          refine wp_seq ?_
          refine wp_region_list ?_
          refine W_val hA rfl 134 rfl (by decide) _ _ (R_fa hA rfl rfl (fun w => fa_hart _ 6 37 (by decide) rfl w) _) (fun a hA => ?_)
          refine W_val hA rfl 135 rfl (by decide) _ _ (R_ld hA rfl rfl ag_u64 (show _ = some (Value.int .u64 (t.n 37)) from HH.u 37 (by decide) (by decide))) (fun a hA => ?_)
          refine W_val hA rfl 136 rfl (by decide) _ _ (R_andNot hA rfl rfl rfl _) (fun a hA => ?_)
          refine W_val hA rfl 137 rfl (by decide) _ _ (R_and hA rfl rfl rfl _) (fun a hA => ?_)
          refine W_val hA rfl 138 rfl (by decide) _ _ (R_fa hA rfl rfl (fun w => fa_hart _ 6 37 (by decide) rfl w) _) (fun a hA => ?_)
          refine W_stUx hA rfl rfl rfl rfl rfl HH (by decide) (by decide) (fun w37 x37_31 hx37_31 hT HN => ?_)
          replace HB := HB.trans (hT.bel _ gHH)
          replace RR := hT.hart RR (by omega)
          replace HH := HN
          clear hT HN
          refine W_nil ?_
          refine then_nrm ?_
          show Code.wp Try.prog _ _ _ _
          refine wp_seq ?_
          refine wp_seq ?_
          refine wp_region_list ?_
          refine W_val hA rfl 139 rfl (by decide) _ _ (R_fa hA rfl rfl (fun w => fa_hart _ 5 36 (by decide) rfl w) _) (fun a hA => ?_)
          refine W_val hA rfl 140 rfl (by decide) _ _ (R_ld hA rfl rfl ag_bool (show _ = some (Value.bool t.held) from HH.hd)) (fun a hA => ?_)
          refine W_val hA rfl 141 rfl (by decide) _ _ (R_not hA rfl rfl _) (fun a hA => ?_)
          refine W_nil ?_
          refine then_nrm ?_
          show Code.wp Try.prog _ _ _ _
          refine wp_cond_split (hA.ev (x := .tmp 141) rfl) (fun c7 => ?_) (fun c7 => ?_)
          · skip
            refine wp_region_list ?_
            refine W_val hA rfl 142 rfl (by decide) _ _ (R_fa hA rfl rfl (fun w => fa_hart _ 6 37 (by decide) rfl w) _) (fun a hA => ?_)
            refine W_stUx hA rfl rfl rfl rfl rfl HH (by decide) (by decide) (fun w38 x37_32 hx37_32 hT HN => ?_)
            replace HB := HB.trans (hT.bel _ gHH)
            replace RR := hT.hart RR (by omega)
            replace HH := HN
            clear hT HN
            refine W_nil ?_
            refine then_nrm ?_
            show Code.wp Try.prog _ _ _ _
            refine wp_seq ?_
            refine wp_region_list ?_
            refine W_val hA rfl 143 rfl (by decide) _ _ (R_row hA rfl rfl HH Try.underlying25 (size_hart.trans (by rw [varr_size]))) (fun a hA => ?_)
            refine W_cpH hA rfl rfl rfl rfl rfl RR (fun w39 hT HN => ?_)
            replace HB := HB.trans (hT.bel _ gRR)
            replace HH := hT.hart HH (by omega)
            replace RR := HN
            clear hT HN
            refine W_nil ?_
            refine then_nrm ?_
            show Code.wp Try.prog _ _ _ _
            refine wp_ret ?_
            refine ret_hart (j := 2) (by kernel_rfl) hA rfl RR ?_
            refine ⟨congrArg (fun s : HS => Ending.returned (hartV s)) ?_, HB⟩
            refine fixZ_eq ?_ rfl rfl (fun i => ?_)
            · have p3 : ¬ t.n 33 = 3 := by simpa using c4
              show t.v = (t.v && (t.n 33 != 3))
              rw [show (t.n 33 != 3) = true from by simpa using p3, Bool.and_true]
            by_cases e38 : i = 38
            · subst e38
              show x38_2 = _
              have q : noModeB x38_1 = true := by rw [noMode_bits, c1]; simpa using c2
              rw [hx38_1] at q
              rw [hx38_2, hx38_1]
              show _ = (if noModeB (maskZ 0 (t.n 38)) = true then bits .andNot .u64 (maskZ 0 (t.n 38)) 6144 else maskZ 0 (t.n 38))
              rw [show noModeB (maskZ 0 (t.n 38)) = true from q]
              exact mode_clr q
            by_cases e33 : i = 33
            · subst e33
              show x33_27 = _
              rw [hx33_27]
              have p1 : ¬ t.n 33 = 1 := by simpa using c3
              have p3 : ¬ t.n 33 = 3 := by simpa using c4
              show _ = (if t.n 33 = 1 ∨ t.n 33 = 3 then t.n 33 else 0)
              rw [if_neg (fun q => q.elim p1 p3)]
            by_cases e37 : i = 37
            · subst e37
              show x37_32 = _
              rw [hx37_32]
              show _ = (if t.held = true then bits .and .u64 (t.n 37) 72057594037927928 else 0)
              rw [show t.held = false by simpa using c7]; rfl
            exact fixD ok hx0_26 hx1_25 hx39_3 hx40_4 hx41_5 hx42_6 hx43_7 hx44_8 hx46_9 hx51_10 hx52_11 hx54_12 hx57_13 hx58_14 hx59_15 hx60_16 hx61_17 hx62_18 hx63_19 hx66_20 hx68_21 hx69_22 hx71_23 hx74_24 (fun i h => by simp only [HS.put, HS.putV, if_neg (h 0 (by decide)), if_neg (h 1 (by decide)), if_neg (h 33 (by decide)), if_neg (h 37 (by decide)), if_neg (h 38 (by decide)), if_neg (h 39 (by decide)), if_neg (h 40 (by decide)), if_neg (h 41 (by decide)), if_neg (h 42 (by decide)), if_neg (h 43 (by decide)), if_neg (h 44 (by decide)), if_neg (h 46 (by decide)), if_neg (h 51 (by decide)), if_neg (h 52 (by decide)), if_neg (h 54 (by decide)), if_neg (h 57 (by decide)), if_neg (h 58 (by decide)), if_neg (h 59 (by decide)), if_neg (h 60 (by decide)), if_neg (h 61 (by decide)), if_neg (h 62 (by decide)), if_neg (h 63 (by decide)), if_neg (h 66 (by decide)), if_neg (h 68 (by decide)), if_neg (h 69 (by decide)), if_neg (h 71 (by decide)), if_neg (h 74 (by decide))]) i ⟨e33, e37, e38⟩
          refine wp_skip ?_
          refine then_nrm ?_
          show Code.wp Try.prog _ _ _ _
          refine wp_seq ?_
          refine wp_region_list ?_
          refine W_val hA rfl 143 rfl (by decide) _ _ (R_row hA rfl rfl HH Try.underlying25 (size_hart.trans (by rw [varr_size]))) (fun a hA => ?_)
          refine W_cpH hA rfl rfl rfl rfl rfl RR (fun w40 hT HN => ?_)
          replace HB := HB.trans (hT.bel _ gRR)
          replace HH := hT.hart HH (by omega)
          replace RR := HN
          clear hT HN
          refine W_nil ?_
          refine then_nrm ?_
          show Code.wp Try.prog _ _ _ _
          refine wp_ret ?_
          refine ret_hart (j := 2) (by kernel_rfl) hA rfl RR ?_
          refine ⟨congrArg (fun s : HS => Ending.returned (hartV s)) ?_, HB⟩
          refine fixZ_eq ?_ rfl rfl (fun i => ?_)
          · have p3 : ¬ t.n 33 = 3 := by simpa using c4
            show t.v = (t.v && (t.n 33 != 3))
            rw [show (t.n 33 != 3) = true from by simpa using p3, Bool.and_true]
          by_cases e38 : i = 38
          · subst e38
            show x38_2 = _
            have q : noModeB x38_1 = true := by rw [noMode_bits, c1]; simpa using c2
            rw [hx38_1] at q
            rw [hx38_2, hx38_1]
            show _ = (if noModeB (maskZ 0 (t.n 38)) = true then bits .andNot .u64 (maskZ 0 (t.n 38)) 6144 else maskZ 0 (t.n 38))
            rw [show noModeB (maskZ 0 (t.n 38)) = true from q]
            exact mode_clr q
          by_cases e33 : i = 33
          · subst e33
            show x33_27 = _
            rw [hx33_27]
            have p1 : ¬ t.n 33 = 1 := by simpa using c3
            have p3 : ¬ t.n 33 = 3 := by simpa using c4
            show _ = (if t.n 33 = 1 ∨ t.n 33 = 3 then t.n 33 else 0)
            rw [if_neg (fun q => q.elim p1 p3)]
          by_cases e37 : i = 37
          · subst e37
            show x37_31 = _
            rw [hx37_31]
            show _ = (if t.held = true then bits .and .u64 (t.n 37) 72057594037927928 else 0)
            rw [show t.held = true by simpa using c7, if_pos rfl]
            exact res_and _
          exact fixD ok hx0_26 hx1_25 hx39_3 hx40_4 hx41_5 hx42_6 hx43_7 hx44_8 hx46_9 hx51_10 hx52_11 hx54_12 hx57_13 hx58_14 hx59_15 hx60_16 hx61_17 hx62_18 hx63_19 hx66_20 hx68_21 hx69_22 hx71_23 hx74_24 (fun i h => by simp only [HS.put, HS.putV, if_neg (h 0 (by decide)), if_neg (h 1 (by decide)), if_neg (h 33 (by decide)), if_neg (h 37 (by decide)), if_neg (h 38 (by decide)), if_neg (h 39 (by decide)), if_neg (h 40 (by decide)), if_neg (h 41 (by decide)), if_neg (h 42 (by decide)), if_neg (h 43 (by decide)), if_neg (h 44 (by decide)), if_neg (h 46 (by decide)), if_neg (h 51 (by decide)), if_neg (h 52 (by decide)), if_neg (h 54 (by decide)), if_neg (h 57 (by decide)), if_neg (h 58 (by decide)), if_neg (h 59 (by decide)), if_neg (h 60 (by decide)), if_neg (h 61 (by decide)), if_neg (h 62 (by decide)), if_neg (h 63 (by decide)), if_neg (h 66 (by decide)), if_neg (h 68 (by decide)), if_neg (h 69 (by decide)), if_neg (h 71 (by decide)), if_neg (h 74 (by decide))]) i ⟨e33, e37, e38⟩
        refine wp_skip ?_
        refine then_nrm ?_
        show Code.wp Try.prog _ _ _ _
        refine wp_seq ?_
        refine wp_seq ?_
        refine wp_region_list ?_
        refine W_val hA rfl 130 rfl (by decide) _ _ (R_fa hA rfl rfl (fun w => fa_hart _ 2 33 (by decide) rfl w) _) (fun a hA => ?_)
        refine W_val hA rfl 131 rfl (by decide) _ _ (R_ld hA rfl rfl ag_u8 (show _ = some (Value.int .u8 (t.n 33)) from HH.p)) (fun a hA => ?_)
        refine W_val hA rfl 132 rfl (by decide) _ _ (R_eqlB hA rfl rfl rfl _) (fun a hA => ?_)
        refine W_nil ?_
        refine then_nrm ?_
        show Code.wp Try.prog _ _ _ _
        refine wp_cond_split (hA.ev (x := .tmp 132) rfl) (fun c8 => ?_) (fun c8 => ?_)
        · skip
          refine wp_region_list ?_
          refine W_val hA rfl 133 rfl (by decide) _ _ (R_fa hA rfl rfl (fun w => fa_hart _ 3 34 (by decide) rfl w) _) (fun a hA => ?_)
          refine W_stVx hA rfl rfl rfl rfl rfl HH (fun w41 x34_33 hx34_33 hT HN => ?_)
          replace HB := HB.trans (hT.bel _ gHH)
          replace RR := hT.hart RR (by omega)
          replace HH := HN
          clear hT HN
          refine W_nil ?_
          refine then_nrm ?_
          show Code.wp Try.prog _ _ _ _
          refine wp_seq ?_
          refine wp_region_list ?_
          refine W_val hA rfl 134 rfl (by decide) _ _ (R_fa hA rfl rfl (fun w => fa_hart _ 6 37 (by decide) rfl w) _) (fun a hA => ?_)
          refine W_val hA rfl 135 rfl (by decide) _ _ (R_ld hA rfl rfl ag_u64 (show _ = some (Value.int .u64 (t.n 37)) from HH.u 37 (by decide) (by decide))) (fun a hA => ?_)
          refine W_val hA rfl 136 rfl (by decide) _ _ (R_andNot hA rfl rfl rfl _) (fun a hA => ?_)
          refine W_val hA rfl 137 rfl (by decide) _ _ (R_and hA rfl rfl rfl _) (fun a hA => ?_)
          refine W_val hA rfl 138 rfl (by decide) _ _ (R_fa hA rfl rfl (fun w => fa_hart _ 6 37 (by decide) rfl w) _) (fun a hA => ?_)
          refine W_stUx hA rfl rfl rfl rfl rfl HH (by decide) (by decide) (fun w42 x37_34 hx37_34 hT HN => ?_)
          replace HB := HB.trans (hT.bel _ gHH)
          replace RR := hT.hart RR (by omega)
          replace HH := HN
          clear hT HN
          refine W_nil ?_
          refine then_nrm ?_
          show Code.wp Try.prog _ _ _ _
          refine wp_seq ?_
          refine wp_seq ?_
          refine wp_region_list ?_
          refine W_val hA rfl 139 rfl (by decide) _ _ (R_fa hA rfl rfl (fun w => fa_hart _ 5 36 (by decide) rfl w) _) (fun a hA => ?_)
          refine W_val hA rfl 140 rfl (by decide) _ _ (R_ld hA rfl rfl ag_bool (show _ = some (Value.bool t.held) from HH.hd)) (fun a hA => ?_)
          refine W_val hA rfl 141 rfl (by decide) _ _ (R_not hA rfl rfl _) (fun a hA => ?_)
          refine W_nil ?_
          refine then_nrm ?_
          show Code.wp Try.prog _ _ _ _
          refine wp_cond_split (hA.ev (x := .tmp 141) rfl) (fun c9 => ?_) (fun c9 => ?_)
          · skip
            refine wp_region_list ?_
            refine W_val hA rfl 142 rfl (by decide) _ _ (R_fa hA rfl rfl (fun w => fa_hart _ 6 37 (by decide) rfl w) _) (fun a hA => ?_)
            refine W_stUx hA rfl rfl rfl rfl rfl HH (by decide) (by decide) (fun w43 x37_35 hx37_35 hT HN => ?_)
            replace HB := HB.trans (hT.bel _ gHH)
            replace RR := hT.hart RR (by omega)
            replace HH := HN
            clear hT HN
            refine W_nil ?_
            refine then_nrm ?_
            show Code.wp Try.prog _ _ _ _
            refine wp_seq ?_
            refine wp_region_list ?_
            refine W_val hA rfl 143 rfl (by decide) _ _ (R_row hA rfl rfl HH Try.underlying25 (size_hart.trans (by rw [varr_size]))) (fun a hA => ?_)
            refine W_cpH hA rfl rfl rfl rfl rfl RR (fun w44 hT HN => ?_)
            replace HB := HB.trans (hT.bel _ gRR)
            replace HH := hT.hart HH (by omega)
            replace RR := HN
            clear hT HN
            refine W_nil ?_
            refine then_nrm ?_
            show Code.wp Try.prog _ _ _ _
            refine wp_ret ?_
            refine ret_hart (j := 2) (by kernel_rfl) hA rfl RR ?_
            refine ⟨congrArg (fun s : HS => Ending.returned (hartV s)) ?_, HB⟩
            refine fixZ_eq ?_ rfl rfl (fun i => ?_)
            · show x34_33 = (t.v && (t.n 33 != 3))
              rw [hx34_33, show (t.n 33 != 3) = false from by simpa using c8, Bool.and_false]
            by_cases e38 : i = 38
            · subst e38
              show x38_2 = _
              have q : noModeB x38_1 = true := by rw [noMode_bits, c1]; simpa using c2
              rw [hx38_1] at q
              rw [hx38_2, hx38_1]
              show _ = (if noModeB (maskZ 0 (t.n 38)) = true then bits .andNot .u64 (maskZ 0 (t.n 38)) 6144 else maskZ 0 (t.n 38))
              rw [show noModeB (maskZ 0 (t.n 38)) = true from q]
              exact mode_clr q
            by_cases e33 : i = 33
            · subst e33
              have p : t.n 33 = 1 ∨ t.n 33 = 3 := .inr (by simpa using c4)
              show _ = (if t.n 33 = 1 ∨ t.n 33 = 3 then t.n 33 else 0)
              rw [if_pos p]
              rfl
            by_cases e37 : i = 37
            · subst e37
              show x37_35 = _
              rw [hx37_35]
              show _ = (if t.held = true then bits .and .u64 (t.n 37) 72057594037927928 else 0)
              rw [show t.held = false by simpa using c9]; rfl
            exact fixD ok hx0_26 hx1_25 hx39_3 hx40_4 hx41_5 hx42_6 hx43_7 hx44_8 hx46_9 hx51_10 hx52_11 hx54_12 hx57_13 hx58_14 hx59_15 hx60_16 hx61_17 hx62_18 hx63_19 hx66_20 hx68_21 hx69_22 hx71_23 hx74_24 (fun i h => by simp only [HS.put, HS.putV, if_neg (h 0 (by decide)), if_neg (h 1 (by decide)), if_neg (h 37 (by decide)), if_neg (h 38 (by decide)), if_neg (h 39 (by decide)), if_neg (h 40 (by decide)), if_neg (h 41 (by decide)), if_neg (h 42 (by decide)), if_neg (h 43 (by decide)), if_neg (h 44 (by decide)), if_neg (h 46 (by decide)), if_neg (h 51 (by decide)), if_neg (h 52 (by decide)), if_neg (h 54 (by decide)), if_neg (h 57 (by decide)), if_neg (h 58 (by decide)), if_neg (h 59 (by decide)), if_neg (h 60 (by decide)), if_neg (h 61 (by decide)), if_neg (h 62 (by decide)), if_neg (h 63 (by decide)), if_neg (h 66 (by decide)), if_neg (h 68 (by decide)), if_neg (h 69 (by decide)), if_neg (h 71 (by decide)), if_neg (h 74 (by decide))]) i ⟨e33, e37, e38⟩
          refine wp_skip ?_
          refine then_nrm ?_
          show Code.wp Try.prog _ _ _ _
          refine wp_seq ?_
          refine wp_region_list ?_
          refine W_val hA rfl 143 rfl (by decide) _ _ (R_row hA rfl rfl HH Try.underlying25 (size_hart.trans (by rw [varr_size]))) (fun a hA => ?_)
          refine W_cpH hA rfl rfl rfl rfl rfl RR (fun w45 hT HN => ?_)
          replace HB := HB.trans (hT.bel _ gRR)
          replace HH := hT.hart HH (by omega)
          replace RR := HN
          clear hT HN
          refine W_nil ?_
          refine then_nrm ?_
          show Code.wp Try.prog _ _ _ _
          refine wp_ret ?_
          refine ret_hart (j := 2) (by kernel_rfl) hA rfl RR ?_
          refine ⟨congrArg (fun s : HS => Ending.returned (hartV s)) ?_, HB⟩
          refine fixZ_eq ?_ rfl rfl (fun i => ?_)
          · show x34_33 = (t.v && (t.n 33 != 3))
            rw [hx34_33, show (t.n 33 != 3) = false from by simpa using c8, Bool.and_false]
          by_cases e38 : i = 38
          · subst e38
            show x38_2 = _
            have q : noModeB x38_1 = true := by rw [noMode_bits, c1]; simpa using c2
            rw [hx38_1] at q
            rw [hx38_2, hx38_1]
            show _ = (if noModeB (maskZ 0 (t.n 38)) = true then bits .andNot .u64 (maskZ 0 (t.n 38)) 6144 else maskZ 0 (t.n 38))
            rw [show noModeB (maskZ 0 (t.n 38)) = true from q]
            exact mode_clr q
          by_cases e33 : i = 33
          · subst e33
            have p : t.n 33 = 1 ∨ t.n 33 = 3 := .inr (by simpa using c4)
            show _ = (if t.n 33 = 1 ∨ t.n 33 = 3 then t.n 33 else 0)
            rw [if_pos p]
            rfl
          by_cases e37 : i = 37
          · subst e37
            show x37_34 = _
            rw [hx37_34]
            show _ = (if t.held = true then bits .and .u64 (t.n 37) 72057594037927928 else 0)
            rw [show t.held = true by simpa using c9, if_pos rfl]
            exact res_and _
          exact fixD ok hx0_26 hx1_25 hx39_3 hx40_4 hx41_5 hx42_6 hx43_7 hx44_8 hx46_9 hx51_10 hx52_11 hx54_12 hx57_13 hx58_14 hx59_15 hx60_16 hx61_17 hx62_18 hx63_19 hx66_20 hx68_21 hx69_22 hx71_23 hx74_24 (fun i h => by simp only [HS.put, HS.putV, if_neg (h 0 (by decide)), if_neg (h 1 (by decide)), if_neg (h 37 (by decide)), if_neg (h 38 (by decide)), if_neg (h 39 (by decide)), if_neg (h 40 (by decide)), if_neg (h 41 (by decide)), if_neg (h 42 (by decide)), if_neg (h 43 (by decide)), if_neg (h 44 (by decide)), if_neg (h 46 (by decide)), if_neg (h 51 (by decide)), if_neg (h 52 (by decide)), if_neg (h 54 (by decide)), if_neg (h 57 (by decide)), if_neg (h 58 (by decide)), if_neg (h 59 (by decide)), if_neg (h 60 (by decide)), if_neg (h 61 (by decide)), if_neg (h 62 (by decide)), if_neg (h 63 (by decide)), if_neg (h 66 (by decide)), if_neg (h 68 (by decide)), if_neg (h 69 (by decide)), if_neg (h 71 (by decide)), if_neg (h 74 (by decide))]) i ⟨e33, e37, e38⟩
        refine wp_skip ?_
        refine then_nrm ?_
        show Code.wp Try.prog _ _ _ _
        refine wp_seq ?_
        refine wp_region_list ?_
        refine W_val hA rfl 134 rfl (by decide) _ _ (R_fa hA rfl rfl (fun w => fa_hart _ 6 37 (by decide) rfl w) _) (fun a hA => ?_)
        refine W_val hA rfl 135 rfl (by decide) _ _ (R_ld hA rfl rfl ag_u64 (show _ = some (Value.int .u64 (t.n 37)) from HH.u 37 (by decide) (by decide))) (fun a hA => ?_)
        refine W_val hA rfl 136 rfl (by decide) _ _ (R_andNot hA rfl rfl rfl _) (fun a hA => ?_)
        refine W_val hA rfl 137 rfl (by decide) _ _ (R_and hA rfl rfl rfl _) (fun a hA => ?_)
        refine W_val hA rfl 138 rfl (by decide) _ _ (R_fa hA rfl rfl (fun w => fa_hart _ 6 37 (by decide) rfl w) _) (fun a hA => ?_)
        refine W_stUx hA rfl rfl rfl rfl rfl HH (by decide) (by decide) (fun w46 x37_36 hx37_36 hT HN => ?_)
        replace HB := HB.trans (hT.bel _ gHH)
        replace RR := hT.hart RR (by omega)
        replace HH := HN
        clear hT HN
        refine W_nil ?_
        refine then_nrm ?_
        show Code.wp Try.prog _ _ _ _
        refine wp_seq ?_
        refine wp_seq ?_
        refine wp_region_list ?_
        refine W_val hA rfl 139 rfl (by decide) _ _ (R_fa hA rfl rfl (fun w => fa_hart _ 5 36 (by decide) rfl w) _) (fun a hA => ?_)
        refine W_val hA rfl 140 rfl (by decide) _ _ (R_ld hA rfl rfl ag_bool (show _ = some (Value.bool t.held) from HH.hd)) (fun a hA => ?_)
        refine W_val hA rfl 141 rfl (by decide) _ _ (R_not hA rfl rfl _) (fun a hA => ?_)
        refine W_nil ?_
        refine then_nrm ?_
        show Code.wp Try.prog _ _ _ _
        refine wp_cond_split (hA.ev (x := .tmp 141) rfl) (fun c10 => ?_) (fun c10 => ?_)
        · skip
          refine wp_region_list ?_
          refine W_val hA rfl 142 rfl (by decide) _ _ (R_fa hA rfl rfl (fun w => fa_hart _ 6 37 (by decide) rfl w) _) (fun a hA => ?_)
          refine W_stUx hA rfl rfl rfl rfl rfl HH (by decide) (by decide) (fun w47 x37_37 hx37_37 hT HN => ?_)
          replace HB := HB.trans (hT.bel _ gHH)
          replace RR := hT.hart RR (by omega)
          replace HH := HN
          clear hT HN
          refine W_nil ?_
          refine then_nrm ?_
          show Code.wp Try.prog _ _ _ _
          refine wp_seq ?_
          refine wp_region_list ?_
          refine W_val hA rfl 143 rfl (by decide) _ _ (R_row hA rfl rfl HH Try.underlying25 (size_hart.trans (by rw [varr_size]))) (fun a hA => ?_)
          refine W_cpH hA rfl rfl rfl rfl rfl RR (fun w48 hT HN => ?_)
          replace HB := HB.trans (hT.bel _ gRR)
          replace HH := hT.hart HH (by omega)
          replace RR := HN
          clear hT HN
          refine W_nil ?_
          refine then_nrm ?_
          show Code.wp Try.prog _ _ _ _
          refine wp_ret ?_
          refine ret_hart (j := 2) (by kernel_rfl) hA rfl RR ?_
          refine ⟨congrArg (fun s : HS => Ending.returned (hartV s)) ?_, HB⟩
          refine fixZ_eq ?_ rfl rfl (fun i => ?_)
          · show t.v = (t.v && (t.n 33 != 3))
            rw [show (t.n 33 != 3) = true from by simpa using c8, Bool.and_true]
          by_cases e38 : i = 38
          · subst e38
            show x38_2 = _
            have q : noModeB x38_1 = true := by rw [noMode_bits, c1]; simpa using c2
            rw [hx38_1] at q
            rw [hx38_2, hx38_1]
            show _ = (if noModeB (maskZ 0 (t.n 38)) = true then bits .andNot .u64 (maskZ 0 (t.n 38)) 6144 else maskZ 0 (t.n 38))
            rw [show noModeB (maskZ 0 (t.n 38)) = true from q]
            exact mode_clr q
          by_cases e33 : i = 33
          · subst e33
            have p : t.n 33 = 1 ∨ t.n 33 = 3 := .inr (by simpa using c4)
            show _ = (if t.n 33 = 1 ∨ t.n 33 = 3 then t.n 33 else 0)
            rw [if_pos p]
            rfl
          by_cases e37 : i = 37
          · subst e37
            show x37_37 = _
            rw [hx37_37]
            show _ = (if t.held = true then bits .and .u64 (t.n 37) 72057594037927928 else 0)
            rw [show t.held = false by simpa using c10]; rfl
          exact fixD ok hx0_26 hx1_25 hx39_3 hx40_4 hx41_5 hx42_6 hx43_7 hx44_8 hx46_9 hx51_10 hx52_11 hx54_12 hx57_13 hx58_14 hx59_15 hx60_16 hx61_17 hx62_18 hx63_19 hx66_20 hx68_21 hx69_22 hx71_23 hx74_24 (fun i h => by simp only [HS.put, HS.putV, if_neg (h 0 (by decide)), if_neg (h 1 (by decide)), if_neg (h 37 (by decide)), if_neg (h 38 (by decide)), if_neg (h 39 (by decide)), if_neg (h 40 (by decide)), if_neg (h 41 (by decide)), if_neg (h 42 (by decide)), if_neg (h 43 (by decide)), if_neg (h 44 (by decide)), if_neg (h 46 (by decide)), if_neg (h 51 (by decide)), if_neg (h 52 (by decide)), if_neg (h 54 (by decide)), if_neg (h 57 (by decide)), if_neg (h 58 (by decide)), if_neg (h 59 (by decide)), if_neg (h 60 (by decide)), if_neg (h 61 (by decide)), if_neg (h 62 (by decide)), if_neg (h 63 (by decide)), if_neg (h 66 (by decide)), if_neg (h 68 (by decide)), if_neg (h 69 (by decide)), if_neg (h 71 (by decide)), if_neg (h 74 (by decide))]) i ⟨e33, e37, e38⟩
        refine wp_skip ?_
        refine then_nrm ?_
        show Code.wp Try.prog _ _ _ _
        refine wp_seq ?_
        refine wp_region_list ?_
        refine W_val hA rfl 143 rfl (by decide) _ _ (R_row hA rfl rfl HH Try.underlying25 (size_hart.trans (by rw [varr_size]))) (fun a hA => ?_)
        refine W_cpH hA rfl rfl rfl rfl rfl RR (fun w49 hT HN => ?_)
        replace HB := HB.trans (hT.bel _ gRR)
        replace HH := hT.hart HH (by omega)
        replace RR := HN
        clear hT HN
        refine W_nil ?_
        refine then_nrm ?_
        show Code.wp Try.prog _ _ _ _
        refine wp_ret ?_
        refine ret_hart (j := 2) (by kernel_rfl) hA rfl RR ?_
        refine ⟨congrArg (fun s : HS => Ending.returned (hartV s)) ?_, HB⟩
        refine fixZ_eq ?_ rfl rfl (fun i => ?_)
        · show t.v = (t.v && (t.n 33 != 3))
          rw [show (t.n 33 != 3) = true from by simpa using c8, Bool.and_true]
        by_cases e38 : i = 38
        · subst e38
          show x38_2 = _
          have q : noModeB x38_1 = true := by rw [noMode_bits, c1]; simpa using c2
          rw [hx38_1] at q
          rw [hx38_2, hx38_1]
          show _ = (if noModeB (maskZ 0 (t.n 38)) = true then bits .andNot .u64 (maskZ 0 (t.n 38)) 6144 else maskZ 0 (t.n 38))
          rw [show noModeB (maskZ 0 (t.n 38)) = true from q]
          exact mode_clr q
        by_cases e33 : i = 33
        · subst e33
          have p : t.n 33 = 1 ∨ t.n 33 = 3 := .inr (by simpa using c4)
          show _ = (if t.n 33 = 1 ∨ t.n 33 = 3 then t.n 33 else 0)
          rw [if_pos p]
          rfl
        by_cases e37 : i = 37
        · subst e37
          show x37_36 = _
          rw [hx37_36]
          show _ = (if t.held = true then bits .and .u64 (t.n 37) 72057594037927928 else 0)
          rw [show t.held = true by simpa using c10, if_pos rfl]
          exact res_and _
        exact fixD ok hx0_26 hx1_25 hx39_3 hx40_4 hx41_5 hx42_6 hx43_7 hx44_8 hx46_9 hx51_10 hx52_11 hx54_12 hx57_13 hx58_14 hx59_15 hx60_16 hx61_17 hx62_18 hx63_19 hx66_20 hx68_21 hx69_22 hx71_23 hx74_24 (fun i h => by simp only [HS.put, HS.putV, if_neg (h 0 (by decide)), if_neg (h 1 (by decide)), if_neg (h 37 (by decide)), if_neg (h 38 (by decide)), if_neg (h 39 (by decide)), if_neg (h 40 (by decide)), if_neg (h 41 (by decide)), if_neg (h 42 (by decide)), if_neg (h 43 (by decide)), if_neg (h 44 (by decide)), if_neg (h 46 (by decide)), if_neg (h 51 (by decide)), if_neg (h 52 (by decide)), if_neg (h 54 (by decide)), if_neg (h 57 (by decide)), if_neg (h 58 (by decide)), if_neg (h 59 (by decide)), if_neg (h 60 (by decide)), if_neg (h 61 (by decide)), if_neg (h 62 (by decide)), if_neg (h 63 (by decide)), if_neg (h 66 (by decide)), if_neg (h 68 (by decide)), if_neg (h 69 (by decide)), if_neg (h 71 (by decide)), if_neg (h 74 (by decide))]) i ⟨e33, e37, e38⟩
      refine W_gskip hA rfl rfl rfl 125 rfl (by decide) (fun a hA => ?_)
      refine W_gskip hA rfl rfl rfl 126 rfl (by decide) (fun a hA => ?_)
      refine W_gskip hA rfl rfl rfl 127 rfl (by decide) (fun a hA => ?_)
      refine W_val hA rfl 128 rfl (by decide) _ _ (R_pick hA rfl rfl rfl _) (fun a hA => ?_)
      refine W_nil ?_
      refine then_nrm ?_
      show Code.wp Try.prog _ _ _ _
      refine wp_cond_split (hA.ev (x := .tmp 128) rfl) (fun c11 => ?_) (fun c11 => ?_)
      · skip
        refine wp_region_list ?_
        refine W_val hA rfl 129 rfl (by decide) _ _ (R_fa hA rfl rfl (fun w => fa_hart _ 2 33 (by decide) rfl w) _) (fun a hA => ?_)
        refine W_stPx hA rfl rfl rfl rfl rfl HH (fun w50 x33_38 hx33_38 hT HN => ?_)
        replace HB := HB.trans (hT.bel _ gHH)
        replace RR := hT.hart RR (by omega)
        replace HH := HN
        clear hT HN
        refine W_nil ?_
        refine then_nrm ?_
        show Code.wp Try.prog _ _ _ _
        refine wp_seq ?_
        refine wp_seq ?_
        refine wp_region_list ?_
        refine W_val hA rfl 130 rfl (by decide) _ _ (R_fa hA rfl rfl (fun w => fa_hart _ 2 33 (by decide) rfl w) _) (fun a hA => ?_)
        refine W_val hA rfl 131 rfl (by decide) _ _ (R_ld hA rfl rfl ag_u8 (show _ = some (Value.int .u8 (x33_38)) from HH.p)) (fun a hA => ?_)
        refine W_val hA rfl 132 rfl (by decide) _ _ (R_eqlB hA rfl rfl rfl _) (fun a hA => ?_)
        refine W_nil ?_
        refine then_nrm ?_
        show Code.wp Try.prog _ _ _ _
        refine wp_cond_split (hA.ev (x := .tmp 132) rfl) (fun c12 => ?_) (fun c12 => ?_)
        · skip
          refine wp_region_list ?_
          refine W_val hA rfl 133 rfl (by decide) _ _ (R_fa hA rfl rfl (fun w => fa_hart _ 3 34 (by decide) rfl w) _) (fun a hA => ?_)
          refine W_stVx hA rfl rfl rfl rfl rfl HH (fun w51 x34_39 hx34_39 hT HN => ?_)
          replace HB := HB.trans (hT.bel _ gHH)
          replace RR := hT.hart RR (by omega)
          replace HH := HN
          clear hT HN
          refine W_nil ?_
          refine then_nrm ?_
          show Code.wp Try.prog _ _ _ _
          refine wp_seq ?_
          refine wp_region_list ?_
          refine W_val hA rfl 134 rfl (by decide) _ _ (R_fa hA rfl rfl (fun w => fa_hart _ 6 37 (by decide) rfl w) _) (fun a hA => ?_)
          refine W_val hA rfl 135 rfl (by decide) _ _ (R_ld hA rfl rfl ag_u64 (show _ = some (Value.int .u64 (t.n 37)) from HH.u 37 (by decide) (by decide))) (fun a hA => ?_)
          refine W_val hA rfl 136 rfl (by decide) _ _ (R_andNot hA rfl rfl rfl _) (fun a hA => ?_)
          refine W_val hA rfl 137 rfl (by decide) _ _ (R_and hA rfl rfl rfl _) (fun a hA => ?_)
          refine W_val hA rfl 138 rfl (by decide) _ _ (R_fa hA rfl rfl (fun w => fa_hart _ 6 37 (by decide) rfl w) _) (fun a hA => ?_)
          refine W_stUx hA rfl rfl rfl rfl rfl HH (by decide) (by decide) (fun w52 x37_40 hx37_40 hT HN => ?_)
          replace HB := HB.trans (hT.bel _ gHH)
          replace RR := hT.hart RR (by omega)
          replace HH := HN
          clear hT HN
          refine W_nil ?_
          refine then_nrm ?_
          show Code.wp Try.prog _ _ _ _
          refine wp_seq ?_
          refine wp_seq ?_
          refine wp_region_list ?_
          refine W_val hA rfl 139 rfl (by decide) _ _ (R_fa hA rfl rfl (fun w => fa_hart _ 5 36 (by decide) rfl w) _) (fun a hA => ?_)
          refine W_val hA rfl 140 rfl (by decide) _ _ (R_ld hA rfl rfl ag_bool (show _ = some (Value.bool t.held) from HH.hd)) (fun a hA => ?_)
          refine W_val hA rfl 141 rfl (by decide) _ _ (R_not hA rfl rfl _) (fun a hA => ?_)
          refine W_nil ?_
          refine then_nrm ?_
          show Code.wp Try.prog _ _ _ _
          refine wp_cond_split (hA.ev (x := .tmp 141) rfl) (fun c13 => ?_) (fun c13 => ?_)
          · skip
            refine wp_region_list ?_
            refine W_val hA rfl 142 rfl (by decide) _ _ (R_fa hA rfl rfl (fun w => fa_hart _ 6 37 (by decide) rfl w) _) (fun a hA => ?_)
            refine W_stUx hA rfl rfl rfl rfl rfl HH (by decide) (by decide) (fun w53 x37_41 hx37_41 hT HN => ?_)
            replace HB := HB.trans (hT.bel _ gHH)
            replace RR := hT.hart RR (by omega)
            replace HH := HN
            clear hT HN
            refine W_nil ?_
            refine then_nrm ?_
            show Code.wp Try.prog _ _ _ _
            refine wp_seq ?_
            refine wp_region_list ?_
            refine W_val hA rfl 143 rfl (by decide) _ _ (R_row hA rfl rfl HH Try.underlying25 (size_hart.trans (by rw [varr_size]))) (fun a hA => ?_)
            refine W_cpH hA rfl rfl rfl rfl rfl RR (fun w54 hT HN => ?_)
            replace HB := HB.trans (hT.bel _ gRR)
            replace HH := hT.hart HH (by omega)
            replace RR := HN
            clear hT HN
            refine W_nil ?_
            refine then_nrm ?_
            show Code.wp Try.prog _ _ _ _
            refine wp_ret ?_
            cases c11
          refine wp_skip ?_
          refine then_nrm ?_
          show Code.wp Try.prog _ _ _ _
          refine wp_seq ?_
          refine wp_region_list ?_
          refine W_val hA rfl 143 rfl (by decide) _ _ (R_row hA rfl rfl HH Try.underlying25 (size_hart.trans (by rw [varr_size]))) (fun a hA => ?_)
          refine W_cpH hA rfl rfl rfl rfl rfl RR (fun w55 hT HN => ?_)
          replace HB := HB.trans (hT.bel _ gRR)
          replace HH := hT.hart HH (by omega)
          replace RR := HN
          clear hT HN
          refine W_nil ?_
          refine then_nrm ?_
          show Code.wp Try.prog _ _ _ _
          refine wp_ret ?_
          cases c11
        refine wp_skip ?_
        refine then_nrm ?_
        show Code.wp Try.prog _ _ _ _
        refine wp_seq ?_
        refine wp_region_list ?_
        refine W_val hA rfl 134 rfl (by decide) _ _ (R_fa hA rfl rfl (fun w => fa_hart _ 6 37 (by decide) rfl w) _) (fun a hA => ?_)
        refine W_val hA rfl 135 rfl (by decide) _ _ (R_ld hA rfl rfl ag_u64 (show _ = some (Value.int .u64 (t.n 37)) from HH.u 37 (by decide) (by decide))) (fun a hA => ?_)
        refine W_val hA rfl 136 rfl (by decide) _ _ (R_andNot hA rfl rfl rfl _) (fun a hA => ?_)
        refine W_val hA rfl 137 rfl (by decide) _ _ (R_and hA rfl rfl rfl _) (fun a hA => ?_)
        refine W_val hA rfl 138 rfl (by decide) _ _ (R_fa hA rfl rfl (fun w => fa_hart _ 6 37 (by decide) rfl w) _) (fun a hA => ?_)
        refine W_stUx hA rfl rfl rfl rfl rfl HH (by decide) (by decide) (fun w56 x37_42 hx37_42 hT HN => ?_)
        replace HB := HB.trans (hT.bel _ gHH)
        replace RR := hT.hart RR (by omega)
        replace HH := HN
        clear hT HN
        refine W_nil ?_
        refine then_nrm ?_
        show Code.wp Try.prog _ _ _ _
        refine wp_seq ?_
        refine wp_seq ?_
        refine wp_region_list ?_
        refine W_val hA rfl 139 rfl (by decide) _ _ (R_fa hA rfl rfl (fun w => fa_hart _ 5 36 (by decide) rfl w) _) (fun a hA => ?_)
        refine W_val hA rfl 140 rfl (by decide) _ _ (R_ld hA rfl rfl ag_bool (show _ = some (Value.bool t.held) from HH.hd)) (fun a hA => ?_)
        refine W_val hA rfl 141 rfl (by decide) _ _ (R_not hA rfl rfl _) (fun a hA => ?_)
        refine W_nil ?_
        refine then_nrm ?_
        show Code.wp Try.prog _ _ _ _
        refine wp_cond_split (hA.ev (x := .tmp 141) rfl) (fun c14 => ?_) (fun c14 => ?_)
        · skip
          refine wp_region_list ?_
          refine W_val hA rfl 142 rfl (by decide) _ _ (R_fa hA rfl rfl (fun w => fa_hart _ 6 37 (by decide) rfl w) _) (fun a hA => ?_)
          refine W_stUx hA rfl rfl rfl rfl rfl HH (by decide) (by decide) (fun w57 x37_43 hx37_43 hT HN => ?_)
          replace HB := HB.trans (hT.bel _ gHH)
          replace RR := hT.hart RR (by omega)
          replace HH := HN
          clear hT HN
          refine W_nil ?_
          refine then_nrm ?_
          show Code.wp Try.prog _ _ _ _
          refine wp_seq ?_
          refine wp_region_list ?_
          refine W_val hA rfl 143 rfl (by decide) _ _ (R_row hA rfl rfl HH Try.underlying25 (size_hart.trans (by rw [varr_size]))) (fun a hA => ?_)
          refine W_cpH hA rfl rfl rfl rfl rfl RR (fun w58 hT HN => ?_)
          replace HB := HB.trans (hT.bel _ gRR)
          replace HH := hT.hart HH (by omega)
          replace RR := HN
          clear hT HN
          refine W_nil ?_
          refine then_nrm ?_
          show Code.wp Try.prog _ _ _ _
          refine wp_ret ?_
          cases c11
        refine wp_skip ?_
        refine then_nrm ?_
        show Code.wp Try.prog _ _ _ _
        refine wp_seq ?_
        refine wp_region_list ?_
        refine W_val hA rfl 143 rfl (by decide) _ _ (R_row hA rfl rfl HH Try.underlying25 (size_hart.trans (by rw [varr_size]))) (fun a hA => ?_)
        refine W_cpH hA rfl rfl rfl rfl rfl RR (fun w59 hT HN => ?_)
        replace HB := HB.trans (hT.bel _ gRR)
        replace HH := hT.hart HH (by omega)
        replace RR := HN
        clear hT HN
        refine W_nil ?_
        refine then_nrm ?_
        show Code.wp Try.prog _ _ _ _
        refine wp_ret ?_
        cases c11
      refine wp_skip ?_
      refine then_nrm ?_
      show Code.wp Try.prog _ _ _ _
      refine wp_seq ?_
      refine wp_seq ?_
      refine wp_region_list ?_
      refine W_val hA rfl 130 rfl (by decide) _ _ (R_fa hA rfl rfl (fun w => fa_hart _ 2 33 (by decide) rfl w) _) (fun a hA => ?_)
      refine W_val hA rfl 131 rfl (by decide) _ _ (R_ld hA rfl rfl ag_u8 (show _ = some (Value.int .u8 (t.n 33)) from HH.p)) (fun a hA => ?_)
      refine W_val hA rfl 132 rfl (by decide) _ _ (R_eqlB hA rfl rfl rfl _) (fun a hA => ?_)
      refine W_nil ?_
      refine then_nrm ?_
      show Code.wp Try.prog _ _ _ _
      refine wp_cond_split (hA.ev (x := .tmp 132) rfl) (fun c15 => ?_) (fun c15 => ?_)
      · skip
        refine wp_region_list ?_
        refine W_val hA rfl 133 rfl (by decide) _ _ (R_fa hA rfl rfl (fun w => fa_hart _ 3 34 (by decide) rfl w) _) (fun a hA => ?_)
        refine W_stVx hA rfl rfl rfl rfl rfl HH (fun w60 x34_44 hx34_44 hT HN => ?_)
        replace HB := HB.trans (hT.bel _ gHH)
        replace RR := hT.hart RR (by omega)
        replace HH := HN
        clear hT HN
        refine W_nil ?_
        refine then_nrm ?_
        show Code.wp Try.prog _ _ _ _
        refine wp_seq ?_
        refine wp_region_list ?_
        refine W_val hA rfl 134 rfl (by decide) _ _ (R_fa hA rfl rfl (fun w => fa_hart _ 6 37 (by decide) rfl w) _) (fun a hA => ?_)
        refine W_val hA rfl 135 rfl (by decide) _ _ (R_ld hA rfl rfl ag_u64 (show _ = some (Value.int .u64 (t.n 37)) from HH.u 37 (by decide) (by decide))) (fun a hA => ?_)
        refine W_val hA rfl 136 rfl (by decide) _ _ (R_andNot hA rfl rfl rfl _) (fun a hA => ?_)
        refine W_val hA rfl 137 rfl (by decide) _ _ (R_and hA rfl rfl rfl _) (fun a hA => ?_)
        refine W_val hA rfl 138 rfl (by decide) _ _ (R_fa hA rfl rfl (fun w => fa_hart _ 6 37 (by decide) rfl w) _) (fun a hA => ?_)
        refine W_stUx hA rfl rfl rfl rfl rfl HH (by decide) (by decide) (fun w61 x37_45 hx37_45 hT HN => ?_)
        replace HB := HB.trans (hT.bel _ gHH)
        replace RR := hT.hart RR (by omega)
        replace HH := HN
        clear hT HN
        refine W_nil ?_
        refine then_nrm ?_
        show Code.wp Try.prog _ _ _ _
        refine wp_seq ?_
        refine wp_seq ?_
        refine wp_region_list ?_
        refine W_val hA rfl 139 rfl (by decide) _ _ (R_fa hA rfl rfl (fun w => fa_hart _ 5 36 (by decide) rfl w) _) (fun a hA => ?_)
        refine W_val hA rfl 140 rfl (by decide) _ _ (R_ld hA rfl rfl ag_bool (show _ = some (Value.bool t.held) from HH.hd)) (fun a hA => ?_)
        refine W_val hA rfl 141 rfl (by decide) _ _ (R_not hA rfl rfl _) (fun a hA => ?_)
        refine W_nil ?_
        refine then_nrm ?_
        show Code.wp Try.prog _ _ _ _
        refine wp_cond_split (hA.ev (x := .tmp 141) rfl) (fun c16 => ?_) (fun c16 => ?_)
        · skip
          refine wp_region_list ?_
          refine W_val hA rfl 142 rfl (by decide) _ _ (R_fa hA rfl rfl (fun w => fa_hart _ 6 37 (by decide) rfl w) _) (fun a hA => ?_)
          refine W_stUx hA rfl rfl rfl rfl rfl HH (by decide) (by decide) (fun w62 x37_46 hx37_46 hT HN => ?_)
          replace HB := HB.trans (hT.bel _ gHH)
          replace RR := hT.hart RR (by omega)
          replace HH := HN
          clear hT HN
          refine W_nil ?_
          refine then_nrm ?_
          show Code.wp Try.prog _ _ _ _
          refine wp_seq ?_
          refine wp_region_list ?_
          refine W_val hA rfl 143 rfl (by decide) _ _ (R_row hA rfl rfl HH Try.underlying25 (size_hart.trans (by rw [varr_size]))) (fun a hA => ?_)
          refine W_cpH hA rfl rfl rfl rfl rfl RR (fun w63 hT HN => ?_)
          replace HB := HB.trans (hT.bel _ gRR)
          replace HH := hT.hart HH (by omega)
          replace RR := HN
          clear hT HN
          refine W_nil ?_
          refine then_nrm ?_
          show Code.wp Try.prog _ _ _ _
          refine wp_ret ?_
          refine ret_hart (j := 2) (by kernel_rfl) hA rfl RR ?_
          refine ⟨congrArg (fun s : HS => Ending.returned (hartV s)) ?_, HB⟩
          refine fixZ_eq ?_ rfl rfl (fun i => ?_)
          · show x34_44 = (t.v && (t.n 33 != 3))
            rw [hx34_44, show (t.n 33 != 3) = false from by simpa using c15, Bool.and_false]
          by_cases e38 : i = 38
          · subst e38
            show x38_2 = _
            have q : noModeB x38_1 = true := by rw [noMode_bits, c1]; simpa using c2
            rw [hx38_1] at q
            rw [hx38_2, hx38_1]
            show _ = (if noModeB (maskZ 0 (t.n 38)) = true then bits .andNot .u64 (maskZ 0 (t.n 38)) 6144 else maskZ 0 (t.n 38))
            rw [show noModeB (maskZ 0 (t.n 38)) = true from q]
            exact mode_clr q
          by_cases e33 : i = 33
          · subst e33
            have p : t.n 33 = 1 ∨ t.n 33 = 3 := .inl (by simpa using c3)
            show _ = (if t.n 33 = 1 ∨ t.n 33 = 3 then t.n 33 else 0)
            rw [if_pos p]
            rfl
          by_cases e37 : i = 37
          · subst e37
            show x37_46 = _
            rw [hx37_46]
            show _ = (if t.held = true then bits .and .u64 (t.n 37) 72057594037927928 else 0)
            rw [show t.held = false by simpa using c16]; rfl
          exact fixD ok hx0_26 hx1_25 hx39_3 hx40_4 hx41_5 hx42_6 hx43_7 hx44_8 hx46_9 hx51_10 hx52_11 hx54_12 hx57_13 hx58_14 hx59_15 hx60_16 hx61_17 hx62_18 hx63_19 hx66_20 hx68_21 hx69_22 hx71_23 hx74_24 (fun i h => by simp only [HS.put, HS.putV, if_neg (h 0 (by decide)), if_neg (h 1 (by decide)), if_neg (h 37 (by decide)), if_neg (h 38 (by decide)), if_neg (h 39 (by decide)), if_neg (h 40 (by decide)), if_neg (h 41 (by decide)), if_neg (h 42 (by decide)), if_neg (h 43 (by decide)), if_neg (h 44 (by decide)), if_neg (h 46 (by decide)), if_neg (h 51 (by decide)), if_neg (h 52 (by decide)), if_neg (h 54 (by decide)), if_neg (h 57 (by decide)), if_neg (h 58 (by decide)), if_neg (h 59 (by decide)), if_neg (h 60 (by decide)), if_neg (h 61 (by decide)), if_neg (h 62 (by decide)), if_neg (h 63 (by decide)), if_neg (h 66 (by decide)), if_neg (h 68 (by decide)), if_neg (h 69 (by decide)), if_neg (h 71 (by decide)), if_neg (h 74 (by decide))]) i ⟨e33, e37, e38⟩
        refine wp_skip ?_
        refine then_nrm ?_
        show Code.wp Try.prog _ _ _ _
        refine wp_seq ?_
        refine wp_region_list ?_
        refine W_val hA rfl 143 rfl (by decide) _ _ (R_row hA rfl rfl HH Try.underlying25 (size_hart.trans (by rw [varr_size]))) (fun a hA => ?_)
        refine W_cpH hA rfl rfl rfl rfl rfl RR (fun w64 hT HN => ?_)
        replace HB := HB.trans (hT.bel _ gRR)
        replace HH := hT.hart HH (by omega)
        replace RR := HN
        clear hT HN
        refine W_nil ?_
        refine then_nrm ?_
        show Code.wp Try.prog _ _ _ _
        refine wp_ret ?_
        refine ret_hart (j := 2) (by kernel_rfl) hA rfl RR ?_
        refine ⟨congrArg (fun s : HS => Ending.returned (hartV s)) ?_, HB⟩
        refine fixZ_eq ?_ rfl rfl (fun i => ?_)
        · show x34_44 = (t.v && (t.n 33 != 3))
          rw [hx34_44, show (t.n 33 != 3) = false from by simpa using c15, Bool.and_false]
        by_cases e38 : i = 38
        · subst e38
          show x38_2 = _
          have q : noModeB x38_1 = true := by rw [noMode_bits, c1]; simpa using c2
          rw [hx38_1] at q
          rw [hx38_2, hx38_1]
          show _ = (if noModeB (maskZ 0 (t.n 38)) = true then bits .andNot .u64 (maskZ 0 (t.n 38)) 6144 else maskZ 0 (t.n 38))
          rw [show noModeB (maskZ 0 (t.n 38)) = true from q]
          exact mode_clr q
        by_cases e33 : i = 33
        · subst e33
          have p : t.n 33 = 1 ∨ t.n 33 = 3 := .inl (by simpa using c3)
          show _ = (if t.n 33 = 1 ∨ t.n 33 = 3 then t.n 33 else 0)
          rw [if_pos p]
          rfl
        by_cases e37 : i = 37
        · subst e37
          show x37_45 = _
          rw [hx37_45]
          show _ = (if t.held = true then bits .and .u64 (t.n 37) 72057594037927928 else 0)
          rw [show t.held = true by simpa using c16, if_pos rfl]
          exact res_and _
        exact fixD ok hx0_26 hx1_25 hx39_3 hx40_4 hx41_5 hx42_6 hx43_7 hx44_8 hx46_9 hx51_10 hx52_11 hx54_12 hx57_13 hx58_14 hx59_15 hx60_16 hx61_17 hx62_18 hx63_19 hx66_20 hx68_21 hx69_22 hx71_23 hx74_24 (fun i h => by simp only [HS.put, HS.putV, if_neg (h 0 (by decide)), if_neg (h 1 (by decide)), if_neg (h 37 (by decide)), if_neg (h 38 (by decide)), if_neg (h 39 (by decide)), if_neg (h 40 (by decide)), if_neg (h 41 (by decide)), if_neg (h 42 (by decide)), if_neg (h 43 (by decide)), if_neg (h 44 (by decide)), if_neg (h 46 (by decide)), if_neg (h 51 (by decide)), if_neg (h 52 (by decide)), if_neg (h 54 (by decide)), if_neg (h 57 (by decide)), if_neg (h 58 (by decide)), if_neg (h 59 (by decide)), if_neg (h 60 (by decide)), if_neg (h 61 (by decide)), if_neg (h 62 (by decide)), if_neg (h 63 (by decide)), if_neg (h 66 (by decide)), if_neg (h 68 (by decide)), if_neg (h 69 (by decide)), if_neg (h 71 (by decide)), if_neg (h 74 (by decide))]) i ⟨e33, e37, e38⟩
      refine wp_skip ?_
      refine then_nrm ?_
      show Code.wp Try.prog _ _ _ _
      refine wp_seq ?_
      refine wp_region_list ?_
      refine W_val hA rfl 134 rfl (by decide) _ _ (R_fa hA rfl rfl (fun w => fa_hart _ 6 37 (by decide) rfl w) _) (fun a hA => ?_)
      refine W_val hA rfl 135 rfl (by decide) _ _ (R_ld hA rfl rfl ag_u64 (show _ = some (Value.int .u64 (t.n 37)) from HH.u 37 (by decide) (by decide))) (fun a hA => ?_)
      refine W_val hA rfl 136 rfl (by decide) _ _ (R_andNot hA rfl rfl rfl _) (fun a hA => ?_)
      refine W_val hA rfl 137 rfl (by decide) _ _ (R_and hA rfl rfl rfl _) (fun a hA => ?_)
      refine W_val hA rfl 138 rfl (by decide) _ _ (R_fa hA rfl rfl (fun w => fa_hart _ 6 37 (by decide) rfl w) _) (fun a hA => ?_)
      refine W_stUx hA rfl rfl rfl rfl rfl HH (by decide) (by decide) (fun w65 x37_47 hx37_47 hT HN => ?_)
      replace HB := HB.trans (hT.bel _ gHH)
      replace RR := hT.hart RR (by omega)
      replace HH := HN
      clear hT HN
      refine W_nil ?_
      refine then_nrm ?_
      show Code.wp Try.prog _ _ _ _
      refine wp_seq ?_
      refine wp_seq ?_
      refine wp_region_list ?_
      refine W_val hA rfl 139 rfl (by decide) _ _ (R_fa hA rfl rfl (fun w => fa_hart _ 5 36 (by decide) rfl w) _) (fun a hA => ?_)
      refine W_val hA rfl 140 rfl (by decide) _ _ (R_ld hA rfl rfl ag_bool (show _ = some (Value.bool t.held) from HH.hd)) (fun a hA => ?_)
      refine W_val hA rfl 141 rfl (by decide) _ _ (R_not hA rfl rfl _) (fun a hA => ?_)
      refine W_nil ?_
      refine then_nrm ?_
      show Code.wp Try.prog _ _ _ _
      refine wp_cond_split (hA.ev (x := .tmp 141) rfl) (fun c17 => ?_) (fun c17 => ?_)
      · skip
        refine wp_region_list ?_
        refine W_val hA rfl 142 rfl (by decide) _ _ (R_fa hA rfl rfl (fun w => fa_hart _ 6 37 (by decide) rfl w) _) (fun a hA => ?_)
        refine W_stUx hA rfl rfl rfl rfl rfl HH (by decide) (by decide) (fun w66 x37_48 hx37_48 hT HN => ?_)
        replace HB := HB.trans (hT.bel _ gHH)
        replace RR := hT.hart RR (by omega)
        replace HH := HN
        clear hT HN
        refine W_nil ?_
        refine then_nrm ?_
        show Code.wp Try.prog _ _ _ _
        refine wp_seq ?_
        refine wp_region_list ?_
        refine W_val hA rfl 143 rfl (by decide) _ _ (R_row hA rfl rfl HH Try.underlying25 (size_hart.trans (by rw [varr_size]))) (fun a hA => ?_)
        refine W_cpH hA rfl rfl rfl rfl rfl RR (fun w67 hT HN => ?_)
        replace HB := HB.trans (hT.bel _ gRR)
        replace HH := hT.hart HH (by omega)
        replace RR := HN
        clear hT HN
        refine W_nil ?_
        refine then_nrm ?_
        show Code.wp Try.prog _ _ _ _
        refine wp_ret ?_
        refine ret_hart (j := 2) (by kernel_rfl) hA rfl RR ?_
        refine ⟨congrArg (fun s : HS => Ending.returned (hartV s)) ?_, HB⟩
        refine fixZ_eq ?_ rfl rfl (fun i => ?_)
        · show t.v = (t.v && (t.n 33 != 3))
          rw [show (t.n 33 != 3) = true from by simpa using c15, Bool.and_true]
        by_cases e38 : i = 38
        · subst e38
          show x38_2 = _
          have q : noModeB x38_1 = true := by rw [noMode_bits, c1]; simpa using c2
          rw [hx38_1] at q
          rw [hx38_2, hx38_1]
          show _ = (if noModeB (maskZ 0 (t.n 38)) = true then bits .andNot .u64 (maskZ 0 (t.n 38)) 6144 else maskZ 0 (t.n 38))
          rw [show noModeB (maskZ 0 (t.n 38)) = true from q]
          exact mode_clr q
        by_cases e33 : i = 33
        · subst e33
          have p : t.n 33 = 1 ∨ t.n 33 = 3 := .inl (by simpa using c3)
          show _ = (if t.n 33 = 1 ∨ t.n 33 = 3 then t.n 33 else 0)
          rw [if_pos p]
          rfl
        by_cases e37 : i = 37
        · subst e37
          show x37_48 = _
          rw [hx37_48]
          show _ = (if t.held = true then bits .and .u64 (t.n 37) 72057594037927928 else 0)
          rw [show t.held = false by simpa using c17]; rfl
        exact fixD ok hx0_26 hx1_25 hx39_3 hx40_4 hx41_5 hx42_6 hx43_7 hx44_8 hx46_9 hx51_10 hx52_11 hx54_12 hx57_13 hx58_14 hx59_15 hx60_16 hx61_17 hx62_18 hx63_19 hx66_20 hx68_21 hx69_22 hx71_23 hx74_24 (fun i h => by simp only [HS.put, HS.putV, if_neg (h 0 (by decide)), if_neg (h 1 (by decide)), if_neg (h 37 (by decide)), if_neg (h 38 (by decide)), if_neg (h 39 (by decide)), if_neg (h 40 (by decide)), if_neg (h 41 (by decide)), if_neg (h 42 (by decide)), if_neg (h 43 (by decide)), if_neg (h 44 (by decide)), if_neg (h 46 (by decide)), if_neg (h 51 (by decide)), if_neg (h 52 (by decide)), if_neg (h 54 (by decide)), if_neg (h 57 (by decide)), if_neg (h 58 (by decide)), if_neg (h 59 (by decide)), if_neg (h 60 (by decide)), if_neg (h 61 (by decide)), if_neg (h 62 (by decide)), if_neg (h 63 (by decide)), if_neg (h 66 (by decide)), if_neg (h 68 (by decide)), if_neg (h 69 (by decide)), if_neg (h 71 (by decide)), if_neg (h 74 (by decide))]) i ⟨e33, e37, e38⟩
      refine wp_skip ?_
      refine then_nrm ?_
      show Code.wp Try.prog _ _ _ _
      refine wp_seq ?_
      refine wp_region_list ?_
      refine W_val hA rfl 143 rfl (by decide) _ _ (R_row hA rfl rfl HH Try.underlying25 (size_hart.trans (by rw [varr_size]))) (fun a hA => ?_)
      refine W_cpH hA rfl rfl rfl rfl rfl RR (fun w68 hT HN => ?_)
      replace HB := HB.trans (hT.bel _ gRR)
      replace HH := hT.hart HH (by omega)
      replace RR := HN
      clear hT HN
      refine W_nil ?_
      refine then_nrm ?_
      show Code.wp Try.prog _ _ _ _
      refine wp_ret ?_
      refine ret_hart (j := 2) (by kernel_rfl) hA rfl RR ?_
      refine ⟨congrArg (fun s : HS => Ending.returned (hartV s)) ?_, HB⟩
      refine fixZ_eq ?_ rfl rfl (fun i => ?_)
      · show t.v = (t.v && (t.n 33 != 3))
        rw [show (t.n 33 != 3) = true from by simpa using c15, Bool.and_true]
      by_cases e38 : i = 38
      · subst e38
        show x38_2 = _
        have q : noModeB x38_1 = true := by rw [noMode_bits, c1]; simpa using c2
        rw [hx38_1] at q
        rw [hx38_2, hx38_1]
        show _ = (if noModeB (maskZ 0 (t.n 38)) = true then bits .andNot .u64 (maskZ 0 (t.n 38)) 6144 else maskZ 0 (t.n 38))
        rw [show noModeB (maskZ 0 (t.n 38)) = true from q]
        exact mode_clr q
      by_cases e33 : i = 33
      · subst e33
        have p : t.n 33 = 1 ∨ t.n 33 = 3 := .inl (by simpa using c3)
        show _ = (if t.n 33 = 1 ∨ t.n 33 = 3 then t.n 33 else 0)
        rw [if_pos p]
        rfl
      by_cases e37 : i = 37
      · subst e37
        show x37_47 = _
        rw [hx37_47]
        show _ = (if t.held = true then bits .and .u64 (t.n 37) 72057594037927928 else 0)
        rw [show t.held = true by simpa using c17, if_pos rfl]
        exact res_and _
      exact fixD ok hx0_26 hx1_25 hx39_3 hx40_4 hx41_5 hx42_6 hx43_7 hx44_8 hx46_9 hx51_10 hx52_11 hx54_12 hx57_13 hx58_14 hx59_15 hx60_16 hx61_17 hx62_18 hx63_19 hx66_20 hx68_21 hx69_22 hx71_23 hx74_24 (fun i h => by simp only [HS.put, HS.putV, if_neg (h 0 (by decide)), if_neg (h 1 (by decide)), if_neg (h 37 (by decide)), if_neg (h 38 (by decide)), if_neg (h 39 (by decide)), if_neg (h 40 (by decide)), if_neg (h 41 (by decide)), if_neg (h 42 (by decide)), if_neg (h 43 (by decide)), if_neg (h 44 (by decide)), if_neg (h 46 (by decide)), if_neg (h 51 (by decide)), if_neg (h 52 (by decide)), if_neg (h 54 (by decide)), if_neg (h 57 (by decide)), if_neg (h 58 (by decide)), if_neg (h 59 (by decide)), if_neg (h 60 (by decide)), if_neg (h 61 (by decide)), if_neg (h 62 (by decide)), if_neg (h 63 (by decide)), if_neg (h 66 (by decide)), if_neg (h 68 (by decide)), if_neg (h 69 (by decide)), if_neg (h 71 (by decide)), if_neg (h 74 (by decide))]) i ⟨e33, e37, e38⟩
    refine wp_skip ?_
    refine then_nrm ?_
    show Code.wp Try.prog _ _ _ _
    refine wp_seq ?_
    refine wp_region_list ?_
    refine W_val hA rfl 21 rfl (by decide) _ _ (R_fa hA rfl rfl (fun w => fa_hart _ 8 39 (by decide) rfl w) _) (fun a hA => ?_)
    refine W_val hA rfl 22 rfl (by decide) _ _ (R_ld hA rfl rfl ag_u64 (show _ = some (Value.int .u64 (t.n 39)) from HH.u 39 (by decide) (by decide))) (fun a hA => ?_)
    refine W_val hA rfl 23 rfl (by decide) _ _ (R_and hA rfl rfl rfl _) (fun a hA => ?_)
    refine W_val hA rfl 24 rfl (by decide) _ _ (R_fa hA rfl rfl (fun w => fa_hart _ 8 39 (by decide) rfl w) _) (fun a hA => ?_)
    refine W_stUx hA rfl rfl rfl rfl rfl HH (by decide) (by decide) (fun w69 x39_49 hx39_49 hT HN => ?_)
    replace HB := HB.trans (hT.bel _ gHH)
    replace RR := hT.hart RR (by omega)
    replace HH := HN
    clear hT HN
    refine W_nil ?_
    refine then_nrm ?_
    show Code.wp Try.prog _ _ _ _
    refine wp_seq ?_
    refine wp_region_list ?_
    refine W_val hA rfl 25 rfl (by decide) _ _ (R_fa hA rfl rfl (fun w => fa_hart _ 9 40 (by decide) rfl w) _) (fun a hA => ?_)
    refine W_val hA rfl 26 rfl (by decide) _ _ (R_ld hA rfl rfl ag_u64 (show _ = some (Value.int .u64 (t.n 40)) from HH.u 40 (by decide) (by decide))) (fun a hA => ?_)
    refine W_val hA rfl 27 rfl (by decide) _ _ (R_and hA rfl rfl rfl _) (fun a hA => ?_)
    refine W_val hA rfl 28 rfl (by decide) _ _ (R_or hA rfl rfl rfl _) (fun a hA => ?_)
    refine W_val hA rfl 29 rfl (by decide) _ _ (R_fa hA rfl rfl (fun w => fa_hart _ 9 40 (by decide) rfl w) _) (fun a hA => ?_)
    refine W_stUx hA rfl rfl rfl rfl rfl HH (by decide) (by decide) (fun w70 x40_50 hx40_50 hT HN => ?_)
    replace HB := HB.trans (hT.bel _ gHH)
    replace RR := hT.hart RR (by omega)
    replace HH := HN
    clear hT HN
    refine W_nil ?_
    refine then_nrm ?_
    show Code.wp Try.prog _ _ _ _
    refine wp_seq ?_
    refine wp_region_list ?_
    refine W_val hA rfl 30 rfl (by decide) _ _ (R_fa hA rfl rfl (fun w => fa_hart _ 10 41 (by decide) rfl w) _) (fun a hA => ?_)
    refine W_val hA rfl 31 rfl (by decide) _ _ (R_ld hA rfl rfl ag_u64 (show _ = some (Value.int .u64 (t.n 41)) from HH.u 41 (by decide) (by decide))) (fun a hA => ?_)
    refine W_val hA rfl 32 rfl (by decide) _ _ (R_and hA rfl rfl rfl _) (fun a hA => ?_)
    refine W_val hA rfl 33 rfl (by decide) _ _ (R_fa hA rfl rfl (fun w => fa_hart _ 10 41 (by decide) rfl w) _) (fun a hA => ?_)
    refine W_stUx hA rfl rfl rfl rfl rfl HH (by decide) (by decide) (fun w71 x41_51 hx41_51 hT HN => ?_)
    replace HB := HB.trans (hT.bel _ gHH)
    replace RR := hT.hart RR (by omega)
    replace HH := HN
    clear hT HN
    refine W_nil ?_
    refine then_nrm ?_
    show Code.wp Try.prog _ _ _ _
    refine wp_seq ?_
    refine wp_region_list ?_
    refine W_val hA rfl 34 rfl (by decide) _ _ (R_fa hA rfl rfl (fun w => fa_hart _ 11 42 (by decide) rfl w) _) (fun a hA => ?_)
    refine W_val hA rfl 35 rfl (by decide) _ _ (R_ld hA rfl rfl ag_u64 (show _ = some (Value.int .u64 (t.n 42)) from HH.u 42 (by decide) (by decide))) (fun a hA => ?_)
    refine W_val hA rfl 36 rfl (by decide) _ _ (R_and hA rfl rfl rfl _) (fun a hA => ?_)
    refine W_val hA rfl 37 rfl (by decide) _ _ (R_fa hA rfl rfl (fun w => fa_hart _ 11 42 (by decide) rfl w) _) (fun a hA => ?_)
    refine W_stUx hA rfl rfl rfl rfl rfl HH (by decide) (by decide) (fun w72 x42_52 hx42_52 hT HN => ?_)
    replace HB := HB.trans (hT.bel _ gHH)
    replace RR := hT.hart RR (by omega)
    replace HH := HN
    clear hT HN
    refine W_nil ?_
    refine then_nrm ?_
    show Code.wp Try.prog _ _ _ _
    refine wp_seq ?_
    refine wp_region_list ?_
    refine W_val hA rfl 38 rfl (by decide) _ _ (R_fa hA rfl rfl (fun w => fa_hart _ 12 43 (by decide) rfl w) _) (fun a hA => ?_)
    refine W_val hA rfl 39 rfl (by decide) _ _ (R_ld hA rfl rfl ag_u64 (show _ = some (Value.int .u64 (t.n 43)) from HH.u 43 (by decide) (by decide))) (fun a hA => ?_)
    refine W_val hA rfl 40 rfl (by decide) _ _ (R_andNot hA rfl rfl rfl _) (fun a hA => ?_)
    refine W_val hA rfl 41 rfl (by decide) _ _ (R_fa hA rfl rfl (fun w => fa_hart _ 12 43 (by decide) rfl w) _) (fun a hA => ?_)
    refine W_stUx hA rfl rfl rfl rfl rfl HH (by decide) (by decide) (fun w73 x43_53 hx43_53 hT HN => ?_)
    replace HB := HB.trans (hT.bel _ gHH)
    replace RR := hT.hart RR (by omega)
    replace HH := HN
    clear hT HN
    refine W_nil ?_
    refine then_nrm ?_
    show Code.wp Try.prog _ _ _ _
    refine wp_seq ?_
    refine wp_region_list ?_
    refine W_val hA rfl 42 rfl (by decide) _ _ (R_fa hA rfl rfl (fun w => fa_hart _ 13 44 (by decide) rfl w) _) (fun a hA => ?_)
    refine W_val hA rfl 43 rfl (by decide) _ _ (R_ld hA rfl rfl ag_u64 (show _ = some (Value.int .u64 (t.n 44)) from HH.u 44 (by decide) (by decide))) (fun a hA => ?_)
    refine W_val hA rfl 44 rfl (by decide) _ _ (R_and hA rfl rfl rfl _) (fun a hA => ?_)
    refine W_val hA rfl 45 rfl (by decide) _ _ (R_fa hA rfl rfl (fun w => fa_hart _ 13 44 (by decide) rfl w) _) (fun a hA => ?_)
    refine W_stUx hA rfl rfl rfl rfl rfl HH (by decide) (by decide) (fun w74 x44_54 hx44_54 hT HN => ?_)
    replace HB := HB.trans (hT.bel _ gHH)
    replace RR := hT.hart RR (by omega)
    replace HH := HN
    clear hT HN
    refine W_nil ?_
    refine then_nrm ?_
    show Code.wp Try.prog _ _ _ _
    refine wp_seq ?_
    refine wp_region_list ?_
    refine W_val hA rfl 46 rfl (by decide) _ _ (R_fa hA rfl rfl (fun w => fa_hart _ 15 46 (by decide) rfl w) _) (fun a hA => ?_)
    refine W_val hA rfl 47 rfl (by decide) _ _ (R_ld hA rfl rfl ag_u64 (show _ = some (Value.int .u64 (t.n 46)) from HH.u 46 (by decide) (by decide))) (fun a hA => ?_)
    refine W_val hA rfl 48 rfl (by decide) _ _ (R_andNot hA rfl rfl rfl _) (fun a hA => ?_)
    refine W_val hA rfl 49 rfl (by decide) _ _ (R_fa hA rfl rfl (fun w => fa_hart _ 15 46 (by decide) rfl w) _) (fun a hA => ?_)
    refine W_stUx hA rfl rfl rfl rfl rfl HH (by decide) (by decide) (fun w75 x46_55 hx46_55 hT HN => ?_)
    replace HB := HB.trans (hT.bel _ gHH)
    replace RR := hT.hart RR (by omega)
    replace HH := HN
    clear hT HN
    refine W_nil ?_
    refine then_nrm ?_
    show Code.wp Try.prog _ _ _ _
    refine wp_seq ?_
    refine wp_region_list ?_
    refine W_val hA rfl 50 rfl (by decide) _ _ (R_fa hA rfl rfl (fun w => fa_hart _ 20 51 (by decide) rfl w) _) (fun a hA => ?_)
    refine W_val hA rfl 51 rfl (by decide) _ _ (R_ld hA rfl rfl ag_u64 (show _ = some (Value.int .u64 (t.n 51)) from HH.u 51 (by decide) (by decide))) (fun a hA => ?_)
    refine W_val hA rfl 52 rfl (by decide) _ _ (R_andNot hA rfl rfl rfl _) (fun a hA => ?_)
    refine W_val hA rfl 53 rfl (by decide) _ _ (R_fa hA rfl rfl (fun w => fa_hart _ 20 51 (by decide) rfl w) _) (fun a hA => ?_)
    refine W_stUx hA rfl rfl rfl rfl rfl HH (by decide) (by decide) (fun w76 x51_56 hx51_56 hT HN => ?_)
    replace HB := HB.trans (hT.bel _ gHH)
    replace RR := hT.hart RR (by omega)
    replace HH := HN
    clear hT HN
    refine W_nil ?_
    refine then_nrm ?_
    show Code.wp Try.prog _ _ _ _
    refine wp_seq ?_
    refine wp_region_list ?_
    refine W_val hA rfl 54 rfl (by decide) _ _ (R_fa hA rfl rfl (fun w => fa_hart _ 21 52 (by decide) rfl w) _) (fun a hA => ?_)
    refine W_val hA rfl 55 rfl (by decide) _ _ (R_ld hA rfl rfl ag_u64 (show _ = some (Value.int .u64 (t.n 52)) from HH.u 52 (by decide) (by decide))) (fun a hA => ?_)
    refine W_val hA rfl 56 rfl (by decide) _ _ (R_and hA rfl rfl rfl _) (fun a hA => ?_)
    refine W_val hA rfl 57 rfl (by decide) _ _ (R_fa hA rfl rfl (fun w => fa_hart _ 21 52 (by decide) rfl w) _) (fun a hA => ?_)
    refine W_stUx hA rfl rfl rfl rfl rfl HH (by decide) (by decide) (fun w77 x52_57 hx52_57 hT HN => ?_)
    replace HB := HB.trans (hT.bel _ gHH)
    replace RR := hT.hart RR (by omega)
    replace HH := HN
    clear hT HN
    refine W_nil ?_
    refine then_nrm ?_
    show Code.wp Try.prog _ _ _ _
    refine wp_seq ?_
    refine wp_region_list ?_
    refine W_val hA rfl 58 rfl (by decide) _ _ (R_fa hA rfl rfl (fun w => fa_hart _ 23 54 (by decide) rfl w) _) (fun a hA => ?_)
    refine W_val hA rfl 59 rfl (by decide) _ _ (R_ld hA rfl rfl ag_u64 (show _ = some (Value.int .u64 (t.n 54)) from HH.u 54 (by decide) (by decide))) (fun a hA => ?_)
    refine W_val hA rfl 60 rfl (by decide) _ _ (R_andNot hA rfl rfl rfl _) (fun a hA => ?_)
    refine W_val hA rfl 61 rfl (by decide) _ _ (R_fa hA rfl rfl (fun w => fa_hart _ 23 54 (by decide) rfl w) _) (fun a hA => ?_)
    refine W_stUx hA rfl rfl rfl rfl rfl HH (by decide) (by decide) (fun w78 x54_58 hx54_58 hT HN => ?_)
    replace HB := HB.trans (hT.bel _ gHH)
    replace RR := hT.hart RR (by omega)
    replace HH := HN
    clear hT HN
    refine W_nil ?_
    refine then_nrm ?_
    show Code.wp Try.prog _ _ _ _
    refine wp_seq ?_
    refine still_tail 5 (by kernel_rfl) (fun w4 hw => ?_)
    replace HB := HB.trans (hw.mono HB.size)
    replace HH := HH.below hw
    replace RR := RR.below hw
    clear hw
    refine S_val hA rfl 62 rfl (by decide) _ (R_fa hA rfl rfl (fun w => fa_hart _ 26 57 (by decide) rfl w) _) (fun a hA => ?_)
    refine S_val hA rfl 63 rfl (by decide) _ (R_ld hA rfl rfl ag_u64 (show _ = some (Value.int .u64 (t.n 57)) from HH.u 57 (by decide) (by decide))) (fun a hA => ?_)
    refine S_call hA (by decide) (fun _ _ => by kernel_rfl) (args1 hA rfl) (dbut_any _ 18446744073709551615 (by kernel_rfl) _) (fun a hA => ?_)
    refine S_call hA (by decide) (fun _ _ => by kernel_rfl) (args2 hA rfl rfl) (dtable_any _ _ (ok.n _).1 _) (fun a hA => ?_)
    refine S_val hA rfl 66 rfl (by decide) _ (R_fa hA rfl rfl (fun w => fa_hart _ 26 57 (by decide) rfl w) _) (fun a hA => ?_)
    refine still_nil ?_
    refine W_stUx hA rfl rfl rfl rfl rfl HH (by decide) (by decide) (fun w79 x57_59 hx57_59 hT HN => ?_)
    replace HB := HB.trans (hT.bel _ gHH)
    replace RR := hT.hart RR (by omega)
    replace HH := HN
    clear hT HN
    refine W_nil ?_
    refine then_nrm ?_
    show Code.wp Try.prog _ _ _ _
    refine wp_seq ?_
    refine wp_region_list ?_
    refine W_val hA rfl 67 rfl (by decide) _ _ (R_fa hA rfl rfl (fun w => fa_hart _ 27 58 (by decide) rfl w) _) (fun a hA => ?_)
    refine W_val hA rfl 68 rfl (by decide) _ _ (R_ld hA rfl rfl ag_u64 (show _ = some (Value.int .u64 (t.n 58)) from HH.u 58 (by decide) (by decide))) (fun a hA => ?_)
    refine W_val hA rfl 69 rfl (by decide) _ _ (R_and hA rfl rfl rfl _) (fun a hA => ?_)
    refine W_val hA rfl 70 rfl (by decide) _ _ (R_or hA rfl rfl rfl _) (fun a hA => ?_)
    refine W_val hA rfl 71 rfl (by decide) _ _ (R_fa hA rfl rfl (fun w => fa_hart _ 27 58 (by decide) rfl w) _) (fun a hA => ?_)
    refine W_stUx hA rfl rfl rfl rfl rfl HH (by decide) (by decide) (fun w80 x58_60 hx58_60 hT HN => ?_)
    replace HB := HB.trans (hT.bel _ gHH)
    replace RR := hT.hart RR (by omega)
    replace HH := HN
    clear hT HN
    refine W_nil ?_
    refine then_nrm ?_
    show Code.wp Try.prog _ _ _ _
    refine wp_seq ?_
    refine wp_region_list ?_
    refine W_val hA rfl 72 rfl (by decide) _ _ (R_fa hA rfl rfl (fun w => fa_hart _ 28 59 (by decide) rfl w) _) (fun a hA => ?_)
    refine W_val hA rfl 73 rfl (by decide) _ _ (R_ld hA rfl rfl ag_u64 (show _ = some (Value.int .u64 (t.n 59)) from HH.u 59 (by decide) (by decide))) (fun a hA => ?_)
    refine W_val hA rfl 74 rfl (by decide) _ _ (R_and hA rfl rfl rfl _) (fun a hA => ?_)
    refine W_val hA rfl 75 rfl (by decide) _ _ (R_fa hA rfl rfl (fun w => fa_hart _ 28 59 (by decide) rfl w) _) (fun a hA => ?_)
    refine W_stUx hA rfl rfl rfl rfl rfl HH (by decide) (by decide) (fun w81 x59_61 hx59_61 hT HN => ?_)
    replace HB := HB.trans (hT.bel _ gHH)
    replace RR := hT.hart RR (by omega)
    replace HH := HN
    clear hT HN
    refine W_nil ?_
    refine then_nrm ?_
    show Code.wp Try.prog _ _ _ _
    refine wp_seq ?_
    refine wp_region_list ?_
    refine W_val hA rfl 76 rfl (by decide) _ _ (R_fa hA rfl rfl (fun w => fa_hart _ 29 60 (by decide) rfl w) _) (fun a hA => ?_)
    refine W_val hA rfl 77 rfl (by decide) _ _ (R_ld hA rfl rfl ag_u64 (show _ = some (Value.int .u64 (t.n 60)) from HH.u 60 (by decide) (by decide))) (fun a hA => ?_)
    refine W_val hA rfl 78 rfl (by decide) _ _ (R_and hA rfl rfl rfl _) (fun a hA => ?_)
    refine W_val hA rfl 79 rfl (by decide) _ _ (R_fa hA rfl rfl (fun w => fa_hart _ 29 60 (by decide) rfl w) _) (fun a hA => ?_)
    refine W_stUx hA rfl rfl rfl rfl rfl HH (by decide) (by decide) (fun w82 x60_62 hx60_62 hT HN => ?_)
    replace HB := HB.trans (hT.bel _ gHH)
    replace RR := hT.hart RR (by omega)
    replace HH := HN
    clear hT HN
    refine W_nil ?_
    refine then_nrm ?_
    show Code.wp Try.prog _ _ _ _
    refine wp_seq ?_
    refine wp_region_list ?_
    refine W_val hA rfl 80 rfl (by decide) _ _ (R_fa hA rfl rfl (fun w => fa_hart _ 30 61 (by decide) rfl w) _) (fun a hA => ?_)
    refine W_val hA rfl 81 rfl (by decide) _ _ (R_ld hA rfl rfl ag_u64 (show _ = some (Value.int .u64 (t.n 61)) from HH.u 61 (by decide) (by decide))) (fun a hA => ?_)
    refine W_val hA rfl 82 rfl (by decide) _ _ (R_and hA rfl rfl rfl _) (fun a hA => ?_)
    refine W_val hA rfl 83 rfl (by decide) _ _ (R_fa hA rfl rfl (fun w => fa_hart _ 30 61 (by decide) rfl w) _) (fun a hA => ?_)
    refine W_stUx hA rfl rfl rfl rfl rfl HH (by decide) (by decide) (fun w83 x61_63 hx61_63 hT HN => ?_)
    replace HB := HB.trans (hT.bel _ gHH)
    replace RR := hT.hart RR (by omega)
    replace HH := HN
    clear hT HN
    refine W_nil ?_
    refine then_nrm ?_
    show Code.wp Try.prog _ _ _ _
    refine wp_seq ?_
    refine wp_region_list ?_
    refine W_val hA rfl 84 rfl (by decide) _ _ (R_fa hA rfl rfl (fun w => fa_hart _ 31 62 (by decide) rfl w) _) (fun a hA => ?_)
    refine W_val hA rfl 85 rfl (by decide) _ _ (R_ld hA rfl rfl ag_u64 (show _ = some (Value.int .u64 (t.n 62)) from HH.u 62 (by decide) (by decide))) (fun a hA => ?_)
    refine W_val hA rfl 86 rfl (by decide) _ _ (R_and hA rfl rfl rfl _) (fun a hA => ?_)
    refine W_val hA rfl 87 rfl (by decide) _ _ (R_fa hA rfl rfl (fun w => fa_hart _ 31 62 (by decide) rfl w) _) (fun a hA => ?_)
    refine W_stUx hA rfl rfl rfl rfl rfl HH (by decide) (by decide) (fun w84 x62_64 hx62_64 hT HN => ?_)
    replace HB := HB.trans (hT.bel _ gHH)
    replace RR := hT.hart RR (by omega)
    replace HH := HN
    clear hT HN
    refine W_nil ?_
    refine then_nrm ?_
    show Code.wp Try.prog _ _ _ _
    refine wp_seq ?_
    refine wp_region_list ?_
    refine W_val hA rfl 88 rfl (by decide) _ _ (R_fa hA rfl rfl (fun w => fa_hart _ 32 63 (by decide) rfl w) _) (fun a hA => ?_)
    refine W_val hA rfl 89 rfl (by decide) _ _ (R_ld hA rfl rfl ag_u64 (show _ = some (Value.int .u64 (t.n 63)) from HH.u 63 (by decide) (by decide))) (fun a hA => ?_)
    refine W_val hA rfl 90 rfl (by decide) _ _ (R_and hA rfl rfl rfl _) (fun a hA => ?_)
    refine W_val hA rfl 91 rfl (by decide) _ _ (R_fa hA rfl rfl (fun w => fa_hart _ 32 63 (by decide) rfl w) _) (fun a hA => ?_)
    refine W_stUx hA rfl rfl rfl rfl rfl HH (by decide) (by decide) (fun w85 x63_65 hx63_65 hT HN => ?_)
    replace HB := HB.trans (hT.bel _ gHH)
    replace RR := hT.hart RR (by omega)
    replace HH := HN
    clear hT HN
    refine W_nil ?_
    refine then_nrm ?_
    show Code.wp Try.prog _ _ _ _
    refine wp_seq ?_
    refine still_tail 5 (by kernel_rfl) (fun w4 hw => ?_)
    replace HB := HB.trans (hw.mono HB.size)
    replace HH := HH.below hw
    replace RR := RR.below hw
    clear hw
    refine S_val hA rfl 92 rfl (by decide) _ (R_fa hA rfl rfl (fun w => fa_hart _ 35 66 (by decide) rfl w) _) (fun a hA => ?_)
    refine S_val hA rfl 93 rfl (by decide) _ (R_ld hA rfl rfl ag_u64 (show _ = some (Value.int .u64 (t.n 66)) from HH.u 66 (by decide) (by decide))) (fun a hA => ?_)
    refine S_call hA (by decide) (fun _ _ => by kernel_rfl) (args1 hA rfl) (dbut_any _ 17582052945254416380 (by kernel_rfl) _) (fun a hA => ?_)
    refine S_call hA (by decide) (fun _ _ => by kernel_rfl) (args2 hA rfl rfl) (dtable_any _ _ (ok.n _).1 _) (fun a hA => ?_)
    refine S_val hA rfl 96 rfl (by decide) _ (R_fa hA rfl rfl (fun w => fa_hart _ 35 66 (by decide) rfl w) _) (fun a hA => ?_)
    refine still_nil ?_
    refine W_stUx hA rfl rfl rfl rfl rfl HH (by decide) (by decide) (fun w86 x66_66 hx66_66 hT HN => ?_)
    replace HB := HB.trans (hT.bel _ gHH)
    replace RR := hT.hart RR (by omega)
    replace HH := HN
    clear hT HN
    refine W_nil ?_
    refine then_nrm ?_
    show Code.wp Try.prog _ _ _ _
    refine wp_seq ?_
    refine wp_region_list ?_
    refine W_val hA rfl 97 rfl (by decide) _ _ (R_fa hA rfl rfl (fun w => fa_hart _ 37 68 (by decide) rfl w) _) (fun a hA => ?_)
    refine W_val hA rfl 98 rfl (by decide) _ _ (R_ld hA rfl rfl ag_u64 (show _ = some (Value.int .u64 (t.n 68)) from HH.u 68 (by decide) (by decide))) (fun a hA => ?_)
    refine W_val hA rfl 99 rfl (by decide) _ _ (R_and hA rfl rfl rfl _) (fun a hA => ?_)
    refine W_val hA rfl 100 rfl (by decide) _ _ (R_or hA rfl rfl rfl _) (fun a hA => ?_)
    refine W_val hA rfl 101 rfl (by decide) _ _ (R_fa hA rfl rfl (fun w => fa_hart _ 37 68 (by decide) rfl w) _) (fun a hA => ?_)
    refine W_stUx hA rfl rfl rfl rfl rfl HH (by decide) (by decide) (fun w87 x68_67 hx68_67 hT HN => ?_)
    replace HB := HB.trans (hT.bel _ gHH)
    replace RR := hT.hart RR (by omega)
    replace HH := HN
    clear hT HN
    refine W_nil ?_
    refine then_nrm ?_
    show Code.wp Try.prog _ _ _ _
    refine wp_seq ?_
    refine wp_region_list ?_
    refine W_val hA rfl 102 rfl (by decide) _ _ (R_fa hA rfl rfl (fun w => fa_hart _ 38 69 (by decide) rfl w) _) (fun a hA => ?_)
    refine W_val hA rfl 103 rfl (by decide) _ _ (R_ld hA rfl rfl ag_u64 (show _ = some (Value.int .u64 (t.n 69)) from HH.u 69 (by decide) (by decide))) (fun a hA => ?_)
    refine W_val hA rfl 104 rfl (by decide) _ _ (R_andNot hA rfl rfl rfl _) (fun a hA => ?_)
    refine W_val hA rfl 105 rfl (by decide) _ _ (R_fa hA rfl rfl (fun w => fa_hart _ 38 69 (by decide) rfl w) _) (fun a hA => ?_)
    refine W_stUx hA rfl rfl rfl rfl rfl HH (by decide) (by decide) (fun w88 x69_68 hx69_68 hT HN => ?_)
    replace HB := HB.trans (hT.bel _ gHH)
    replace RR := hT.hart RR (by omega)
    replace HH := HN
    clear hT HN
    refine W_nil ?_
    refine then_nrm ?_
    show Code.wp Try.prog _ _ _ _
    refine wp_seq ?_
    refine wp_region_list ?_
    refine W_val hA rfl 106 rfl (by decide) _ _ (R_fa hA rfl rfl (fun w => fa_hart _ 40 71 (by decide) rfl w) _) (fun a hA => ?_)
    refine W_val hA rfl 107 rfl (by decide) _ _ (R_ld hA rfl rfl ag_u64 (show _ = some (Value.int .u64 (t.n 71)) from HH.u 71 (by decide) (by decide))) (fun a hA => ?_)
    refine W_val hA rfl 108 rfl (by decide) _ _ (R_andNot hA rfl rfl rfl _) (fun a hA => ?_)
    refine W_val hA rfl 109 rfl (by decide) _ _ (R_fa hA rfl rfl (fun w => fa_hart _ 40 71 (by decide) rfl w) _) (fun a hA => ?_)
    refine W_stUx hA rfl rfl rfl rfl rfl HH (by decide) (by decide) (fun w89 x71_69 hx71_69 hT HN => ?_)
    replace HB := HB.trans (hT.bel _ gHH)
    replace RR := hT.hart RR (by omega)
    replace HH := HN
    clear hT HN
    refine W_nil ?_
    refine then_nrm ?_
    show Code.wp Try.prog _ _ _ _
    refine wp_seq ?_
    refine still_tail 5 (by kernel_rfl) (fun w4 hw => ?_)
    replace HB := HB.trans (hw.mono HB.size)
    replace HH := HH.below hw
    replace RR := RR.below hw
    clear hw
    refine S_val hA rfl 110 rfl (by decide) _ (R_fa hA rfl rfl (fun w => fa_hart _ 43 74 (by decide) rfl w) _) (fun a hA => ?_)
    refine S_val hA rfl 111 rfl (by decide) _ (R_ld hA rfl rfl ag_u64 (show _ = some (Value.int .u64 (t.n 74)) from HH.u 74 (by decide) (by decide))) (fun a hA => ?_)
    refine S_call hA (by decide) (fun _ _ => by kernel_rfl) (args1 hA rfl) (dbut_any _ 18446744073709551615 (by kernel_rfl) _) (fun a hA => ?_)
    refine S_call hA (by decide) (fun _ _ => by kernel_rfl) (args2 hA rfl rfl) (dtable_any _ _ (ok.n _).1 _) (fun a hA => ?_)
    refine S_val hA rfl 114 rfl (by decide) _ (R_fa hA rfl rfl (fun w => fa_hart _ 43 74 (by decide) rfl w) _) (fun a hA => ?_)
    refine still_nil ?_
    refine W_stUx hA rfl rfl rfl rfl rfl HH (by decide) (by decide) (fun w90 x74_70 hx74_70 hT HN => ?_)
    replace HB := HB.trans (hT.bel _ gHH)
    replace RR := hT.hart RR (by omega)
    replace HH := HN
    clear hT HN
    refine W_nil ?_
    refine then_nrm ?_
    show Code.wp Try.prog _ _ _ _
    refine wp_seq ?_
    refine wp_region_list ?_
    refine W_val hA rfl 115 rfl (by decide) _ _ (R_fa hA rfl rfl (fun w => fa_hart _ 1 1 (by decide) rfl w) _) (fun a hA => ?_)
    refine W_val hA rfl 116 rfl (by decide) _ _ (R_ixa hA rfl rfl rfl (fun w => ixa_hart _ w) _) (fun a hA => ?_)
    refine W_stUx hA rfl rfl rfl rfl rfl HH (by decide) (by decide) (fun w91 x1_71 hx1_71 hT HN => ?_)
    replace HB := HB.trans (hT.bel _ gHH)
    replace RR := hT.hart RR (by omega)
    replace HH := HN
    clear hT HN
    refine W_nil ?_
    refine then_nrm ?_
    show Code.wp Try.prog _ _ _ _
    refine wp_seq ?_
    refine wp_region_list ?_
    refine W_val hA rfl 117 rfl (by decide) _ _ (R_fa hA rfl rfl (fun w => fa_hart _ 0 0 (by decide) rfl w) _) (fun a hA => ?_)
    refine W_val hA rfl 118 rfl (by decide) _ _ (R_ld hA rfl rfl ag_u64 (show _ = some (Value.int .u64 (t.n 0)) from HH.u 0 (by decide) (by decide))) (fun a hA => ?_)
    refine W_val hA rfl 119 rfl (by decide) _ _ (R_andNot hA rfl rfl rfl _) (fun a hA => ?_)
    refine W_val hA rfl 120 rfl (by decide) _ _ (R_fa hA rfl rfl (fun w => fa_hart _ 0 0 (by decide) rfl w) _) (fun a hA => ?_)
    refine W_stUx hA rfl rfl rfl rfl rfl HH (by decide) (by decide) (fun w92 x0_72 hx0_72 hT HN => ?_)
    replace HB := HB.trans (hT.bel _ gHH)
    replace RR := hT.hart RR (by omega)
    replace HH := HN
    clear hT HN
    refine W_nil ?_
    refine then_nrm ?_
    show Code.wp Try.prog _ _ _ _
    refine wp_seq ?_
    refine wp_seq ?_
    refine wp_region_list ?_
    refine W_val hA rfl 121 rfl (by decide) _ _ (R_fa hA rfl rfl (fun w => fa_hart _ 2 33 (by decide) rfl w) _) (fun a hA => ?_)
    refine W_val hA rfl 122 rfl (by decide) _ _ (R_ld hA rfl rfl ag_u8 (show _ = some (Value.int .u8 (t.n 33)) from HH.p)) (fun a hA => ?_)
    refine W_val hA rfl 123 rfl (by decide) _ _ (R_neqB hA rfl rfl rfl _) (fun a hA => ?_)
    refine W_val hA rfl 124 rfl (by decide) _ _ (R_mov hA rfl rfl _) (fun a hA => ?_)
    refine W_split hA 124 rfl (fun c18 hA => ?_) (fun c18 hA => ?_)
    · skip
      refine W_gval hA rfl rfl rfl 125 rfl (by decide) _ _ (R_fa hA rfl rfl (fun w => fa_hart _ 2 33 (by decide) rfl w) _) (fun a hA => ?_)
      refine W_gval hA rfl rfl rfl 126 rfl (by decide) _ _ (R_ld hA rfl rfl ag_u8 (show _ = some (Value.int .u8 (t.n 33)) from HH.p)) (fun a hA => ?_)
      refine W_gval hA rfl rfl rfl 127 rfl (by decide) _ _ (R_neqB hA rfl rfl rfl _) (fun a hA => ?_)
      refine W_val hA rfl 128 rfl (by decide) _ _ (R_pick hA rfl rfl rfl _) (fun a hA => ?_)
      refine W_nil ?_
      refine then_nrm ?_
      show Code.wp Try.prog _ _ _ _
      refine wp_cond_split (hA.ev (x := .tmp 128) rfl) (fun c19 => ?_) (fun c19 => ?_)
      · skip
        refine wp_region_list ?_
        refine W_val hA rfl 129 rfl (by decide) _ _ (R_fa hA rfl rfl (fun w => fa_hart _ 2 33 (by decide) rfl w) _) (fun a hA => ?_)
        refine W_stPx hA rfl rfl rfl rfl rfl HH (fun w93 x33_73 hx33_73 hT HN => ?_)
        replace HB := HB.trans (hT.bel _ gHH)
        replace RR := hT.hart RR (by omega)
        replace HH := HN
        clear hT HN
        refine W_nil ?_
        refine then_nrm ?_
        show Code.wp Try.prog _ _ _ _
        refine wp_seq ?_
        refine wp_seq ?_
        refine wp_region_list ?_
        refine W_val hA rfl 130 rfl (by decide) _ _ (R_fa hA rfl rfl (fun w => fa_hart _ 2 33 (by decide) rfl w) _) (fun a hA => ?_)
        refine W_val hA rfl 131 rfl (by decide) _ _ (R_ld hA rfl rfl ag_u8 (show _ = some (Value.int .u8 (x33_73)) from HH.p)) (fun a hA => ?_)
        refine W_val hA rfl 132 rfl (by decide) _ _ (R_eqlB hA rfl rfl rfl _) (fun a hA => ?_)
        refine W_nil ?_
        refine then_nrm ?_
        show Code.wp Try.prog _ _ _ _
        refine wp_cond_split (hA.ev (x := .tmp 132) rfl) (fun c20 => ?_) (fun c20 => ?_)
        · skip
          refine wp_region_list ?_
          refine W_val hA rfl 133 rfl (by decide) _ _ (R_fa hA rfl rfl (fun w => fa_hart _ 3 34 (by decide) rfl w) _) (fun a hA => ?_)
          refine W_stVx hA rfl rfl rfl rfl rfl HH (fun w94 x34_74 hx34_74 hT HN => ?_)
          replace HB := HB.trans (hT.bel _ gHH)
          replace RR := hT.hart RR (by omega)
          replace HH := HN
          clear hT HN
          refine W_nil ?_
          refine then_nrm ?_
          show Code.wp Try.prog _ _ _ _
          refine wp_seq ?_
          refine wp_region_list ?_
          refine W_val hA rfl 134 rfl (by decide) _ _ (R_fa hA rfl rfl (fun w => fa_hart _ 6 37 (by decide) rfl w) _) (fun a hA => ?_)
          refine W_val hA rfl 135 rfl (by decide) _ _ (R_ld hA rfl rfl ag_u64 (show _ = some (Value.int .u64 (t.n 37)) from HH.u 37 (by decide) (by decide))) (fun a hA => ?_)
          refine W_val hA rfl 136 rfl (by decide) _ _ (R_andNot hA rfl rfl rfl _) (fun a hA => ?_)
          refine W_val hA rfl 137 rfl (by decide) _ _ (R_and hA rfl rfl rfl _) (fun a hA => ?_)
          refine W_val hA rfl 138 rfl (by decide) _ _ (R_fa hA rfl rfl (fun w => fa_hart _ 6 37 (by decide) rfl w) _) (fun a hA => ?_)
          refine W_stUx hA rfl rfl rfl rfl rfl HH (by decide) (by decide) (fun w95 x37_75 hx37_75 hT HN => ?_)
          replace HB := HB.trans (hT.bel _ gHH)
          replace RR := hT.hart RR (by omega)
          replace HH := HN
          clear hT HN
          refine W_nil ?_
          refine then_nrm ?_
          show Code.wp Try.prog _ _ _ _
          refine wp_seq ?_
          refine wp_seq ?_
          refine wp_region_list ?_
          refine W_val hA rfl 139 rfl (by decide) _ _ (R_fa hA rfl rfl (fun w => fa_hart _ 5 36 (by decide) rfl w) _) (fun a hA => ?_)
          refine W_val hA rfl 140 rfl (by decide) _ _ (R_ld hA rfl rfl ag_bool (show _ = some (Value.bool t.held) from HH.hd)) (fun a hA => ?_)
          refine W_val hA rfl 141 rfl (by decide) _ _ (R_not hA rfl rfl _) (fun a hA => ?_)
          refine W_nil ?_
          refine then_nrm ?_
          show Code.wp Try.prog _ _ _ _
          refine wp_cond_split (hA.ev (x := .tmp 141) rfl) (fun c21 => ?_) (fun c21 => ?_)
          · skip
            refine wp_region_list ?_
            refine W_val hA rfl 142 rfl (by decide) _ _ (R_fa hA rfl rfl (fun w => fa_hart _ 6 37 (by decide) rfl w) _) (fun a hA => ?_)
            refine W_stUx hA rfl rfl rfl rfl rfl HH (by decide) (by decide) (fun w96 x37_76 hx37_76 hT HN => ?_)
            replace HB := HB.trans (hT.bel _ gHH)
            replace RR := hT.hart RR (by omega)
            replace HH := HN
            clear hT HN
            refine W_nil ?_
            refine then_nrm ?_
            show Code.wp Try.prog _ _ _ _
            refine wp_seq ?_
            refine wp_region_list ?_
            refine W_val hA rfl 143 rfl (by decide) _ _ (R_row hA rfl rfl HH Try.underlying25 (size_hart.trans (by rw [varr_size]))) (fun a hA => ?_)
            refine W_cpH hA rfl rfl rfl rfl rfl RR (fun w97 hT HN => ?_)
            replace HB := HB.trans (hT.bel _ gRR)
            replace HH := hT.hart HH (by omega)
            replace RR := HN
            clear hT HN
            refine W_nil ?_
            refine then_nrm ?_
            show Code.wp Try.prog _ _ _ _
            refine wp_ret ?_
            rw [hx33_73] at c20
            cases c20
          refine wp_skip ?_
          refine then_nrm ?_
          show Code.wp Try.prog _ _ _ _
          refine wp_seq ?_
          refine wp_region_list ?_
          refine W_val hA rfl 143 rfl (by decide) _ _ (R_row hA rfl rfl HH Try.underlying25 (size_hart.trans (by rw [varr_size]))) (fun a hA => ?_)
          refine W_cpH hA rfl rfl rfl rfl rfl RR (fun w98 hT HN => ?_)
          replace HB := HB.trans (hT.bel _ gRR)
          replace HH := hT.hart HH (by omega)
          replace RR := HN
          clear hT HN
          refine W_nil ?_
          refine then_nrm ?_
          show Code.wp Try.prog _ _ _ _
          refine wp_ret ?_
          rw [hx33_73] at c20
          cases c20
        refine wp_skip ?_
        refine then_nrm ?_
        show Code.wp Try.prog _ _ _ _
        refine wp_seq ?_
        refine wp_region_list ?_
        refine W_val hA rfl 134 rfl (by decide) _ _ (R_fa hA rfl rfl (fun w => fa_hart _ 6 37 (by decide) rfl w) _) (fun a hA => ?_)
        refine W_val hA rfl 135 rfl (by decide) _ _ (R_ld hA rfl rfl ag_u64 (show _ = some (Value.int .u64 (t.n 37)) from HH.u 37 (by decide) (by decide))) (fun a hA => ?_)
        refine W_val hA rfl 136 rfl (by decide) _ _ (R_andNot hA rfl rfl rfl _) (fun a hA => ?_)
        refine W_val hA rfl 137 rfl (by decide) _ _ (R_and hA rfl rfl rfl _) (fun a hA => ?_)
        refine W_val hA rfl 138 rfl (by decide) _ _ (R_fa hA rfl rfl (fun w => fa_hart _ 6 37 (by decide) rfl w) _) (fun a hA => ?_)
        refine W_stUx hA rfl rfl rfl rfl rfl HH (by decide) (by decide) (fun w99 x37_77 hx37_77 hT HN => ?_)
        replace HB := HB.trans (hT.bel _ gHH)
        replace RR := hT.hart RR (by omega)
        replace HH := HN
        clear hT HN
        refine W_nil ?_
        refine then_nrm ?_
        show Code.wp Try.prog _ _ _ _
        refine wp_seq ?_
        refine wp_seq ?_
        refine wp_region_list ?_
        refine W_val hA rfl 139 rfl (by decide) _ _ (R_fa hA rfl rfl (fun w => fa_hart _ 5 36 (by decide) rfl w) _) (fun a hA => ?_)
        refine W_val hA rfl 140 rfl (by decide) _ _ (R_ld hA rfl rfl ag_bool (show _ = some (Value.bool t.held) from HH.hd)) (fun a hA => ?_)
        refine W_val hA rfl 141 rfl (by decide) _ _ (R_not hA rfl rfl _) (fun a hA => ?_)
        refine W_nil ?_
        refine then_nrm ?_
        show Code.wp Try.prog _ _ _ _
        refine wp_cond_split (hA.ev (x := .tmp 141) rfl) (fun c22 => ?_) (fun c22 => ?_)
        · skip
          refine wp_region_list ?_
          refine W_val hA rfl 142 rfl (by decide) _ _ (R_fa hA rfl rfl (fun w => fa_hart _ 6 37 (by decide) rfl w) _) (fun a hA => ?_)
          refine W_stUx hA rfl rfl rfl rfl rfl HH (by decide) (by decide) (fun w100 x37_78 hx37_78 hT HN => ?_)
          replace HB := HB.trans (hT.bel _ gHH)
          replace RR := hT.hart RR (by omega)
          replace HH := HN
          clear hT HN
          refine W_nil ?_
          refine then_nrm ?_
          show Code.wp Try.prog _ _ _ _
          refine wp_seq ?_
          refine wp_region_list ?_
          refine W_val hA rfl 143 rfl (by decide) _ _ (R_row hA rfl rfl HH Try.underlying25 (size_hart.trans (by rw [varr_size]))) (fun a hA => ?_)
          refine W_cpH hA rfl rfl rfl rfl rfl RR (fun w101 hT HN => ?_)
          replace HB := HB.trans (hT.bel _ gRR)
          replace HH := hT.hart HH (by omega)
          replace RR := HN
          clear hT HN
          refine W_nil ?_
          refine then_nrm ?_
          show Code.wp Try.prog _ _ _ _
          refine wp_ret ?_
          refine ret_hart (j := 2) (by kernel_rfl) hA rfl RR ?_
          refine ⟨congrArg (fun s : HS => Ending.returned (hartV s)) ?_, HB⟩
          refine fixZ_eq ?_ rfl rfl (fun i => ?_)
          · have p3 : ¬ t.n 33 = 3 := by simpa using c19
            show t.v = (t.v && (t.n 33 != 3))
            rw [show (t.n 33 != 3) = true from by simpa using p3, Bool.and_true]
          by_cases e38 : i = 38
          · subst e38
            show x38_1 = _
            have q : noModeB x38_1 = false := by rw [noMode_bits, c1]; simpa using c2
            rw [hx38_1] at q
            rw [hx38_1]
            show _ = (if noModeB (maskZ 0 (t.n 38)) = true then bits .andNot .u64 (maskZ 0 (t.n 38)) 6144 else maskZ 0 (t.n 38))
            rw [show noModeB (maskZ 0 (t.n 38)) = false from q]
            rfl
          by_cases e33 : i = 33
          · subst e33
            show x33_73 = _
            rw [hx33_73]
            have p1 : ¬ t.n 33 = 1 := by simpa using c18
            have p3 : ¬ t.n 33 = 3 := by simpa using c19
            show _ = (if t.n 33 = 1 ∨ t.n 33 = 3 then t.n 33 else 0)
            rw [if_neg (fun q => q.elim p1 p3)]
          by_cases e37 : i = 37
          · subst e37
            show x37_78 = _
            rw [hx37_78]
            show _ = (if t.held = true then bits .and .u64 (t.n 37) 72057594037927928 else 0)
            rw [show t.held = false by simpa using c22]; rfl
          exact fixD ok hx0_72 hx1_71 hx39_49 hx40_50 hx41_51 hx42_52 hx43_53 hx44_54 hx46_55 hx51_56 hx52_57 hx54_58 hx57_59 hx58_60 hx59_61 hx60_62 hx61_63 hx62_64 hx63_65 hx66_66 hx68_67 hx69_68 hx71_69 hx74_70 (fun i h => by simp only [HS.put, HS.putV, if_neg (h 0 (by decide)), if_neg (h 1 (by decide)), if_neg (h 33 (by decide)), if_neg (h 37 (by decide)), if_neg (h 38 (by decide)), if_neg (h 39 (by decide)), if_neg (h 40 (by decide)), if_neg (h 41 (by decide)), if_neg (h 42 (by decide)), if_neg (h 43 (by decide)), if_neg (h 44 (by decide)), if_neg (h 46 (by decide)), if_neg (h 51 (by decide)), if_neg (h 52 (by decide)), if_neg (h 54 (by decide)), if_neg (h 57 (by decide)), if_neg (h 58 (by decide)), if_neg (h 59 (by decide)), if_neg (h 60 (by decide)), if_neg (h 61 (by decide)), if_neg (h 62 (by decide)), if_neg (h 63 (by decide)), if_neg (h 66 (by decide)), if_neg (h 68 (by decide)), if_neg (h 69 (by decide)), if_neg (h 71 (by decide)), if_neg (h 74 (by decide))]) i ⟨e33, e37, e38⟩
        refine wp_skip ?_
        refine then_nrm ?_
        show Code.wp Try.prog _ _ _ _
        refine wp_seq ?_
        refine wp_region_list ?_
        refine W_val hA rfl 143 rfl (by decide) _ _ (R_row hA rfl rfl HH Try.underlying25 (size_hart.trans (by rw [varr_size]))) (fun a hA => ?_)
        refine W_cpH hA rfl rfl rfl rfl rfl RR (fun w102 hT HN => ?_)
        replace HB := HB.trans (hT.bel _ gRR)
        replace HH := hT.hart HH (by omega)
        replace RR := HN
        clear hT HN
        refine W_nil ?_
        refine then_nrm ?_
        show Code.wp Try.prog _ _ _ _
        refine wp_ret ?_
        refine ret_hart (j := 2) (by kernel_rfl) hA rfl RR ?_
        refine ⟨congrArg (fun s : HS => Ending.returned (hartV s)) ?_, HB⟩
        refine fixZ_eq ?_ rfl rfl (fun i => ?_)
        · have p3 : ¬ t.n 33 = 3 := by simpa using c19
          show t.v = (t.v && (t.n 33 != 3))
          rw [show (t.n 33 != 3) = true from by simpa using p3, Bool.and_true]
        by_cases e38 : i = 38
        · subst e38
          show x38_1 = _
          have q : noModeB x38_1 = false := by rw [noMode_bits, c1]; simpa using c2
          rw [hx38_1] at q
          rw [hx38_1]
          show _ = (if noModeB (maskZ 0 (t.n 38)) = true then bits .andNot .u64 (maskZ 0 (t.n 38)) 6144 else maskZ 0 (t.n 38))
          rw [show noModeB (maskZ 0 (t.n 38)) = false from q]
          rfl
        by_cases e33 : i = 33
        · subst e33
          show x33_73 = _
          rw [hx33_73]
          have p1 : ¬ t.n 33 = 1 := by simpa using c18
          have p3 : ¬ t.n 33 = 3 := by simpa using c19
          show _ = (if t.n 33 = 1 ∨ t.n 33 = 3 then t.n 33 else 0)
          rw [if_neg (fun q => q.elim p1 p3)]
        by_cases e37 : i = 37
        · subst e37
          show x37_77 = _
          rw [hx37_77]
          show _ = (if t.held = true then bits .and .u64 (t.n 37) 72057594037927928 else 0)
          rw [show t.held = true by simpa using c22, if_pos rfl]
          exact res_and _
        exact fixD ok hx0_72 hx1_71 hx39_49 hx40_50 hx41_51 hx42_52 hx43_53 hx44_54 hx46_55 hx51_56 hx52_57 hx54_58 hx57_59 hx58_60 hx59_61 hx60_62 hx61_63 hx62_64 hx63_65 hx66_66 hx68_67 hx69_68 hx71_69 hx74_70 (fun i h => by simp only [HS.put, HS.putV, if_neg (h 0 (by decide)), if_neg (h 1 (by decide)), if_neg (h 33 (by decide)), if_neg (h 37 (by decide)), if_neg (h 38 (by decide)), if_neg (h 39 (by decide)), if_neg (h 40 (by decide)), if_neg (h 41 (by decide)), if_neg (h 42 (by decide)), if_neg (h 43 (by decide)), if_neg (h 44 (by decide)), if_neg (h 46 (by decide)), if_neg (h 51 (by decide)), if_neg (h 52 (by decide)), if_neg (h 54 (by decide)), if_neg (h 57 (by decide)), if_neg (h 58 (by decide)), if_neg (h 59 (by decide)), if_neg (h 60 (by decide)), if_neg (h 61 (by decide)), if_neg (h 62 (by decide)), if_neg (h 63 (by decide)), if_neg (h 66 (by decide)), if_neg (h 68 (by decide)), if_neg (h 69 (by decide)), if_neg (h 71 (by decide)), if_neg (h 74 (by decide))]) i ⟨e33, e37, e38⟩
      refine wp_skip ?_
      refine then_nrm ?_
      show Code.wp Try.prog _ _ _ _
      refine wp_seq ?_
      refine wp_seq ?_
      refine wp_region_list ?_
      refine W_val hA rfl 130 rfl (by decide) _ _ (R_fa hA rfl rfl (fun w => fa_hart _ 2 33 (by decide) rfl w) _) (fun a hA => ?_)
      refine W_val hA rfl 131 rfl (by decide) _ _ (R_ld hA rfl rfl ag_u8 (show _ = some (Value.int .u8 (t.n 33)) from HH.p)) (fun a hA => ?_)
      refine W_val hA rfl 132 rfl (by decide) _ _ (R_eqlB hA rfl rfl rfl _) (fun a hA => ?_)
      refine W_nil ?_
      refine then_nrm ?_
      show Code.wp Try.prog _ _ _ _
      refine wp_cond_split (hA.ev (x := .tmp 132) rfl) (fun c23 => ?_) (fun c23 => ?_)
      · skip
        refine wp_region_list ?_
        refine W_val hA rfl 133 rfl (by decide) _ _ (R_fa hA rfl rfl (fun w => fa_hart _ 3 34 (by decide) rfl w) _) (fun a hA => ?_)
        refine W_stVx hA rfl rfl rfl rfl rfl HH (fun w103 x34_79 hx34_79 hT HN => ?_)
        replace HB := HB.trans (hT.bel _ gHH)
        replace RR := hT.hart RR (by omega)
        replace HH := HN
        clear hT HN
        refine W_nil ?_
        refine then_nrm ?_
        show Code.wp Try.prog _ _ _ _
        refine wp_seq ?_
        refine wp_region_list ?_
        refine W_val hA rfl 134 rfl (by decide) _ _ (R_fa hA rfl rfl (fun w => fa_hart _ 6 37 (by decide) rfl w) _) (fun a hA => ?_)
        refine W_val hA rfl 135 rfl (by decide) _ _ (R_ld hA rfl rfl ag_u64 (show _ = some (Value.int .u64 (t.n 37)) from HH.u 37 (by decide) (by decide))) (fun a hA => ?_)
        refine W_val hA rfl 136 rfl (by decide) _ _ (R_andNot hA rfl rfl rfl _) (fun a hA => ?_)
        refine W_val hA rfl 137 rfl (by decide) _ _ (R_and hA rfl rfl rfl _) (fun a hA => ?_)
        refine W_val hA rfl 138 rfl (by decide) _ _ (R_fa hA rfl rfl (fun w => fa_hart _ 6 37 (by decide) rfl w) _) (fun a hA => ?_)
        refine W_stUx hA rfl rfl rfl rfl rfl HH (by decide) (by decide) (fun w104 x37_80 hx37_80 hT HN => ?_)
        replace HB := HB.trans (hT.bel _ gHH)
        replace RR := hT.hart RR (by omega)
        replace HH := HN
        clear hT HN
        refine W_nil ?_
        refine then_nrm ?_
        show Code.wp Try.prog _ _ _ _
        refine wp_seq ?_
        refine wp_seq ?_
        refine wp_region_list ?_
        refine W_val hA rfl 139 rfl (by decide) _ _ (R_fa hA rfl rfl (fun w => fa_hart _ 5 36 (by decide) rfl w) _) (fun a hA => ?_)
        refine W_val hA rfl 140 rfl (by decide) _ _ (R_ld hA rfl rfl ag_bool (show _ = some (Value.bool t.held) from HH.hd)) (fun a hA => ?_)
        refine W_val hA rfl 141 rfl (by decide) _ _ (R_not hA rfl rfl _) (fun a hA => ?_)
        refine W_nil ?_
        refine then_nrm ?_
        show Code.wp Try.prog _ _ _ _
        refine wp_cond_split (hA.ev (x := .tmp 141) rfl) (fun c24 => ?_) (fun c24 => ?_)
        · skip
          refine wp_region_list ?_
          refine W_val hA rfl 142 rfl (by decide) _ _ (R_fa hA rfl rfl (fun w => fa_hart _ 6 37 (by decide) rfl w) _) (fun a hA => ?_)
          refine W_stUx hA rfl rfl rfl rfl rfl HH (by decide) (by decide) (fun w105 x37_81 hx37_81 hT HN => ?_)
          replace HB := HB.trans (hT.bel _ gHH)
          replace RR := hT.hart RR (by omega)
          replace HH := HN
          clear hT HN
          refine W_nil ?_
          refine then_nrm ?_
          show Code.wp Try.prog _ _ _ _
          refine wp_seq ?_
          refine wp_region_list ?_
          refine W_val hA rfl 143 rfl (by decide) _ _ (R_row hA rfl rfl HH Try.underlying25 (size_hart.trans (by rw [varr_size]))) (fun a hA => ?_)
          refine W_cpH hA rfl rfl rfl rfl rfl RR (fun w106 hT HN => ?_)
          replace HB := HB.trans (hT.bel _ gRR)
          replace HH := hT.hart HH (by omega)
          replace RR := HN
          clear hT HN
          refine W_nil ?_
          refine then_nrm ?_
          show Code.wp Try.prog _ _ _ _
          refine wp_ret ?_
          refine ret_hart (j := 2) (by kernel_rfl) hA rfl RR ?_
          refine ⟨congrArg (fun s : HS => Ending.returned (hartV s)) ?_, HB⟩
          refine fixZ_eq ?_ rfl rfl (fun i => ?_)
          · show x34_79 = (t.v && (t.n 33 != 3))
            rw [hx34_79, show (t.n 33 != 3) = false from by simpa using c23, Bool.and_false]
          by_cases e38 : i = 38
          · subst e38
            show x38_1 = _
            have q : noModeB x38_1 = false := by rw [noMode_bits, c1]; simpa using c2
            rw [hx38_1] at q
            rw [hx38_1]
            show _ = (if noModeB (maskZ 0 (t.n 38)) = true then bits .andNot .u64 (maskZ 0 (t.n 38)) 6144 else maskZ 0 (t.n 38))
            rw [show noModeB (maskZ 0 (t.n 38)) = false from q]
            rfl
          by_cases e33 : i = 33
          · subst e33
            have p : t.n 33 = 1 ∨ t.n 33 = 3 := .inr (by simpa using c19)
            show _ = (if t.n 33 = 1 ∨ t.n 33 = 3 then t.n 33 else 0)
            rw [if_pos p]
            rfl
          by_cases e37 : i = 37
          · subst e37
            show x37_81 = _
            rw [hx37_81]
            show _ = (if t.held = true then bits .and .u64 (t.n 37) 72057594037927928 else 0)
            rw [show t.held = false by simpa using c24]; rfl
          exact fixD ok hx0_72 hx1_71 hx39_49 hx40_50 hx41_51 hx42_52 hx43_53 hx44_54 hx46_55 hx51_56 hx52_57 hx54_58 hx57_59 hx58_60 hx59_61 hx60_62 hx61_63 hx62_64 hx63_65 hx66_66 hx68_67 hx69_68 hx71_69 hx74_70 (fun i h => by simp only [HS.put, HS.putV, if_neg (h 0 (by decide)), if_neg (h 1 (by decide)), if_neg (h 37 (by decide)), if_neg (h 38 (by decide)), if_neg (h 39 (by decide)), if_neg (h 40 (by decide)), if_neg (h 41 (by decide)), if_neg (h 42 (by decide)), if_neg (h 43 (by decide)), if_neg (h 44 (by decide)), if_neg (h 46 (by decide)), if_neg (h 51 (by decide)), if_neg (h 52 (by decide)), if_neg (h 54 (by decide)), if_neg (h 57 (by decide)), if_neg (h 58 (by decide)), if_neg (h 59 (by decide)), if_neg (h 60 (by decide)), if_neg (h 61 (by decide)), if_neg (h 62 (by decide)), if_neg (h 63 (by decide)), if_neg (h 66 (by decide)), if_neg (h 68 (by decide)), if_neg (h 69 (by decide)), if_neg (h 71 (by decide)), if_neg (h 74 (by decide))]) i ⟨e33, e37, e38⟩
        refine wp_skip ?_
        refine then_nrm ?_
        show Code.wp Try.prog _ _ _ _
        refine wp_seq ?_
        refine wp_region_list ?_
        refine W_val hA rfl 143 rfl (by decide) _ _ (R_row hA rfl rfl HH Try.underlying25 (size_hart.trans (by rw [varr_size]))) (fun a hA => ?_)
        refine W_cpH hA rfl rfl rfl rfl rfl RR (fun w107 hT HN => ?_)
        replace HB := HB.trans (hT.bel _ gRR)
        replace HH := hT.hart HH (by omega)
        replace RR := HN
        clear hT HN
        refine W_nil ?_
        refine then_nrm ?_
        show Code.wp Try.prog _ _ _ _
        refine wp_ret ?_
        refine ret_hart (j := 2) (by kernel_rfl) hA rfl RR ?_
        refine ⟨congrArg (fun s : HS => Ending.returned (hartV s)) ?_, HB⟩
        refine fixZ_eq ?_ rfl rfl (fun i => ?_)
        · show x34_79 = (t.v && (t.n 33 != 3))
          rw [hx34_79, show (t.n 33 != 3) = false from by simpa using c23, Bool.and_false]
        by_cases e38 : i = 38
        · subst e38
          show x38_1 = _
          have q : noModeB x38_1 = false := by rw [noMode_bits, c1]; simpa using c2
          rw [hx38_1] at q
          rw [hx38_1]
          show _ = (if noModeB (maskZ 0 (t.n 38)) = true then bits .andNot .u64 (maskZ 0 (t.n 38)) 6144 else maskZ 0 (t.n 38))
          rw [show noModeB (maskZ 0 (t.n 38)) = false from q]
          rfl
        by_cases e33 : i = 33
        · subst e33
          have p : t.n 33 = 1 ∨ t.n 33 = 3 := .inr (by simpa using c19)
          show _ = (if t.n 33 = 1 ∨ t.n 33 = 3 then t.n 33 else 0)
          rw [if_pos p]
          rfl
        by_cases e37 : i = 37
        · subst e37
          show x37_80 = _
          rw [hx37_80]
          show _ = (if t.held = true then bits .and .u64 (t.n 37) 72057594037927928 else 0)
          rw [show t.held = true by simpa using c24, if_pos rfl]
          exact res_and _
        exact fixD ok hx0_72 hx1_71 hx39_49 hx40_50 hx41_51 hx42_52 hx43_53 hx44_54 hx46_55 hx51_56 hx52_57 hx54_58 hx57_59 hx58_60 hx59_61 hx60_62 hx61_63 hx62_64 hx63_65 hx66_66 hx68_67 hx69_68 hx71_69 hx74_70 (fun i h => by simp only [HS.put, HS.putV, if_neg (h 0 (by decide)), if_neg (h 1 (by decide)), if_neg (h 37 (by decide)), if_neg (h 38 (by decide)), if_neg (h 39 (by decide)), if_neg (h 40 (by decide)), if_neg (h 41 (by decide)), if_neg (h 42 (by decide)), if_neg (h 43 (by decide)), if_neg (h 44 (by decide)), if_neg (h 46 (by decide)), if_neg (h 51 (by decide)), if_neg (h 52 (by decide)), if_neg (h 54 (by decide)), if_neg (h 57 (by decide)), if_neg (h 58 (by decide)), if_neg (h 59 (by decide)), if_neg (h 60 (by decide)), if_neg (h 61 (by decide)), if_neg (h 62 (by decide)), if_neg (h 63 (by decide)), if_neg (h 66 (by decide)), if_neg (h 68 (by decide)), if_neg (h 69 (by decide)), if_neg (h 71 (by decide)), if_neg (h 74 (by decide))]) i ⟨e33, e37, e38⟩
      refine wp_skip ?_
      refine then_nrm ?_
      show Code.wp Try.prog _ _ _ _
      refine wp_seq ?_
      refine wp_region_list ?_
      refine W_val hA rfl 134 rfl (by decide) _ _ (R_fa hA rfl rfl (fun w => fa_hart _ 6 37 (by decide) rfl w) _) (fun a hA => ?_)
      refine W_val hA rfl 135 rfl (by decide) _ _ (R_ld hA rfl rfl ag_u64 (show _ = some (Value.int .u64 (t.n 37)) from HH.u 37 (by decide) (by decide))) (fun a hA => ?_)
      refine W_val hA rfl 136 rfl (by decide) _ _ (R_andNot hA rfl rfl rfl _) (fun a hA => ?_)
      refine W_val hA rfl 137 rfl (by decide) _ _ (R_and hA rfl rfl rfl _) (fun a hA => ?_)
      refine W_val hA rfl 138 rfl (by decide) _ _ (R_fa hA rfl rfl (fun w => fa_hart _ 6 37 (by decide) rfl w) _) (fun a hA => ?_)
      refine W_stUx hA rfl rfl rfl rfl rfl HH (by decide) (by decide) (fun w108 x37_82 hx37_82 hT HN => ?_)
      replace HB := HB.trans (hT.bel _ gHH)
      replace RR := hT.hart RR (by omega)
      replace HH := HN
      clear hT HN
      refine W_nil ?_
      refine then_nrm ?_
      show Code.wp Try.prog _ _ _ _
      refine wp_seq ?_
      refine wp_seq ?_
      refine wp_region_list ?_
      refine W_val hA rfl 139 rfl (by decide) _ _ (R_fa hA rfl rfl (fun w => fa_hart _ 5 36 (by decide) rfl w) _) (fun a hA => ?_)
      refine W_val hA rfl 140 rfl (by decide) _ _ (R_ld hA rfl rfl ag_bool (show _ = some (Value.bool t.held) from HH.hd)) (fun a hA => ?_)
      refine W_val hA rfl 141 rfl (by decide) _ _ (R_not hA rfl rfl _) (fun a hA => ?_)
      refine W_nil ?_
      refine then_nrm ?_
      show Code.wp Try.prog _ _ _ _
      refine wp_cond_split (hA.ev (x := .tmp 141) rfl) (fun c25 => ?_) (fun c25 => ?_)
      · skip
        refine wp_region_list ?_
        refine W_val hA rfl 142 rfl (by decide) _ _ (R_fa hA rfl rfl (fun w => fa_hart _ 6 37 (by decide) rfl w) _) (fun a hA => ?_)
        refine W_stUx hA rfl rfl rfl rfl rfl HH (by decide) (by decide) (fun w109 x37_83 hx37_83 hT HN => ?_)
        replace HB := HB.trans (hT.bel _ gHH)
        replace RR := hT.hart RR (by omega)
        replace HH := HN
        clear hT HN
        refine W_nil ?_
        refine then_nrm ?_
        show Code.wp Try.prog _ _ _ _
        refine wp_seq ?_
        refine wp_region_list ?_
        refine W_val hA rfl 143 rfl (by decide) _ _ (R_row hA rfl rfl HH Try.underlying25 (size_hart.trans (by rw [varr_size]))) (fun a hA => ?_)
        refine W_cpH hA rfl rfl rfl rfl rfl RR (fun w110 hT HN => ?_)
        replace HB := HB.trans (hT.bel _ gRR)
        replace HH := hT.hart HH (by omega)
        replace RR := HN
        clear hT HN
        refine W_nil ?_
        refine then_nrm ?_
        show Code.wp Try.prog _ _ _ _
        refine wp_ret ?_
        refine ret_hart (j := 2) (by kernel_rfl) hA rfl RR ?_
        refine ⟨congrArg (fun s : HS => Ending.returned (hartV s)) ?_, HB⟩
        refine fixZ_eq ?_ rfl rfl (fun i => ?_)
        · show t.v = (t.v && (t.n 33 != 3))
          rw [show (t.n 33 != 3) = true from by simpa using c23, Bool.and_true]
        by_cases e38 : i = 38
        · subst e38
          show x38_1 = _
          have q : noModeB x38_1 = false := by rw [noMode_bits, c1]; simpa using c2
          rw [hx38_1] at q
          rw [hx38_1]
          show _ = (if noModeB (maskZ 0 (t.n 38)) = true then bits .andNot .u64 (maskZ 0 (t.n 38)) 6144 else maskZ 0 (t.n 38))
          rw [show noModeB (maskZ 0 (t.n 38)) = false from q]
          rfl
        by_cases e33 : i = 33
        · subst e33
          have p : t.n 33 = 1 ∨ t.n 33 = 3 := .inr (by simpa using c19)
          show _ = (if t.n 33 = 1 ∨ t.n 33 = 3 then t.n 33 else 0)
          rw [if_pos p]
          rfl
        by_cases e37 : i = 37
        · subst e37
          show x37_83 = _
          rw [hx37_83]
          show _ = (if t.held = true then bits .and .u64 (t.n 37) 72057594037927928 else 0)
          rw [show t.held = false by simpa using c25]; rfl
        exact fixD ok hx0_72 hx1_71 hx39_49 hx40_50 hx41_51 hx42_52 hx43_53 hx44_54 hx46_55 hx51_56 hx52_57 hx54_58 hx57_59 hx58_60 hx59_61 hx60_62 hx61_63 hx62_64 hx63_65 hx66_66 hx68_67 hx69_68 hx71_69 hx74_70 (fun i h => by simp only [HS.put, HS.putV, if_neg (h 0 (by decide)), if_neg (h 1 (by decide)), if_neg (h 37 (by decide)), if_neg (h 38 (by decide)), if_neg (h 39 (by decide)), if_neg (h 40 (by decide)), if_neg (h 41 (by decide)), if_neg (h 42 (by decide)), if_neg (h 43 (by decide)), if_neg (h 44 (by decide)), if_neg (h 46 (by decide)), if_neg (h 51 (by decide)), if_neg (h 52 (by decide)), if_neg (h 54 (by decide)), if_neg (h 57 (by decide)), if_neg (h 58 (by decide)), if_neg (h 59 (by decide)), if_neg (h 60 (by decide)), if_neg (h 61 (by decide)), if_neg (h 62 (by decide)), if_neg (h 63 (by decide)), if_neg (h 66 (by decide)), if_neg (h 68 (by decide)), if_neg (h 69 (by decide)), if_neg (h 71 (by decide)), if_neg (h 74 (by decide))]) i ⟨e33, e37, e38⟩
      refine wp_skip ?_
      refine then_nrm ?_
      show Code.wp Try.prog _ _ _ _
      refine wp_seq ?_
      refine wp_region_list ?_
      refine W_val hA rfl 143 rfl (by decide) _ _ (R_row hA rfl rfl HH Try.underlying25 (size_hart.trans (by rw [varr_size]))) (fun a hA => ?_)
      refine W_cpH hA rfl rfl rfl rfl rfl RR (fun w111 hT HN => ?_)
      replace HB := HB.trans (hT.bel _ gRR)
      replace HH := hT.hart HH (by omega)
      replace RR := HN
      clear hT HN
      refine W_nil ?_
      refine then_nrm ?_
      show Code.wp Try.prog _ _ _ _
      refine wp_ret ?_
      refine ret_hart (j := 2) (by kernel_rfl) hA rfl RR ?_
      refine ⟨congrArg (fun s : HS => Ending.returned (hartV s)) ?_, HB⟩
      refine fixZ_eq ?_ rfl rfl (fun i => ?_)
      · show t.v = (t.v && (t.n 33 != 3))
        rw [show (t.n 33 != 3) = true from by simpa using c23, Bool.and_true]
      by_cases e38 : i = 38
      · subst e38
        show x38_1 = _
        have q : noModeB x38_1 = false := by rw [noMode_bits, c1]; simpa using c2
        rw [hx38_1] at q
        rw [hx38_1]
        show _ = (if noModeB (maskZ 0 (t.n 38)) = true then bits .andNot .u64 (maskZ 0 (t.n 38)) 6144 else maskZ 0 (t.n 38))
        rw [show noModeB (maskZ 0 (t.n 38)) = false from q]
        rfl
      by_cases e33 : i = 33
      · subst e33
        have p : t.n 33 = 1 ∨ t.n 33 = 3 := .inr (by simpa using c19)
        show _ = (if t.n 33 = 1 ∨ t.n 33 = 3 then t.n 33 else 0)
        rw [if_pos p]
        rfl
      by_cases e37 : i = 37
      · subst e37
        show x37_82 = _
        rw [hx37_82]
        show _ = (if t.held = true then bits .and .u64 (t.n 37) 72057594037927928 else 0)
        rw [show t.held = true by simpa using c25, if_pos rfl]
        exact res_and _
      exact fixD ok hx0_72 hx1_71 hx39_49 hx40_50 hx41_51 hx42_52 hx43_53 hx44_54 hx46_55 hx51_56 hx52_57 hx54_58 hx57_59 hx58_60 hx59_61 hx60_62 hx61_63 hx62_64 hx63_65 hx66_66 hx68_67 hx69_68 hx71_69 hx74_70 (fun i h => by simp only [HS.put, HS.putV, if_neg (h 0 (by decide)), if_neg (h 1 (by decide)), if_neg (h 37 (by decide)), if_neg (h 38 (by decide)), if_neg (h 39 (by decide)), if_neg (h 40 (by decide)), if_neg (h 41 (by decide)), if_neg (h 42 (by decide)), if_neg (h 43 (by decide)), if_neg (h 44 (by decide)), if_neg (h 46 (by decide)), if_neg (h 51 (by decide)), if_neg (h 52 (by decide)), if_neg (h 54 (by decide)), if_neg (h 57 (by decide)), if_neg (h 58 (by decide)), if_neg (h 59 (by decide)), if_neg (h 60 (by decide)), if_neg (h 61 (by decide)), if_neg (h 62 (by decide)), if_neg (h 63 (by decide)), if_neg (h 66 (by decide)), if_neg (h 68 (by decide)), if_neg (h 69 (by decide)), if_neg (h 71 (by decide)), if_neg (h 74 (by decide))]) i ⟨e33, e37, e38⟩
    refine W_gskip hA rfl rfl rfl 125 rfl (by decide) (fun a hA => ?_)
    refine W_gskip hA rfl rfl rfl 126 rfl (by decide) (fun a hA => ?_)
    refine W_gskip hA rfl rfl rfl 127 rfl (by decide) (fun a hA => ?_)
    refine W_val hA rfl 128 rfl (by decide) _ _ (R_pick hA rfl rfl rfl _) (fun a hA => ?_)
    refine W_nil ?_
    refine then_nrm ?_
    show Code.wp Try.prog _ _ _ _
    refine wp_cond_split (hA.ev (x := .tmp 128) rfl) (fun c26 => ?_) (fun c26 => ?_)
    · skip
      refine wp_region_list ?_
      refine W_val hA rfl 129 rfl (by decide) _ _ (R_fa hA rfl rfl (fun w => fa_hart _ 2 33 (by decide) rfl w) _) (fun a hA => ?_)
      refine W_stPx hA rfl rfl rfl rfl rfl HH (fun w112 x33_84 hx33_84 hT HN => ?_)
      replace HB := HB.trans (hT.bel _ gHH)
      replace RR := hT.hart RR (by omega)
      replace HH := HN
      clear hT HN
      refine W_nil ?_
      refine then_nrm ?_
      show Code.wp Try.prog _ _ _ _
      refine wp_seq ?_
      refine wp_seq ?_
      refine wp_region_list ?_
      refine W_val hA rfl 130 rfl (by decide) _ _ (R_fa hA rfl rfl (fun w => fa_hart _ 2 33 (by decide) rfl w) _) (fun a hA => ?_)
      refine W_val hA rfl 131 rfl (by decide) _ _ (R_ld hA rfl rfl ag_u8 (show _ = some (Value.int .u8 (x33_84)) from HH.p)) (fun a hA => ?_)
      refine W_val hA rfl 132 rfl (by decide) _ _ (R_eqlB hA rfl rfl rfl _) (fun a hA => ?_)
      refine W_nil ?_
      refine then_nrm ?_
      show Code.wp Try.prog _ _ _ _
      refine wp_cond_split (hA.ev (x := .tmp 132) rfl) (fun c27 => ?_) (fun c27 => ?_)
      · skip
        refine wp_region_list ?_
        refine W_val hA rfl 133 rfl (by decide) _ _ (R_fa hA rfl rfl (fun w => fa_hart _ 3 34 (by decide) rfl w) _) (fun a hA => ?_)
        refine W_stVx hA rfl rfl rfl rfl rfl HH (fun w113 x34_85 hx34_85 hT HN => ?_)
        replace HB := HB.trans (hT.bel _ gHH)
        replace RR := hT.hart RR (by omega)
        replace HH := HN
        clear hT HN
        refine W_nil ?_
        refine then_nrm ?_
        show Code.wp Try.prog _ _ _ _
        refine wp_seq ?_
        refine wp_region_list ?_
        refine W_val hA rfl 134 rfl (by decide) _ _ (R_fa hA rfl rfl (fun w => fa_hart _ 6 37 (by decide) rfl w) _) (fun a hA => ?_)
        refine W_val hA rfl 135 rfl (by decide) _ _ (R_ld hA rfl rfl ag_u64 (show _ = some (Value.int .u64 (t.n 37)) from HH.u 37 (by decide) (by decide))) (fun a hA => ?_)
        refine W_val hA rfl 136 rfl (by decide) _ _ (R_andNot hA rfl rfl rfl _) (fun a hA => ?_)
        refine W_val hA rfl 137 rfl (by decide) _ _ (R_and hA rfl rfl rfl _) (fun a hA => ?_)
        refine W_val hA rfl 138 rfl (by decide) _ _ (R_fa hA rfl rfl (fun w => fa_hart _ 6 37 (by decide) rfl w) _) (fun a hA => ?_)
        refine W_stUx hA rfl rfl rfl rfl rfl HH (by decide) (by decide) (fun w114 x37_86 hx37_86 hT HN => ?_)
        replace HB := HB.trans (hT.bel _ gHH)
        replace RR := hT.hart RR (by omega)
        replace HH := HN
        clear hT HN
        refine W_nil ?_
        refine then_nrm ?_
        show Code.wp Try.prog _ _ _ _
        refine wp_seq ?_
        refine wp_seq ?_
        refine wp_region_list ?_
        refine W_val hA rfl 139 rfl (by decide) _ _ (R_fa hA rfl rfl (fun w => fa_hart _ 5 36 (by decide) rfl w) _) (fun a hA => ?_)
        refine W_val hA rfl 140 rfl (by decide) _ _ (R_ld hA rfl rfl ag_bool (show _ = some (Value.bool t.held) from HH.hd)) (fun a hA => ?_)
        refine W_val hA rfl 141 rfl (by decide) _ _ (R_not hA rfl rfl _) (fun a hA => ?_)
        refine W_nil ?_
        refine then_nrm ?_
        show Code.wp Try.prog _ _ _ _
        refine wp_cond_split (hA.ev (x := .tmp 141) rfl) (fun c28 => ?_) (fun c28 => ?_)
        · skip
          refine wp_region_list ?_
          refine W_val hA rfl 142 rfl (by decide) _ _ (R_fa hA rfl rfl (fun w => fa_hart _ 6 37 (by decide) rfl w) _) (fun a hA => ?_)
          refine W_stUx hA rfl rfl rfl rfl rfl HH (by decide) (by decide) (fun w115 x37_87 hx37_87 hT HN => ?_)
          replace HB := HB.trans (hT.bel _ gHH)
          replace RR := hT.hart RR (by omega)
          replace HH := HN
          clear hT HN
          refine W_nil ?_
          refine then_nrm ?_
          show Code.wp Try.prog _ _ _ _
          refine wp_seq ?_
          refine wp_region_list ?_
          refine W_val hA rfl 143 rfl (by decide) _ _ (R_row hA rfl rfl HH Try.underlying25 (size_hart.trans (by rw [varr_size]))) (fun a hA => ?_)
          refine W_cpH hA rfl rfl rfl rfl rfl RR (fun w116 hT HN => ?_)
          replace HB := HB.trans (hT.bel _ gRR)
          replace HH := hT.hart HH (by omega)
          replace RR := HN
          clear hT HN
          refine W_nil ?_
          refine then_nrm ?_
          show Code.wp Try.prog _ _ _ _
          refine wp_ret ?_
          cases c26
        refine wp_skip ?_
        refine then_nrm ?_
        show Code.wp Try.prog _ _ _ _
        refine wp_seq ?_
        refine wp_region_list ?_
        refine W_val hA rfl 143 rfl (by decide) _ _ (R_row hA rfl rfl HH Try.underlying25 (size_hart.trans (by rw [varr_size]))) (fun a hA => ?_)
        refine W_cpH hA rfl rfl rfl rfl rfl RR (fun w117 hT HN => ?_)
        replace HB := HB.trans (hT.bel _ gRR)
        replace HH := hT.hart HH (by omega)
        replace RR := HN
        clear hT HN
        refine W_nil ?_
        refine then_nrm ?_
        show Code.wp Try.prog _ _ _ _
        refine wp_ret ?_
        cases c26
      refine wp_skip ?_
      refine then_nrm ?_
      show Code.wp Try.prog _ _ _ _
      refine wp_seq ?_
      refine wp_region_list ?_
      refine W_val hA rfl 134 rfl (by decide) _ _ (R_fa hA rfl rfl (fun w => fa_hart _ 6 37 (by decide) rfl w) _) (fun a hA => ?_)
      refine W_val hA rfl 135 rfl (by decide) _ _ (R_ld hA rfl rfl ag_u64 (show _ = some (Value.int .u64 (t.n 37)) from HH.u 37 (by decide) (by decide))) (fun a hA => ?_)
      refine W_val hA rfl 136 rfl (by decide) _ _ (R_andNot hA rfl rfl rfl _) (fun a hA => ?_)
      refine W_val hA rfl 137 rfl (by decide) _ _ (R_and hA rfl rfl rfl _) (fun a hA => ?_)
      refine W_val hA rfl 138 rfl (by decide) _ _ (R_fa hA rfl rfl (fun w => fa_hart _ 6 37 (by decide) rfl w) _) (fun a hA => ?_)
      refine W_stUx hA rfl rfl rfl rfl rfl HH (by decide) (by decide) (fun w118 x37_88 hx37_88 hT HN => ?_)
      replace HB := HB.trans (hT.bel _ gHH)
      replace RR := hT.hart RR (by omega)
      replace HH := HN
      clear hT HN
      refine W_nil ?_
      refine then_nrm ?_
      show Code.wp Try.prog _ _ _ _
      refine wp_seq ?_
      refine wp_seq ?_
      refine wp_region_list ?_
      refine W_val hA rfl 139 rfl (by decide) _ _ (R_fa hA rfl rfl (fun w => fa_hart _ 5 36 (by decide) rfl w) _) (fun a hA => ?_)
      refine W_val hA rfl 140 rfl (by decide) _ _ (R_ld hA rfl rfl ag_bool (show _ = some (Value.bool t.held) from HH.hd)) (fun a hA => ?_)
      refine W_val hA rfl 141 rfl (by decide) _ _ (R_not hA rfl rfl _) (fun a hA => ?_)
      refine W_nil ?_
      refine then_nrm ?_
      show Code.wp Try.prog _ _ _ _
      refine wp_cond_split (hA.ev (x := .tmp 141) rfl) (fun c29 => ?_) (fun c29 => ?_)
      · skip
        refine wp_region_list ?_
        refine W_val hA rfl 142 rfl (by decide) _ _ (R_fa hA rfl rfl (fun w => fa_hart _ 6 37 (by decide) rfl w) _) (fun a hA => ?_)
        refine W_stUx hA rfl rfl rfl rfl rfl HH (by decide) (by decide) (fun w119 x37_89 hx37_89 hT HN => ?_)
        replace HB := HB.trans (hT.bel _ gHH)
        replace RR := hT.hart RR (by omega)
        replace HH := HN
        clear hT HN
        refine W_nil ?_
        refine then_nrm ?_
        show Code.wp Try.prog _ _ _ _
        refine wp_seq ?_
        refine wp_region_list ?_
        refine W_val hA rfl 143 rfl (by decide) _ _ (R_row hA rfl rfl HH Try.underlying25 (size_hart.trans (by rw [varr_size]))) (fun a hA => ?_)
        refine W_cpH hA rfl rfl rfl rfl rfl RR (fun w120 hT HN => ?_)
        replace HB := HB.trans (hT.bel _ gRR)
        replace HH := hT.hart HH (by omega)
        replace RR := HN
        clear hT HN
        refine W_nil ?_
        refine then_nrm ?_
        show Code.wp Try.prog _ _ _ _
        refine wp_ret ?_
        cases c26
      refine wp_skip ?_
      refine then_nrm ?_
      show Code.wp Try.prog _ _ _ _
      refine wp_seq ?_
      refine wp_region_list ?_
      refine W_val hA rfl 143 rfl (by decide) _ _ (R_row hA rfl rfl HH Try.underlying25 (size_hart.trans (by rw [varr_size]))) (fun a hA => ?_)
      refine W_cpH hA rfl rfl rfl rfl rfl RR (fun w121 hT HN => ?_)
      replace HB := HB.trans (hT.bel _ gRR)
      replace HH := hT.hart HH (by omega)
      replace RR := HN
      clear hT HN
      refine W_nil ?_
      refine then_nrm ?_
      show Code.wp Try.prog _ _ _ _
      refine wp_ret ?_
      cases c26
    refine wp_skip ?_
    refine then_nrm ?_
    show Code.wp Try.prog _ _ _ _
    refine wp_seq ?_
    refine wp_seq ?_
    refine wp_region_list ?_
    refine W_val hA rfl 130 rfl (by decide) _ _ (R_fa hA rfl rfl (fun w => fa_hart _ 2 33 (by decide) rfl w) _) (fun a hA => ?_)
    refine W_val hA rfl 131 rfl (by decide) _ _ (R_ld hA rfl rfl ag_u8 (show _ = some (Value.int .u8 (t.n 33)) from HH.p)) (fun a hA => ?_)
    refine W_val hA rfl 132 rfl (by decide) _ _ (R_eqlB hA rfl rfl rfl _) (fun a hA => ?_)
    refine W_nil ?_
    refine then_nrm ?_
    show Code.wp Try.prog _ _ _ _
    refine wp_cond_split (hA.ev (x := .tmp 132) rfl) (fun c30 => ?_) (fun c30 => ?_)
    · skip
      refine wp_region_list ?_
      refine W_val hA rfl 133 rfl (by decide) _ _ (R_fa hA rfl rfl (fun w => fa_hart _ 3 34 (by decide) rfl w) _) (fun a hA => ?_)
      refine W_stVx hA rfl rfl rfl rfl rfl HH (fun w122 x34_90 hx34_90 hT HN => ?_)
      replace HB := HB.trans (hT.bel _ gHH)
      replace RR := hT.hart RR (by omega)
      replace HH := HN
      clear hT HN
      refine W_nil ?_
      refine then_nrm ?_
      show Code.wp Try.prog _ _ _ _
      refine wp_seq ?_
      refine wp_region_list ?_
      refine W_val hA rfl 134 rfl (by decide) _ _ (R_fa hA rfl rfl (fun w => fa_hart _ 6 37 (by decide) rfl w) _) (fun a hA => ?_)
      refine W_val hA rfl 135 rfl (by decide) _ _ (R_ld hA rfl rfl ag_u64 (show _ = some (Value.int .u64 (t.n 37)) from HH.u 37 (by decide) (by decide))) (fun a hA => ?_)
      refine W_val hA rfl 136 rfl (by decide) _ _ (R_andNot hA rfl rfl rfl _) (fun a hA => ?_)
      refine W_val hA rfl 137 rfl (by decide) _ _ (R_and hA rfl rfl rfl _) (fun a hA => ?_)
      refine W_val hA rfl 138 rfl (by decide) _ _ (R_fa hA rfl rfl (fun w => fa_hart _ 6 37 (by decide) rfl w) _) (fun a hA => ?_)
      refine W_stUx hA rfl rfl rfl rfl rfl HH (by decide) (by decide) (fun w123 x37_91 hx37_91 hT HN => ?_)
      replace HB := HB.trans (hT.bel _ gHH)
      replace RR := hT.hart RR (by omega)
      replace HH := HN
      clear hT HN
      refine W_nil ?_
      refine then_nrm ?_
      show Code.wp Try.prog _ _ _ _
      refine wp_seq ?_
      refine wp_seq ?_
      refine wp_region_list ?_
      refine W_val hA rfl 139 rfl (by decide) _ _ (R_fa hA rfl rfl (fun w => fa_hart _ 5 36 (by decide) rfl w) _) (fun a hA => ?_)
      refine W_val hA rfl 140 rfl (by decide) _ _ (R_ld hA rfl rfl ag_bool (show _ = some (Value.bool t.held) from HH.hd)) (fun a hA => ?_)
      refine W_val hA rfl 141 rfl (by decide) _ _ (R_not hA rfl rfl _) (fun a hA => ?_)
      refine W_nil ?_
      refine then_nrm ?_
      show Code.wp Try.prog _ _ _ _
      refine wp_cond_split (hA.ev (x := .tmp 141) rfl) (fun c31 => ?_) (fun c31 => ?_)
      · skip
        refine wp_region_list ?_
        refine W_val hA rfl 142 rfl (by decide) _ _ (R_fa hA rfl rfl (fun w => fa_hart _ 6 37 (by decide) rfl w) _) (fun a hA => ?_)
        refine W_stUx hA rfl rfl rfl rfl rfl HH (by decide) (by decide) (fun w124 x37_92 hx37_92 hT HN => ?_)
        replace HB := HB.trans (hT.bel _ gHH)
        replace RR := hT.hart RR (by omega)
        replace HH := HN
        clear hT HN
        refine W_nil ?_
        refine then_nrm ?_
        show Code.wp Try.prog _ _ _ _
        refine wp_seq ?_
        refine wp_region_list ?_
        refine W_val hA rfl 143 rfl (by decide) _ _ (R_row hA rfl rfl HH Try.underlying25 (size_hart.trans (by rw [varr_size]))) (fun a hA => ?_)
        refine W_cpH hA rfl rfl rfl rfl rfl RR (fun w125 hT HN => ?_)
        replace HB := HB.trans (hT.bel _ gRR)
        replace HH := hT.hart HH (by omega)
        replace RR := HN
        clear hT HN
        refine W_nil ?_
        refine then_nrm ?_
        show Code.wp Try.prog _ _ _ _
        refine wp_ret ?_
        refine ret_hart (j := 2) (by kernel_rfl) hA rfl RR ?_
        refine ⟨congrArg (fun s : HS => Ending.returned (hartV s)) ?_, HB⟩
        refine fixZ_eq ?_ rfl rfl (fun i => ?_)
        · show x34_90 = (t.v && (t.n 33 != 3))
          rw [hx34_90, show (t.n 33 != 3) = false from by simpa using c30, Bool.and_false]
        by_cases e38 : i = 38
        · subst e38
          show x38_1 = _
          have q : noModeB x38_1 = false := by rw [noMode_bits, c1]; simpa using c2
          rw [hx38_1] at q
          rw [hx38_1]
          show _ = (if noModeB (maskZ 0 (t.n 38)) = true then bits .andNot .u64 (maskZ 0 (t.n 38)) 6144 else maskZ 0 (t.n 38))
          rw [show noModeB (maskZ 0 (t.n 38)) = false from q]
          rfl
        by_cases e33 : i = 33
        · subst e33
          have p : t.n 33 = 1 ∨ t.n 33 = 3 := .inl (by simpa using c18)
          show _ = (if t.n 33 = 1 ∨ t.n 33 = 3 then t.n 33 else 0)
          rw [if_pos p]
          rfl
        by_cases e37 : i = 37
        · subst e37
          show x37_92 = _
          rw [hx37_92]
          show _ = (if t.held = true then bits .and .u64 (t.n 37) 72057594037927928 else 0)
          rw [show t.held = false by simpa using c31]; rfl
        exact fixD ok hx0_72 hx1_71 hx39_49 hx40_50 hx41_51 hx42_52 hx43_53 hx44_54 hx46_55 hx51_56 hx52_57 hx54_58 hx57_59 hx58_60 hx59_61 hx60_62 hx61_63 hx62_64 hx63_65 hx66_66 hx68_67 hx69_68 hx71_69 hx74_70 (fun i h => by simp only [HS.put, HS.putV, if_neg (h 0 (by decide)), if_neg (h 1 (by decide)), if_neg (h 37 (by decide)), if_neg (h 38 (by decide)), if_neg (h 39 (by decide)), if_neg (h 40 (by decide)), if_neg (h 41 (by decide)), if_neg (h 42 (by decide)), if_neg (h 43 (by decide)), if_neg (h 44 (by decide)), if_neg (h 46 (by decide)), if_neg (h 51 (by decide)), if_neg (h 52 (by decide)), if_neg (h 54 (by decide)), if_neg (h 57 (by decide)), if_neg (h 58 (by decide)), if_neg (h 59 (by decide)), if_neg (h 60 (by decide)), if_neg (h 61 (by decide)), if_neg (h 62 (by decide)), if_neg (h 63 (by decide)), if_neg (h 66 (by decide)), if_neg (h 68 (by decide)), if_neg (h 69 (by decide)), if_neg (h 71 (by decide)), if_neg (h 74 (by decide))]) i ⟨e33, e37, e38⟩
      refine wp_skip ?_
      refine then_nrm ?_
      show Code.wp Try.prog _ _ _ _
      refine wp_seq ?_
      refine wp_region_list ?_
      refine W_val hA rfl 143 rfl (by decide) _ _ (R_row hA rfl rfl HH Try.underlying25 (size_hart.trans (by rw [varr_size]))) (fun a hA => ?_)
      refine W_cpH hA rfl rfl rfl rfl rfl RR (fun w126 hT HN => ?_)
      replace HB := HB.trans (hT.bel _ gRR)
      replace HH := hT.hart HH (by omega)
      replace RR := HN
      clear hT HN
      refine W_nil ?_
      refine then_nrm ?_
      show Code.wp Try.prog _ _ _ _
      refine wp_ret ?_
      refine ret_hart (j := 2) (by kernel_rfl) hA rfl RR ?_
      refine ⟨congrArg (fun s : HS => Ending.returned (hartV s)) ?_, HB⟩
      refine fixZ_eq ?_ rfl rfl (fun i => ?_)
      · show x34_90 = (t.v && (t.n 33 != 3))
        rw [hx34_90, show (t.n 33 != 3) = false from by simpa using c30, Bool.and_false]
      by_cases e38 : i = 38
      · subst e38
        show x38_1 = _
        have q : noModeB x38_1 = false := by rw [noMode_bits, c1]; simpa using c2
        rw [hx38_1] at q
        rw [hx38_1]
        show _ = (if noModeB (maskZ 0 (t.n 38)) = true then bits .andNot .u64 (maskZ 0 (t.n 38)) 6144 else maskZ 0 (t.n 38))
        rw [show noModeB (maskZ 0 (t.n 38)) = false from q]
        rfl
      by_cases e33 : i = 33
      · subst e33
        have p : t.n 33 = 1 ∨ t.n 33 = 3 := .inl (by simpa using c18)
        show _ = (if t.n 33 = 1 ∨ t.n 33 = 3 then t.n 33 else 0)
        rw [if_pos p]
        rfl
      by_cases e37 : i = 37
      · subst e37
        show x37_91 = _
        rw [hx37_91]
        show _ = (if t.held = true then bits .and .u64 (t.n 37) 72057594037927928 else 0)
        rw [show t.held = true by simpa using c31, if_pos rfl]
        exact res_and _
      exact fixD ok hx0_72 hx1_71 hx39_49 hx40_50 hx41_51 hx42_52 hx43_53 hx44_54 hx46_55 hx51_56 hx52_57 hx54_58 hx57_59 hx58_60 hx59_61 hx60_62 hx61_63 hx62_64 hx63_65 hx66_66 hx68_67 hx69_68 hx71_69 hx74_70 (fun i h => by simp only [HS.put, HS.putV, if_neg (h 0 (by decide)), if_neg (h 1 (by decide)), if_neg (h 37 (by decide)), if_neg (h 38 (by decide)), if_neg (h 39 (by decide)), if_neg (h 40 (by decide)), if_neg (h 41 (by decide)), if_neg (h 42 (by decide)), if_neg (h 43 (by decide)), if_neg (h 44 (by decide)), if_neg (h 46 (by decide)), if_neg (h 51 (by decide)), if_neg (h 52 (by decide)), if_neg (h 54 (by decide)), if_neg (h 57 (by decide)), if_neg (h 58 (by decide)), if_neg (h 59 (by decide)), if_neg (h 60 (by decide)), if_neg (h 61 (by decide)), if_neg (h 62 (by decide)), if_neg (h 63 (by decide)), if_neg (h 66 (by decide)), if_neg (h 68 (by decide)), if_neg (h 69 (by decide)), if_neg (h 71 (by decide)), if_neg (h 74 (by decide))]) i ⟨e33, e37, e38⟩
    refine wp_skip ?_
    refine then_nrm ?_
    show Code.wp Try.prog _ _ _ _
    refine wp_seq ?_
    refine wp_region_list ?_
    refine W_val hA rfl 134 rfl (by decide) _ _ (R_fa hA rfl rfl (fun w => fa_hart _ 6 37 (by decide) rfl w) _) (fun a hA => ?_)
    refine W_val hA rfl 135 rfl (by decide) _ _ (R_ld hA rfl rfl ag_u64 (show _ = some (Value.int .u64 (t.n 37)) from HH.u 37 (by decide) (by decide))) (fun a hA => ?_)
    refine W_val hA rfl 136 rfl (by decide) _ _ (R_andNot hA rfl rfl rfl _) (fun a hA => ?_)
    refine W_val hA rfl 137 rfl (by decide) _ _ (R_and hA rfl rfl rfl _) (fun a hA => ?_)
    refine W_val hA rfl 138 rfl (by decide) _ _ (R_fa hA rfl rfl (fun w => fa_hart _ 6 37 (by decide) rfl w) _) (fun a hA => ?_)
    refine W_stUx hA rfl rfl rfl rfl rfl HH (by decide) (by decide) (fun w127 x37_93 hx37_93 hT HN => ?_)
    replace HB := HB.trans (hT.bel _ gHH)
    replace RR := hT.hart RR (by omega)
    replace HH := HN
    clear hT HN
    refine W_nil ?_
    refine then_nrm ?_
    show Code.wp Try.prog _ _ _ _
    refine wp_seq ?_
    refine wp_seq ?_
    refine wp_region_list ?_
    refine W_val hA rfl 139 rfl (by decide) _ _ (R_fa hA rfl rfl (fun w => fa_hart _ 5 36 (by decide) rfl w) _) (fun a hA => ?_)
    refine W_val hA rfl 140 rfl (by decide) _ _ (R_ld hA rfl rfl ag_bool (show _ = some (Value.bool t.held) from HH.hd)) (fun a hA => ?_)
    refine W_val hA rfl 141 rfl (by decide) _ _ (R_not hA rfl rfl _) (fun a hA => ?_)
    refine W_nil ?_
    refine then_nrm ?_
    show Code.wp Try.prog _ _ _ _
    refine wp_cond_split (hA.ev (x := .tmp 141) rfl) (fun c32 => ?_) (fun c32 => ?_)
    · skip
      refine wp_region_list ?_
      refine W_val hA rfl 142 rfl (by decide) _ _ (R_fa hA rfl rfl (fun w => fa_hart _ 6 37 (by decide) rfl w) _) (fun a hA => ?_)
      refine W_stUx hA rfl rfl rfl rfl rfl HH (by decide) (by decide) (fun w128 x37_94 hx37_94 hT HN => ?_)
      replace HB := HB.trans (hT.bel _ gHH)
      replace RR := hT.hart RR (by omega)
      replace HH := HN
      clear hT HN
      refine W_nil ?_
      refine then_nrm ?_
      show Code.wp Try.prog _ _ _ _
      refine wp_seq ?_
      refine wp_region_list ?_
      refine W_val hA rfl 143 rfl (by decide) _ _ (R_row hA rfl rfl HH Try.underlying25 (size_hart.trans (by rw [varr_size]))) (fun a hA => ?_)
      refine W_cpH hA rfl rfl rfl rfl rfl RR (fun w129 hT HN => ?_)
      replace HB := HB.trans (hT.bel _ gRR)
      replace HH := hT.hart HH (by omega)
      replace RR := HN
      clear hT HN
      refine W_nil ?_
      refine then_nrm ?_
      show Code.wp Try.prog _ _ _ _
      refine wp_ret ?_
      refine ret_hart (j := 2) (by kernel_rfl) hA rfl RR ?_
      refine ⟨congrArg (fun s : HS => Ending.returned (hartV s)) ?_, HB⟩
      refine fixZ_eq ?_ rfl rfl (fun i => ?_)
      · show t.v = (t.v && (t.n 33 != 3))
        rw [show (t.n 33 != 3) = true from by simpa using c30, Bool.and_true]
      by_cases e38 : i = 38
      · subst e38
        show x38_1 = _
        have q : noModeB x38_1 = false := by rw [noMode_bits, c1]; simpa using c2
        rw [hx38_1] at q
        rw [hx38_1]
        show _ = (if noModeB (maskZ 0 (t.n 38)) = true then bits .andNot .u64 (maskZ 0 (t.n 38)) 6144 else maskZ 0 (t.n 38))
        rw [show noModeB (maskZ 0 (t.n 38)) = false from q]
        rfl
      by_cases e33 : i = 33
      · subst e33
        have p : t.n 33 = 1 ∨ t.n 33 = 3 := .inl (by simpa using c18)
        show _ = (if t.n 33 = 1 ∨ t.n 33 = 3 then t.n 33 else 0)
        rw [if_pos p]
        rfl
      by_cases e37 : i = 37
      · subst e37
        show x37_94 = _
        rw [hx37_94]
        show _ = (if t.held = true then bits .and .u64 (t.n 37) 72057594037927928 else 0)
        rw [show t.held = false by simpa using c32]; rfl
      exact fixD ok hx0_72 hx1_71 hx39_49 hx40_50 hx41_51 hx42_52 hx43_53 hx44_54 hx46_55 hx51_56 hx52_57 hx54_58 hx57_59 hx58_60 hx59_61 hx60_62 hx61_63 hx62_64 hx63_65 hx66_66 hx68_67 hx69_68 hx71_69 hx74_70 (fun i h => by simp only [HS.put, HS.putV, if_neg (h 0 (by decide)), if_neg (h 1 (by decide)), if_neg (h 37 (by decide)), if_neg (h 38 (by decide)), if_neg (h 39 (by decide)), if_neg (h 40 (by decide)), if_neg (h 41 (by decide)), if_neg (h 42 (by decide)), if_neg (h 43 (by decide)), if_neg (h 44 (by decide)), if_neg (h 46 (by decide)), if_neg (h 51 (by decide)), if_neg (h 52 (by decide)), if_neg (h 54 (by decide)), if_neg (h 57 (by decide)), if_neg (h 58 (by decide)), if_neg (h 59 (by decide)), if_neg (h 60 (by decide)), if_neg (h 61 (by decide)), if_neg (h 62 (by decide)), if_neg (h 63 (by decide)), if_neg (h 66 (by decide)), if_neg (h 68 (by decide)), if_neg (h 69 (by decide)), if_neg (h 71 (by decide)), if_neg (h 74 (by decide))]) i ⟨e33, e37, e38⟩
    refine wp_skip ?_
    refine then_nrm ?_
    show Code.wp Try.prog _ _ _ _
    refine wp_seq ?_
    refine wp_region_list ?_
    refine W_val hA rfl 143 rfl (by decide) _ _ (R_row hA rfl rfl HH Try.underlying25 (size_hart.trans (by rw [varr_size]))) (fun a hA => ?_)
    refine W_cpH hA rfl rfl rfl rfl rfl RR (fun w130 hT HN => ?_)
    replace HB := HB.trans (hT.bel _ gRR)
    replace HH := hT.hart HH (by omega)
    replace RR := HN
    clear hT HN
    refine W_nil ?_
    refine then_nrm ?_
    show Code.wp Try.prog _ _ _ _
    refine wp_ret ?_
    refine ret_hart (j := 2) (by kernel_rfl) hA rfl RR ?_
    refine ⟨congrArg (fun s : HS => Ending.returned (hartV s)) ?_, HB⟩
    refine fixZ_eq ?_ rfl rfl (fun i => ?_)
    · show t.v = (t.v && (t.n 33 != 3))
      rw [show (t.n 33 != 3) = true from by simpa using c30, Bool.and_true]
    by_cases e38 : i = 38
    · subst e38
      show x38_1 = _
      have q : noModeB x38_1 = false := by rw [noMode_bits, c1]; simpa using c2
      rw [hx38_1] at q
      rw [hx38_1]
      show _ = (if noModeB (maskZ 0 (t.n 38)) = true then bits .andNot .u64 (maskZ 0 (t.n 38)) 6144 else maskZ 0 (t.n 38))
      rw [show noModeB (maskZ 0 (t.n 38)) = false from q]
      rfl
    by_cases e33 : i = 33
    · subst e33
      have p : t.n 33 = 1 ∨ t.n 33 = 3 := .inl (by simpa using c18)
      show _ = (if t.n 33 = 1 ∨ t.n 33 = 3 then t.n 33 else 0)
      rw [if_pos p]
      rfl
    by_cases e37 : i = 37
    · subst e37
      show x37_93 = _
      rw [hx37_93]
      show _ = (if t.held = true then bits .and .u64 (t.n 37) 72057594037927928 else 0)
      rw [show t.held = true by simpa using c32, if_pos rfl]
      exact res_and _
    exact fixD ok hx0_72 hx1_71 hx39_49 hx40_50 hx41_51 hx42_52 hx43_53 hx44_54 hx46_55 hx51_56 hx52_57 hx54_58 hx57_59 hx58_60 hx59_61 hx60_62 hx61_63 hx62_64 hx63_65 hx66_66 hx68_67 hx69_68 hx71_69 hx74_70 (fun i h => by simp only [HS.put, HS.putV, if_neg (h 0 (by decide)), if_neg (h 1 (by decide)), if_neg (h 37 (by decide)), if_neg (h 38 (by decide)), if_neg (h 39 (by decide)), if_neg (h 40 (by decide)), if_neg (h 41 (by decide)), if_neg (h 42 (by decide)), if_neg (h 43 (by decide)), if_neg (h 44 (by decide)), if_neg (h 46 (by decide)), if_neg (h 51 (by decide)), if_neg (h 52 (by decide)), if_neg (h 54 (by decide)), if_neg (h 57 (by decide)), if_neg (h 58 (by decide)), if_neg (h 59 (by decide)), if_neg (h 60 (by decide)), if_neg (h 61 (by decide)), if_neg (h 62 (by decide)), if_neg (h 63 (by decide)), if_neg (h 66 (by decide)), if_neg (h 68 (by decide)), if_neg (h 69 (by decide)), if_neg (h 71 (by decide)), if_neg (h 74 (by decide))]) i ⟨e33, e37, e38⟩
  refine W_gskip hA rfl rfl rfl 12 rfl (by decide) (fun a hA => ?_)
  refine W_gskip hA rfl rfl rfl 13 rfl (by decide) (fun a hA => ?_)
  refine W_gskip hA rfl rfl rfl 14 rfl (by decide) (fun a hA => ?_)
  refine W_gskip hA rfl rfl rfl 15 rfl (by decide) (fun a hA => ?_)
  refine W_val hA rfl 16 rfl (by decide) _ _ (R_pick hA rfl rfl rfl _) (fun a hA => ?_)
  refine W_nil ?_
  refine then_nrm ?_
  show Code.wp Try.prog _ _ _ _
  refine wp_cond_false (hA.ev (x := .tmp 16) rfl) ?_
  refine wp_skip ?_
  refine then_nrm ?_
  show Code.wp Try.prog _ _ _ _
  refine wp_seq ?_
  refine wp_region_list ?_
  refine W_val hA rfl 21 rfl (by decide) _ _ (R_fa hA rfl rfl (fun w => fa_hart _ 8 39 (by decide) rfl w) _) (fun a hA => ?_)
  refine W_val hA rfl 22 rfl (by decide) _ _ (R_ld hA rfl rfl ag_u64 (show _ = some (Value.int .u64 (t.n 39)) from HH.u 39 (by decide) (by decide))) (fun a hA => ?_)
  refine W_val hA rfl 23 rfl (by decide) _ _ (R_and hA rfl rfl rfl _) (fun a hA => ?_)
  refine W_val hA rfl 24 rfl (by decide) _ _ (R_fa hA rfl rfl (fun w => fa_hart _ 8 39 (by decide) rfl w) _) (fun a hA => ?_)
  refine W_stUx hA rfl rfl rfl rfl rfl HH (by decide) (by decide) (fun w131 x39_95 hx39_95 hT HN => ?_)
  replace HB := HB.trans (hT.bel _ gHH)
  replace RR := hT.hart RR (by omega)
  replace HH := HN
  clear hT HN
  refine W_nil ?_
  refine then_nrm ?_
  show Code.wp Try.prog _ _ _ _
  refine wp_seq ?_
  refine wp_region_list ?_
  refine W_val hA rfl 25 rfl (by decide) _ _ (R_fa hA rfl rfl (fun w => fa_hart _ 9 40 (by decide) rfl w) _) (fun a hA => ?_)
  refine W_val hA rfl 26 rfl (by decide) _ _ (R_ld hA rfl rfl ag_u64 (show _ = some (Value.int .u64 (t.n 40)) from HH.u 40 (by decide) (by decide))) (fun a hA => ?_)
  refine W_val hA rfl 27 rfl (by decide) _ _ (R_and hA rfl rfl rfl _) (fun a hA => ?_)
  refine W_val hA rfl 28 rfl (by decide) _ _ (R_or hA rfl rfl rfl _) (fun a hA => ?_)
  refine W_val hA rfl 29 rfl (by decide) _ _ (R_fa hA rfl rfl (fun w => fa_hart _ 9 40 (by decide) rfl w) _) (fun a hA => ?_)
  refine W_stUx hA rfl rfl rfl rfl rfl HH (by decide) (by decide) (fun w132 x40_96 hx40_96 hT HN => ?_)
  replace HB := HB.trans (hT.bel _ gHH)
  replace RR := hT.hart RR (by omega)
  replace HH := HN
  clear hT HN
  refine W_nil ?_
  refine then_nrm ?_
  show Code.wp Try.prog _ _ _ _
  refine wp_seq ?_
  refine wp_region_list ?_
  refine W_val hA rfl 30 rfl (by decide) _ _ (R_fa hA rfl rfl (fun w => fa_hart _ 10 41 (by decide) rfl w) _) (fun a hA => ?_)
  refine W_val hA rfl 31 rfl (by decide) _ _ (R_ld hA rfl rfl ag_u64 (show _ = some (Value.int .u64 (t.n 41)) from HH.u 41 (by decide) (by decide))) (fun a hA => ?_)
  refine W_val hA rfl 32 rfl (by decide) _ _ (R_and hA rfl rfl rfl _) (fun a hA => ?_)
  refine W_val hA rfl 33 rfl (by decide) _ _ (R_fa hA rfl rfl (fun w => fa_hart _ 10 41 (by decide) rfl w) _) (fun a hA => ?_)
  refine W_stUx hA rfl rfl rfl rfl rfl HH (by decide) (by decide) (fun w133 x41_97 hx41_97 hT HN => ?_)
  replace HB := HB.trans (hT.bel _ gHH)
  replace RR := hT.hart RR (by omega)
  replace HH := HN
  clear hT HN
  refine W_nil ?_
  refine then_nrm ?_
  show Code.wp Try.prog _ _ _ _
  refine wp_seq ?_
  refine wp_region_list ?_
  refine W_val hA rfl 34 rfl (by decide) _ _ (R_fa hA rfl rfl (fun w => fa_hart _ 11 42 (by decide) rfl w) _) (fun a hA => ?_)
  refine W_val hA rfl 35 rfl (by decide) _ _ (R_ld hA rfl rfl ag_u64 (show _ = some (Value.int .u64 (t.n 42)) from HH.u 42 (by decide) (by decide))) (fun a hA => ?_)
  refine W_val hA rfl 36 rfl (by decide) _ _ (R_and hA rfl rfl rfl _) (fun a hA => ?_)
  refine W_val hA rfl 37 rfl (by decide) _ _ (R_fa hA rfl rfl (fun w => fa_hart _ 11 42 (by decide) rfl w) _) (fun a hA => ?_)
  refine W_stUx hA rfl rfl rfl rfl rfl HH (by decide) (by decide) (fun w134 x42_98 hx42_98 hT HN => ?_)
  replace HB := HB.trans (hT.bel _ gHH)
  replace RR := hT.hart RR (by omega)
  replace HH := HN
  clear hT HN
  refine W_nil ?_
  refine then_nrm ?_
  show Code.wp Try.prog _ _ _ _
  refine wp_seq ?_
  refine wp_region_list ?_
  refine W_val hA rfl 38 rfl (by decide) _ _ (R_fa hA rfl rfl (fun w => fa_hart _ 12 43 (by decide) rfl w) _) (fun a hA => ?_)
  refine W_val hA rfl 39 rfl (by decide) _ _ (R_ld hA rfl rfl ag_u64 (show _ = some (Value.int .u64 (t.n 43)) from HH.u 43 (by decide) (by decide))) (fun a hA => ?_)
  refine W_val hA rfl 40 rfl (by decide) _ _ (R_andNot hA rfl rfl rfl _) (fun a hA => ?_)
  refine W_val hA rfl 41 rfl (by decide) _ _ (R_fa hA rfl rfl (fun w => fa_hart _ 12 43 (by decide) rfl w) _) (fun a hA => ?_)
  refine W_stUx hA rfl rfl rfl rfl rfl HH (by decide) (by decide) (fun w135 x43_99 hx43_99 hT HN => ?_)
  replace HB := HB.trans (hT.bel _ gHH)
  replace RR := hT.hart RR (by omega)
  replace HH := HN
  clear hT HN
  refine W_nil ?_
  refine then_nrm ?_
  show Code.wp Try.prog _ _ _ _
  refine wp_seq ?_
  refine wp_region_list ?_
  refine W_val hA rfl 42 rfl (by decide) _ _ (R_fa hA rfl rfl (fun w => fa_hart _ 13 44 (by decide) rfl w) _) (fun a hA => ?_)
  refine W_val hA rfl 43 rfl (by decide) _ _ (R_ld hA rfl rfl ag_u64 (show _ = some (Value.int .u64 (t.n 44)) from HH.u 44 (by decide) (by decide))) (fun a hA => ?_)
  refine W_val hA rfl 44 rfl (by decide) _ _ (R_and hA rfl rfl rfl _) (fun a hA => ?_)
  refine W_val hA rfl 45 rfl (by decide) _ _ (R_fa hA rfl rfl (fun w => fa_hart _ 13 44 (by decide) rfl w) _) (fun a hA => ?_)
  refine W_stUx hA rfl rfl rfl rfl rfl HH (by decide) (by decide) (fun w136 x44_100 hx44_100 hT HN => ?_)
  replace HB := HB.trans (hT.bel _ gHH)
  replace RR := hT.hart RR (by omega)
  replace HH := HN
  clear hT HN
  refine W_nil ?_
  refine then_nrm ?_
  show Code.wp Try.prog _ _ _ _
  refine wp_seq ?_
  refine wp_region_list ?_
  refine W_val hA rfl 46 rfl (by decide) _ _ (R_fa hA rfl rfl (fun w => fa_hart _ 15 46 (by decide) rfl w) _) (fun a hA => ?_)
  refine W_val hA rfl 47 rfl (by decide) _ _ (R_ld hA rfl rfl ag_u64 (show _ = some (Value.int .u64 (t.n 46)) from HH.u 46 (by decide) (by decide))) (fun a hA => ?_)
  refine W_val hA rfl 48 rfl (by decide) _ _ (R_andNot hA rfl rfl rfl _) (fun a hA => ?_)
  refine W_val hA rfl 49 rfl (by decide) _ _ (R_fa hA rfl rfl (fun w => fa_hart _ 15 46 (by decide) rfl w) _) (fun a hA => ?_)
  refine W_stUx hA rfl rfl rfl rfl rfl HH (by decide) (by decide) (fun w137 x46_101 hx46_101 hT HN => ?_)
  replace HB := HB.trans (hT.bel _ gHH)
  replace RR := hT.hart RR (by omega)
  replace HH := HN
  clear hT HN
  refine W_nil ?_
  refine then_nrm ?_
  show Code.wp Try.prog _ _ _ _
  refine wp_seq ?_
  refine wp_region_list ?_
  refine W_val hA rfl 50 rfl (by decide) _ _ (R_fa hA rfl rfl (fun w => fa_hart _ 20 51 (by decide) rfl w) _) (fun a hA => ?_)
  refine W_val hA rfl 51 rfl (by decide) _ _ (R_ld hA rfl rfl ag_u64 (show _ = some (Value.int .u64 (t.n 51)) from HH.u 51 (by decide) (by decide))) (fun a hA => ?_)
  refine W_val hA rfl 52 rfl (by decide) _ _ (R_andNot hA rfl rfl rfl _) (fun a hA => ?_)
  refine W_val hA rfl 53 rfl (by decide) _ _ (R_fa hA rfl rfl (fun w => fa_hart _ 20 51 (by decide) rfl w) _) (fun a hA => ?_)
  refine W_stUx hA rfl rfl rfl rfl rfl HH (by decide) (by decide) (fun w138 x51_102 hx51_102 hT HN => ?_)
  replace HB := HB.trans (hT.bel _ gHH)
  replace RR := hT.hart RR (by omega)
  replace HH := HN
  clear hT HN
  refine W_nil ?_
  refine then_nrm ?_
  show Code.wp Try.prog _ _ _ _
  refine wp_seq ?_
  refine wp_region_list ?_
  refine W_val hA rfl 54 rfl (by decide) _ _ (R_fa hA rfl rfl (fun w => fa_hart _ 21 52 (by decide) rfl w) _) (fun a hA => ?_)
  refine W_val hA rfl 55 rfl (by decide) _ _ (R_ld hA rfl rfl ag_u64 (show _ = some (Value.int .u64 (t.n 52)) from HH.u 52 (by decide) (by decide))) (fun a hA => ?_)
  refine W_val hA rfl 56 rfl (by decide) _ _ (R_and hA rfl rfl rfl _) (fun a hA => ?_)
  refine W_val hA rfl 57 rfl (by decide) _ _ (R_fa hA rfl rfl (fun w => fa_hart _ 21 52 (by decide) rfl w) _) (fun a hA => ?_)
  refine W_stUx hA rfl rfl rfl rfl rfl HH (by decide) (by decide) (fun w139 x52_103 hx52_103 hT HN => ?_)
  replace HB := HB.trans (hT.bel _ gHH)
  replace RR := hT.hart RR (by omega)
  replace HH := HN
  clear hT HN
  refine W_nil ?_
  refine then_nrm ?_
  show Code.wp Try.prog _ _ _ _
  refine wp_seq ?_
  refine wp_region_list ?_
  refine W_val hA rfl 58 rfl (by decide) _ _ (R_fa hA rfl rfl (fun w => fa_hart _ 23 54 (by decide) rfl w) _) (fun a hA => ?_)
  refine W_val hA rfl 59 rfl (by decide) _ _ (R_ld hA rfl rfl ag_u64 (show _ = some (Value.int .u64 (t.n 54)) from HH.u 54 (by decide) (by decide))) (fun a hA => ?_)
  refine W_val hA rfl 60 rfl (by decide) _ _ (R_andNot hA rfl rfl rfl _) (fun a hA => ?_)
  refine W_val hA rfl 61 rfl (by decide) _ _ (R_fa hA rfl rfl (fun w => fa_hart _ 23 54 (by decide) rfl w) _) (fun a hA => ?_)
  refine W_stUx hA rfl rfl rfl rfl rfl HH (by decide) (by decide) (fun w140 x54_104 hx54_104 hT HN => ?_)
  replace HB := HB.trans (hT.bel _ gHH)
  replace RR := hT.hart RR (by omega)
  replace HH := HN
  clear hT HN
  refine W_nil ?_
  refine then_nrm ?_
  show Code.wp Try.prog _ _ _ _
  refine wp_seq ?_
  refine still_tail 5 (by kernel_rfl) (fun w4 hw => ?_)
  replace HB := HB.trans (hw.mono HB.size)
  replace HH := HH.below hw
  replace RR := RR.below hw
  clear hw
  refine S_val hA rfl 62 rfl (by decide) _ (R_fa hA rfl rfl (fun w => fa_hart _ 26 57 (by decide) rfl w) _) (fun a hA => ?_)
  refine S_val hA rfl 63 rfl (by decide) _ (R_ld hA rfl rfl ag_u64 (show _ = some (Value.int .u64 (t.n 57)) from HH.u 57 (by decide) (by decide))) (fun a hA => ?_)
  refine S_call hA (by decide) (fun _ _ => by kernel_rfl) (args1 hA rfl) (dbut_any _ 18446744073709551615 (by kernel_rfl) _) (fun a hA => ?_)
  refine S_call hA (by decide) (fun _ _ => by kernel_rfl) (args2 hA rfl rfl) (dtable_any _ _ (ok.n _).1 _) (fun a hA => ?_)
  refine S_val hA rfl 66 rfl (by decide) _ (R_fa hA rfl rfl (fun w => fa_hart _ 26 57 (by decide) rfl w) _) (fun a hA => ?_)
  refine still_nil ?_
  refine W_stUx hA rfl rfl rfl rfl rfl HH (by decide) (by decide) (fun w141 x57_105 hx57_105 hT HN => ?_)
  replace HB := HB.trans (hT.bel _ gHH)
  replace RR := hT.hart RR (by omega)
  replace HH := HN
  clear hT HN
  refine W_nil ?_
  refine then_nrm ?_
  show Code.wp Try.prog _ _ _ _
  refine wp_seq ?_
  refine wp_region_list ?_
  refine W_val hA rfl 67 rfl (by decide) _ _ (R_fa hA rfl rfl (fun w => fa_hart _ 27 58 (by decide) rfl w) _) (fun a hA => ?_)
  refine W_val hA rfl 68 rfl (by decide) _ _ (R_ld hA rfl rfl ag_u64 (show _ = some (Value.int .u64 (t.n 58)) from HH.u 58 (by decide) (by decide))) (fun a hA => ?_)
  refine W_val hA rfl 69 rfl (by decide) _ _ (R_and hA rfl rfl rfl _) (fun a hA => ?_)
  refine W_val hA rfl 70 rfl (by decide) _ _ (R_or hA rfl rfl rfl _) (fun a hA => ?_)
  refine W_val hA rfl 71 rfl (by decide) _ _ (R_fa hA rfl rfl (fun w => fa_hart _ 27 58 (by decide) rfl w) _) (fun a hA => ?_)
  refine W_stUx hA rfl rfl rfl rfl rfl HH (by decide) (by decide) (fun w142 x58_106 hx58_106 hT HN => ?_)
  replace HB := HB.trans (hT.bel _ gHH)
  replace RR := hT.hart RR (by omega)
  replace HH := HN
  clear hT HN
  refine W_nil ?_
  refine then_nrm ?_
  show Code.wp Try.prog _ _ _ _
  refine wp_seq ?_
  refine wp_region_list ?_
  refine W_val hA rfl 72 rfl (by decide) _ _ (R_fa hA rfl rfl (fun w => fa_hart _ 28 59 (by decide) rfl w) _) (fun a hA => ?_)
  refine W_val hA rfl 73 rfl (by decide) _ _ (R_ld hA rfl rfl ag_u64 (show _ = some (Value.int .u64 (t.n 59)) from HH.u 59 (by decide) (by decide))) (fun a hA => ?_)
  refine W_val hA rfl 74 rfl (by decide) _ _ (R_and hA rfl rfl rfl _) (fun a hA => ?_)
  refine W_val hA rfl 75 rfl (by decide) _ _ (R_fa hA rfl rfl (fun w => fa_hart _ 28 59 (by decide) rfl w) _) (fun a hA => ?_)
  refine W_stUx hA rfl rfl rfl rfl rfl HH (by decide) (by decide) (fun w143 x59_107 hx59_107 hT HN => ?_)
  replace HB := HB.trans (hT.bel _ gHH)
  replace RR := hT.hart RR (by omega)
  replace HH := HN
  clear hT HN
  refine W_nil ?_
  refine then_nrm ?_
  show Code.wp Try.prog _ _ _ _
  refine wp_seq ?_
  refine wp_region_list ?_
  refine W_val hA rfl 76 rfl (by decide) _ _ (R_fa hA rfl rfl (fun w => fa_hart _ 29 60 (by decide) rfl w) _) (fun a hA => ?_)
  refine W_val hA rfl 77 rfl (by decide) _ _ (R_ld hA rfl rfl ag_u64 (show _ = some (Value.int .u64 (t.n 60)) from HH.u 60 (by decide) (by decide))) (fun a hA => ?_)
  refine W_val hA rfl 78 rfl (by decide) _ _ (R_and hA rfl rfl rfl _) (fun a hA => ?_)
  refine W_val hA rfl 79 rfl (by decide) _ _ (R_fa hA rfl rfl (fun w => fa_hart _ 29 60 (by decide) rfl w) _) (fun a hA => ?_)
  refine W_stUx hA rfl rfl rfl rfl rfl HH (by decide) (by decide) (fun w144 x60_108 hx60_108 hT HN => ?_)
  replace HB := HB.trans (hT.bel _ gHH)
  replace RR := hT.hart RR (by omega)
  replace HH := HN
  clear hT HN
  refine W_nil ?_
  refine then_nrm ?_
  show Code.wp Try.prog _ _ _ _
  refine wp_seq ?_
  refine wp_region_list ?_
  refine W_val hA rfl 80 rfl (by decide) _ _ (R_fa hA rfl rfl (fun w => fa_hart _ 30 61 (by decide) rfl w) _) (fun a hA => ?_)
  refine W_val hA rfl 81 rfl (by decide) _ _ (R_ld hA rfl rfl ag_u64 (show _ = some (Value.int .u64 (t.n 61)) from HH.u 61 (by decide) (by decide))) (fun a hA => ?_)
  refine W_val hA rfl 82 rfl (by decide) _ _ (R_and hA rfl rfl rfl _) (fun a hA => ?_)
  refine W_val hA rfl 83 rfl (by decide) _ _ (R_fa hA rfl rfl (fun w => fa_hart _ 30 61 (by decide) rfl w) _) (fun a hA => ?_)
  refine W_stUx hA rfl rfl rfl rfl rfl HH (by decide) (by decide) (fun w145 x61_109 hx61_109 hT HN => ?_)
  replace HB := HB.trans (hT.bel _ gHH)
  replace RR := hT.hart RR (by omega)
  replace HH := HN
  clear hT HN
  refine W_nil ?_
  refine then_nrm ?_
  show Code.wp Try.prog _ _ _ _
  refine wp_seq ?_
  refine wp_region_list ?_
  refine W_val hA rfl 84 rfl (by decide) _ _ (R_fa hA rfl rfl (fun w => fa_hart _ 31 62 (by decide) rfl w) _) (fun a hA => ?_)
  refine W_val hA rfl 85 rfl (by decide) _ _ (R_ld hA rfl rfl ag_u64 (show _ = some (Value.int .u64 (t.n 62)) from HH.u 62 (by decide) (by decide))) (fun a hA => ?_)
  refine W_val hA rfl 86 rfl (by decide) _ _ (R_and hA rfl rfl rfl _) (fun a hA => ?_)
  refine W_val hA rfl 87 rfl (by decide) _ _ (R_fa hA rfl rfl (fun w => fa_hart _ 31 62 (by decide) rfl w) _) (fun a hA => ?_)
  refine W_stUx hA rfl rfl rfl rfl rfl HH (by decide) (by decide) (fun w146 x62_110 hx62_110 hT HN => ?_)
  replace HB := HB.trans (hT.bel _ gHH)
  replace RR := hT.hart RR (by omega)
  replace HH := HN
  clear hT HN
  refine W_nil ?_
  refine then_nrm ?_
  show Code.wp Try.prog _ _ _ _
  refine wp_seq ?_
  refine wp_region_list ?_
  refine W_val hA rfl 88 rfl (by decide) _ _ (R_fa hA rfl rfl (fun w => fa_hart _ 32 63 (by decide) rfl w) _) (fun a hA => ?_)
  refine W_val hA rfl 89 rfl (by decide) _ _ (R_ld hA rfl rfl ag_u64 (show _ = some (Value.int .u64 (t.n 63)) from HH.u 63 (by decide) (by decide))) (fun a hA => ?_)
  refine W_val hA rfl 90 rfl (by decide) _ _ (R_and hA rfl rfl rfl _) (fun a hA => ?_)
  refine W_val hA rfl 91 rfl (by decide) _ _ (R_fa hA rfl rfl (fun w => fa_hart _ 32 63 (by decide) rfl w) _) (fun a hA => ?_)
  refine W_stUx hA rfl rfl rfl rfl rfl HH (by decide) (by decide) (fun w147 x63_111 hx63_111 hT HN => ?_)
  replace HB := HB.trans (hT.bel _ gHH)
  replace RR := hT.hart RR (by omega)
  replace HH := HN
  clear hT HN
  refine W_nil ?_
  refine then_nrm ?_
  show Code.wp Try.prog _ _ _ _
  refine wp_seq ?_
  refine still_tail 5 (by kernel_rfl) (fun w4 hw => ?_)
  replace HB := HB.trans (hw.mono HB.size)
  replace HH := HH.below hw
  replace RR := RR.below hw
  clear hw
  refine S_val hA rfl 92 rfl (by decide) _ (R_fa hA rfl rfl (fun w => fa_hart _ 35 66 (by decide) rfl w) _) (fun a hA => ?_)
  refine S_val hA rfl 93 rfl (by decide) _ (R_ld hA rfl rfl ag_u64 (show _ = some (Value.int .u64 (t.n 66)) from HH.u 66 (by decide) (by decide))) (fun a hA => ?_)
  refine S_call hA (by decide) (fun _ _ => by kernel_rfl) (args1 hA rfl) (dbut_any _ 17582052945254416380 (by kernel_rfl) _) (fun a hA => ?_)
  refine S_call hA (by decide) (fun _ _ => by kernel_rfl) (args2 hA rfl rfl) (dtable_any _ _ (ok.n _).1 _) (fun a hA => ?_)
  refine S_val hA rfl 96 rfl (by decide) _ (R_fa hA rfl rfl (fun w => fa_hart _ 35 66 (by decide) rfl w) _) (fun a hA => ?_)
  refine still_nil ?_
  refine W_stUx hA rfl rfl rfl rfl rfl HH (by decide) (by decide) (fun w148 x66_112 hx66_112 hT HN => ?_)
  replace HB := HB.trans (hT.bel _ gHH)
  replace RR := hT.hart RR (by omega)
  replace HH := HN
  clear hT HN
  refine W_nil ?_
  refine then_nrm ?_
  show Code.wp Try.prog _ _ _ _
  refine wp_seq ?_
  refine wp_region_list ?_
  refine W_val hA rfl 97 rfl (by decide) _ _ (R_fa hA rfl rfl (fun w => fa_hart _ 37 68 (by decide) rfl w) _) (fun a hA => ?_)
  refine W_val hA rfl 98 rfl (by decide) _ _ (R_ld hA rfl rfl ag_u64 (show _ = some (Value.int .u64 (t.n 68)) from HH.u 68 (by decide) (by decide))) (fun a hA => ?_)
  refine W_val hA rfl 99 rfl (by decide) _ _ (R_and hA rfl rfl rfl _) (fun a hA => ?_)
  refine W_val hA rfl 100 rfl (by decide) _ _ (R_or hA rfl rfl rfl _) (fun a hA => ?_)
  refine W_val hA rfl 101 rfl (by decide) _ _ (R_fa hA rfl rfl (fun w => fa_hart _ 37 68 (by decide) rfl w) _) (fun a hA => ?_)
  refine W_stUx hA rfl rfl rfl rfl rfl HH (by decide) (by decide) (fun w149 x68_113 hx68_113 hT HN => ?_)
  replace HB := HB.trans (hT.bel _ gHH)
  replace RR := hT.hart RR (by omega)
  replace HH := HN
  clear hT HN
  refine W_nil ?_
  refine then_nrm ?_
  show Code.wp Try.prog _ _ _ _
  refine wp_seq ?_
  refine wp_region_list ?_
  refine W_val hA rfl 102 rfl (by decide) _ _ (R_fa hA rfl rfl (fun w => fa_hart _ 38 69 (by decide) rfl w) _) (fun a hA => ?_)
  refine W_val hA rfl 103 rfl (by decide) _ _ (R_ld hA rfl rfl ag_u64 (show _ = some (Value.int .u64 (t.n 69)) from HH.u 69 (by decide) (by decide))) (fun a hA => ?_)
  refine W_val hA rfl 104 rfl (by decide) _ _ (R_andNot hA rfl rfl rfl _) (fun a hA => ?_)
  refine W_val hA rfl 105 rfl (by decide) _ _ (R_fa hA rfl rfl (fun w => fa_hart _ 38 69 (by decide) rfl w) _) (fun a hA => ?_)
  refine W_stUx hA rfl rfl rfl rfl rfl HH (by decide) (by decide) (fun w150 x69_114 hx69_114 hT HN => ?_)
  replace HB := HB.trans (hT.bel _ gHH)
  replace RR := hT.hart RR (by omega)
  replace HH := HN
  clear hT HN
  refine W_nil ?_
  refine then_nrm ?_
  show Code.wp Try.prog _ _ _ _
  refine wp_seq ?_
  refine wp_region_list ?_
  refine W_val hA rfl 106 rfl (by decide) _ _ (R_fa hA rfl rfl (fun w => fa_hart _ 40 71 (by decide) rfl w) _) (fun a hA => ?_)
  refine W_val hA rfl 107 rfl (by decide) _ _ (R_ld hA rfl rfl ag_u64 (show _ = some (Value.int .u64 (t.n 71)) from HH.u 71 (by decide) (by decide))) (fun a hA => ?_)
  refine W_val hA rfl 108 rfl (by decide) _ _ (R_andNot hA rfl rfl rfl _) (fun a hA => ?_)
  refine W_val hA rfl 109 rfl (by decide) _ _ (R_fa hA rfl rfl (fun w => fa_hart _ 40 71 (by decide) rfl w) _) (fun a hA => ?_)
  refine W_stUx hA rfl rfl rfl rfl rfl HH (by decide) (by decide) (fun w151 x71_115 hx71_115 hT HN => ?_)
  replace HB := HB.trans (hT.bel _ gHH)
  replace RR := hT.hart RR (by omega)
  replace HH := HN
  clear hT HN
  refine W_nil ?_
  refine then_nrm ?_
  show Code.wp Try.prog _ _ _ _
  refine wp_seq ?_
  refine still_tail 5 (by kernel_rfl) (fun w4 hw => ?_)
  replace HB := HB.trans (hw.mono HB.size)
  replace HH := HH.below hw
  replace RR := RR.below hw
  clear hw
  refine S_val hA rfl 110 rfl (by decide) _ (R_fa hA rfl rfl (fun w => fa_hart _ 43 74 (by decide) rfl w) _) (fun a hA => ?_)
  refine S_val hA rfl 111 rfl (by decide) _ (R_ld hA rfl rfl ag_u64 (show _ = some (Value.int .u64 (t.n 74)) from HH.u 74 (by decide) (by decide))) (fun a hA => ?_)
  refine S_call hA (by decide) (fun _ _ => by kernel_rfl) (args1 hA rfl) (dbut_any _ 18446744073709551615 (by kernel_rfl) _) (fun a hA => ?_)
  refine S_call hA (by decide) (fun _ _ => by kernel_rfl) (args2 hA rfl rfl) (dtable_any _ _ (ok.n _).1 _) (fun a hA => ?_)
  refine S_val hA rfl 114 rfl (by decide) _ (R_fa hA rfl rfl (fun w => fa_hart _ 43 74 (by decide) rfl w) _) (fun a hA => ?_)
  refine still_nil ?_
  refine W_stUx hA rfl rfl rfl rfl rfl HH (by decide) (by decide) (fun w152 x74_116 hx74_116 hT HN => ?_)
  replace HB := HB.trans (hT.bel _ gHH)
  replace RR := hT.hart RR (by omega)
  replace HH := HN
  clear hT HN
  refine W_nil ?_
  refine then_nrm ?_
  show Code.wp Try.prog _ _ _ _
  refine wp_seq ?_
  refine wp_region_list ?_
  refine W_val hA rfl 115 rfl (by decide) _ _ (R_fa hA rfl rfl (fun w => fa_hart _ 1 1 (by decide) rfl w) _) (fun a hA => ?_)
  refine W_val hA rfl 116 rfl (by decide) _ _ (R_ixa hA rfl rfl rfl (fun w => ixa_hart _ w) _) (fun a hA => ?_)
  refine W_stUx hA rfl rfl rfl rfl rfl HH (by decide) (by decide) (fun w153 x1_117 hx1_117 hT HN => ?_)
  replace HB := HB.trans (hT.bel _ gHH)
  replace RR := hT.hart RR (by omega)
  replace HH := HN
  clear hT HN
  refine W_nil ?_
  refine then_nrm ?_
  show Code.wp Try.prog _ _ _ _
  refine wp_seq ?_
  refine wp_region_list ?_
  refine W_val hA rfl 117 rfl (by decide) _ _ (R_fa hA rfl rfl (fun w => fa_hart _ 0 0 (by decide) rfl w) _) (fun a hA => ?_)
  refine W_val hA rfl 118 rfl (by decide) _ _ (R_ld hA rfl rfl ag_u64 (show _ = some (Value.int .u64 (t.n 0)) from HH.u 0 (by decide) (by decide))) (fun a hA => ?_)
  refine W_val hA rfl 119 rfl (by decide) _ _ (R_andNot hA rfl rfl rfl _) (fun a hA => ?_)
  refine W_val hA rfl 120 rfl (by decide) _ _ (R_fa hA rfl rfl (fun w => fa_hart _ 0 0 (by decide) rfl w) _) (fun a hA => ?_)
  refine W_stUx hA rfl rfl rfl rfl rfl HH (by decide) (by decide) (fun w154 x0_118 hx0_118 hT HN => ?_)
  replace HB := HB.trans (hT.bel _ gHH)
  replace RR := hT.hart RR (by omega)
  replace HH := HN
  clear hT HN
  refine W_nil ?_
  refine then_nrm ?_
  show Code.wp Try.prog _ _ _ _
  refine wp_seq ?_
  refine wp_seq ?_
  refine wp_region_list ?_
  refine W_val hA rfl 121 rfl (by decide) _ _ (R_fa hA rfl rfl (fun w => fa_hart _ 2 33 (by decide) rfl w) _) (fun a hA => ?_)
  refine W_val hA rfl 122 rfl (by decide) _ _ (R_ld hA rfl rfl ag_u8 (show _ = some (Value.int .u8 (t.n 33)) from HH.p)) (fun a hA => ?_)
  refine W_val hA rfl 123 rfl (by decide) _ _ (R_neqB hA rfl rfl rfl _) (fun a hA => ?_)
  refine W_val hA rfl 124 rfl (by decide) _ _ (R_mov hA rfl rfl _) (fun a hA => ?_)
  refine W_split hA 124 rfl (fun c34 hA => ?_) (fun c34 hA => ?_)
  · skip
    refine W_gval hA rfl rfl rfl 125 rfl (by decide) _ _ (R_fa hA rfl rfl (fun w => fa_hart _ 2 33 (by decide) rfl w) _) (fun a hA => ?_)
    refine W_gval hA rfl rfl rfl 126 rfl (by decide) _ _ (R_ld hA rfl rfl ag_u8 (show _ = some (Value.int .u8 (t.n 33)) from HH.p)) (fun a hA => ?_)
    refine W_gval hA rfl rfl rfl 127 rfl (by decide) _ _ (R_neqB hA rfl rfl rfl _) (fun a hA => ?_)
    refine W_val hA rfl 128 rfl (by decide) _ _ (R_pick hA rfl rfl rfl _) (fun a hA => ?_)
    refine W_nil ?_
    refine then_nrm ?_
    show Code.wp Try.prog _ _ _ _
    refine wp_cond_split (hA.ev (x := .tmp 128) rfl) (fun c35 => ?_) (fun c35 => ?_)
    · skip
      refine wp_region_list ?_
      refine W_val hA rfl 129 rfl (by decide) _ _ (R_fa hA rfl rfl (fun w => fa_hart _ 2 33 (by decide) rfl w) _) (fun a hA => ?_)
      refine W_stPx hA rfl rfl rfl rfl rfl HH (fun w155 x33_119 hx33_119 hT HN => ?_)
      replace HB := HB.trans (hT.bel _ gHH)
      replace RR := hT.hart RR (by omega)
      replace HH := HN
      clear hT HN
      refine W_nil ?_
      refine then_nrm ?_
      show Code.wp Try.prog _ _ _ _
      refine wp_seq ?_
      refine wp_seq ?_
      refine wp_region_list ?_
      refine W_val hA rfl 130 rfl (by decide) _ _ (R_fa hA rfl rfl (fun w => fa_hart _ 2 33 (by decide) rfl w) _) (fun a hA => ?_)
      refine W_val hA rfl 131 rfl (by decide) _ _ (R_ld hA rfl rfl ag_u8 (show _ = some (Value.int .u8 (x33_119)) from HH.p)) (fun a hA => ?_)
      refine W_val hA rfl 132 rfl (by decide) _ _ (R_eqlB hA rfl rfl rfl _) (fun a hA => ?_)
      refine W_nil ?_
      refine then_nrm ?_
      show Code.wp Try.prog _ _ _ _
      refine wp_cond_split (hA.ev (x := .tmp 132) rfl) (fun c36 => ?_) (fun c36 => ?_)
      · skip
        refine wp_region_list ?_
        refine W_val hA rfl 133 rfl (by decide) _ _ (R_fa hA rfl rfl (fun w => fa_hart _ 3 34 (by decide) rfl w) _) (fun a hA => ?_)
        refine W_stVx hA rfl rfl rfl rfl rfl HH (fun w156 x34_120 hx34_120 hT HN => ?_)
        replace HB := HB.trans (hT.bel _ gHH)
        replace RR := hT.hart RR (by omega)
        replace HH := HN
        clear hT HN
        refine W_nil ?_
        refine then_nrm ?_
        show Code.wp Try.prog _ _ _ _
        refine wp_seq ?_
        refine wp_region_list ?_
        refine W_val hA rfl 134 rfl (by decide) _ _ (R_fa hA rfl rfl (fun w => fa_hart _ 6 37 (by decide) rfl w) _) (fun a hA => ?_)
        refine W_val hA rfl 135 rfl (by decide) _ _ (R_ld hA rfl rfl ag_u64 (show _ = some (Value.int .u64 (t.n 37)) from HH.u 37 (by decide) (by decide))) (fun a hA => ?_)
        refine W_val hA rfl 136 rfl (by decide) _ _ (R_andNot hA rfl rfl rfl _) (fun a hA => ?_)
        refine W_val hA rfl 137 rfl (by decide) _ _ (R_and hA rfl rfl rfl _) (fun a hA => ?_)
        refine W_val hA rfl 138 rfl (by decide) _ _ (R_fa hA rfl rfl (fun w => fa_hart _ 6 37 (by decide) rfl w) _) (fun a hA => ?_)
        refine W_stUx hA rfl rfl rfl rfl rfl HH (by decide) (by decide) (fun w157 x37_121 hx37_121 hT HN => ?_)
        replace HB := HB.trans (hT.bel _ gHH)
        replace RR := hT.hart RR (by omega)
        replace HH := HN
        clear hT HN
        refine W_nil ?_
        refine then_nrm ?_
        show Code.wp Try.prog _ _ _ _
        refine wp_seq ?_
        refine wp_seq ?_
        refine wp_region_list ?_
        refine W_val hA rfl 139 rfl (by decide) _ _ (R_fa hA rfl rfl (fun w => fa_hart _ 5 36 (by decide) rfl w) _) (fun a hA => ?_)
        refine W_val hA rfl 140 rfl (by decide) _ _ (R_ld hA rfl rfl ag_bool (show _ = some (Value.bool t.held) from HH.hd)) (fun a hA => ?_)
        refine W_val hA rfl 141 rfl (by decide) _ _ (R_not hA rfl rfl _) (fun a hA => ?_)
        refine W_nil ?_
        refine then_nrm ?_
        show Code.wp Try.prog _ _ _ _
        refine wp_cond_split (hA.ev (x := .tmp 141) rfl) (fun c37 => ?_) (fun c37 => ?_)
        · skip
          refine wp_region_list ?_
          refine W_val hA rfl 142 rfl (by decide) _ _ (R_fa hA rfl rfl (fun w => fa_hart _ 6 37 (by decide) rfl w) _) (fun a hA => ?_)
          refine W_stUx hA rfl rfl rfl rfl rfl HH (by decide) (by decide) (fun w158 x37_122 hx37_122 hT HN => ?_)
          replace HB := HB.trans (hT.bel _ gHH)
          replace RR := hT.hart RR (by omega)
          replace HH := HN
          clear hT HN
          refine W_nil ?_
          refine then_nrm ?_
          show Code.wp Try.prog _ _ _ _
          refine wp_seq ?_
          refine wp_region_list ?_
          refine W_val hA rfl 143 rfl (by decide) _ _ (R_row hA rfl rfl HH Try.underlying25 (size_hart.trans (by rw [varr_size]))) (fun a hA => ?_)
          refine W_cpH hA rfl rfl rfl rfl rfl RR (fun w159 hT HN => ?_)
          replace HB := HB.trans (hT.bel _ gRR)
          replace HH := hT.hart HH (by omega)
          replace RR := HN
          clear hT HN
          refine W_nil ?_
          refine then_nrm ?_
          show Code.wp Try.prog _ _ _ _
          refine wp_ret ?_
          rw [hx33_119] at c36
          cases c36
        refine wp_skip ?_
        refine then_nrm ?_
        show Code.wp Try.prog _ _ _ _
        refine wp_seq ?_
        refine wp_region_list ?_
        refine W_val hA rfl 143 rfl (by decide) _ _ (R_row hA rfl rfl HH Try.underlying25 (size_hart.trans (by rw [varr_size]))) (fun a hA => ?_)
        refine W_cpH hA rfl rfl rfl rfl rfl RR (fun w160 hT HN => ?_)
        replace HB := HB.trans (hT.bel _ gRR)
        replace HH := hT.hart HH (by omega)
        replace RR := HN
        clear hT HN
        refine W_nil ?_
        refine then_nrm ?_
        show Code.wp Try.prog _ _ _ _
        refine wp_ret ?_
        rw [hx33_119] at c36
        cases c36
      refine wp_skip ?_
      refine then_nrm ?_
      show Code.wp Try.prog _ _ _ _
      refine wp_seq ?_
      refine wp_region_list ?_
      refine W_val hA rfl 134 rfl (by decide) _ _ (R_fa hA rfl rfl (fun w => fa_hart _ 6 37 (by decide) rfl w) _) (fun a hA => ?_)
      refine W_val hA rfl 135 rfl (by decide) _ _ (R_ld hA rfl rfl ag_u64 (show _ = some (Value.int .u64 (t.n 37)) from HH.u 37 (by decide) (by decide))) (fun a hA => ?_)
      refine W_val hA rfl 136 rfl (by decide) _ _ (R_andNot hA rfl rfl rfl _) (fun a hA => ?_)
      refine W_val hA rfl 137 rfl (by decide) _ _ (R_and hA rfl rfl rfl _) (fun a hA => ?_)
      refine W_val hA rfl 138 rfl (by decide) _ _ (R_fa hA rfl rfl (fun w => fa_hart _ 6 37 (by decide) rfl w) _) (fun a hA => ?_)
      refine W_stUx hA rfl rfl rfl rfl rfl HH (by decide) (by decide) (fun w161 x37_123 hx37_123 hT HN => ?_)
      replace HB := HB.trans (hT.bel _ gHH)
      replace RR := hT.hart RR (by omega)
      replace HH := HN
      clear hT HN
      refine W_nil ?_
      refine then_nrm ?_
      show Code.wp Try.prog _ _ _ _
      refine wp_seq ?_
      refine wp_seq ?_
      refine wp_region_list ?_
      refine W_val hA rfl 139 rfl (by decide) _ _ (R_fa hA rfl rfl (fun w => fa_hart _ 5 36 (by decide) rfl w) _) (fun a hA => ?_)
      refine W_val hA rfl 140 rfl (by decide) _ _ (R_ld hA rfl rfl ag_bool (show _ = some (Value.bool t.held) from HH.hd)) (fun a hA => ?_)
      refine W_val hA rfl 141 rfl (by decide) _ _ (R_not hA rfl rfl _) (fun a hA => ?_)
      refine W_nil ?_
      refine then_nrm ?_
      show Code.wp Try.prog _ _ _ _
      refine wp_cond_split (hA.ev (x := .tmp 141) rfl) (fun c38 => ?_) (fun c38 => ?_)
      · skip
        refine wp_region_list ?_
        refine W_val hA rfl 142 rfl (by decide) _ _ (R_fa hA rfl rfl (fun w => fa_hart _ 6 37 (by decide) rfl w) _) (fun a hA => ?_)
        refine W_stUx hA rfl rfl rfl rfl rfl HH (by decide) (by decide) (fun w162 x37_124 hx37_124 hT HN => ?_)
        replace HB := HB.trans (hT.bel _ gHH)
        replace RR := hT.hart RR (by omega)
        replace HH := HN
        clear hT HN
        refine W_nil ?_
        refine then_nrm ?_
        show Code.wp Try.prog _ _ _ _
        refine wp_seq ?_
        refine wp_region_list ?_
        refine W_val hA rfl 143 rfl (by decide) _ _ (R_row hA rfl rfl HH Try.underlying25 (size_hart.trans (by rw [varr_size]))) (fun a hA => ?_)
        refine W_cpH hA rfl rfl rfl rfl rfl RR (fun w163 hT HN => ?_)
        replace HB := HB.trans (hT.bel _ gRR)
        replace HH := hT.hart HH (by omega)
        replace RR := HN
        clear hT HN
        refine W_nil ?_
        refine then_nrm ?_
        show Code.wp Try.prog _ _ _ _
        refine wp_ret ?_
        refine ret_hart (j := 2) (by kernel_rfl) hA rfl RR ?_
        refine ⟨congrArg (fun s : HS => Ending.returned (hartV s)) ?_, HB⟩
        refine fixZ_eq ?_ rfl rfl (fun i => ?_)
        · have p3 : ¬ t.n 33 = 3 := by simpa using c35
          show t.v = (t.v && (t.n 33 != 3))
          rw [show (t.n 33 != 3) = true from by simpa using p3, Bool.and_true]
        by_cases e38 : i = 38
        · subst e38
          show x38_1 = _
          have q : noModeB x38_1 = false := by rw [noMode_bits, c1]; rfl
          rw [hx38_1] at q
          rw [hx38_1]
          show _ = (if noModeB (maskZ 0 (t.n 38)) = true then bits .andNot .u64 (maskZ 0 (t.n 38)) 6144 else maskZ 0 (t.n 38))
          rw [show noModeB (maskZ 0 (t.n 38)) = false from q]
          rfl
        by_cases e33 : i = 33
        · subst e33
          show x33_119 = _
          rw [hx33_119]
          have p1 : ¬ t.n 33 = 1 := by simpa using c34
          have p3 : ¬ t.n 33 = 3 := by simpa using c35
          show _ = (if t.n 33 = 1 ∨ t.n 33 = 3 then t.n 33 else 0)
          rw [if_neg (fun q => q.elim p1 p3)]
        by_cases e37 : i = 37
        · subst e37
          show x37_124 = _
          rw [hx37_124]
          show _ = (if t.held = true then bits .and .u64 (t.n 37) 72057594037927928 else 0)
          rw [show t.held = false by simpa using c38]; rfl
        exact fixD ok hx0_118 hx1_117 hx39_95 hx40_96 hx41_97 hx42_98 hx43_99 hx44_100 hx46_101 hx51_102 hx52_103 hx54_104 hx57_105 hx58_106 hx59_107 hx60_108 hx61_109 hx62_110 hx63_111 hx66_112 hx68_113 hx69_114 hx71_115 hx74_116 (fun i h => by simp only [HS.put, HS.putV, if_neg (h 0 (by decide)), if_neg (h 1 (by decide)), if_neg (h 33 (by decide)), if_neg (h 37 (by decide)), if_neg (h 38 (by decide)), if_neg (h 39 (by decide)), if_neg (h 40 (by decide)), if_neg (h 41 (by decide)), if_neg (h 42 (by decide)), if_neg (h 43 (by decide)), if_neg (h 44 (by decide)), if_neg (h 46 (by decide)), if_neg (h 51 (by decide)), if_neg (h 52 (by decide)), if_neg (h 54 (by decide)), if_neg (h 57 (by decide)), if_neg (h 58 (by decide)), if_neg (h 59 (by decide)), if_neg (h 60 (by decide)), if_neg (h 61 (by decide)), if_neg (h 62 (by decide)), if_neg (h 63 (by decide)), if_neg (h 66 (by decide)), if_neg (h 68 (by decide)), if_neg (h 69 (by decide)), if_neg (h 71 (by decide)), if_neg (h 74 (by decide))]) i ⟨e33, e37, e38⟩
      refine wp_skip ?_
      refine then_nrm ?_
      show Code.wp Try.prog _ _ _ _
      refine wp_seq ?_
      refine wp_region_list ?_
      refine W_val hA rfl 143 rfl (by decide) _ _ (R_row hA rfl rfl HH Try.underlying25 (size_hart.trans (by rw [varr_size]))) (fun a hA => ?_)
      refine W_cpH hA rfl rfl rfl rfl rfl RR (fun w164 hT HN => ?_)
      replace HB := HB.trans (hT.bel _ gRR)
      replace HH := hT.hart HH (by omega)
      replace RR := HN
      clear hT HN
      refine W_nil ?_
      refine then_nrm ?_
      show Code.wp Try.prog _ _ _ _
      refine wp_ret ?_
      refine ret_hart (j := 2) (by kernel_rfl) hA rfl RR ?_
      refine ⟨congrArg (fun s : HS => Ending.returned (hartV s)) ?_, HB⟩
      refine fixZ_eq ?_ rfl rfl (fun i => ?_)
      · have p3 : ¬ t.n 33 = 3 := by simpa using c35
        show t.v = (t.v && (t.n 33 != 3))
        rw [show (t.n 33 != 3) = true from by simpa using p3, Bool.and_true]
      by_cases e38 : i = 38
      · subst e38
        show x38_1 = _
        have q : noModeB x38_1 = false := by rw [noMode_bits, c1]; rfl
        rw [hx38_1] at q
        rw [hx38_1]
        show _ = (if noModeB (maskZ 0 (t.n 38)) = true then bits .andNot .u64 (maskZ 0 (t.n 38)) 6144 else maskZ 0 (t.n 38))
        rw [show noModeB (maskZ 0 (t.n 38)) = false from q]
        rfl
      by_cases e33 : i = 33
      · subst e33
        show x33_119 = _
        rw [hx33_119]
        have p1 : ¬ t.n 33 = 1 := by simpa using c34
        have p3 : ¬ t.n 33 = 3 := by simpa using c35
        show _ = (if t.n 33 = 1 ∨ t.n 33 = 3 then t.n 33 else 0)
        rw [if_neg (fun q => q.elim p1 p3)]
      by_cases e37 : i = 37
      · subst e37
        show x37_123 = _
        rw [hx37_123]
        show _ = (if t.held = true then bits .and .u64 (t.n 37) 72057594037927928 else 0)
        rw [show t.held = true by simpa using c38, if_pos rfl]
        exact res_and _
      exact fixD ok hx0_118 hx1_117 hx39_95 hx40_96 hx41_97 hx42_98 hx43_99 hx44_100 hx46_101 hx51_102 hx52_103 hx54_104 hx57_105 hx58_106 hx59_107 hx60_108 hx61_109 hx62_110 hx63_111 hx66_112 hx68_113 hx69_114 hx71_115 hx74_116 (fun i h => by simp only [HS.put, HS.putV, if_neg (h 0 (by decide)), if_neg (h 1 (by decide)), if_neg (h 33 (by decide)), if_neg (h 37 (by decide)), if_neg (h 38 (by decide)), if_neg (h 39 (by decide)), if_neg (h 40 (by decide)), if_neg (h 41 (by decide)), if_neg (h 42 (by decide)), if_neg (h 43 (by decide)), if_neg (h 44 (by decide)), if_neg (h 46 (by decide)), if_neg (h 51 (by decide)), if_neg (h 52 (by decide)), if_neg (h 54 (by decide)), if_neg (h 57 (by decide)), if_neg (h 58 (by decide)), if_neg (h 59 (by decide)), if_neg (h 60 (by decide)), if_neg (h 61 (by decide)), if_neg (h 62 (by decide)), if_neg (h 63 (by decide)), if_neg (h 66 (by decide)), if_neg (h 68 (by decide)), if_neg (h 69 (by decide)), if_neg (h 71 (by decide)), if_neg (h 74 (by decide))]) i ⟨e33, e37, e38⟩
    refine wp_skip ?_
    refine then_nrm ?_
    show Code.wp Try.prog _ _ _ _
    refine wp_seq ?_
    refine wp_seq ?_
    refine wp_region_list ?_
    refine W_val hA rfl 130 rfl (by decide) _ _ (R_fa hA rfl rfl (fun w => fa_hart _ 2 33 (by decide) rfl w) _) (fun a hA => ?_)
    refine W_val hA rfl 131 rfl (by decide) _ _ (R_ld hA rfl rfl ag_u8 (show _ = some (Value.int .u8 (t.n 33)) from HH.p)) (fun a hA => ?_)
    refine W_val hA rfl 132 rfl (by decide) _ _ (R_eqlB hA rfl rfl rfl _) (fun a hA => ?_)
    refine W_nil ?_
    refine then_nrm ?_
    show Code.wp Try.prog _ _ _ _
    refine wp_cond_split (hA.ev (x := .tmp 132) rfl) (fun c39 => ?_) (fun c39 => ?_)
    · skip
      refine wp_region_list ?_
      refine W_val hA rfl 133 rfl (by decide) _ _ (R_fa hA rfl rfl (fun w => fa_hart _ 3 34 (by decide) rfl w) _) (fun a hA => ?_)
      refine W_stVx hA rfl rfl rfl rfl rfl HH (fun w165 x34_125 hx34_125 hT HN => ?_)
      replace HB := HB.trans (hT.bel _ gHH)
      replace RR := hT.hart RR (by omega)
      replace HH := HN
      clear hT HN
      refine W_nil ?_
      refine then_nrm ?_
      show Code.wp Try.prog _ _ _ _
      refine wp_seq ?_
      refine wp_region_list ?_
      refine W_val hA rfl 134 rfl (by decide) _ _ (R_fa hA rfl rfl (fun w => fa_hart _ 6 37 (by decide) rfl w) _) (fun a hA => ?_)
      refine W_val hA rfl 135 rfl (by decide) _ _ (R_ld hA rfl rfl ag_u64 (show _ = some (Value.int .u64 (t.n 37)) from HH.u 37 (by decide) (by decide))) (fun a hA => ?_)
      refine W_val hA rfl 136 rfl (by decide) _ _ (R_andNot hA rfl rfl rfl _) (fun a hA => ?_)
      refine W_val hA rfl 137 rfl (by decide) _ _ (R_and hA rfl rfl rfl _) (fun a hA => ?_)
      refine W_val hA rfl 138 rfl (by decide) _ _ (R_fa hA rfl rfl (fun w => fa_hart _ 6 37 (by decide) rfl w) _) (fun a hA => ?_)
      refine W_stUx hA rfl rfl rfl rfl rfl HH (by decide) (by decide) (fun w166 x37_126 hx37_126 hT HN => ?_)
      replace HB := HB.trans (hT.bel _ gHH)
      replace RR := hT.hart RR (by omega)
      replace HH := HN
      clear hT HN
      refine W_nil ?_
      refine then_nrm ?_
      show Code.wp Try.prog _ _ _ _
      refine wp_seq ?_
      refine wp_seq ?_
      refine wp_region_list ?_
      refine W_val hA rfl 139 rfl (by decide) _ _ (R_fa hA rfl rfl (fun w => fa_hart _ 5 36 (by decide) rfl w) _) (fun a hA => ?_)
      refine W_val hA rfl 140 rfl (by decide) _ _ (R_ld hA rfl rfl ag_bool (show _ = some (Value.bool t.held) from HH.hd)) (fun a hA => ?_)
      refine W_val hA rfl 141 rfl (by decide) _ _ (R_not hA rfl rfl _) (fun a hA => ?_)
      refine W_nil ?_
      refine then_nrm ?_
      show Code.wp Try.prog _ _ _ _
      refine wp_cond_split (hA.ev (x := .tmp 141) rfl) (fun c40 => ?_) (fun c40 => ?_)
      · skip
        refine wp_region_list ?_
        refine W_val hA rfl 142 rfl (by decide) _ _ (R_fa hA rfl rfl (fun w => fa_hart _ 6 37 (by decide) rfl w) _) (fun a hA => ?_)
        refine W_stUx hA rfl rfl rfl rfl rfl HH (by decide) (by decide) (fun w167 x37_127 hx37_127 hT HN => ?_)
        replace HB := HB.trans (hT.bel _ gHH)
        replace RR := hT.hart RR (by omega)
        replace HH := HN
        clear hT HN
        refine W_nil ?_
        refine then_nrm ?_
        show Code.wp Try.prog _ _ _ _
        refine wp_seq ?_
        refine wp_region_list ?_
        refine W_val hA rfl 143 rfl (by decide) _ _ (R_row hA rfl rfl HH Try.underlying25 (size_hart.trans (by rw [varr_size]))) (fun a hA => ?_)
        refine W_cpH hA rfl rfl rfl rfl rfl RR (fun w168 hT HN => ?_)
        replace HB := HB.trans (hT.bel _ gRR)
        replace HH := hT.hart HH (by omega)
        replace RR := HN
        clear hT HN
        refine W_nil ?_
        refine then_nrm ?_
        show Code.wp Try.prog _ _ _ _
        refine wp_ret ?_
        refine ret_hart (j := 2) (by kernel_rfl) hA rfl RR ?_
        refine ⟨congrArg (fun s : HS => Ending.returned (hartV s)) ?_, HB⟩
        refine fixZ_eq ?_ rfl rfl (fun i => ?_)
        · show x34_125 = (t.v && (t.n 33 != 3))
          rw [hx34_125, show (t.n 33 != 3) = false from by simpa using c39, Bool.and_false]
        by_cases e38 : i = 38
        · subst e38
          show x38_1 = _
          have q : noModeB x38_1 = false := by rw [noMode_bits, c1]; rfl
          rw [hx38_1] at q
          rw [hx38_1]
          show _ = (if noModeB (maskZ 0 (t.n 38)) = true then bits .andNot .u64 (maskZ 0 (t.n 38)) 6144 else maskZ 0 (t.n 38))
          rw [show noModeB (maskZ 0 (t.n 38)) = false from q]
          rfl
        by_cases e33 : i = 33
        · subst e33
          have p : t.n 33 = 1 ∨ t.n 33 = 3 := .inr (by simpa using c35)
          show _ = (if t.n 33 = 1 ∨ t.n 33 = 3 then t.n 33 else 0)
          rw [if_pos p]
          rfl
        by_cases e37 : i = 37
        · subst e37
          show x37_127 = _
          rw [hx37_127]
          show _ = (if t.held = true then bits .and .u64 (t.n 37) 72057594037927928 else 0)
          rw [show t.held = false by simpa using c40]; rfl
        exact fixD ok hx0_118 hx1_117 hx39_95 hx40_96 hx41_97 hx42_98 hx43_99 hx44_100 hx46_101 hx51_102 hx52_103 hx54_104 hx57_105 hx58_106 hx59_107 hx60_108 hx61_109 hx62_110 hx63_111 hx66_112 hx68_113 hx69_114 hx71_115 hx74_116 (fun i h => by simp only [HS.put, HS.putV, if_neg (h 0 (by decide)), if_neg (h 1 (by decide)), if_neg (h 37 (by decide)), if_neg (h 38 (by decide)), if_neg (h 39 (by decide)), if_neg (h 40 (by decide)), if_neg (h 41 (by decide)), if_neg (h 42 (by decide)), if_neg (h 43 (by decide)), if_neg (h 44 (by decide)), if_neg (h 46 (by decide)), if_neg (h 51 (by decide)), if_neg (h 52 (by decide)), if_neg (h 54 (by decide)), if_neg (h 57 (by decide)), if_neg (h 58 (by decide)), if_neg (h 59 (by decide)), if_neg (h 60 (by decide)), if_neg (h 61 (by decide)), if_neg (h 62 (by decide)), if_neg (h 63 (by decide)), if_neg (h 66 (by decide)), if_neg (h 68 (by decide)), if_neg (h 69 (by decide)), if_neg (h 71 (by decide)), if_neg (h 74 (by decide))]) i ⟨e33, e37, e38⟩
      refine wp_skip ?_
      refine then_nrm ?_
      show Code.wp Try.prog _ _ _ _
      refine wp_seq ?_
      refine wp_region_list ?_
      refine W_val hA rfl 143 rfl (by decide) _ _ (R_row hA rfl rfl HH Try.underlying25 (size_hart.trans (by rw [varr_size]))) (fun a hA => ?_)
      refine W_cpH hA rfl rfl rfl rfl rfl RR (fun w169 hT HN => ?_)
      replace HB := HB.trans (hT.bel _ gRR)
      replace HH := hT.hart HH (by omega)
      replace RR := HN
      clear hT HN
      refine W_nil ?_
      refine then_nrm ?_
      show Code.wp Try.prog _ _ _ _
      refine wp_ret ?_
      refine ret_hart (j := 2) (by kernel_rfl) hA rfl RR ?_
      refine ⟨congrArg (fun s : HS => Ending.returned (hartV s)) ?_, HB⟩
      refine fixZ_eq ?_ rfl rfl (fun i => ?_)
      · show x34_125 = (t.v && (t.n 33 != 3))
        rw [hx34_125, show (t.n 33 != 3) = false from by simpa using c39, Bool.and_false]
      by_cases e38 : i = 38
      · subst e38
        show x38_1 = _
        have q : noModeB x38_1 = false := by rw [noMode_bits, c1]; rfl
        rw [hx38_1] at q
        rw [hx38_1]
        show _ = (if noModeB (maskZ 0 (t.n 38)) = true then bits .andNot .u64 (maskZ 0 (t.n 38)) 6144 else maskZ 0 (t.n 38))
        rw [show noModeB (maskZ 0 (t.n 38)) = false from q]
        rfl
      by_cases e33 : i = 33
      · subst e33
        have p : t.n 33 = 1 ∨ t.n 33 = 3 := .inr (by simpa using c35)
        show _ = (if t.n 33 = 1 ∨ t.n 33 = 3 then t.n 33 else 0)
        rw [if_pos p]
        rfl
      by_cases e37 : i = 37
      · subst e37
        show x37_126 = _
        rw [hx37_126]
        show _ = (if t.held = true then bits .and .u64 (t.n 37) 72057594037927928 else 0)
        rw [show t.held = true by simpa using c40, if_pos rfl]
        exact res_and _
      exact fixD ok hx0_118 hx1_117 hx39_95 hx40_96 hx41_97 hx42_98 hx43_99 hx44_100 hx46_101 hx51_102 hx52_103 hx54_104 hx57_105 hx58_106 hx59_107 hx60_108 hx61_109 hx62_110 hx63_111 hx66_112 hx68_113 hx69_114 hx71_115 hx74_116 (fun i h => by simp only [HS.put, HS.putV, if_neg (h 0 (by decide)), if_neg (h 1 (by decide)), if_neg (h 37 (by decide)), if_neg (h 38 (by decide)), if_neg (h 39 (by decide)), if_neg (h 40 (by decide)), if_neg (h 41 (by decide)), if_neg (h 42 (by decide)), if_neg (h 43 (by decide)), if_neg (h 44 (by decide)), if_neg (h 46 (by decide)), if_neg (h 51 (by decide)), if_neg (h 52 (by decide)), if_neg (h 54 (by decide)), if_neg (h 57 (by decide)), if_neg (h 58 (by decide)), if_neg (h 59 (by decide)), if_neg (h 60 (by decide)), if_neg (h 61 (by decide)), if_neg (h 62 (by decide)), if_neg (h 63 (by decide)), if_neg (h 66 (by decide)), if_neg (h 68 (by decide)), if_neg (h 69 (by decide)), if_neg (h 71 (by decide)), if_neg (h 74 (by decide))]) i ⟨e33, e37, e38⟩
    refine wp_skip ?_
    refine then_nrm ?_
    show Code.wp Try.prog _ _ _ _
    refine wp_seq ?_
    refine wp_region_list ?_
    refine W_val hA rfl 134 rfl (by decide) _ _ (R_fa hA rfl rfl (fun w => fa_hart _ 6 37 (by decide) rfl w) _) (fun a hA => ?_)
    refine W_val hA rfl 135 rfl (by decide) _ _ (R_ld hA rfl rfl ag_u64 (show _ = some (Value.int .u64 (t.n 37)) from HH.u 37 (by decide) (by decide))) (fun a hA => ?_)
    refine W_val hA rfl 136 rfl (by decide) _ _ (R_andNot hA rfl rfl rfl _) (fun a hA => ?_)
    refine W_val hA rfl 137 rfl (by decide) _ _ (R_and hA rfl rfl rfl _) (fun a hA => ?_)
    refine W_val hA rfl 138 rfl (by decide) _ _ (R_fa hA rfl rfl (fun w => fa_hart _ 6 37 (by decide) rfl w) _) (fun a hA => ?_)
    refine W_stUx hA rfl rfl rfl rfl rfl HH (by decide) (by decide) (fun w170 x37_128 hx37_128 hT HN => ?_)
    replace HB := HB.trans (hT.bel _ gHH)
    replace RR := hT.hart RR (by omega)
    replace HH := HN
    clear hT HN
    refine W_nil ?_
    refine then_nrm ?_
    show Code.wp Try.prog _ _ _ _
    refine wp_seq ?_
    refine wp_seq ?_
    refine wp_region_list ?_
    refine W_val hA rfl 139 rfl (by decide) _ _ (R_fa hA rfl rfl (fun w => fa_hart _ 5 36 (by decide) rfl w) _) (fun a hA => ?_)
    refine W_val hA rfl 140 rfl (by decide) _ _ (R_ld hA rfl rfl ag_bool (show _ = some (Value.bool t.held) from HH.hd)) (fun a hA => ?_)
    refine W_val hA rfl 141 rfl (by decide) _ _ (R_not hA rfl rfl _) (fun a hA => ?_)
    refine W_nil ?_
    refine then_nrm ?_
    show Code.wp Try.prog _ _ _ _
    refine wp_cond_split (hA.ev (x := .tmp 141) rfl) (fun c41 => ?_) (fun c41 => ?_)
    · skip
      refine wp_region_list ?_
      refine W_val hA rfl 142 rfl (by decide) _ _ (R_fa hA rfl rfl (fun w => fa_hart _ 6 37 (by decide) rfl w) _) (fun a hA => ?_)
      refine W_stUx hA rfl rfl rfl rfl rfl HH (by decide) (by decide) (fun w171 x37_129 hx37_129 hT HN => ?_)
      replace HB := HB.trans (hT.bel _ gHH)
      replace RR := hT.hart RR (by omega)
      replace HH := HN
      clear hT HN
      refine W_nil ?_
      refine then_nrm ?_
      show Code.wp Try.prog _ _ _ _
      refine wp_seq ?_
      refine wp_region_list ?_
      refine W_val hA rfl 143 rfl (by decide) _ _ (R_row hA rfl rfl HH Try.underlying25 (size_hart.trans (by rw [varr_size]))) (fun a hA => ?_)
      refine W_cpH hA rfl rfl rfl rfl rfl RR (fun w172 hT HN => ?_)
      replace HB := HB.trans (hT.bel _ gRR)
      replace HH := hT.hart HH (by omega)
      replace RR := HN
      clear hT HN
      refine W_nil ?_
      refine then_nrm ?_
      show Code.wp Try.prog _ _ _ _
      refine wp_ret ?_
      refine ret_hart (j := 2) (by kernel_rfl) hA rfl RR ?_
      refine ⟨congrArg (fun s : HS => Ending.returned (hartV s)) ?_, HB⟩
      refine fixZ_eq ?_ rfl rfl (fun i => ?_)
      · show t.v = (t.v && (t.n 33 != 3))
        rw [show (t.n 33 != 3) = true from by simpa using c39, Bool.and_true]
      by_cases e38 : i = 38
      · subst e38
        show x38_1 = _
        have q : noModeB x38_1 = false := by rw [noMode_bits, c1]; rfl
        rw [hx38_1] at q
        rw [hx38_1]
        show _ = (if noModeB (maskZ 0 (t.n 38)) = true then bits .andNot .u64 (maskZ 0 (t.n 38)) 6144 else maskZ 0 (t.n 38))
        rw [show noModeB (maskZ 0 (t.n 38)) = false from q]
        rfl
      by_cases e33 : i = 33
      · subst e33
        have p : t.n 33 = 1 ∨ t.n 33 = 3 := .inr (by simpa using c35)
        show _ = (if t.n 33 = 1 ∨ t.n 33 = 3 then t.n 33 else 0)
        rw [if_pos p]
        rfl
      by_cases e37 : i = 37
      · subst e37
        show x37_129 = _
        rw [hx37_129]
        show _ = (if t.held = true then bits .and .u64 (t.n 37) 72057594037927928 else 0)
        rw [show t.held = false by simpa using c41]; rfl
      exact fixD ok hx0_118 hx1_117 hx39_95 hx40_96 hx41_97 hx42_98 hx43_99 hx44_100 hx46_101 hx51_102 hx52_103 hx54_104 hx57_105 hx58_106 hx59_107 hx60_108 hx61_109 hx62_110 hx63_111 hx66_112 hx68_113 hx69_114 hx71_115 hx74_116 (fun i h => by simp only [HS.put, HS.putV, if_neg (h 0 (by decide)), if_neg (h 1 (by decide)), if_neg (h 37 (by decide)), if_neg (h 38 (by decide)), if_neg (h 39 (by decide)), if_neg (h 40 (by decide)), if_neg (h 41 (by decide)), if_neg (h 42 (by decide)), if_neg (h 43 (by decide)), if_neg (h 44 (by decide)), if_neg (h 46 (by decide)), if_neg (h 51 (by decide)), if_neg (h 52 (by decide)), if_neg (h 54 (by decide)), if_neg (h 57 (by decide)), if_neg (h 58 (by decide)), if_neg (h 59 (by decide)), if_neg (h 60 (by decide)), if_neg (h 61 (by decide)), if_neg (h 62 (by decide)), if_neg (h 63 (by decide)), if_neg (h 66 (by decide)), if_neg (h 68 (by decide)), if_neg (h 69 (by decide)), if_neg (h 71 (by decide)), if_neg (h 74 (by decide))]) i ⟨e33, e37, e38⟩
    refine wp_skip ?_
    refine then_nrm ?_
    show Code.wp Try.prog _ _ _ _
    refine wp_seq ?_
    refine wp_region_list ?_
    refine W_val hA rfl 143 rfl (by decide) _ _ (R_row hA rfl rfl HH Try.underlying25 (size_hart.trans (by rw [varr_size]))) (fun a hA => ?_)
    refine W_cpH hA rfl rfl rfl rfl rfl RR (fun w173 hT HN => ?_)
    replace HB := HB.trans (hT.bel _ gRR)
    replace HH := hT.hart HH (by omega)
    replace RR := HN
    clear hT HN
    refine W_nil ?_
    refine then_nrm ?_
    show Code.wp Try.prog _ _ _ _
    refine wp_ret ?_
    refine ret_hart (j := 2) (by kernel_rfl) hA rfl RR ?_
    refine ⟨congrArg (fun s : HS => Ending.returned (hartV s)) ?_, HB⟩
    refine fixZ_eq ?_ rfl rfl (fun i => ?_)
    · show t.v = (t.v && (t.n 33 != 3))
      rw [show (t.n 33 != 3) = true from by simpa using c39, Bool.and_true]
    by_cases e38 : i = 38
    · subst e38
      show x38_1 = _
      have q : noModeB x38_1 = false := by rw [noMode_bits, c1]; rfl
      rw [hx38_1] at q
      rw [hx38_1]
      show _ = (if noModeB (maskZ 0 (t.n 38)) = true then bits .andNot .u64 (maskZ 0 (t.n 38)) 6144 else maskZ 0 (t.n 38))
      rw [show noModeB (maskZ 0 (t.n 38)) = false from q]
      rfl
    by_cases e33 : i = 33
    · subst e33
      have p : t.n 33 = 1 ∨ t.n 33 = 3 := .inr (by simpa using c35)
      show _ = (if t.n 33 = 1 ∨ t.n 33 = 3 then t.n 33 else 0)
      rw [if_pos p]
      rfl
    by_cases e37 : i = 37
    · subst e37
      show x37_128 = _
      rw [hx37_128]
      show _ = (if t.held = true then bits .and .u64 (t.n 37) 72057594037927928 else 0)
      rw [show t.held = true by simpa using c41, if_pos rfl]
      exact res_and _
    exact fixD ok hx0_118 hx1_117 hx39_95 hx40_96 hx41_97 hx42_98 hx43_99 hx44_100 hx46_101 hx51_102 hx52_103 hx54_104 hx57_105 hx58_106 hx59_107 hx60_108 hx61_109 hx62_110 hx63_111 hx66_112 hx68_113 hx69_114 hx71_115 hx74_116 (fun i h => by simp only [HS.put, HS.putV, if_neg (h 0 (by decide)), if_neg (h 1 (by decide)), if_neg (h 37 (by decide)), if_neg (h 38 (by decide)), if_neg (h 39 (by decide)), if_neg (h 40 (by decide)), if_neg (h 41 (by decide)), if_neg (h 42 (by decide)), if_neg (h 43 (by decide)), if_neg (h 44 (by decide)), if_neg (h 46 (by decide)), if_neg (h 51 (by decide)), if_neg (h 52 (by decide)), if_neg (h 54 (by decide)), if_neg (h 57 (by decide)), if_neg (h 58 (by decide)), if_neg (h 59 (by decide)), if_neg (h 60 (by decide)), if_neg (h 61 (by decide)), if_neg (h 62 (by decide)), if_neg (h 63 (by decide)), if_neg (h 66 (by decide)), if_neg (h 68 (by decide)), if_neg (h 69 (by decide)), if_neg (h 71 (by decide)), if_neg (h 74 (by decide))]) i ⟨e33, e37, e38⟩
  refine W_gskip hA rfl rfl rfl 125 rfl (by decide) (fun a hA => ?_)
  refine W_gskip hA rfl rfl rfl 126 rfl (by decide) (fun a hA => ?_)
  refine W_gskip hA rfl rfl rfl 127 rfl (by decide) (fun a hA => ?_)
  refine W_val hA rfl 128 rfl (by decide) _ _ (R_pick hA rfl rfl rfl _) (fun a hA => ?_)
  refine W_nil ?_
  refine then_nrm ?_
  show Code.wp Try.prog _ _ _ _
  refine wp_cond_split (hA.ev (x := .tmp 128) rfl) (fun c42 => ?_) (fun c42 => ?_)
  · skip
    refine wp_region_list ?_
    refine W_val hA rfl 129 rfl (by decide) _ _ (R_fa hA rfl rfl (fun w => fa_hart _ 2 33 (by decide) rfl w) _) (fun a hA => ?_)
    refine W_stPx hA rfl rfl rfl rfl rfl HH (fun w174 x33_130 hx33_130 hT HN => ?_)
    replace HB := HB.trans (hT.bel _ gHH)
    replace RR := hT.hart RR (by omega)
    replace HH := HN
    clear hT HN
    refine W_nil ?_
    refine then_nrm ?_
    show Code.wp Try.prog _ _ _ _
    refine wp_seq ?_
    refine wp_seq ?_
    refine wp_region_list ?_
    refine W_val hA rfl 130 rfl (by decide) _ _ (R_fa hA rfl rfl (fun w => fa_hart _ 2 33 (by decide) rfl w) _) (fun a hA => ?_)
    refine W_val hA rfl 131 rfl (by decide) _ _ (R_ld hA rfl rfl ag_u8 (show _ = some (Value.int .u8 (x33_130)) from HH.p)) (fun a hA => ?_)
    refine W_val hA rfl 132 rfl (by decide) _ _ (R_eqlB hA rfl rfl rfl _) (fun a hA => ?_)
    refine W_nil ?_
    refine then_nrm ?_
    show Code.wp Try.prog _ _ _ _
    refine wp_cond_split (hA.ev (x := .tmp 132) rfl) (fun c43 => ?_) (fun c43 => ?_)
    · skip
      refine wp_region_list ?_
      refine W_val hA rfl 133 rfl (by decide) _ _ (R_fa hA rfl rfl (fun w => fa_hart _ 3 34 (by decide) rfl w) _) (fun a hA => ?_)
      refine W_stVx hA rfl rfl rfl rfl rfl HH (fun w175 x34_131 hx34_131 hT HN => ?_)
      replace HB := HB.trans (hT.bel _ gHH)
      replace RR := hT.hart RR (by omega)
      replace HH := HN
      clear hT HN
      refine W_nil ?_
      refine then_nrm ?_
      show Code.wp Try.prog _ _ _ _
      refine wp_seq ?_
      refine wp_region_list ?_
      refine W_val hA rfl 134 rfl (by decide) _ _ (R_fa hA rfl rfl (fun w => fa_hart _ 6 37 (by decide) rfl w) _) (fun a hA => ?_)
      refine W_val hA rfl 135 rfl (by decide) _ _ (R_ld hA rfl rfl ag_u64 (show _ = some (Value.int .u64 (t.n 37)) from HH.u 37 (by decide) (by decide))) (fun a hA => ?_)
      refine W_val hA rfl 136 rfl (by decide) _ _ (R_andNot hA rfl rfl rfl _) (fun a hA => ?_)
      refine W_val hA rfl 137 rfl (by decide) _ _ (R_and hA rfl rfl rfl _) (fun a hA => ?_)
      refine W_val hA rfl 138 rfl (by decide) _ _ (R_fa hA rfl rfl (fun w => fa_hart _ 6 37 (by decide) rfl w) _) (fun a hA => ?_)
      refine W_stUx hA rfl rfl rfl rfl rfl HH (by decide) (by decide) (fun w176 x37_132 hx37_132 hT HN => ?_)
      replace HB := HB.trans (hT.bel _ gHH)
      replace RR := hT.hart RR (by omega)
      replace HH := HN
      clear hT HN
      refine W_nil ?_
      refine then_nrm ?_
      show Code.wp Try.prog _ _ _ _
      refine wp_seq ?_
      refine wp_seq ?_
      refine wp_region_list ?_
      refine W_val hA rfl 139 rfl (by decide) _ _ (R_fa hA rfl rfl (fun w => fa_hart _ 5 36 (by decide) rfl w) _) (fun a hA => ?_)
      refine W_val hA rfl 140 rfl (by decide) _ _ (R_ld hA rfl rfl ag_bool (show _ = some (Value.bool t.held) from HH.hd)) (fun a hA => ?_)
      refine W_val hA rfl 141 rfl (by decide) _ _ (R_not hA rfl rfl _) (fun a hA => ?_)
      refine W_nil ?_
      refine then_nrm ?_
      show Code.wp Try.prog _ _ _ _
      refine wp_cond_split (hA.ev (x := .tmp 141) rfl) (fun c44 => ?_) (fun c44 => ?_)
      · skip
        refine wp_region_list ?_
        refine W_val hA rfl 142 rfl (by decide) _ _ (R_fa hA rfl rfl (fun w => fa_hart _ 6 37 (by decide) rfl w) _) (fun a hA => ?_)
        refine W_stUx hA rfl rfl rfl rfl rfl HH (by decide) (by decide) (fun w177 x37_133 hx37_133 hT HN => ?_)
        replace HB := HB.trans (hT.bel _ gHH)
        replace RR := hT.hart RR (by omega)
        replace HH := HN
        clear hT HN
        refine W_nil ?_
        refine then_nrm ?_
        show Code.wp Try.prog _ _ _ _
        refine wp_seq ?_
        refine wp_region_list ?_
        refine W_val hA rfl 143 rfl (by decide) _ _ (R_row hA rfl rfl HH Try.underlying25 (size_hart.trans (by rw [varr_size]))) (fun a hA => ?_)
        refine W_cpH hA rfl rfl rfl rfl rfl RR (fun w178 hT HN => ?_)
        replace HB := HB.trans (hT.bel _ gRR)
        replace HH := hT.hart HH (by omega)
        replace RR := HN
        clear hT HN
        refine W_nil ?_
        refine then_nrm ?_
        show Code.wp Try.prog _ _ _ _
        refine wp_ret ?_
        cases c42
      refine wp_skip ?_
      refine then_nrm ?_
      show Code.wp Try.prog _ _ _ _
      refine wp_seq ?_
      refine wp_region_list ?_
      refine W_val hA rfl 143 rfl (by decide) _ _ (R_row hA rfl rfl HH Try.underlying25 (size_hart.trans (by rw [varr_size]))) (fun a hA => ?_)
      refine W_cpH hA rfl rfl rfl rfl rfl RR (fun w179 hT HN => ?_)
      replace HB := HB.trans (hT.bel _ gRR)
      replace HH := hT.hart HH (by omega)
      replace RR := HN
      clear hT HN
      refine W_nil ?_
      refine then_nrm ?_
      show Code.wp Try.prog _ _ _ _
      refine wp_ret ?_
      cases c42
    refine wp_skip ?_
    refine then_nrm ?_
    show Code.wp Try.prog _ _ _ _
    refine wp_seq ?_
    refine wp_region_list ?_
    refine W_val hA rfl 134 rfl (by decide) _ _ (R_fa hA rfl rfl (fun w => fa_hart _ 6 37 (by decide) rfl w) _) (fun a hA => ?_)
    refine W_val hA rfl 135 rfl (by decide) _ _ (R_ld hA rfl rfl ag_u64 (show _ = some (Value.int .u64 (t.n 37)) from HH.u 37 (by decide) (by decide))) (fun a hA => ?_)
    refine W_val hA rfl 136 rfl (by decide) _ _ (R_andNot hA rfl rfl rfl _) (fun a hA => ?_)
    refine W_val hA rfl 137 rfl (by decide) _ _ (R_and hA rfl rfl rfl _) (fun a hA => ?_)
    refine W_val hA rfl 138 rfl (by decide) _ _ (R_fa hA rfl rfl (fun w => fa_hart _ 6 37 (by decide) rfl w) _) (fun a hA => ?_)
    refine W_stUx hA rfl rfl rfl rfl rfl HH (by decide) (by decide) (fun w180 x37_134 hx37_134 hT HN => ?_)
    replace HB := HB.trans (hT.bel _ gHH)
    replace RR := hT.hart RR (by omega)
    replace HH := HN
    clear hT HN
    refine W_nil ?_
    refine then_nrm ?_
    show Code.wp Try.prog _ _ _ _
    refine wp_seq ?_
    refine wp_seq ?_
    refine wp_region_list ?_
    refine W_val hA rfl 139 rfl (by decide) _ _ (R_fa hA rfl rfl (fun w => fa_hart _ 5 36 (by decide) rfl w) _) (fun a hA => ?_)
    refine W_val hA rfl 140 rfl (by decide) _ _ (R_ld hA rfl rfl ag_bool (show _ = some (Value.bool t.held) from HH.hd)) (fun a hA => ?_)
    refine W_val hA rfl 141 rfl (by decide) _ _ (R_not hA rfl rfl _) (fun a hA => ?_)
    refine W_nil ?_
    refine then_nrm ?_
    show Code.wp Try.prog _ _ _ _
    refine wp_cond_split (hA.ev (x := .tmp 141) rfl) (fun c45 => ?_) (fun c45 => ?_)
    · skip
      refine wp_region_list ?_
      refine W_val hA rfl 142 rfl (by decide) _ _ (R_fa hA rfl rfl (fun w => fa_hart _ 6 37 (by decide) rfl w) _) (fun a hA => ?_)
      refine W_stUx hA rfl rfl rfl rfl rfl HH (by decide) (by decide) (fun w181 x37_135 hx37_135 hT HN => ?_)
      replace HB := HB.trans (hT.bel _ gHH)
      replace RR := hT.hart RR (by omega)
      replace HH := HN
      clear hT HN
      refine W_nil ?_
      refine then_nrm ?_
      show Code.wp Try.prog _ _ _ _
      refine wp_seq ?_
      refine wp_region_list ?_
      refine W_val hA rfl 143 rfl (by decide) _ _ (R_row hA rfl rfl HH Try.underlying25 (size_hart.trans (by rw [varr_size]))) (fun a hA => ?_)
      refine W_cpH hA rfl rfl rfl rfl rfl RR (fun w182 hT HN => ?_)
      replace HB := HB.trans (hT.bel _ gRR)
      replace HH := hT.hart HH (by omega)
      replace RR := HN
      clear hT HN
      refine W_nil ?_
      refine then_nrm ?_
      show Code.wp Try.prog _ _ _ _
      refine wp_ret ?_
      cases c42
    refine wp_skip ?_
    refine then_nrm ?_
    show Code.wp Try.prog _ _ _ _
    refine wp_seq ?_
    refine wp_region_list ?_
    refine W_val hA rfl 143 rfl (by decide) _ _ (R_row hA rfl rfl HH Try.underlying25 (size_hart.trans (by rw [varr_size]))) (fun a hA => ?_)
    refine W_cpH hA rfl rfl rfl rfl rfl RR (fun w183 hT HN => ?_)
    replace HB := HB.trans (hT.bel _ gRR)
    replace HH := hT.hart HH (by omega)
    replace RR := HN
    clear hT HN
    refine W_nil ?_
    refine then_nrm ?_
    show Code.wp Try.prog _ _ _ _
    refine wp_ret ?_
    cases c42
  refine wp_skip ?_
  refine then_nrm ?_
  show Code.wp Try.prog _ _ _ _
  refine wp_seq ?_
  refine wp_seq ?_
  refine wp_region_list ?_
  refine W_val hA rfl 130 rfl (by decide) _ _ (R_fa hA rfl rfl (fun w => fa_hart _ 2 33 (by decide) rfl w) _) (fun a hA => ?_)
  refine W_val hA rfl 131 rfl (by decide) _ _ (R_ld hA rfl rfl ag_u8 (show _ = some (Value.int .u8 (t.n 33)) from HH.p)) (fun a hA => ?_)
  refine W_val hA rfl 132 rfl (by decide) _ _ (R_eqlB hA rfl rfl rfl _) (fun a hA => ?_)
  refine W_nil ?_
  refine then_nrm ?_
  show Code.wp Try.prog _ _ _ _
  refine wp_cond_split (hA.ev (x := .tmp 132) rfl) (fun c46 => ?_) (fun c46 => ?_)
  · skip
    refine wp_region_list ?_
    refine W_val hA rfl 133 rfl (by decide) _ _ (R_fa hA rfl rfl (fun w => fa_hart _ 3 34 (by decide) rfl w) _) (fun a hA => ?_)
    refine W_stVx hA rfl rfl rfl rfl rfl HH (fun w184 x34_136 hx34_136 hT HN => ?_)
    replace HB := HB.trans (hT.bel _ gHH)
    replace RR := hT.hart RR (by omega)
    replace HH := HN
    clear hT HN
    refine W_nil ?_
    refine then_nrm ?_
    show Code.wp Try.prog _ _ _ _
    refine wp_seq ?_
    refine wp_region_list ?_
    refine W_val hA rfl 134 rfl (by decide) _ _ (R_fa hA rfl rfl (fun w => fa_hart _ 6 37 (by decide) rfl w) _) (fun a hA => ?_)
    refine W_val hA rfl 135 rfl (by decide) _ _ (R_ld hA rfl rfl ag_u64 (show _ = some (Value.int .u64 (t.n 37)) from HH.u 37 (by decide) (by decide))) (fun a hA => ?_)
    refine W_val hA rfl 136 rfl (by decide) _ _ (R_andNot hA rfl rfl rfl _) (fun a hA => ?_)
    refine W_val hA rfl 137 rfl (by decide) _ _ (R_and hA rfl rfl rfl _) (fun a hA => ?_)
    refine W_val hA rfl 138 rfl (by decide) _ _ (R_fa hA rfl rfl (fun w => fa_hart _ 6 37 (by decide) rfl w) _) (fun a hA => ?_)
    refine W_stUx hA rfl rfl rfl rfl rfl HH (by decide) (by decide) (fun w185 x37_137 hx37_137 hT HN => ?_)
    replace HB := HB.trans (hT.bel _ gHH)
    replace RR := hT.hart RR (by omega)
    replace HH := HN
    clear hT HN
    refine W_nil ?_
    refine then_nrm ?_
    show Code.wp Try.prog _ _ _ _
    refine wp_seq ?_
    refine wp_seq ?_
    refine wp_region_list ?_
    refine W_val hA rfl 139 rfl (by decide) _ _ (R_fa hA rfl rfl (fun w => fa_hart _ 5 36 (by decide) rfl w) _) (fun a hA => ?_)
    refine W_val hA rfl 140 rfl (by decide) _ _ (R_ld hA rfl rfl ag_bool (show _ = some (Value.bool t.held) from HH.hd)) (fun a hA => ?_)
    refine W_val hA rfl 141 rfl (by decide) _ _ (R_not hA rfl rfl _) (fun a hA => ?_)
    refine W_nil ?_
    refine then_nrm ?_
    show Code.wp Try.prog _ _ _ _
    refine wp_cond_split (hA.ev (x := .tmp 141) rfl) (fun c47 => ?_) (fun c47 => ?_)
    · skip
      refine wp_region_list ?_
      refine W_val hA rfl 142 rfl (by decide) _ _ (R_fa hA rfl rfl (fun w => fa_hart _ 6 37 (by decide) rfl w) _) (fun a hA => ?_)
      refine W_stUx hA rfl rfl rfl rfl rfl HH (by decide) (by decide) (fun w186 x37_138 hx37_138 hT HN => ?_)
      replace HB := HB.trans (hT.bel _ gHH)
      replace RR := hT.hart RR (by omega)
      replace HH := HN
      clear hT HN
      refine W_nil ?_
      refine then_nrm ?_
      show Code.wp Try.prog _ _ _ _
      refine wp_seq ?_
      refine wp_region_list ?_
      refine W_val hA rfl 143 rfl (by decide) _ _ (R_row hA rfl rfl HH Try.underlying25 (size_hart.trans (by rw [varr_size]))) (fun a hA => ?_)
      refine W_cpH hA rfl rfl rfl rfl rfl RR (fun w187 hT HN => ?_)
      replace HB := HB.trans (hT.bel _ gRR)
      replace HH := hT.hart HH (by omega)
      replace RR := HN
      clear hT HN
      refine W_nil ?_
      refine then_nrm ?_
      show Code.wp Try.prog _ _ _ _
      refine wp_ret ?_
      refine ret_hart (j := 2) (by kernel_rfl) hA rfl RR ?_
      refine ⟨congrArg (fun s : HS => Ending.returned (hartV s)) ?_, HB⟩
      refine fixZ_eq ?_ rfl rfl (fun i => ?_)
      · show x34_136 = (t.v && (t.n 33 != 3))
        rw [hx34_136, show (t.n 33 != 3) = false from by simpa using c46, Bool.and_false]
      by_cases e38 : i = 38
      · subst e38
        show x38_1 = _
        have q : noModeB x38_1 = false := by rw [noMode_bits, c1]; rfl
        rw [hx38_1] at q
        rw [hx38_1]
        show _ = (if noModeB (maskZ 0 (t.n 38)) = true then bits .andNot .u64 (maskZ 0 (t.n 38)) 6144 else maskZ 0 (t.n 38))
        rw [show noModeB (maskZ 0 (t.n 38)) = false from q]
        rfl
      by_cases e33 : i = 33
      · subst e33
        have p : t.n 33 = 1 ∨ t.n 33 = 3 := .inl (by simpa using c34)
        show _ = (if t.n 33 = 1 ∨ t.n 33 = 3 then t.n 33 else 0)
        rw [if_pos p]
        rfl
      by_cases e37 : i = 37
      · subst e37
        show x37_138 = _
        rw [hx37_138]
        show _ = (if t.held = true then bits .and .u64 (t.n 37) 72057594037927928 else 0)
        rw [show t.held = false by simpa using c47]; rfl
      exact fixD ok hx0_118 hx1_117 hx39_95 hx40_96 hx41_97 hx42_98 hx43_99 hx44_100 hx46_101 hx51_102 hx52_103 hx54_104 hx57_105 hx58_106 hx59_107 hx60_108 hx61_109 hx62_110 hx63_111 hx66_112 hx68_113 hx69_114 hx71_115 hx74_116 (fun i h => by simp only [HS.put, HS.putV, if_neg (h 0 (by decide)), if_neg (h 1 (by decide)), if_neg (h 37 (by decide)), if_neg (h 38 (by decide)), if_neg (h 39 (by decide)), if_neg (h 40 (by decide)), if_neg (h 41 (by decide)), if_neg (h 42 (by decide)), if_neg (h 43 (by decide)), if_neg (h 44 (by decide)), if_neg (h 46 (by decide)), if_neg (h 51 (by decide)), if_neg (h 52 (by decide)), if_neg (h 54 (by decide)), if_neg (h 57 (by decide)), if_neg (h 58 (by decide)), if_neg (h 59 (by decide)), if_neg (h 60 (by decide)), if_neg (h 61 (by decide)), if_neg (h 62 (by decide)), if_neg (h 63 (by decide)), if_neg (h 66 (by decide)), if_neg (h 68 (by decide)), if_neg (h 69 (by decide)), if_neg (h 71 (by decide)), if_neg (h 74 (by decide))]) i ⟨e33, e37, e38⟩
    refine wp_skip ?_
    refine then_nrm ?_
    show Code.wp Try.prog _ _ _ _
    refine wp_seq ?_
    refine wp_region_list ?_
    refine W_val hA rfl 143 rfl (by decide) _ _ (R_row hA rfl rfl HH Try.underlying25 (size_hart.trans (by rw [varr_size]))) (fun a hA => ?_)
    refine W_cpH hA rfl rfl rfl rfl rfl RR (fun w188 hT HN => ?_)
    replace HB := HB.trans (hT.bel _ gRR)
    replace HH := hT.hart HH (by omega)
    replace RR := HN
    clear hT HN
    refine W_nil ?_
    refine then_nrm ?_
    show Code.wp Try.prog _ _ _ _
    refine wp_ret ?_
    refine ret_hart (j := 2) (by kernel_rfl) hA rfl RR ?_
    refine ⟨congrArg (fun s : HS => Ending.returned (hartV s)) ?_, HB⟩
    refine fixZ_eq ?_ rfl rfl (fun i => ?_)
    · show x34_136 = (t.v && (t.n 33 != 3))
      rw [hx34_136, show (t.n 33 != 3) = false from by simpa using c46, Bool.and_false]
    by_cases e38 : i = 38
    · subst e38
      show x38_1 = _
      have q : noModeB x38_1 = false := by rw [noMode_bits, c1]; rfl
      rw [hx38_1] at q
      rw [hx38_1]
      show _ = (if noModeB (maskZ 0 (t.n 38)) = true then bits .andNot .u64 (maskZ 0 (t.n 38)) 6144 else maskZ 0 (t.n 38))
      rw [show noModeB (maskZ 0 (t.n 38)) = false from q]
      rfl
    by_cases e33 : i = 33
    · subst e33
      have p : t.n 33 = 1 ∨ t.n 33 = 3 := .inl (by simpa using c34)
      show _ = (if t.n 33 = 1 ∨ t.n 33 = 3 then t.n 33 else 0)
      rw [if_pos p]
      rfl
    by_cases e37 : i = 37
    · subst e37
      show x37_137 = _
      rw [hx37_137]
      show _ = (if t.held = true then bits .and .u64 (t.n 37) 72057594037927928 else 0)
      rw [show t.held = true by simpa using c47, if_pos rfl]
      exact res_and _
    exact fixD ok hx0_118 hx1_117 hx39_95 hx40_96 hx41_97 hx42_98 hx43_99 hx44_100 hx46_101 hx51_102 hx52_103 hx54_104 hx57_105 hx58_106 hx59_107 hx60_108 hx61_109 hx62_110 hx63_111 hx66_112 hx68_113 hx69_114 hx71_115 hx74_116 (fun i h => by simp only [HS.put, HS.putV, if_neg (h 0 (by decide)), if_neg (h 1 (by decide)), if_neg (h 37 (by decide)), if_neg (h 38 (by decide)), if_neg (h 39 (by decide)), if_neg (h 40 (by decide)), if_neg (h 41 (by decide)), if_neg (h 42 (by decide)), if_neg (h 43 (by decide)), if_neg (h 44 (by decide)), if_neg (h 46 (by decide)), if_neg (h 51 (by decide)), if_neg (h 52 (by decide)), if_neg (h 54 (by decide)), if_neg (h 57 (by decide)), if_neg (h 58 (by decide)), if_neg (h 59 (by decide)), if_neg (h 60 (by decide)), if_neg (h 61 (by decide)), if_neg (h 62 (by decide)), if_neg (h 63 (by decide)), if_neg (h 66 (by decide)), if_neg (h 68 (by decide)), if_neg (h 69 (by decide)), if_neg (h 71 (by decide)), if_neg (h 74 (by decide))]) i ⟨e33, e37, e38⟩
  refine wp_skip ?_
  refine then_nrm ?_
  show Code.wp Try.prog _ _ _ _
  refine wp_seq ?_
  refine wp_region_list ?_
  refine W_val hA rfl 134 rfl (by decide) _ _ (R_fa hA rfl rfl (fun w => fa_hart _ 6 37 (by decide) rfl w) _) (fun a hA => ?_)
  refine W_val hA rfl 135 rfl (by decide) _ _ (R_ld hA rfl rfl ag_u64 (show _ = some (Value.int .u64 (t.n 37)) from HH.u 37 (by decide) (by decide))) (fun a hA => ?_)
  refine W_val hA rfl 136 rfl (by decide) _ _ (R_andNot hA rfl rfl rfl _) (fun a hA => ?_)
  refine W_val hA rfl 137 rfl (by decide) _ _ (R_and hA rfl rfl rfl _) (fun a hA => ?_)
  refine W_val hA rfl 138 rfl (by decide) _ _ (R_fa hA rfl rfl (fun w => fa_hart _ 6 37 (by decide) rfl w) _) (fun a hA => ?_)
  refine W_stUx hA rfl rfl rfl rfl rfl HH (by decide) (by decide) (fun w189 x37_139 hx37_139 hT HN => ?_)
  replace HB := HB.trans (hT.bel _ gHH)
  replace RR := hT.hart RR (by omega)
  replace HH := HN
  clear hT HN
  refine W_nil ?_
  refine then_nrm ?_
  show Code.wp Try.prog _ _ _ _
  refine wp_seq ?_
  refine wp_seq ?_
  refine wp_region_list ?_
  refine W_val hA rfl 139 rfl (by decide) _ _ (R_fa hA rfl rfl (fun w => fa_hart _ 5 36 (by decide) rfl w) _) (fun a hA => ?_)
  refine W_val hA rfl 140 rfl (by decide) _ _ (R_ld hA rfl rfl ag_bool (show _ = some (Value.bool t.held) from HH.hd)) (fun a hA => ?_)
  refine W_val hA rfl 141 rfl (by decide) _ _ (R_not hA rfl rfl _) (fun a hA => ?_)
  refine W_nil ?_
  refine then_nrm ?_
  show Code.wp Try.prog _ _ _ _
  refine wp_cond_split (hA.ev (x := .tmp 141) rfl) (fun c48 => ?_) (fun c48 => ?_)
  · skip
    refine wp_region_list ?_
    refine W_val hA rfl 142 rfl (by decide) _ _ (R_fa hA rfl rfl (fun w => fa_hart _ 6 37 (by decide) rfl w) _) (fun a hA => ?_)
    refine W_stUx hA rfl rfl rfl rfl rfl HH (by decide) (by decide) (fun w190 x37_140 hx37_140 hT HN => ?_)
    replace HB := HB.trans (hT.bel _ gHH)
    replace RR := hT.hart RR (by omega)
    replace HH := HN
    clear hT HN
    refine W_nil ?_
    refine then_nrm ?_
    show Code.wp Try.prog _ _ _ _
    refine wp_seq ?_
    refine wp_region_list ?_
    refine W_val hA rfl 143 rfl (by decide) _ _ (R_row hA rfl rfl HH Try.underlying25 (size_hart.trans (by rw [varr_size]))) (fun a hA => ?_)
    refine W_cpH hA rfl rfl rfl rfl rfl RR (fun w191 hT HN => ?_)
    replace HB := HB.trans (hT.bel _ gRR)
    replace HH := hT.hart HH (by omega)
    replace RR := HN
    clear hT HN
    refine W_nil ?_
    refine then_nrm ?_
    show Code.wp Try.prog _ _ _ _
    refine wp_ret ?_
    refine ret_hart (j := 2) (by kernel_rfl) hA rfl RR ?_
    refine ⟨congrArg (fun s : HS => Ending.returned (hartV s)) ?_, HB⟩
    refine fixZ_eq ?_ rfl rfl (fun i => ?_)
    · show t.v = (t.v && (t.n 33 != 3))
      rw [show (t.n 33 != 3) = true from by simpa using c46, Bool.and_true]
    by_cases e38 : i = 38
    · subst e38
      show x38_1 = _
      have q : noModeB x38_1 = false := by rw [noMode_bits, c1]; rfl
      rw [hx38_1] at q
      rw [hx38_1]
      show _ = (if noModeB (maskZ 0 (t.n 38)) = true then bits .andNot .u64 (maskZ 0 (t.n 38)) 6144 else maskZ 0 (t.n 38))
      rw [show noModeB (maskZ 0 (t.n 38)) = false from q]
      rfl
    by_cases e33 : i = 33
    · subst e33
      have p : t.n 33 = 1 ∨ t.n 33 = 3 := .inl (by simpa using c34)
      show _ = (if t.n 33 = 1 ∨ t.n 33 = 3 then t.n 33 else 0)
      rw [if_pos p]
      rfl
    by_cases e37 : i = 37
    · subst e37
      show x37_140 = _
      rw [hx37_140]
      show _ = (if t.held = true then bits .and .u64 (t.n 37) 72057594037927928 else 0)
      rw [show t.held = false by simpa using c48]; rfl
    exact fixD ok hx0_118 hx1_117 hx39_95 hx40_96 hx41_97 hx42_98 hx43_99 hx44_100 hx46_101 hx51_102 hx52_103 hx54_104 hx57_105 hx58_106 hx59_107 hx60_108 hx61_109 hx62_110 hx63_111 hx66_112 hx68_113 hx69_114 hx71_115 hx74_116 (fun i h => by simp only [HS.put, HS.putV, if_neg (h 0 (by decide)), if_neg (h 1 (by decide)), if_neg (h 37 (by decide)), if_neg (h 38 (by decide)), if_neg (h 39 (by decide)), if_neg (h 40 (by decide)), if_neg (h 41 (by decide)), if_neg (h 42 (by decide)), if_neg (h 43 (by decide)), if_neg (h 44 (by decide)), if_neg (h 46 (by decide)), if_neg (h 51 (by decide)), if_neg (h 52 (by decide)), if_neg (h 54 (by decide)), if_neg (h 57 (by decide)), if_neg (h 58 (by decide)), if_neg (h 59 (by decide)), if_neg (h 60 (by decide)), if_neg (h 61 (by decide)), if_neg (h 62 (by decide)), if_neg (h 63 (by decide)), if_neg (h 66 (by decide)), if_neg (h 68 (by decide)), if_neg (h 69 (by decide)), if_neg (h 71 (by decide)), if_neg (h 74 (by decide))]) i ⟨e33, e37, e38⟩
  refine wp_skip ?_
  refine then_nrm ?_
  show Code.wp Try.prog _ _ _ _
  refine wp_seq ?_
  refine wp_region_list ?_
  refine W_val hA rfl 143 rfl (by decide) _ _ (R_row hA rfl rfl HH Try.underlying25 (size_hart.trans (by rw [varr_size]))) (fun a hA => ?_)
  refine W_cpH hA rfl rfl rfl rfl rfl RR (fun w192 hT HN => ?_)
  replace HB := HB.trans (hT.bel _ gRR)
  replace HH := hT.hart HH (by omega)
  replace RR := HN
  clear hT HN
  refine W_nil ?_
  refine then_nrm ?_
  show Code.wp Try.prog _ _ _ _
  refine wp_ret ?_
  refine ret_hart (j := 2) (by kernel_rfl) hA rfl RR ?_
  refine ⟨congrArg (fun s : HS => Ending.returned (hartV s)) ?_, HB⟩
  refine fixZ_eq ?_ rfl rfl (fun i => ?_)
  · show t.v = (t.v && (t.n 33 != 3))
    rw [show (t.n 33 != 3) = true from by simpa using c46, Bool.and_true]
  by_cases e38 : i = 38
  · subst e38
    show x38_1 = _
    have q : noModeB x38_1 = false := by rw [noMode_bits, c1]; rfl
    rw [hx38_1] at q
    rw [hx38_1]
    show _ = (if noModeB (maskZ 0 (t.n 38)) = true then bits .andNot .u64 (maskZ 0 (t.n 38)) 6144 else maskZ 0 (t.n 38))
    rw [show noModeB (maskZ 0 (t.n 38)) = false from q]
    rfl
  by_cases e33 : i = 33
  · subst e33
    have p : t.n 33 = 1 ∨ t.n 33 = 3 := .inl (by simpa using c34)
    show _ = (if t.n 33 = 1 ∨ t.n 33 = 3 then t.n 33 else 0)
    rw [if_pos p]
    rfl
  by_cases e37 : i = 37
  · subst e37
    show x37_139 = _
    rw [hx37_139]
    show _ = (if t.held = true then bits .and .u64 (t.n 37) 72057594037927928 else 0)
    rw [show t.held = true by simpa using c48, if_pos rfl]
    exact res_and _
  exact fixD ok hx0_118 hx1_117 hx39_95 hx40_96 hx41_97 hx42_98 hx43_99 hx44_100 hx46_101 hx51_102 hx52_103 hx54_104 hx57_105 hx58_106 hx59_107 hx60_108 hx61_109 hx62_110 hx63_111 hx66_112 hx68_113 hx69_114 hx71_115 hx74_116 (fun i h => by simp only [HS.put, HS.putV, if_neg (h 0 (by decide)), if_neg (h 1 (by decide)), if_neg (h 37 (by decide)), if_neg (h 38 (by decide)), if_neg (h 39 (by decide)), if_neg (h 40 (by decide)), if_neg (h 41 (by decide)), if_neg (h 42 (by decide)), if_neg (h 43 (by decide)), if_neg (h 44 (by decide)), if_neg (h 46 (by decide)), if_neg (h 51 (by decide)), if_neg (h 52 (by decide)), if_neg (h 54 (by decide)), if_neg (h 57 (by decide)), if_neg (h 58 (by decide)), if_neg (h 59 (by decide)), if_neg (h 60 (by decide)), if_neg (h 61 (by decide)), if_neg (h 62 (by decide)), if_neg (h 63 (by decide)), if_neg (h 66 (by decide)), if_neg (h 68 (by decide)), if_neg (h 69 (by decide)), if_neg (h 71 (by decide)), if_neg (h 74 (by decide))]) i ⟨e33, e37, e38⟩
end Go.Proofs.Ytiblfdgmleckiaa
