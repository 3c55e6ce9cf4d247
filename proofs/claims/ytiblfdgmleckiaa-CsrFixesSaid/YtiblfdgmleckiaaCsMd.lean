/- Layer 12: Legal of the document (written by gen_csm.py by walkf.py). -/
import Derived.Test.YtiblfdgmleckiaaCsK
import Derived.Test.YtiblfdgmleckiaaCsM
namespace Go.Proofs.Ytiblfdgmleckiaa
open Go.RowKit
set_option linter.unusedVariables false
set_option maxRecDepth 100000

set_option maxHeartbeats 8000000 in
theorem dlegal_any (t : HS) (ok : HOk t) (w : World) : Calls Try.prog 23 #[hartV t] w fun e w' => e = .returned (.bool (eqH t (fixZ t))) ∧ Below w.heap.size w w' := by
  have HB := Below.refl w.heap.size w
  go_enter Try.func23, Try.ntmps23
  refine begin_fr [(0, hartV t)] 9 ?_ (fun a hA => ?_)
  · exact FrA.add (FrA.nil (by rfl) (by rfl)) 0 _ (by rfl)
  refine wp_seq ?_
  refine wp_region_list ?_
  refine W_boxH hA rfl 1 rfl (by decide) rfl rfl (fun w1 bHH a hA hb HH gHH => ?_)
  replace gHH := Nat.le_trans HB.size gHH
  replace HB := HB.trans (hb.mono HB.size)
  clear hb
  refine W_val hA rfl 2 rfl (by decide) _ _ (R_asg hA rfl rfl _) (fun a hA => ?_)
  refine W_nil ?_
  refine then_nrm ?_
  show Code.wp Try.prog _ _ _ _
  refine wp_seq ?_
  refine wp_region_list ?_
  refine W_val hA rfl 4 rfl (by decide) _ _ (R_row hA rfl rfl HH Try.underlying25 (size_hart.trans (by rw [varr_size]))) (fun a hA => ?_)
  refine W_callA hA (by decide) (fun _ _ => by kernel_rfl) (args1 hA rfl) (dfix_any _ (by assumption) _) (fun w2 hw a hA => ?_)
  replace HB := HB.trans (hw.mono HB.size)
  replace HH := HH.below hw
  clear hw
  refine W_allocH hA rfl 3 rfl (by decide) rfl (fun w3 bA3 a hA hb A3 gA3 => ?_)
  have nHHA3 : bHH < bA3 := by have := HH.lt; omega
  replace HH := HH.below hb
  replace gA3 := Nat.le_trans HB.size gA3
  replace HB := HB.trans (hb.mono HB.size)
  clear hb
  refine W_cpH hA rfl rfl rfl rfl rfl A3 (fun w4 hT HN => ?_)
  replace HB := HB.trans (hT.bel _ gA3)
  replace HH := hT.hart HH (by omega)
  replace A3 := HN
  clear hT HN
  refine W_nil ?_
  refine then_nrm ?_
  show Code.wp Try.prog _ _ _ _
  refine wp_seq ?_
  refine wp_region_list ?_
  refine W_val hA rfl 6 rfl (by decide) _ _ (R_row hA rfl rfl A3 Try.underlying25 (size_hart.trans (by rw [varr_size]))) (fun a hA => ?_)
  refine W_val hA rfl 7 rfl (by decide) _ _ (R_row hA rfl rfl HH Try.underlying25 (size_hart.trans (by rw [varr_size]))) (fun a hA => ?_)
  refine W_val hA rfl 8 rfl (by decide) _ _ (R_eqlH hA rfl rfl rfl (eqH t (fixZ t)) (eqH_symm _ _) _) (fun a hA => ?_)
  refine W_val hA rfl 2 rfl (by decide) _ _ (R_asg hA rfl rfl _) (fun a hA => ?_)
  refine W_nil ?_
  refine then_nrm ?_
  show Code.wp Try.prog _ _ _ _
  refine wp_ret ?_
  exact ret_tmp (j := 2) (by kernel_rfl) hA (by decide) rfl ⟨rfl, HB⟩
end Go.Proofs.Ytiblfdgmleckiaa
