/- Layer 11: the laws' wakes. -/
import Derived.Test.YtcnalabhcalfnaaCnK
namespace Go.Proofs.Ytcnalabhcalfnaa
open Go.RowKit
set_option linter.unusedVariables false
set_option maxRecDepth 100000

def hZ : HS := ⟨fun _ => 0, false, false, false⟩
def hW : HS := ⟨fun i => if i = 33 then 1 else 0, true, false, false⟩
theorem hW_ok : HOk hW := ⟨fun i => by unfold hW In64; show 0 ≤ (if i = 33 then (1 : Int) else 0) ∧ _; by_cases h : i = 33 <;> simp [h], by unfold hW; show (if 33 = 33 then (1 : Int) else 0) < 256; decide⟩
theorem bldW : Try.prog.built 32 [(2, .int .u8 1), (3, .bool true)] = some (varr 77 (hCell hW)) := by kernel_rfl
theorem zero_hart (w : World) : (zeroValue 32).run Try.prog w = .ok (.agg (varr 77 (hCell hZ))) w := by kernel_rfl
theorem hrow_one (t : HS) : (varr 77 (hCell t)).all (·.oneCell') = true := varr_one (hCell_one t)
theorem name768 : nameN 768 = ⟨#[109, 115, 116, 97, 116, 117, 115]⟩ := by
  unfold nameN; rw [show ixN 768 = 19 by decide +kernel]; rfl
theorem num_hgatp : numS ⟨#[104, 103, 97, 116, 112]⟩ = 1664 := by decide +kernel
theorem chk_satp : chkZ hW 384 true = 0 := by decide +kernel
theorem chk_hstatus : chkZ hW 1536 false = 22 := by decide +kernel
set_option maxHeartbeats 2000000 in
theorem wakes_any (w : World) : Calls Try.prog 9 #[] w fun e w' => e = .returned (.bool true) ∧ Below w.heap.size w w' := by
  have HN : Hid (∀ w, Calls Try.prog 10 #[.int .i64 768] w fun e w' => e = .returned (.string ⟨#[109, 115, 116, 97, 116, 117, 115]⟩) ∧ Below w.heap.size w w') := Lib.hid fun w => by rw [← name768]; exact name_any 768 w
  have HU : Hid (∀ w, Calls Try.prog 13 #[.string ⟨#[104, 103, 97, 116, 112]⟩] w fun e w' => e = .returned (.int .i64 1664) ∧ Below w.heap.size w w') := Lib.hid fun w => by rw [← num_hgatp]; exact number_any _ w
  have HC1 : Hid (∀ w, Calls Try.prog 17 #[hartV hW, .int .i64 384, .bool true] w fun e w' => e = .returned (.int .i64 0) ∧ Below w.heap.size w w') := Lib.hid fun w => by rw [← chk_satp]; exact check_is hW hW_ok 384 true w
  have HC2 : Hid (∀ w, Calls Try.prog 17 #[hartV hW, .int .i64 1536, .bool false] w fun e w' => e = .returned (.int .i64 22) ∧ Below w.heap.size w w') := Lib.hid fun w => by rw [← chk_hstatus]; exact check_is hW hW_ok 1536 false w
  have hz45 := zero_hart
  go_enter Try.func9, Try.ntmps9
  go_upto_region 2 with (first
    | (refine wpList_build_atA rfl 32 _ rfl _ (by simp [Act.eval]) _ bldW ?_)
    | (refine wpList_store_row rfl 32 _ _ rfl w.heap.size (varr 77 (hCell hW)) rfl rfl 32 _ (heap_alloc_new w _) (size_hart.trans (by rw [varr_size])) (by rw [varr_size, varr_size]) (hrow_one _) ?_))
  have HB := Lib.hid (below_setRow ((Below.refl _ _).alloc (Nat.le_refl _) (.cells (varr 77 (hCell hZ)) 32)) (Nat.le_refl w.heap.size) (varr 77 (hCell hW)))
  have HR : Hid (HartB ((w.alloc (.cells (varr 77 (hCell hZ)) 32)).setRow w.heap.size (varr 77 (hCell hW))) w.heap.size hW) := Lib.hid (setRow_heap _ _ _ _ _ _ (heap_alloc_new w _))
  generalize (w.alloc (.cells (varr 77 (hCell hZ)) 32)).setRow w.heap.size (varr 77 (hCell hW)) = w0 at *
  clear hz45
  go_wp2_with (fail)
  (with_reducible refine (HN.out _).mono ?_)
  rintro e w1 ⟨rfl, hb1⟩
  have HB1 := Lib.hid (HB.out.trans (hb1.mono HB.out.size))
  have HR1 := Lib.hid (HR.out.below hb1)
  clear hb1 HB HR
  go_wp2_with (fail)
  (with_reducible refine (HU.out _).mono ?_)
  rintro e w2 ⟨rfl, hb1⟩
  have HB2 := Lib.hid (HB1.out.trans (hb1.mono HB1.out.size))
  have HR2 := Lib.hid (HR1.out.below hb1)
  clear hb1 HB1 HR1
  go_wp2_with (refine wpList_load_rowG (by rfl) _ _ rfl w.heap.size rfl 32 _ _ _ HR2.out Try.underlying32 rfl (size_hart.trans (by rw [varr_size])) ?_)
  (with_reducible refine (HC1.out _).mono ?_)
  rintro e w3 ⟨rfl, hb1⟩
  have HB3 := Lib.hid (HB2.out.trans (hb1.mono HB2.out.size))
  have HR3 := Lib.hid (HR2.out.below hb1)
  clear hb1 HB2 HR2
  go_wp2_with (refine wpList_load_rowG (by rfl) _ _ rfl w.heap.size rfl 32 _ _ _ HR3.out Try.underlying32 rfl (size_hart.trans (by rw [varr_size])) ?_)
  (with_reducible refine (HC2.out _).mono ?_)
  rintro e w4 ⟨rfl, hb1⟩
  have HB4 := Lib.hid (HB3.out.trans (hb1.mono HB3.out.size))
  clear hb1 HB3 HR3
  go_wp2
  go_ret
  exact ⟨rfl, HB4.out⟩
end Go.Proofs.Ytcnalabhcalfnaa
