/- Layer 13: wakes; what the laws need (written by gen_iqh.py by walkf.py). -/
import Derived.Test.YthgjgloedlkaiaaDoorIqG
import Derived.Test.YthgjgloedlkaiaaDoorCsL
namespace Go.Proofs.YthgjgloedlkaiaaDoor
open Go.RowKit
set_option linter.unusedVariables false
set_option maxRecDepth 100000

section
variable {w : World} {o : Oper} {a : Act} {l : List (Nat × Value)} {n : Nat}
theorem R_eqlTT (hA : FrA l n a) {x y : Operand} {T2 : TypeId} (ho : o.op = .binOp .eql 30 x y T2) {q r : Bool} {c d : Int} (hx : evL l x = some (trapV q c)) (hy : evL l y = some (trapV r d)) (z : Bool) (he : (q == r && (c == d)) = z) (w : World) : (execOp a.eval o).run Tryd.prog w = .ok (.value (.bool z)) w := by
  subst he; exact R_eqlTr hA ho hx hy w
theorem R_neqTT (hA : FrA l n a) {x y : Operand} {T2 : TypeId} (ho : o.op = .binOp .neq 30 x y T2) {q r : Bool} {c d : Int} (hx : evL l x = some (trapV q c)) (hy : evL l y = some (trapV r d)) (z : Bool) (he : (!(q == r && (c == d))) = z) (w : World) : (execOp a.eval o).run Tryd.prog w = .ok (.value (.bool z)) w := by
  subst he; exact R_neqTr hA ho hx hy w
theorem R_andN (hA : FrA l n a) {x y : Operand} (ho : o.op = .binOp .andNot 22 x y 22) {u v r : Int} (hx : evL l x = some (.int .u64 u)) (hy : evL l y = some (.int .u64 v)) (he : bits .andNot .u64 u v = r) (w : World) : (execOp a.eval o).run Tryd.prog w = .ok (.value (.int .u64 r)) w := by
  subst he; exact R_andNot hA ho hx hy w
theorem R_orN (hA : FrA l n a) {x y : Operand} (ho : o.op = .binOp .or 22 x y 22) {u v r : Int} (hx : evL l x = some (.int .u64 u)) (hy : evL l y = some (.int .u64 v)) (he : bits .or .u64 u v = r) (w : World) : (execOp a.eval o).run Tryd.prog w = .ok (.value (.int .u64 r)) w := by
  subst he; exact R_or hA ho hx hy w
theorem R_gtrN (hA : FrA l n a) {x y : Operand} (ho : o.op = .binOp .gtr 22 x y 22) {u v : Int} (hx : evL l x = some (.int .u64 u)) (hy : evL l y = some (.int .u64 v)) (z : Bool) (he : decide (v < u) = z) (w : World) : (execOp a.eval o).run Tryd.prog w = .ok (.value (.bool z)) w := by
  subst he; exact R_gtrU hA ho hx hy w
theorem R_neqBN (hA : FrA l n a) {x y : Operand} (ho : o.op = .binOp .neq 5 x y 5) {u v : Int} (hx : evL l x = some (.int .u8 u)) (hy : evL l y = some (.int .u8 v)) (z : Bool) (he : (u != v) = z) (w : World) : (execOp a.eval o).run Tryd.prog w = .ok (.value (.bool z)) w := by
  subst he; exact R_neqB hA ho hx hy w
end
theorem cause_num : ∀ n, n < 64 → bits .andNot .u64 (9223372036854775808 + ((n : Nat) : Int)) 9223372036854775808 = n := by decide +kernel
theorem next_of_none {t : HS} (ok : HOk t) {l : LS} (hn : nextZ t l = none) (w : World) (hTab : Tab w) : Calls Tryd.prog 9 #[hartV t, linesV l] w fun e w' => e = .returned (trapV false 0) ∧ Below w.heap.size w w' :=
  (next_any t ok l w hTab).mono fun e w' h => ⟨h.1.trans (by rw [hn]; rfl), h.2⟩
theorem next_of_some {t : HS} (ok : HOk t) {l : LS} {n : Nat} (hn : nextZ t l = some n) (w : World) (hTab : Tab w) : Calls Tryd.prog 9 #[hartV t, linesV l] w fun e w' => e = .returned (trapV true (9223372036854775808 + (n : Int))) ∧ Below w.heap.size w w' :=
  (next_any t ok l w hTab).mono fun e w' h => ⟨h.1.trans (by rw [hn]; rfl), h.2⟩
def wkS : HS := ⟨fun i => if i = 33 then 1 else if i = 41 then 128 else 0, false, false, false⟩
theorem ok_wkS : HOk wkS := ⟨fun i => by unfold wkS; dsimp only; by_cases h : i = 33 <;> by_cases h2 : i = 41 <;> simp [h, h2, In64], by decide⟩
def lnT : LS := ⟨false, true, false, false, 0, 0⟩
def lnN : LS := ⟨false, false, false, false, 0, 0⟩
theorem bld_wk : Tryd.prog.built 25 [(2, .int .u8 1), (10, .int .u64 128)] = some (varr 77 (hCell wkS)) := by kernel_rfl
theorem bld_lnT : Tryd.prog.built 27 [(1, .bool true)] = some (lineR lnT) := by kernel_rfl
theorem bld_lnN : Tryd.prog.built 27 [] = some (lineR lnN) := by kernel_rfl
theorem wk_yes : nextZ (fixZ wkS) lnT = some 7 := by decide +kernel
theorem wk_no : nextZ (fixZ wkS) lnN = none := by decide +kernel
theorem ok_wkF : HOk (fixZ wkS) := ok_fix ok_wkS
set_option maxHeartbeats 8000000 in
theorem wakes_any (w : World) (hTab : Tab w) : Calls Tryd.prog 13 #[] w fun e w' => e = .returned (.bool true) ∧ Below w.heap.size w w' := by
  have HB := Below.refl w.heap.size w
  go_enter Tryd.func13, Tryd.ntmps13
  refine begin_fr [] 16 ?_ (fun a hA => ?_)
  · exact FrA.nil (by rfl) (by rfl)
  refine wp_seq ?_
  refine wp_region_list ?_
  refine W_val hA rfl 0 rfl (by decide) _ _ (R_asg hA rfl rfl _) (fun a hA => ?_)
  refine W_nil ?_
  refine then_nrm ?_
  show Code.wp Tryd.prog _ _ _ _
  refine wp_seq ?_
  refine wp_region_list ?_
  refine W_val hA rfl 2 rfl (by decide) _ _ (R_build (ps := [(2, .const (.int .u8 1)), (10, .const (.int .u64 128))]) hA rfl [(2, .int .u8 1), (10, .int .u64 128)] rfl bld_wk _) (fun a hA => ?_)
  refine W_callA hA (by decide) (fun _ _ => by kernel_rfl) (args1 hA rfl) (fix_any wkS ok_wkS _) (fun w1 hw a hA => ?_)
  replace HB := HB.trans (hw.mono HB.size)
  clear hw
  refine W_allocH hA rfl 1 rfl (by decide) rfl (fun w2 bA1 a hA hb A1 gA1 => ?_)
  replace gA1 := Nat.le_trans HB.size gA1
  replace HB := HB.trans (hb.mono HB.size)
  clear hb
  refine W_cpH hA rfl rfl rfl rfl rfl A1 (fun w3 hT HN => ?_)
  replace HB := HB.trans (hT.bel _ gA1)
  replace A1 := HN
  clear hT HN
  refine W_nil ?_
  refine then_nrm ?_
  show Code.wp Tryd.prog _ _ _ _
  refine wp_seq ?_
  refine wp_region_list ?_
  refine W_val hA rfl 4 rfl (by decide) _ _ (R_row hA rfl rfl A1 Tryd.underlying25 (size_hart.trans (by rw [varr_size]))) (fun a hA => ?_)
  refine W_val hA rfl 5 rfl (by decide) _ _ (R_build (ps := [(1, .const (.bool true))]) hA rfl [(1, .bool true)] rfl bld_lnT _) (fun a hA => ?_)
  refine W_callA hA (by decide) (fun _ _ => by kernel_rfl) (args2 hA rfl rfl) (next_of_some ok_wkF wk_yes _ (by first | exact (hTab.below HB).below hS | exact hTab.below HB)) (fun w4 hw a hA => ?_)
  replace HB := HB.trans (hw.mono HB.size)
  replace A1 := A1.below hw
  clear hw
  refine W_val hA rfl 7 rfl (by decide) _ _ (R_build (ps := [(0, .const (.bool true)), (1, .const (.int .u64 9223372036854775815))]) hA rfl [(0, .bool true), (1, .int .u64 9223372036854775815)] rfl (bld_tr1 _) _) (fun a hA => ?_)
  refine W_val hA rfl 8 rfl (by decide) _ _ (R_eqlTT hA rfl rfl rfl true (by decide) _) (fun a hA => ?_)
  refine W_val hA rfl 9 rfl (by decide) _ _ (R_mov hA rfl rfl _) (fun a hA => ?_)
  refine W_gval hA rfl rfl rfl 10 rfl (by decide) _ _ (R_row hA rfl rfl A1 Tryd.underlying25 (size_hart.trans (by rw [varr_size]))) (fun a hA => ?_)
  refine W_gval hA rfl rfl rfl 11 rfl (by decide) _ _ (R_build (ps := []) hA rfl [] rfl bld_lnN _) (fun a hA => ?_)
  refine W_gcallB hA rfl rfl (by decide) (fun _ _ => by kernel_rfl) (args2 hA rfl rfl) (next_of_none ok_wkF wk_no _ (by first | exact (hTab.below HB).below hS | exact hTab.below HB)) (fun w5 hw a hA => ?_)
  replace HB := HB.trans (hw.mono HB.size)
  replace A1 := A1.below hw
  clear hw
  refine W_gval hA rfl rfl rfl 13 rfl (by decide) _ _ (R_build (ps := []) hA rfl [] rfl bld_tr0 _) (fun a hA => ?_)
  refine W_gval hA rfl rfl rfl 14 rfl (by decide) _ _ (R_eqlTT hA rfl rfl rfl true (by decide) _) (fun a hA => ?_)
  refine W_val hA rfl 15 rfl (by decide) _ _ (R_pick hA rfl rfl rfl _) (fun a hA => ?_)
  refine W_val hA rfl 0 rfl (by decide) _ _ (R_asg hA rfl rfl _) (fun a hA => ?_)
  refine W_nil ?_
  refine then_nrm ?_
  show Code.wp Tryd.prog _ _ _ _
  refine wp_ret ?_
  exact ret_tmp (j := 0) (by kernel_rfl) hA (by decide) rfl ⟨rfl, HB⟩
end Go.Proofs.YthgjgloedlkaiaaDoor
