/- Layer 12: the list of all fields; the field of a number (written by gen_csf.py by walkf.py). -/
import Derived.Test.YtkfhpmleelmcfaaCsB
import Derived.Test.YtkfhpmleelmcfaaCsD
import Derived.Test.YtkfhpmleelmcfaaWkBig
namespace Go.Proofs.Ytkfhpmleelmcfaa
open Go.RowKit
set_option linter.unusedVariables false
set_option maxRecDepth 100000

theorem ag_int (w : World) : (isAgg 3).run Try.prog w = .ok false w := by kernel_rfl

theorem ag_ptr (w : World) : (isAgg 45).run Try.prog w = .ok false w := by kernel_rfl

/-- A register's number and its cell's address in a block. -/
abbrev regR (no : Int) (p : Option Addr) : Array Value := #[.int .i64 no, .pointer p]

def RgB (w : World) (b : Nat) (no : Int) (p : Option Addr) : Prop := w.heap[b]? = some (.cells (regR no p) 47 (0, 0))

theorem RgB.lt {w : World} {b : Nat} {no : Int} {p : Option Addr} (h : RgB w b no p) : b < w.heap.size := (Array.getElem?_eq_some_iff.1 h).1

theorem RgB.below {w w' : World} {b : Nat} {no : Int} {p : Option Addr} (h : RgB w b no p) (o : Below w.heap.size w w') : RgB w' b no p := (o.block b h.lt).trans h

theorem RgB.c0 {w : World} {b : Nat} {no : Int} {p : Option Addr} (h : RgB w b no p) : w.cell? ⟨b, 0, none⟩ = some (.int .i64 no) := by rw [cell_of_row w b 0 _ _ _ h]; rfl

theorem RgB.c1 {w : World} {b : Nat} {no : Int} {p : Option Addr} (h : RgB w b no p) : w.cell? ⟨b, 1, none⟩ = some (.pointer p) := by rw [cell_of_row w b 1 _ _ _ h]; rfl

theorem fa_reg (b i : Nat) (hi : i < 2) (w : World) : (Instr.fieldAt 47 (.pointer (some ⟨b, 0, none⟩)) i).run Try.prog w = .ok (.pointer (some ⟨b, i, none⟩)) w :=
  match i, hi with
  | 0, _ => by kernel_rfl
  | 1, _ => by kernel_rfl
  | i + 2, h => absurd h (by omega)

theorem zero_reg (w : World) : (zeroValue 47).run Try.prog w = .ok (.agg (regR 0 none)) w := by kernel_rfl

theorem zero_regs (w : World) : (zeroValue 48).run Try.prog w = .ok (.agg (varr 76 fun i => if i % 2 = 0 then .int .i64 0 else .pointer none)) w := by kernel_rfl

theorem size_reg (no : Int) (p : Option Addr) : (Try.prog.info? 47).map (·.size) = some (regR no p).size := by kernel_rfl

theorem bld_reg (no : Int) (p : Option Addr) : Try.prog.built 47 [(0, .int .i64 no), (1, .pointer p)] = some (regR no p) := by kernel_rfl

def tblF (b : Nat) : Array Value := #[.int .i64 768, .pointer (some ⟨b, 38, none⟩), .int .i64 770, .pointer (some ⟨b, 39, none⟩), .int .i64 771, .pointer (some ⟨b, 40, none⟩), .int .i64 772, .pointer (some ⟨b, 41, none⟩), .int .i64 773, .pointer (some ⟨b, 43, none⟩), .int .i64 774, .pointer (some ⟨b, 44, none⟩), .int .i64 832, .pointer (some ⟨b, 45, none⟩), .int .i64 833, .pointer (some ⟨b, 46, none⟩), .int .i64 834, .pointer (some ⟨b, 47, none⟩), .int .i64 835, .pointer (some ⟨b, 48, none⟩), .int .i64 843, .pointer (some ⟨b, 49, none⟩), .int .i64 842, .pointer (some ⟨b, 50, none⟩), .int .i64 2816, .pointer (some ⟨b, 75, none⟩), .int .i64 2818, .pointer (some ⟨b, 76, none⟩), .int .i64 261, .pointer (some ⟨b, 51, none⟩), .int .i64 262, .pointer (some ⟨b, 52, none⟩), .int .i64 320, .pointer (some ⟨b, 53, none⟩), .int .i64 321, .pointer (some ⟨b, 54, none⟩), .int .i64 322, .pointer (some ⟨b, 55, none⟩), .int .i64 323, .pointer (some ⟨b, 56, none⟩), .int .i64 384, .pointer (some ⟨b, 57, none⟩), .int .i64 1536, .pointer (some ⟨b, 58, none⟩), .int .i64 1538, .pointer (some ⟨b, 59, none⟩), .int .i64 1539, .pointer (some ⟨b, 60, none⟩), .int .i64 1605, .pointer (some ⟨b, 61, none⟩), .int .i64 1542, .pointer (some ⟨b, 62, none⟩), .int .i64 1543, .pointer (some ⟨b, 63, none⟩), .int .i64 1603, .pointer (some ⟨b, 64, none⟩), .int .i64 1610, .pointer (some ⟨b, 65, none⟩), .int .i64 1664, .pointer (some ⟨b, 66, none⟩), .int .i64 1541, .pointer (some ⟨b, 67, none⟩), .int .i64 512, .pointer (some ⟨b, 68, none⟩), .int .i64 517, .pointer (some ⟨b, 69, none⟩), .int .i64 576, .pointer (some ⟨b, 70, none⟩), .int .i64 577, .pointer (some ⟨b, 71, none⟩), .int .i64 578, .pointer (some ⟨b, 72, none⟩), .int .i64 579, .pointer (some ⟨b, 73, none⟩), .int .i64 640, .pointer (some ⟨b, 74, none⟩)]

theorem size_tbl (b : Nat) : (Try.prog.info? 48).map (·.size) = some (tblF b).size := by kernel_rfl

def vsT (b : Nat) : List (Nat × Value) := [(0, .agg #[.int .i64 768, .pointer (some ⟨b, 38, none⟩)]), (1, .agg #[.int .i64 770, .pointer (some ⟨b, 39, none⟩)]), (2, .agg #[.int .i64 771, .pointer (some ⟨b, 40, none⟩)]), (3, .agg #[.int .i64 772, .pointer (some ⟨b, 41, none⟩)]), (4, .agg #[.int .i64 773, .pointer (some ⟨b, 43, none⟩)]), (5, .agg #[.int .i64 774, .pointer (some ⟨b, 44, none⟩)]), (6, .agg #[.int .i64 832, .pointer (some ⟨b, 45, none⟩)]), (7, .agg #[.int .i64 833, .pointer (some ⟨b, 46, none⟩)]), (8, .agg #[.int .i64 834, .pointer (some ⟨b, 47, none⟩)]), (9, .agg #[.int .i64 835, .pointer (some ⟨b, 48, none⟩)]), (10, .agg #[.int .i64 843, .pointer (some ⟨b, 49, none⟩)]), (11, .agg #[.int .i64 842, .pointer (some ⟨b, 50, none⟩)]), (12, .agg #[.int .i64 2816, .pointer (some ⟨b, 75, none⟩)]), (13, .agg #[.int .i64 2818, .pointer (some ⟨b, 76, none⟩)]), (14, .agg #[.int .i64 261, .pointer (some ⟨b, 51, none⟩)]), (15, .agg #[.int .i64 262, .pointer (some ⟨b, 52, none⟩)]), (16, .agg #[.int .i64 320, .pointer (some ⟨b, 53, none⟩)]), (17, .agg #[.int .i64 321, .pointer (some ⟨b, 54, none⟩)]), (18, .agg #[.int .i64 322, .pointer (some ⟨b, 55, none⟩)]), (19, .agg #[.int .i64 323, .pointer (some ⟨b, 56, none⟩)]), (20, .agg #[.int .i64 384, .pointer (some ⟨b, 57, none⟩)]), (21, .agg #[.int .i64 1536, .pointer (some ⟨b, 58, none⟩)]), (22, .agg #[.int .i64 1538, .pointer (some ⟨b, 59, none⟩)]), (23, .agg #[.int .i64 1539, .pointer (some ⟨b, 60, none⟩)]), (24, .agg #[.int .i64 1605, .pointer (some ⟨b, 61, none⟩)]), (25, .agg #[.int .i64 1542, .pointer (some ⟨b, 62, none⟩)]), (26, .agg #[.int .i64 1543, .pointer (some ⟨b, 63, none⟩)]), (27, .agg #[.int .i64 1603, .pointer (some ⟨b, 64, none⟩)]), (28, .agg #[.int .i64 1610, .pointer (some ⟨b, 65, none⟩)]), (29, .agg #[.int .i64 1664, .pointer (some ⟨b, 66, none⟩)]), (30, .agg #[.int .i64 1541, .pointer (some ⟨b, 67, none⟩)]), (31, .agg #[.int .i64 512, .pointer (some ⟨b, 68, none⟩)]), (32, .agg #[.int .i64 517, .pointer (some ⟨b, 69, none⟩)]), (33, .agg #[.int .i64 576, .pointer (some ⟨b, 70, none⟩)]), (34, .agg #[.int .i64 577, .pointer (some ⟨b, 71, none⟩)]), (35, .agg #[.int .i64 578, .pointer (some ⟨b, 72, none⟩)]), (36, .agg #[.int .i64 579, .pointer (some ⟨b, 73, none⟩)]), (37, .agg #[.int .i64 640, .pointer (some ⟨b, 74, none⟩)])]

theorem bld_tbl (b : Nat) : Try.prog.built 48 (vsT b) = some (tblF b) := by kernel_rfl

def psT : List (Nat × Operand) := [(0, .tmp 6), (1, .tmp 10), (2, .tmp 14), (3, .tmp 18), (4, .tmp 22), (5, .tmp 26), (6, .tmp 30), (7, .tmp 34), (8, .tmp 38), (9, .tmp 42), (10, .tmp 46), (11, .tmp 50), (12, .tmp 54), (13, .tmp 58), (14, .tmp 62), (15, .tmp 66), (16, .tmp 70), (17, .tmp 74), (18, .tmp 78), (19, .tmp 82), (20, .tmp 86), (21, .tmp 90), (22, .tmp 94), (23, .tmp 98), (24, .tmp 102), (25, .tmp 106), (26, .tmp 110), (27, .tmp 114), (28, .tmp 118), (29, .tmp 122), (30, .tmp 126), (31, .tmp 130), (32, .tmp 134), (33, .tmp 138), (34, .tmp 142), (35, .tmp 146), (36, .tmp 150), (37, .tmp 154)]

theorem one_tbl (b : Nat) : (tblF b).all (·.oneCell') = true := by kernel_rfl

theorem idx_tbl (b k : Nat) (hk : k < 38) (w : World) : (Instr.index 48 (.agg (tblF b)) (.int .i64 k)).run Try.prog w = .ok (.agg (regR (noF k) (some ⟨b, clF k, none⟩))) w :=
  match k, hk with
  | 0, _ => by kernel_rfl
  | 1, _ => by kernel_rfl
  | 2, _ => by kernel_rfl
  | 3, _ => by kernel_rfl
  | 4, _ => by kernel_rfl
  | 5, _ => by kernel_rfl
  | 6, _ => by kernel_rfl
  | 7, _ => by kernel_rfl
  | 8, _ => by kernel_rfl
  | 9, _ => by kernel_rfl
  | 10, _ => by kernel_rfl
  | 11, _ => by kernel_rfl
  | 12, _ => by kernel_rfl
  | 13, _ => by kernel_rfl
  | 14, _ => by kernel_rfl
  | 15, _ => by kernel_rfl
  | 16, _ => by kernel_rfl
  | 17, _ => by kernel_rfl
  | 18, _ => by kernel_rfl
  | 19, _ => by kernel_rfl
  | 20, _ => by kernel_rfl
  | 21, _ => by kernel_rfl
  | 22, _ => by kernel_rfl
  | 23, _ => by kernel_rfl
  | 24, _ => by kernel_rfl
  | 25, _ => by kernel_rfl
  | 26, _ => by kernel_rfl
  | 27, _ => by kernel_rfl
  | 28, _ => by kernel_rfl
  | 29, _ => by kernel_rfl
  | 30, _ => by kernel_rfl
  | 31, _ => by kernel_rfl
  | 32, _ => by kernel_rfl
  | 33, _ => by kernel_rfl
  | 34, _ => by kernel_rfl
  | 35, _ => by kernel_rfl
  | 36, _ => by kernel_rfl
  | 37, _ => by kernel_rfl
  | k + 38, h => absurd h (by omega)

section

variable {Q : Exit → Act → World → Prop} {w : World} {ops : Array Oper} {rest : List Oper} {o : Oper} {a : Act} {l : List (Nat × Value)} {n d : Nat}

theorem W_allocR (hA : FrA l n a) (hg : o.guard = none) (d : Nat) (hd : o.dst = some d) (hdn : d < n) (ho : o.op = .alloc 47)
    (h : ∀ w' b a', FrA ((d, .pointer (some ⟨b, 0, none⟩)) :: l) n a' → Below w.heap.size w w' → RgB w' b 0 none → w.heap.size ≤ b → wpList Try.prog ops Q rest a' w') : wpList Try.prog ops Q (o :: rest) a w :=
  W_val hA hg d hd hdn _ _ (R_alloc hA ho zero_reg w) fun a hA => h _ _ a hA ((Below.refl _ _).alloc (Nat.le_refl _) _) (heap_alloc_new w _) (Nat.le_refl _)

theorem W_cpR (hA : FrA l n a) (hg : o.guard = none) (hd : o.dst = none) {x y : Operand} (ho : o.op = .store 47 x y) {b : Nat} {no m : Int} {p q : Option Addr} (hx : evL l x = some (.pointer (some ⟨b, 0, none⟩))) (hy : evL l y = some (.agg (regR m q))) (hb : RgB w b no p)
    (h : ∀ w', Tch b w w' → RgB w' b m q → wpList Try.prog ops Q rest a w') : wpList Try.prog ops Q (o :: rest) a w :=
  W_strow hA hg hd ho hx hy hb (size_reg m q) rfl (by simp [Value.oneCell']) (h _ (Tch.setRow _) (setRow_heap _ _ _ _ _ _ hb))

theorem W_allocT (hA : FrA l n a) (hg : o.guard = none) (d : Nat) (hd : o.dst = some d) (hdn : d < n) (ho : o.op = .alloc 48)
    (h : ∀ w' b a', FrA ((d, .pointer (some ⟨b, 0, none⟩)) :: l) n a' → Below w.heap.size w w' → w'.heap[b]? = some (.cells (varr 76 fun i => if i % 2 = 0 then .int .i64 0 else .pointer none) 48 (0, 0)) → w.heap.size ≤ b → wpList Try.prog ops Q rest a' w') : wpList Try.prog ops Q (o :: rest) a w :=
  W_val hA hg d hd hdn _ _ (R_alloc hA ho zero_regs w) fun a hA => h _ _ a hA ((Below.refl _ _).alloc (Nat.le_refl _) _) (heap_alloc_new w _) (Nat.le_refl _)

end

theorem und_arr : ∃ e, Try.prog.underlying 48 = some (.array 38 e) := ⟨_, Try.underlying48⟩

set_option maxHeartbeats 8000000 in
theorem fields_any (b : Nat) (w : World) : Calls Try.prog 30 #[.pointer (some ⟨b, 0, none⟩)] w fun e w' => e = .returned (.agg (tblF b)) ∧ Below w.heap.size w w' := by
  have HB := Below.refl w.heap.size w
  go_enter Try.func30, Try.ntmps30
  refine begin_fr [(0, .pointer (some ⟨b, 0, none⟩))] 156 ?_ (fun a hA => ?_)
  · exact FrA.add (FrA.nil (by rfl) (by rfl)) 0 _ (by rfl)
  refine wp_seq ?_
  refine wp_region_list ?_
  refine W_allocT hA rfl 2 rfl (by decide) rfl (fun w1 bT a hA hb HT gT => ?_)
  replace gT := Nat.le_trans HB.size gT
  replace HB := HB.trans (hb.mono HB.size)
  clear hb
  refine W_nil ?_
  refine then_nrm ?_
  show Code.wp Try.prog _ _ _ _
  refine wp_seq ?_
  simp only [List.append_eq, List.cons_append, List.nil_append]
  refine still_tail 153 (lexTail_of 153 (by kernel_rfl) (by kernel_rfl) (by kernel_rfl) (by kernel_rfl) (by kernel_rfl) (by kernel_rfl) (by kernel_rfl)) (fun w4 hw => ?_)
  replace HB := HB.trans (hw.mono HB.size)
  replace HT := (hw.block _ (Array.getElem?_eq_some_iff.1 HT).1).trans HT
  clear hw
  refine S_val hA rfl 3 rfl (by decide) _ (R_mov hA rfl rfl _) (fun a hA => ?_)
  refine S_val hA rfl 4 rfl (by decide) _ (R_nilCheck hA rfl rfl _) (fun a hA => ?_)
  refine S_val hA rfl 5 rfl (by decide) _ (R_fa hA rfl rfl (fun w => fa_hart _ 7 38 (by decide) rfl w) _) (fun a hA => ?_)
  refine S_val hA rfl 6 rfl (by decide) _ (R_build (ps := [(0, .const (.int .i64 768)), (1, .tmp 5)]) hA rfl [(0, .int .i64 768), (1, .pointer (some ⟨b, 38, none⟩))] rfl (bld_reg _ _) _) (fun a hA => ?_)
  refine S_val hA rfl 7 rfl (by decide) _ (R_mov hA rfl rfl _) (fun a hA => ?_)
  refine S_val hA rfl 8 rfl (by decide) _ (R_nilCheck hA rfl rfl _) (fun a hA => ?_)
  refine S_val hA rfl 9 rfl (by decide) _ (R_fa hA rfl rfl (fun w => fa_hart _ 8 39 (by decide) rfl w) _) (fun a hA => ?_)
  refine S_val hA rfl 10 rfl (by decide) _ (R_build (ps := [(0, .const (.int .i64 770)), (1, .tmp 9)]) hA rfl [(0, .int .i64 770), (1, .pointer (some ⟨b, 39, none⟩))] rfl (bld_reg _ _) _) (fun a hA => ?_)
  refine S_val hA rfl 11 rfl (by decide) _ (R_mov hA rfl rfl _) (fun a hA => ?_)
  refine S_val hA rfl 12 rfl (by decide) _ (R_nilCheck hA rfl rfl _) (fun a hA => ?_)
  refine S_val hA rfl 13 rfl (by decide) _ (R_fa hA rfl rfl (fun w => fa_hart _ 9 40 (by decide) rfl w) _) (fun a hA => ?_)
  refine S_val hA rfl 14 rfl (by decide) _ (R_build (ps := [(0, .const (.int .i64 771)), (1, .tmp 13)]) hA rfl [(0, .int .i64 771), (1, .pointer (some ⟨b, 40, none⟩))] rfl (bld_reg _ _) _) (fun a hA => ?_)
  refine S_val hA rfl 15 rfl (by decide) _ (R_mov hA rfl rfl _) (fun a hA => ?_)
  refine S_val hA rfl 16 rfl (by decide) _ (R_nilCheck hA rfl rfl _) (fun a hA => ?_)
  refine S_val hA rfl 17 rfl (by decide) _ (R_fa hA rfl rfl (fun w => fa_hart _ 10 41 (by decide) rfl w) _) (fun a hA => ?_)
  refine S_val hA rfl 18 rfl (by decide) _ (R_build (ps := [(0, .const (.int .i64 772)), (1, .tmp 17)]) hA rfl [(0, .int .i64 772), (1, .pointer (some ⟨b, 41, none⟩))] rfl (bld_reg _ _) _) (fun a hA => ?_)
  refine S_val hA rfl 19 rfl (by decide) _ (R_mov hA rfl rfl _) (fun a hA => ?_)
  refine S_val hA rfl 20 rfl (by decide) _ (R_nilCheck hA rfl rfl _) (fun a hA => ?_)
  refine S_val hA rfl 21 rfl (by decide) _ (R_fa hA rfl rfl (fun w => fa_hart _ 12 43 (by decide) rfl w) _) (fun a hA => ?_)
  refine S_val hA rfl 22 rfl (by decide) _ (R_build (ps := [(0, .const (.int .i64 773)), (1, .tmp 21)]) hA rfl [(0, .int .i64 773), (1, .pointer (some ⟨b, 43, none⟩))] rfl (bld_reg _ _) _) (fun a hA => ?_)
  refine S_val hA rfl 23 rfl (by decide) _ (R_mov hA rfl rfl _) (fun a hA => ?_)
  refine S_val hA rfl 24 rfl (by decide) _ (R_nilCheck hA rfl rfl _) (fun a hA => ?_)
  refine S_val hA rfl 25 rfl (by decide) _ (R_fa hA rfl rfl (fun w => fa_hart _ 13 44 (by decide) rfl w) _) (fun a hA => ?_)
  refine S_val hA rfl 26 rfl (by decide) _ (R_build (ps := [(0, .const (.int .i64 774)), (1, .tmp 25)]) hA rfl [(0, .int .i64 774), (1, .pointer (some ⟨b, 44, none⟩))] rfl (bld_reg _ _) _) (fun a hA => ?_)
  refine S_val hA rfl 27 rfl (by decide) _ (R_mov hA rfl rfl _) (fun a hA => ?_)
  refine S_val hA rfl 28 rfl (by decide) _ (R_nilCheck hA rfl rfl _) (fun a hA => ?_)
  refine S_val hA rfl 29 rfl (by decide) _ (R_fa hA rfl rfl (fun w => fa_hart _ 14 45 (by decide) rfl w) _) (fun a hA => ?_)
  refine S_val hA rfl 30 rfl (by decide) _ (R_build (ps := [(0, .const (.int .i64 832)), (1, .tmp 29)]) hA rfl [(0, .int .i64 832), (1, .pointer (some ⟨b, 45, none⟩))] rfl (bld_reg _ _) _) (fun a hA => ?_)
  refine S_val hA rfl 31 rfl (by decide) _ (R_mov hA rfl rfl _) (fun a hA => ?_)
  refine S_val hA rfl 32 rfl (by decide) _ (R_nilCheck hA rfl rfl _) (fun a hA => ?_)
  refine S_val hA rfl 33 rfl (by decide) _ (R_fa hA rfl rfl (fun w => fa_hart _ 15 46 (by decide) rfl w) _) (fun a hA => ?_)
  refine S_val hA rfl 34 rfl (by decide) _ (R_build (ps := [(0, .const (.int .i64 833)), (1, .tmp 33)]) hA rfl [(0, .int .i64 833), (1, .pointer (some ⟨b, 46, none⟩))] rfl (bld_reg _ _) _) (fun a hA => ?_)
  refine S_val hA rfl 35 rfl (by decide) _ (R_mov hA rfl rfl _) (fun a hA => ?_)
  refine S_val hA rfl 36 rfl (by decide) _ (R_nilCheck hA rfl rfl _) (fun a hA => ?_)
  refine S_val hA rfl 37 rfl (by decide) _ (R_fa hA rfl rfl (fun w => fa_hart _ 16 47 (by decide) rfl w) _) (fun a hA => ?_)
  refine S_val hA rfl 38 rfl (by decide) _ (R_build (ps := [(0, .const (.int .i64 834)), (1, .tmp 37)]) hA rfl [(0, .int .i64 834), (1, .pointer (some ⟨b, 47, none⟩))] rfl (bld_reg _ _) _) (fun a hA => ?_)
  refine S_val hA rfl 39 rfl (by decide) _ (R_mov hA rfl rfl _) (fun a hA => ?_)
  refine S_val hA rfl 40 rfl (by decide) _ (R_nilCheck hA rfl rfl _) (fun a hA => ?_)
  refine S_val hA rfl 41 rfl (by decide) _ (R_fa hA rfl rfl (fun w => fa_hart _ 17 48 (by decide) rfl w) _) (fun a hA => ?_)
  refine S_val hA rfl 42 rfl (by decide) _ (R_build (ps := [(0, .const (.int .i64 835)), (1, .tmp 41)]) hA rfl [(0, .int .i64 835), (1, .pointer (some ⟨b, 48, none⟩))] rfl (bld_reg _ _) _) (fun a hA => ?_)
  refine S_val hA rfl 43 rfl (by decide) _ (R_mov hA rfl rfl _) (fun a hA => ?_)
  refine S_val hA rfl 44 rfl (by decide) _ (R_nilCheck hA rfl rfl _) (fun a hA => ?_)
  refine S_val hA rfl 45 rfl (by decide) _ (R_fa hA rfl rfl (fun w => fa_hart _ 18 49 (by decide) rfl w) _) (fun a hA => ?_)
  refine S_val hA rfl 46 rfl (by decide) _ (R_build (ps := [(0, .const (.int .i64 843)), (1, .tmp 45)]) hA rfl [(0, .int .i64 843), (1, .pointer (some ⟨b, 49, none⟩))] rfl (bld_reg _ _) _) (fun a hA => ?_)
  refine S_val hA rfl 47 rfl (by decide) _ (R_mov hA rfl rfl _) (fun a hA => ?_)
  refine S_val hA rfl 48 rfl (by decide) _ (R_nilCheck hA rfl rfl _) (fun a hA => ?_)
  refine S_val hA rfl 49 rfl (by decide) _ (R_fa hA rfl rfl (fun w => fa_hart _ 19 50 (by decide) rfl w) _) (fun a hA => ?_)
  refine S_val hA rfl 50 rfl (by decide) _ (R_build (ps := [(0, .const (.int .i64 842)), (1, .tmp 49)]) hA rfl [(0, .int .i64 842), (1, .pointer (some ⟨b, 50, none⟩))] rfl (bld_reg _ _) _) (fun a hA => ?_)
  refine S_val hA rfl 51 rfl (by decide) _ (R_mov hA rfl rfl _) (fun a hA => ?_)
  refine S_val hA rfl 52 rfl (by decide) _ (R_nilCheck hA rfl rfl _) (fun a hA => ?_)
  refine S_val hA rfl 53 rfl (by decide) _ (R_fa hA rfl rfl (fun w => fa_hart _ 44 75 (by decide) rfl w) _) (fun a hA => ?_)
  refine S_val hA rfl 54 rfl (by decide) _ (R_build (ps := [(0, .const (.int .i64 2816)), (1, .tmp 53)]) hA rfl [(0, .int .i64 2816), (1, .pointer (some ⟨b, 75, none⟩))] rfl (bld_reg _ _) _) (fun a hA => ?_)
  refine S_val hA rfl 55 rfl (by decide) _ (R_mov hA rfl rfl _) (fun a hA => ?_)
  refine S_val hA rfl 56 rfl (by decide) _ (R_nilCheck hA rfl rfl _) (fun a hA => ?_)
  refine S_val hA rfl 57 rfl (by decide) _ (R_fa hA rfl rfl (fun w => fa_hart _ 45 76 (by decide) rfl w) _) (fun a hA => ?_)
  refine S_val hA rfl 58 rfl (by decide) _ (R_build (ps := [(0, .const (.int .i64 2818)), (1, .tmp 57)]) hA rfl [(0, .int .i64 2818), (1, .pointer (some ⟨b, 76, none⟩))] rfl (bld_reg _ _) _) (fun a hA => ?_)
  refine S_val hA rfl 59 rfl (by decide) _ (R_mov hA rfl rfl _) (fun a hA => ?_)
  refine S_val hA rfl 60 rfl (by decide) _ (R_nilCheck hA rfl rfl _) (fun a hA => ?_)
  refine S_val hA rfl 61 rfl (by decide) _ (R_fa hA rfl rfl (fun w => fa_hart _ 20 51 (by decide) rfl w) _) (fun a hA => ?_)
  refine S_val hA rfl 62 rfl (by decide) _ (R_build (ps := [(0, .const (.int .i64 261)), (1, .tmp 61)]) hA rfl [(0, .int .i64 261), (1, .pointer (some ⟨b, 51, none⟩))] rfl (bld_reg _ _) _) (fun a hA => ?_)
  refine S_val hA rfl 63 rfl (by decide) _ (R_mov hA rfl rfl _) (fun a hA => ?_)
  refine S_val hA rfl 64 rfl (by decide) _ (R_nilCheck hA rfl rfl _) (fun a hA => ?_)
  refine S_val hA rfl 65 rfl (by decide) _ (R_fa hA rfl rfl (fun w => fa_hart _ 21 52 (by decide) rfl w) _) (fun a hA => ?_)
  refine S_val hA rfl 66 rfl (by decide) _ (R_build (ps := [(0, .const (.int .i64 262)), (1, .tmp 65)]) hA rfl [(0, .int .i64 262), (1, .pointer (some ⟨b, 52, none⟩))] rfl (bld_reg _ _) _) (fun a hA => ?_)
  refine S_val hA rfl 67 rfl (by decide) _ (R_mov hA rfl rfl _) (fun a hA => ?_)
  refine S_val hA rfl 68 rfl (by decide) _ (R_nilCheck hA rfl rfl _) (fun a hA => ?_)
  refine S_val hA rfl 69 rfl (by decide) _ (R_fa hA rfl rfl (fun w => fa_hart _ 22 53 (by decide) rfl w) _) (fun a hA => ?_)
  refine S_val hA rfl 70 rfl (by decide) _ (R_build (ps := [(0, .const (.int .i64 320)), (1, .tmp 69)]) hA rfl [(0, .int .i64 320), (1, .pointer (some ⟨b, 53, none⟩))] rfl (bld_reg _ _) _) (fun a hA => ?_)
  refine S_val hA rfl 71 rfl (by decide) _ (R_mov hA rfl rfl _) (fun a hA => ?_)
  refine S_val hA rfl 72 rfl (by decide) _ (R_nilCheck hA rfl rfl _) (fun a hA => ?_)
  refine S_val hA rfl 73 rfl (by decide) _ (R_fa hA rfl rfl (fun w => fa_hart _ 23 54 (by decide) rfl w) _) (fun a hA => ?_)
  refine S_val hA rfl 74 rfl (by decide) _ (R_build (ps := [(0, .const (.int .i64 321)), (1, .tmp 73)]) hA rfl [(0, .int .i64 321), (1, .pointer (some ⟨b, 54, none⟩))] rfl (bld_reg _ _) _) (fun a hA => ?_)
  refine S_val hA rfl 75 rfl (by decide) _ (R_mov hA rfl rfl _) (fun a hA => ?_)
  refine S_val hA rfl 76 rfl (by decide) _ (R_nilCheck hA rfl rfl _) (fun a hA => ?_)
  refine S_val hA rfl 77 rfl (by decide) _ (R_fa hA rfl rfl (fun w => fa_hart _ 24 55 (by decide) rfl w) _) (fun a hA => ?_)
  refine S_val hA rfl 78 rfl (by decide) _ (R_build (ps := [(0, .const (.int .i64 322)), (1, .tmp 77)]) hA rfl [(0, .int .i64 322), (1, .pointer (some ⟨b, 55, none⟩))] rfl (bld_reg _ _) _) (fun a hA => ?_)
  refine S_val hA rfl 79 rfl (by decide) _ (R_mov hA rfl rfl _) (fun a hA => ?_)
  refine S_val hA rfl 80 rfl (by decide) _ (R_nilCheck hA rfl rfl _) (fun a hA => ?_)
  refine S_val hA rfl 81 rfl (by decide) _ (R_fa hA rfl rfl (fun w => fa_hart _ 25 56 (by decide) rfl w) _) (fun a hA => ?_)
  refine S_val hA rfl 82 rfl (by decide) _ (R_build (ps := [(0, .const (.int .i64 323)), (1, .tmp 81)]) hA rfl [(0, .int .i64 323), (1, .pointer (some ⟨b, 56, none⟩))] rfl (bld_reg _ _) _) (fun a hA => ?_)
  refine S_val hA rfl 83 rfl (by decide) _ (R_mov hA rfl rfl _) (fun a hA => ?_)
  refine S_val hA rfl 84 rfl (by decide) _ (R_nilCheck hA rfl rfl _) (fun a hA => ?_)
  refine S_val hA rfl 85 rfl (by decide) _ (R_fa hA rfl rfl (fun w => fa_hart _ 26 57 (by decide) rfl w) _) (fun a hA => ?_)
  refine S_val hA rfl 86 rfl (by decide) _ (R_build (ps := [(0, .const (.int .i64 384)), (1, .tmp 85)]) hA rfl [(0, .int .i64 384), (1, .pointer (some ⟨b, 57, none⟩))] rfl (bld_reg _ _) _) (fun a hA => ?_)
  refine S_val hA rfl 87 rfl (by decide) _ (R_mov hA rfl rfl _) (fun a hA => ?_)
  refine S_val hA rfl 88 rfl (by decide) _ (R_nilCheck hA rfl rfl _) (fun a hA => ?_)
  refine S_val hA rfl 89 rfl (by decide) _ (R_fa hA rfl rfl (fun w => fa_hart _ 27 58 (by decide) rfl w) _) (fun a hA => ?_)
  refine S_val hA rfl 90 rfl (by decide) _ (R_build (ps := [(0, .const (.int .i64 1536)), (1, .tmp 89)]) hA rfl [(0, .int .i64 1536), (1, .pointer (some ⟨b, 58, none⟩))] rfl (bld_reg _ _) _) (fun a hA => ?_)
  refine S_val hA rfl 91 rfl (by decide) _ (R_mov hA rfl rfl _) (fun a hA => ?_)
  refine S_val hA rfl 92 rfl (by decide) _ (R_nilCheck hA rfl rfl _) (fun a hA => ?_)
  refine S_val hA rfl 93 rfl (by decide) _ (R_fa hA rfl rfl (fun w => fa_hart _ 28 59 (by decide) rfl w) _) (fun a hA => ?_)
  refine S_val hA rfl 94 rfl (by decide) _ (R_build (ps := [(0, .const (.int .i64 1538)), (1, .tmp 93)]) hA rfl [(0, .int .i64 1538), (1, .pointer (some ⟨b, 59, none⟩))] rfl (bld_reg _ _) _) (fun a hA => ?_)
  refine S_val hA rfl 95 rfl (by decide) _ (R_mov hA rfl rfl _) (fun a hA => ?_)
  refine S_val hA rfl 96 rfl (by decide) _ (R_nilCheck hA rfl rfl _) (fun a hA => ?_)
  refine S_val hA rfl 97 rfl (by decide) _ (R_fa hA rfl rfl (fun w => fa_hart _ 29 60 (by decide) rfl w) _) (fun a hA => ?_)
  refine S_val hA rfl 98 rfl (by decide) _ (R_build (ps := [(0, .const (.int .i64 1539)), (1, .tmp 97)]) hA rfl [(0, .int .i64 1539), (1, .pointer (some ⟨b, 60, none⟩))] rfl (bld_reg _ _) _) (fun a hA => ?_)
  refine S_val hA rfl 99 rfl (by decide) _ (R_mov hA rfl rfl _) (fun a hA => ?_)
  refine S_val hA rfl 100 rfl (by decide) _ (R_nilCheck hA rfl rfl _) (fun a hA => ?_)
  refine S_val hA rfl 101 rfl (by decide) _ (R_fa hA rfl rfl (fun w => fa_hart _ 30 61 (by decide) rfl w) _) (fun a hA => ?_)
  refine S_val hA rfl 102 rfl (by decide) _ (R_build (ps := [(0, .const (.int .i64 1605)), (1, .tmp 101)]) hA rfl [(0, .int .i64 1605), (1, .pointer (some ⟨b, 61, none⟩))] rfl (bld_reg _ _) _) (fun a hA => ?_)
  refine S_val hA rfl 103 rfl (by decide) _ (R_mov hA rfl rfl _) (fun a hA => ?_)
  refine S_val hA rfl 104 rfl (by decide) _ (R_nilCheck hA rfl rfl _) (fun a hA => ?_)
  refine S_val hA rfl 105 rfl (by decide) _ (R_fa hA rfl rfl (fun w => fa_hart _ 31 62 (by decide) rfl w) _) (fun a hA => ?_)
  refine S_val hA rfl 106 rfl (by decide) _ (R_build (ps := [(0, .const (.int .i64 1542)), (1, .tmp 105)]) hA rfl [(0, .int .i64 1542), (1, .pointer (some ⟨b, 62, none⟩))] rfl (bld_reg _ _) _) (fun a hA => ?_)
  refine S_val hA rfl 107 rfl (by decide) _ (R_mov hA rfl rfl _) (fun a hA => ?_)
  refine S_val hA rfl 108 rfl (by decide) _ (R_nilCheck hA rfl rfl _) (fun a hA => ?_)
  refine S_val hA rfl 109 rfl (by decide) _ (R_fa hA rfl rfl (fun w => fa_hart _ 32 63 (by decide) rfl w) _) (fun a hA => ?_)
  refine S_val hA rfl 110 rfl (by decide) _ (R_build (ps := [(0, .const (.int .i64 1543)), (1, .tmp 109)]) hA rfl [(0, .int .i64 1543), (1, .pointer (some ⟨b, 63, none⟩))] rfl (bld_reg _ _) _) (fun a hA => ?_)
  refine S_val hA rfl 111 rfl (by decide) _ (R_mov hA rfl rfl _) (fun a hA => ?_)
  refine S_val hA rfl 112 rfl (by decide) _ (R_nilCheck hA rfl rfl _) (fun a hA => ?_)
  refine S_val hA rfl 113 rfl (by decide) _ (R_fa hA rfl rfl (fun w => fa_hart _ 33 64 (by decide) rfl w) _) (fun a hA => ?_)
  refine S_val hA rfl 114 rfl (by decide) _ (R_build (ps := [(0, .const (.int .i64 1603)), (1, .tmp 113)]) hA rfl [(0, .int .i64 1603), (1, .pointer (some ⟨b, 64, none⟩))] rfl (bld_reg _ _) _) (fun a hA => ?_)
  refine S_val hA rfl 115 rfl (by decide) _ (R_mov hA rfl rfl _) (fun a hA => ?_)
  refine S_val hA rfl 116 rfl (by decide) _ (R_nilCheck hA rfl rfl _) (fun a hA => ?_)
  refine S_val hA rfl 117 rfl (by decide) _ (R_fa hA rfl rfl (fun w => fa_hart _ 34 65 (by decide) rfl w) _) (fun a hA => ?_)
  refine S_val hA rfl 118 rfl (by decide) _ (R_build (ps := [(0, .const (.int .i64 1610)), (1, .tmp 117)]) hA rfl [(0, .int .i64 1610), (1, .pointer (some ⟨b, 65, none⟩))] rfl (bld_reg _ _) _) (fun a hA => ?_)
  refine S_val hA rfl 119 rfl (by decide) _ (R_mov hA rfl rfl _) (fun a hA => ?_)
  refine S_val hA rfl 120 rfl (by decide) _ (R_nilCheck hA rfl rfl _) (fun a hA => ?_)
  refine S_val hA rfl 121 rfl (by decide) _ (R_fa hA rfl rfl (fun w => fa_hart _ 35 66 (by decide) rfl w) _) (fun a hA => ?_)
  refine S_val hA rfl 122 rfl (by decide) _ (R_build (ps := [(0, .const (.int .i64 1664)), (1, .tmp 121)]) hA rfl [(0, .int .i64 1664), (1, .pointer (some ⟨b, 66, none⟩))] rfl (bld_reg _ _) _) (fun a hA => ?_)
  refine S_val hA rfl 123 rfl (by decide) _ (R_mov hA rfl rfl _) (fun a hA => ?_)
  refine S_val hA rfl 124 rfl (by decide) _ (R_nilCheck hA rfl rfl _) (fun a hA => ?_)
  refine S_val hA rfl 125 rfl (by decide) _ (R_fa hA rfl rfl (fun w => fa_hart _ 36 67 (by decide) rfl w) _) (fun a hA => ?_)
  refine S_val hA rfl 126 rfl (by decide) _ (R_build (ps := [(0, .const (.int .i64 1541)), (1, .tmp 125)]) hA rfl [(0, .int .i64 1541), (1, .pointer (some ⟨b, 67, none⟩))] rfl (bld_reg _ _) _) (fun a hA => ?_)
  refine S_val hA rfl 127 rfl (by decide) _ (R_mov hA rfl rfl _) (fun a hA => ?_)
  refine S_val hA rfl 128 rfl (by decide) _ (R_nilCheck hA rfl rfl _) (fun a hA => ?_)
  refine S_val hA rfl 129 rfl (by decide) _ (R_fa hA rfl rfl (fun w => fa_hart _ 37 68 (by decide) rfl w) _) (fun a hA => ?_)
  refine S_val hA rfl 130 rfl (by decide) _ (R_build (ps := [(0, .const (.int .i64 512)), (1, .tmp 129)]) hA rfl [(0, .int .i64 512), (1, .pointer (some ⟨b, 68, none⟩))] rfl (bld_reg _ _) _) (fun a hA => ?_)
  refine S_val hA rfl 131 rfl (by decide) _ (R_mov hA rfl rfl _) (fun a hA => ?_)
  refine S_val hA rfl 132 rfl (by decide) _ (R_nilCheck hA rfl rfl _) (fun a hA => ?_)
  refine S_val hA rfl 133 rfl (by decide) _ (R_fa hA rfl rfl (fun w => fa_hart _ 38 69 (by decide) rfl w) _) (fun a hA => ?_)
  refine S_val hA rfl 134 rfl (by decide) _ (R_build (ps := [(0, .const (.int .i64 517)), (1, .tmp 133)]) hA rfl [(0, .int .i64 517), (1, .pointer (some ⟨b, 69, none⟩))] rfl (bld_reg _ _) _) (fun a hA => ?_)
  refine S_val hA rfl 135 rfl (by decide) _ (R_mov hA rfl rfl _) (fun a hA => ?_)
  refine S_val hA rfl 136 rfl (by decide) _ (R_nilCheck hA rfl rfl _) (fun a hA => ?_)
  refine S_val hA rfl 137 rfl (by decide) _ (R_fa hA rfl rfl (fun w => fa_hart _ 39 70 (by decide) rfl w) _) (fun a hA => ?_)
  refine S_val hA rfl 138 rfl (by decide) _ (R_build (ps := [(0, .const (.int .i64 576)), (1, .tmp 137)]) hA rfl [(0, .int .i64 576), (1, .pointer (some ⟨b, 70, none⟩))] rfl (bld_reg _ _) _) (fun a hA => ?_)
  refine S_val hA rfl 139 rfl (by decide) _ (R_mov hA rfl rfl _) (fun a hA => ?_)
  refine S_val hA rfl 140 rfl (by decide) _ (R_nilCheck hA rfl rfl _) (fun a hA => ?_)
  refine S_val hA rfl 141 rfl (by decide) _ (R_fa hA rfl rfl (fun w => fa_hart _ 40 71 (by decide) rfl w) _) (fun a hA => ?_)
  refine S_val hA rfl 142 rfl (by decide) _ (R_build (ps := [(0, .const (.int .i64 577)), (1, .tmp 141)]) hA rfl [(0, .int .i64 577), (1, .pointer (some ⟨b, 71, none⟩))] rfl (bld_reg _ _) _) (fun a hA => ?_)
  refine S_val hA rfl 143 rfl (by decide) _ (R_mov hA rfl rfl _) (fun a hA => ?_)
  refine S_val hA rfl 144 rfl (by decide) _ (R_nilCheck hA rfl rfl _) (fun a hA => ?_)
  refine S_val hA rfl 145 rfl (by decide) _ (R_fa hA rfl rfl (fun w => fa_hart _ 41 72 (by decide) rfl w) _) (fun a hA => ?_)
  refine S_val hA rfl 146 rfl (by decide) _ (R_build (ps := [(0, .const (.int .i64 578)), (1, .tmp 145)]) hA rfl [(0, .int .i64 578), (1, .pointer (some ⟨b, 72, none⟩))] rfl (bld_reg _ _) _) (fun a hA => ?_)
  refine S_val hA rfl 147 rfl (by decide) _ (R_mov hA rfl rfl _) (fun a hA => ?_)
  refine S_val hA rfl 148 rfl (by decide) _ (R_nilCheck hA rfl rfl _) (fun a hA => ?_)
  refine S_val hA rfl 149 rfl (by decide) _ (R_fa hA rfl rfl (fun w => fa_hart _ 42 73 (by decide) rfl w) _) (fun a hA => ?_)
  refine S_val hA rfl 150 rfl (by decide) _ (R_build (ps := [(0, .const (.int .i64 579)), (1, .tmp 149)]) hA rfl [(0, .int .i64 579), (1, .pointer (some ⟨b, 73, none⟩))] rfl (bld_reg _ _) _) (fun a hA => ?_)
  refine S_val hA rfl 151 rfl (by decide) _ (R_mov hA rfl rfl _) (fun a hA => ?_)
  refine S_val hA rfl 152 rfl (by decide) _ (R_nilCheck hA rfl rfl _) (fun a hA => ?_)
  refine S_val hA rfl 153 rfl (by decide) _ (R_fa hA rfl rfl (fun w => fa_hart _ 43 74 (by decide) rfl w) _) (fun a hA => ?_)
  refine S_val hA rfl 154 rfl (by decide) _ (R_build (ps := [(0, .const (.int .i64 640)), (1, .tmp 153)]) hA rfl [(0, .int .i64 640), (1, .pointer (some ⟨b, 74, none⟩))] rfl (bld_reg _ _) _) (fun a hA => ?_)
  refine S_val hA rfl 155 rfl (by decide) _ (R_build (ps := psT) hA rfl (vsT b) (by kernel_rfl) (bld_tbl b) _) (fun a hA => ?_)
  refine still_nil ?_
  refine W_strow hA rfl rfl rfl rfl rfl HT (size_tbl b) (by rw [varr_size]; rfl) (one_tbl b) ?_
  replace HB := HB.trans (below_setRow (Below.refl _ _) gT (tblF b))
  replace HT : (World.setRow w4 bT (tblF b)).heap[bT]? = some (.cells (tblF b) 48 (0, 0)) := setRow_heap _ _ _ _ _ _ HT
  refine W_nil ?_
  refine then_nrm ?_
  show Code.wp Try.prog _ _ _ _
  refine wp_ret ?_
  refine bodyPost_ret (results_cell_row (by kernel_rfl) _ _ bT 48 (tblF b) (0, 0) _ (hA.get 2 _ rfl) HT Try.underlying48 rfl (size_tbl b)) hA.df ⟨rfl, HB⟩

theorem wrap_up {k : Nat} (h : k < 1000000) : IntKind.i64.wrap ((k : Int) + 1) = ((k + 1 : Nat) : Int) := by
  rw [show (k : Int) + 1 = ((k + 1 : Nat) : Int) by omega]
  exact IntWalk.i64_in _ (by omega)

/-- The address of a number's field. -/
def atF (b : Nat) (no : Int) : Option Addr := if ixF no < 38 then some ⟨b, clF (ixF no), none⟩ else none

end Go.Proofs.Ytkfhpmleelmcfaa
