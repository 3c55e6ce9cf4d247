/- Joined: AsI AsJ AsK AsLp ShD Arr OnB AsL AsL2 AsM AsN AsO AsP AsQ AsR ShC AsS AsT -/
import Derived.Test.YtakdhdaoklcidaaGreatDoorKV3
import Derived.Deep.DeepCutAuto
import Derived.Lib.TrailingZeros
import Derived.RowKit
import Derived.Test.YtakdhdaoklcidaaGreatDoorRows
import Derived.Shelf.Spec.TrailingZeros
import Derived.WalkKit
import Derived.ProofKit
import Derived.WalkSmall
import Derived.Laws.Rows
import Derived.Laws.Tables
import Derived.Maps.AppendAt
import Derived.Lib.ItoaMem
import Derived.Lib.ConvBytes
import Derived.Shelf.Strings.Split
import Derived.Shelf.Strings.SlTrimAscii
namespace Go.Proofs.YtakdhdaoklcidaaGreatDoor
open Go.RowKit Go.Lib
set_option linter.unusedVariables false
set_option maxRecDepth 100000
def whT (q : Bool) (l : Bs) : Bs := if q then l else []
theorem where_any (q : Bool) (l : Bs) (w : World) : Calls Tryz.prog 27 #[.bool q, str l] w fun e w' => e = .returned (str (whT q l)) ∧ w = w' := by
  cases q
  · exact where_no _ w
  · exact where_yes _ w
theorem someT_ops (f : Frm) (i : Ins) : someT [whT f.rd (xr i.rd), whT f.a (xr i.a), whT f.b (xr i.b), whT (f.imm != 0) (itoa i.imm), whT f.csr (itoa i.csr)] = opsF f i := by
  have hx : ∀ n, (xr n).isEmpty = false := fun n => rfl
  have hn : ∀ n, (itoa n).isEmpty = false := fun n => by cases e : itoa n with | nil => exact absurd e (itoa_ne n) | cons a b => rfl
  unfold opsF someT whT
  cases f.rd <;> cases f.a <;> cases f.b <;> cases (f.imm != 0) <;> cases f.csr <;> simp [List.filter_cons, hx, hn]
theorem nameP (k : Nat) (h1 : 1 ≤ k) (h2 : k ≤ 113) (w : World) : Calls Tryz.prog 25 #[.int .i64 k] w fun e w' => e = .returned (str (nameB k)) ∧ Below w.heap.size w w' := name_yes k h1 h2 w
theorem name_short : ∀ k, k < 114 → (nameB k).length ≤ 12 := by decide +kernel
theorem mark_short (aq rl : Bool) : (markT aq rl).length ≤ 5 := by cases aq <;> cases rl <;> decide
theorem whT_len (q : Bool) (l : Bs) : (whT q l).length ≤ l.length := by unfold whT; cases q <;> simp
theorem str_cat (a b : Bs) : Value.string ((⟨a.toArray⟩ : ByteArray) ++ ⟨b.toArray⟩) = str (a ++ b) := by
  show Value.string _ = Value.string _
  congr 1
theorem print_no (i : Ins) (hr : rightB i = false) (w : World) (he : Env w) : Calls Tryz.prog 10 #[insV i] w fun e w' => e = .returned (.tuple #[str [], .int .i64 80]) ∧ Below w.heap.size w w' := by
  have hE : ∀ w, Env w → Calls Tryz.prog 21 #[insV i] w fun e w' => e = .returned (.tuple #[.int .u32 (encW i), .int .i64 80]) ∧ Below w.heap.size w w' := fun w he => by
    have h := encode_is i w he.tab
    rw [show encE i = 80 by unfold encE; rw [hr]; rfl] at h; exact h
  have HE := Lib.hid hE
  have HV := Lib.hid he
  clear hE he hr
  generalize encW i = W at *
  obtain ⟨op, rd, a, b, imm, csr, aq, rl⟩ := i
  go_enter Tryz.func10, Tryz.ntmps10
  go_wp2_with (fail)
  (with_reducible refine (HE.out _ (HV.out.below ((Below.refl _ _).alloc (Nat.le_refl _) _))).mono ?_)
  rintro e w1 ⟨rfl, hb1⟩
  have HB := Lib.hid (((Below.refl _ _).alloc (Nat.le_refl _) (.cells #[.int .i64 op, .int .i64 rd, .int .i64 a, .int .i64 b, .int .i64 imm, .int .i64 csr, .bool aq, .bool rl] 23)).trans (hb1.mono (by simp)))
  clear hb1
  go_wp2
  go_ret2
  exact ⟨rfl, HB.out⟩
set_option maxHeartbeats 4000000 in
theorem print_yes (i : Ins) (hr : rightB i = true) (w : World) (he : Env w) : Calls Tryz.prog 10 #[insV i] w fun e w' => e = .returned (.tuple #[str (printT i), .int .i64 0]) ∧ Below w.heap.size w w' := by
  obtain ⟨h1, h2, h3, h4⟩ := rightT_of hr
  have hE : ∀ w, Env w → Calls Tryz.prog 21 #[insV i] w fun e w' => e = .returned (.tuple #[.int .u32 (encW i), .int .i64 0]) ∧ Below w.heap.size w w' := fun w he => by
    have h := encode_is i w he.tab
    rw [show encE i = 0 by unfold encE; rw [hr]; rfl] at h; exact h
  have hf := (fT_ok h1 (by omega)).imm
  have hI := (right_imm hf h4).1
  have p1 := h4.rd; have p2 := h4.a; have p3 := h4.b; have p4 := h4.csr
  have hP : printT i = lineT (nameB i.op.toNat ++ markT i.aq i.rl) (someT [whT (fT i.op.toNat).rd (xr i.rd), whT (fT i.op.toNat).a (xr i.a), whT (fT i.op.toNat).b (xr i.b), whT ((fT i.op.toNat).imm != 0) (itoa i.imm), whT (fT i.op.toNat).csr (itoa i.csr)]) := by
    rw [someT_ops]; rfl
  generalize hT : printT i = txt at *
  clear hT hr
  generalize encW i = W at *
  generalize hk : i.op.toNat = k at *
  obtain ⟨op, rd, a, b, imm, csr, aq, rl⟩ := i
  simp only at *
  obtain rfl : op = (k : Int) := by omega
  clear hk h3 h4 hf
  have HE := Lib.hid hE
  have HV := Lib.hid he
  have HP := Lib.hid hP
  have HSAY := Lib.hid (fun w he => says_any k w he)
  generalize (fT k).rd = q1 at *
  generalize (fT k).a = q2 at *
  generalize (fT k).b = q3 at *
  generalize ((fT k).imm != 0) = q4 at *
  generalize (fT k).csr = q5 at *
  have hnl := name_short k (by omega)
  have hml := mark_short aq rl
  have tNM := fun w => nameP k h1 h2 w
  have tMK := fun w => marks_any ⟨(k : Int), rd, a, b, imm, csr, aq, rl⟩ w
  have t1 := fun w he => registerText_any rd (by omega) (by omega) w he
  have t2 := fun w he => registerText_any a (by omega) (by omega) w he
  have t3 := fun w he => registerText_any b (by omega) (by omega) w he
  have t4 := fun w he => numberText_any imm (by omega) (by omega) w he
  have t5 := fun w he => numberText_any csr (by omega) (by omega) w he
  have l1 := itoa_length_le rd (by omega) (by omega)
  have l2 := itoa_length_le a (by omega) (by omega)
  have l3 := itoa_length_le b (by omega) (by omega)
  have l4 := itoa_length_le imm (by omega) (by omega)
  have l5 := itoa_length_le csr (by omega) (by omega)
  have tWR : ∀ (w : World) (g cap : Nat), (∀ j, j < 5 → w.cell? ⟨g, j, none⟩ = some (str (([whT q1 (xr rd), whT q2 (xr a), whT q3 (xr b), whT q4 (itoa imm), whT q5 (itoa csr)] : List Bs).getD j []))) → Calls Tryz.prog 24 #[.string ((⟨(nameB k).toArray⟩ : ByteArray) ++ ⟨(markT aq rl).toArray⟩), .slice (some ⟨g, 0, none⟩) 5 cap] w fun e w' => e = .returned (str txt) ∧ Below w.heap.size w w' := fun w g cap hc => by
    rw [str_cat, HP.out]
    refine writeL _ [whT q1 (xr rd), whT q2 (xr a), whT q3 (xr b), whT q4 (itoa imm), whT q5 (itoa csr)] g cap w (by simp) ?_ hc
    have w1 := whT_len q1 (xr rd); have w2 := whT_len q2 (xr a); have w3 := whT_len q3 (xr b); have w4 := whT_len q4 (itoa imm); have w5 := whT_len q5 (itoa csr)
    simp only [List.length_append, List.map_cons, List.map_nil, List.sum_cons, List.sum_nil]
    simp only [xr, List.length_cons] at w1 w2 w3 ⊢
    omega
  have tw1 := fun w => where_any q1 (xr rd) w
  have tw2 := fun w => where_any q2 (xr a) w
  have tw3 := fun w => where_any q3 (xr b) w
  have tw4 := fun w => where_any q4 (itoa imm) w
  have tw5 := fun w => where_any q5 (itoa csr) w
  have HWR := Lib.hid tWR
  have HW1 := Lib.hid tw1; have HW2 := Lib.hid tw2; have HW3 := Lib.hid tw3; have HW4 := Lib.hid tw4; have HW5 := Lib.hid tw5
  clear hE he hP p1 p2 p3 p4 hI l1 l2 l3 l4 l5 tWR tw1 tw2 tw3 tw4 tw5 HP h1 h2
  generalize whT q1 (xr rd) = o1 at *
  generalize whT q2 (xr a) = o2 at *
  generalize whT q3 (xr b) = o3 at *
  generalize whT q4 (itoa imm) = o4 at *
  generalize whT q5 (itoa csr) = o5 at *
  generalize nameB k = nm at *
  generalize hmk : markT aq rl = mk at *
  go_enter Tryz.func10, Tryz.ntmps10
  go_wp2_with (fail)
  (with_reducible refine (HE.out _ (HV.out.below ((Below.refl _ _).alloc (Nat.le_refl _) _))).mono ?_)
  rintro e w1 ⟨rfl, hb1⟩
  have HI : Hid (w1.heap[w.heap.size]? = some (.cells #[.int .i64 k, .int .i64 rd, .int .i64 a, .int .i64 b, .int .i64 imm, .int .i64 csr, .bool aq, .bool rl] 23 (0, 0))) := Lib.hid ((hb1.block _ (by simp)).trans (heap_alloc_new _ _))
  have hz1 : w.heap.size < w1.heap.size := by have := hb1.size; simp at this; omega
  have HB := Lib.hid (((Below.refl _ _).alloc (Nat.le_refl _) (.cells #[.int .i64 k, .int .i64 rd, .int .i64 a, .int .i64 b, .int .i64 imm, .int .i64 csr, .bool aq, .bool rl] 23)).trans (hb1.mono (by simp)))
  have hc0 : w1.cell? ⟨w.heap.size, 0, none⟩ = some (.int .i64 k) := by rw [Lib.cell_of_heap HI.out]; rfl
  clear hb1
  go_wp2_with (fail)
  (with_reducible refine (HSAY.out _ (HV.out.below HB.out)).mono ?_)
  rintro e w2 ⟨rfl, hb2⟩
  have HI2 : Hid (w2.heap[w.heap.size]? = some (.cells #[.int .i64 k, .int .i64 rd, .int .i64 a, .int .i64 b, .int .i64 imm, .int .i64 csr, .bool aq, .bool rl] 23 (0, 0))) := Lib.hid ((hb2.block _ hz1).trans HI.out)
  have hz2 : w.heap.size < w2.heap.size := by have := hb2.size; omega
  have HB2 := Lib.hid (HB.out.trans (hb2.mono (by omega)))
  clear hb2 hc0 hz1 HI HB
  go_wp2_with (refine wpList_store_row rfl _ _ _ rfl w2.heap.size _ rfl rfl 51 _ (heap_alloc_new w2 _) size_said rfl (by simp [Value.oneCell']) ?_; refine Hid.out ?_)
  have HI3 : Hid (((w2.alloc (.cells #[.bool false, .bool false, .bool false, .bool false, .bool false] 51)).setRow w2.heap.size #[.bool q1, .bool q2, .bool q3, .bool q4, .bool q5]).heap[w.heap.size]? = some (.cells #[.int .i64 k, .int .i64 rd, .int .i64 a, .int .i64 b, .int .i64 imm, .int .i64 csr, .bool aq, .bool rl] 23 (0, 0))) := Lib.hid (by rw [setRow_other _ _ _ _ (by omega), Lib.alloc_old _ _ _ hz2]; exact HI2.out)
  have HS3 : Hid (((w2.alloc (.cells #[.bool false, .bool false, .bool false, .bool false, .bool false] 51)).setRow w2.heap.size #[.bool q1, .bool q2, .bool q3, .bool q4, .bool q5]).heap[w2.heap.size]? = some (.cells #[.bool q1, .bool q2, .bool q3, .bool q4, .bool q5] 51 (0, 0))) := Lib.hid (setRow_heap _ _ _ _ _ _ (heap_alloc_new w2 _))
  have HBW : Hid (Below w.heap.size w ((w2.alloc (.cells #[.bool false, .bool false, .bool false, .bool false, .bool false] 51)).setRow w2.heap.size #[.bool q1, .bool q2, .bool q3, .bool q4, .bool q5])) := Lib.hid (below_setRow (HB2.out.alloc HB2.out.size _) HB2.out.size _)
  generalize (w2.alloc (.cells #[.bool false, .bool false, .bool false, .bool false, .bool false] 51)).setRow w2.heap.size #[.bool q1, .bool q2, .bool q3, .bool q4, .bool q5] = w3 at *
  generalize hb6 : w2.heap.size = b6 at *
  generalize hb1 : w.heap.size = b1 at *
  have HNM := Lib.hid (fun (wx : World) (_ : Below w3.heap.size w3 wx) => tNM wx)
  have HMK := Lib.hid (fun (wx : World) (_ : Below w3.heap.size w3 wx) => tMK wx)
  have HEV : ∀ wx, Below w3.heap.size w3 wx → Env wx := fun wx hb => (HV.out.below (hb1 ▸ HBW.out)).below hb
  have HT1 := Lib.hid (fun (wx : World) (hb : Below w3.heap.size w3 wx) => t1 wx (HEV wx hb))
  have HT2 := Lib.hid (fun (wx : World) (hb : Below w3.heap.size w3 wx) => t2 wx (HEV wx hb))
  have HT3 := Lib.hid (fun (wx : World) (hb : Below w3.heap.size w3 wx) => t3 wx (HEV wx hb))
  have HT4 := Lib.hid (fun (wx : World) (hb : Below w3.heap.size w3 wx) => t4 wx (HEV wx hb))
  have HT5 := Lib.hid (fun (wx : World) (hb : Below w3.heap.size w3 wx) => t5 wx (HEV wx hb))
  have HCI : Hid (∀ wx, Below w3.heap.size w3 wx → wx.cell? ⟨b1, 0, none⟩ = some (.int .i64 k) ∧ wx.cell? ⟨b1, 1, none⟩ = some (.int .i64 rd) ∧ wx.cell? ⟨b1, 2, none⟩ = some (.int .i64 a) ∧ wx.cell? ⟨b1, 3, none⟩ = some (.int .i64 b) ∧ wx.cell? ⟨b1, 4, none⟩ = some (.int .i64 imm) ∧ wx.cell? ⟨b1, 5, none⟩ = some (.int .i64 csr) ∧ wx.cell? ⟨b1, 6, none⟩ = some (.bool aq) ∧ wx.cell? ⟨b1, 7, none⟩ = some (.bool rl)) := Lib.hid fun wx hb => by
    have h := (hb.block b1 (Array.getElem?_eq_some_iff.1 HI3.out).1).trans HI3.out
    refine ⟨?_, ?_, ?_, ?_, ?_, ?_, ?_, ?_⟩ <;> (rw [Lib.cell_of_heap h]; rfl)
  have HCS : Hid (∀ wx, Below w3.heap.size w3 wx → wx.cell? ⟨b6, 0, none⟩ = some (.bool q1) ∧ wx.cell? ⟨b6, 1, none⟩ = some (.bool q2) ∧ wx.cell? ⟨b6, 2, none⟩ = some (.bool q3) ∧ wx.cell? ⟨b6, 3, none⟩ = some (.bool q4) ∧ wx.cell? ⟨b6, 4, none⟩ = some (.bool q5)) := Lib.hid fun wx hb => by
    have h := (hb.block b6 (Array.getElem?_eq_some_iff.1 HS3.out).1).trans HS3.out
    refine ⟨?_, ?_, ?_, ?_, ?_⟩ <;> (rw [Lib.cell_of_heap h]; rfl)
  have HBE := Lib.hid hb1
  clear HEV t1 t2 t3 t4 t5 tNM tMK HI2 hz2 HB2 HI3 HS3 hb6 hb1 HSAY HE HV
  refine Lib.hid ?_
  go_wp2_with (fail)
  refine wp_region_held_drew (S := fun wx => Below w3.heap.size w3 wx) (by kernel_rfl) ((Below.refl _ _).drew) (fun hHeld0 => ?_)
  have HS := Lib.hid hHeld0
  clear hHeld0
  refine takeD (i := 0) (some 18) (v := ?_) rfl rfl (by kernel_rfl) (by kernel_rfl) (by kernel_rfl) (fun _ _ _ h => h) (by rfl) HS.out ?_ ?_
  rotate_left
  · intro wx hSx
    clear hSx
    go_simp
    try (with_reducible rfl)
  simp only [Act.put, List.setIfInBounds_toArray, List.set_cons_zero, List.set_cons_succ]
  refine takeD (i := 1) (some 19) (v := ?_) rfl rfl (by kernel_rfl) (by kernel_rfl) (by kernel_rfl) (fun _ _ _ h => h) (by rfl) HS.out ?_ ?_
  rotate_left
  · intro wx hSx
    obtain ⟨i0, i1, i2, i3, i4, i5, i6, i7⟩ := HCI.out wx hSx
    clear hSx
    go_simp
    try (with_reducible rfl)
  simp only [Act.put, List.setIfInBounds_toArray, List.set_cons_zero, List.set_cons_succ]
  refine takeD (i := 3) (some 21) (v := ?_) rfl rfl (by kernel_rfl) (by kernel_rfl) (by kernel_rfl) (fun _ _ _ h => h) (by rfl) HS.out ?_ ?_
  rotate_left
  · intro wx hSx
    obtain ⟨i0, i1, i2, i3, i4, i5, i6, i7⟩ := HCI.out wx hSx
    clear hSx
    go_simp
    try (with_reducible rfl)
  simp only [Act.put, List.setIfInBounds_toArray, List.set_cons_zero, List.set_cons_succ]
  refine takeD (i := 6) (some 24) (v := ?_) rfl rfl (by kernel_rfl) (by kernel_rfl) (by kernel_rfl) (fun _ _ _ h => h) (by rfl) HS.out ?_ ?_
  rotate_left
  · intro wx hSx
    clear hSx
    go_simp
    try (with_reducible rfl)
  simp only [Act.put, List.setIfInBounds_toArray, List.set_cons_zero, List.set_cons_succ]
  refine takeD (i := 7) (some 25) (v := ?_) rfl rfl (by kernel_rfl) (by kernel_rfl) (by kernel_rfl) (fun _ _ _ h => h) (by rfl) HS.out ?_ ?_
  rotate_left
  · intro wx hSx
    obtain ⟨s0, s1, s2, s3, s4⟩ := HCS.out wx hSx
    clear hSx
    go_simp
    try (with_reducible rfl)
  simp only [Act.put, List.setIfInBounds_toArray, List.set_cons_zero, List.set_cons_succ]
  refine takeD (i := 8) (some 26) (v := ?_) rfl rfl (by kernel_rfl) (by kernel_rfl) (by kernel_rfl) (fun _ _ _ h => h) (by rfl) HS.out ?_ ?_
  rotate_left
  · intro wx hSx
    clear hSx
    go_simp
    try (with_reducible rfl)
  simp only [Act.put, List.setIfInBounds_toArray, List.set_cons_zero, List.set_cons_succ]
  refine takeD (i := 9) (some 27) (v := ?_) rfl rfl (by kernel_rfl) (by kernel_rfl) (by kernel_rfl) (fun _ _ _ h => h) (by rfl) HS.out ?_ ?_
  rotate_left
  · intro wx hSx
    obtain ⟨i0, i1, i2, i3, i4, i5, i6, i7⟩ := HCI.out wx hSx
    clear hSx
    go_simp
    try (with_reducible rfl)
  simp only [Act.put, List.setIfInBounds_toArray, List.set_cons_zero, List.set_cons_succ]
  refine takeD (i := 12) (some 30) (v := ?_) rfl rfl (by kernel_rfl) (by kernel_rfl) (by kernel_rfl) (fun _ _ _ h => h) (by rfl) HS.out ?_ ?_
  rotate_left
  · intro wx hSx
    clear hSx
    go_simp
    try (with_reducible rfl)
  simp only [Act.put, List.setIfInBounds_toArray, List.set_cons_zero, List.set_cons_succ]
  refine takeD (i := 13) (some 31) (v := ?_) rfl rfl (by kernel_rfl) (by kernel_rfl) (by kernel_rfl) (fun _ _ _ h => h) (by rfl) HS.out ?_ ?_
  rotate_left
  · intro wx hSx
    obtain ⟨s0, s1, s2, s3, s4⟩ := HCS.out wx hSx
    clear hSx
    go_simp
    try (with_reducible rfl)
  simp only [Act.put, List.setIfInBounds_toArray, List.set_cons_zero, List.set_cons_succ]
  refine takeD (i := 14) (some 32) (v := ?_) rfl rfl (by kernel_rfl) (by kernel_rfl) (by kernel_rfl) (fun _ _ _ h => h) (by rfl) HS.out ?_ ?_
  rotate_left
  · intro wx hSx
    clear hSx
    go_simp
    try (with_reducible rfl)
  simp only [Act.put, List.setIfInBounds_toArray, List.set_cons_zero, List.set_cons_succ]
  refine takeD (i := 15) (some 33) (v := ?_) rfl rfl (by kernel_rfl) (by kernel_rfl) (by kernel_rfl) (fun _ _ _ h => h) (by rfl) HS.out ?_ ?_
  rotate_left
  · intro wx hSx
    obtain ⟨i0, i1, i2, i3, i4, i5, i6, i7⟩ := HCI.out wx hSx
    clear hSx
    go_simp
    try (with_reducible rfl)
  simp only [Act.put, List.setIfInBounds_toArray, List.set_cons_zero, List.set_cons_succ]
  refine takeD (i := 18) (some 36) (v := ?_) rfl rfl (by kernel_rfl) (by kernel_rfl) (by kernel_rfl) (fun _ _ _ h => h) (by rfl) HS.out ?_ ?_
  rotate_left
  · intro wx hSx
    clear hSx
    go_simp
    try (with_reducible rfl)
  simp only [Act.put, List.setIfInBounds_toArray, List.set_cons_zero, List.set_cons_succ]
  refine takeD (i := 19) (some 37) (v := ?_) rfl rfl (by kernel_rfl) (by kernel_rfl) (by kernel_rfl) (fun _ _ _ h => h) (by rfl) HS.out ?_ ?_
  rotate_left
  · intro wx hSx
    obtain ⟨s0, s1, s2, s3, s4⟩ := HCS.out wx hSx
    clear hSx
    go_simp
    try (with_reducible rfl)
  simp only [Act.put, List.setIfInBounds_toArray, List.set_cons_zero, List.set_cons_succ]
  refine takeD (i := 20) (some 38) (v := ?_) rfl rfl (by kernel_rfl) (by kernel_rfl) (by kernel_rfl) (fun _ _ _ h => h) (by rfl) HS.out ?_ ?_
  rotate_left
  · intro wx hSx
    clear hSx
    go_simp
    try (with_reducible rfl)
  simp only [Act.put, List.setIfInBounds_toArray, List.set_cons_zero, List.set_cons_succ]
  refine takeD (i := 21) (some 39) (v := ?_) rfl rfl (by kernel_rfl) (by kernel_rfl) (by kernel_rfl) (fun _ _ _ h => h) (by rfl) HS.out ?_ ?_
  rotate_left
  · intro wx hSx
    obtain ⟨i0, i1, i2, i3, i4, i5, i6, i7⟩ := HCI.out wx hSx
    clear hSx
    go_simp
    try (with_reducible rfl)
  simp only [Act.put, List.setIfInBounds_toArray, List.set_cons_zero, List.set_cons_succ]
  refine takeD (i := 24) (some 42) (v := ?_) rfl rfl (by kernel_rfl) (by kernel_rfl) (by kernel_rfl) (fun _ _ _ h => h) (by rfl) HS.out ?_ ?_
  rotate_left
  · intro wx hSx
    clear hSx
    go_simp
    try (with_reducible rfl)
  simp only [Act.put, List.setIfInBounds_toArray, List.set_cons_zero, List.set_cons_succ]
  refine takeD (i := 25) (some 43) (v := ?_) rfl rfl (by kernel_rfl) (by kernel_rfl) (by kernel_rfl) (fun _ _ _ h => h) (by rfl) HS.out ?_ ?_
  rotate_left
  · intro wx hSx
    obtain ⟨s0, s1, s2, s3, s4⟩ := HCS.out wx hSx
    clear hSx
    go_simp
    try (with_reducible rfl)
  simp only [Act.put, List.setIfInBounds_toArray, List.set_cons_zero, List.set_cons_succ]
  refine takeD (i := 26) (some 44) (v := ?_) rfl rfl (by kernel_rfl) (by kernel_rfl) (by kernel_rfl) (fun _ _ _ h => h) (by rfl) HS.out ?_ ?_
  rotate_left
  · intro wx hSx
    clear hSx
    go_simp
    try (with_reducible rfl)
  simp only [Act.put, List.setIfInBounds_toArray, List.set_cons_zero, List.set_cons_succ]
  refine takeD (i := 27) (some 45) (v := ?_) rfl rfl (by kernel_rfl) (by kernel_rfl) (by kernel_rfl) (fun _ _ _ h => h) (by rfl) HS.out ?_ ?_
  rotate_left
  · intro wx hSx
    obtain ⟨i0, i1, i2, i3, i4, i5, i6, i7⟩ := HCI.out wx hSx
    clear hSx
    go_simp
    try (with_reducible rfl)
  simp only [Act.put, List.setIfInBounds_toArray, List.set_cons_zero, List.set_cons_succ]
  refine takeD (i := 30) (some 48) (v := ?_) rfl rfl (by kernel_rfl) (by kernel_rfl) (by kernel_rfl) (fun _ _ _ h => h) (by rfl) HS.out ?_ ?_
  rotate_left
  · intro wx hSx
    clear hSx
    go_simp
    try (with_reducible rfl)
  simp only [Act.put, List.setIfInBounds_toArray, List.set_cons_zero, List.set_cons_succ]
  refine takeD (i := 31) (some 49) (v := ?_) rfl rfl (by kernel_rfl) (by kernel_rfl) (by kernel_rfl) (fun _ _ _ h => h) (by rfl) HS.out ?_ ?_
  rotate_left
  · intro wx hSx
    obtain ⟨s0, s1, s2, s3, s4⟩ := HCS.out wx hSx
    clear hSx
    go_simp
    try (with_reducible rfl)
  simp only [Act.put, List.setIfInBounds_toArray, List.set_cons_zero, List.set_cons_succ]
  refine takeD (i := 32) (some 50) (v := ?_) rfl rfl (by kernel_rfl) (by kernel_rfl) (by kernel_rfl) (fun _ _ _ h => h) (by rfl) HS.out ?_ ?_
  rotate_left
  · intro wx hSx
    clear hSx
    go_simp
    try (with_reducible rfl)
  simp only [Act.put, List.setIfInBounds_toArray, List.set_cons_zero, List.set_cons_succ]
  refine takeD (i := 33) (some 51) (v := ?_) rfl rfl (by kernel_rfl) (by kernel_rfl) (by kernel_rfl) (fun _ _ _ h => h) (by rfl) HS.out ?_ ?_
  rotate_left
  · intro wx hSx
    obtain ⟨i0, i1, i2, i3, i4, i5, i6, i7⟩ := HCI.out wx hSx
    clear hSx
    go_simp
    try (with_reducible rfl)
  simp only [Act.put, List.setIfInBounds_toArray, List.set_cons_zero, List.set_cons_succ]
  refine wpAnyH_ready (rs := [2]) (by kernel_rfl) (by simp) ?_
  refine AllReadyH.cons rfl (fun K hK => ?_) AllReadyH.nil
  go_simp
  (with_reducible refine (HNM.out _ HS.out).mono ?_)
  rintro e wq1 ⟨rfl, hbq⟩
  have HB1 : Hid (Below w3.heap.size w3 wq1) := Lib.hid (HS.out.trans (hbq.mono HS.out.size))
  clear hbq
  go_simp
  refine hK.out _ _ ?_ (fun hHeld => ?_)
  · exact HB1.out
  clear hHeld hK K
  try simp only [Act.put, List.setIfInBounds_toArray, List.set_cons_zero, List.set_cons_succ]
  replace HS := HB1
  refine wpAnyH_ready (rs := [4]) (by kernel_rfl) (by simp) ?_
  refine AllReadyH.cons rfl (fun K hK => ?_) AllReadyH.nil
  go_simp
  (with_reducible refine (HMK.out _ HS.out).mono ?_)
  rintro e wq2 ⟨rfl, hbq⟩
  have HB2 : Hid (Below w3.heap.size w3 wq2) := Lib.hid (HS.out.trans (hbq.mono HS.out.size))
  clear hbq
  go_simp
  refine hK.out _ _ ?_ (fun hHeld => ?_)
  · exact HB2.out
  clear hHeld hK K
  try simp only [Act.put, List.setIfInBounds_toArray, List.set_cons_zero, List.set_cons_succ]
  replace HS := HB2
  refine takeD (i := 5) (some 23) (v := ?_) rfl rfl (by kernel_rfl) (by kernel_rfl) (by kernel_rfl) (fun _ _ _ h => h) (by rfl) HS.out ?_ ?_
  rotate_left
  · intro wx hSx
    have hln : ¬ (9223372036854775807 < List.length nm + List.length mk) := by omega
    clear hSx
    go_simp
    try (with_reducible rfl)
  simp only [Act.put, List.setIfInBounds_toArray, List.set_cons_zero, List.set_cons_succ]
  refine wpAnyH_ready (rs := [10]) (by kernel_rfl) (by simp) ?_
  refine AllReadyH.cons rfl (fun K hK => ?_) AllReadyH.nil
  go_simp
  (with_reducible refine (HT1.out _ HS.out).mono ?_)
  rintro e wq3 ⟨rfl, hbq⟩
  have HB3 : Hid (Below w3.heap.size w3 wq3) := Lib.hid (HS.out.trans (hbq.mono HS.out.size))
  clear hbq
  go_simp
  refine hK.out _ _ ?_ (fun hHeld => ?_)
  · exact HB3.out
  clear hHeld hK K
  try simp only [Act.put, List.setIfInBounds_toArray, List.set_cons_zero, List.set_cons_succ]
  replace HS := HB3
  refine wpAnyH_ready (rs := [11]) (by kernel_rfl) (by simp) ?_
  refine AllReadyH.cons rfl (fun K hK => ?_) AllReadyH.nil
  go_simp
  (with_reducible refine (HW1.out _).mono ?_)
  rintro e wq4 ⟨rfl, rfl⟩
  go_simp
  refine hK.out _ _ ?_ (fun hHeld => ?_)
  · exact HS.out
  clear hHeld hK K
  try simp only [Act.put, List.setIfInBounds_toArray, List.set_cons_zero, List.set_cons_succ]
  refine wpAnyH_ready (rs := [16]) (by kernel_rfl) (by simp) ?_
  refine AllReadyH.cons rfl (fun K hK => ?_) AllReadyH.nil
  go_simp
  (with_reducible refine (HT2.out _ HS.out).mono ?_)
  rintro e wq5 ⟨rfl, hbq⟩
  have HB5 : Hid (Below w3.heap.size w3 wq5) := Lib.hid (HS.out.trans (hbq.mono HS.out.size))
  clear hbq
  go_simp
  refine hK.out _ _ ?_ (fun hHeld => ?_)
  · exact HB5.out
  clear hHeld hK K
  try simp only [Act.put, List.setIfInBounds_toArray, List.set_cons_zero, List.set_cons_succ]
  replace HS := HB5
  refine wpAnyH_ready (rs := [17]) (by kernel_rfl) (by simp) ?_
  refine AllReadyH.cons rfl (fun K hK => ?_) AllReadyH.nil
  go_simp
  (with_reducible refine (HW2.out _).mono ?_)
  rintro e wq6 ⟨rfl, rfl⟩
  go_simp
  refine hK.out _ _ ?_ (fun hHeld => ?_)
  · exact HS.out
  clear hHeld hK K
  try simp only [Act.put, List.setIfInBounds_toArray, List.set_cons_zero, List.set_cons_succ]
  refine wpAnyH_ready (rs := [22]) (by kernel_rfl) (by simp) ?_
  refine AllReadyH.cons rfl (fun K hK => ?_) AllReadyH.nil
  go_simp
  (with_reducible refine (HT3.out _ HS.out).mono ?_)
  rintro e wq7 ⟨rfl, hbq⟩
  have HB7 : Hid (Below w3.heap.size w3 wq7) := Lib.hid (HS.out.trans (hbq.mono HS.out.size))
  clear hbq
  go_simp
  refine hK.out _ _ ?_ (fun hHeld => ?_)
  · exact HB7.out
  clear hHeld hK K
  try simp only [Act.put, List.setIfInBounds_toArray, List.set_cons_zero, List.set_cons_succ]
  replace HS := HB7
  refine wpAnyH_ready (rs := [23]) (by kernel_rfl) (by simp) ?_
  refine AllReadyH.cons rfl (fun K hK => ?_) AllReadyH.nil
  go_simp
  (with_reducible refine (HW3.out _).mono ?_)
  rintro e wq8 ⟨rfl, rfl⟩
  go_simp
  refine hK.out _ _ ?_ (fun hHeld => ?_)
  · exact HS.out
  clear hHeld hK K
  try simp only [Act.put, List.setIfInBounds_toArray, List.set_cons_zero, List.set_cons_succ]
  refine wpAnyH_ready (rs := [28]) (by kernel_rfl) (by simp) ?_
  refine AllReadyH.cons rfl (fun K hK => ?_) AllReadyH.nil
  go_simp
  (with_reducible refine (HT4.out _ HS.out).mono ?_)
  rintro e wq9 ⟨rfl, hbq⟩
  have HB9 : Hid (Below w3.heap.size w3 wq9) := Lib.hid (HS.out.trans (hbq.mono HS.out.size))
  clear hbq
  go_simp
  refine hK.out _ _ ?_ (fun hHeld => ?_)
  · exact HB9.out
  clear hHeld hK K
  try simp only [Act.put, List.setIfInBounds_toArray, List.set_cons_zero, List.set_cons_succ]
  replace HS := HB9
  refine wpAnyH_ready (rs := [29]) (by kernel_rfl) (by simp) ?_
  refine AllReadyH.cons rfl (fun K hK => ?_) AllReadyH.nil
  go_simp
  (with_reducible refine (HW4.out _).mono ?_)
  rintro e wq10 ⟨rfl, rfl⟩
  go_simp
  refine hK.out _ _ ?_ (fun hHeld => ?_)
  · exact HS.out
  clear hHeld hK K
  try simp only [Act.put, List.setIfInBounds_toArray, List.set_cons_zero, List.set_cons_succ]
  refine wpAnyH_ready (rs := [34]) (by kernel_rfl) (by simp) ?_
  refine AllReadyH.cons rfl (fun K hK => ?_) AllReadyH.nil
  go_simp
  (with_reducible refine (HT5.out _ HS.out).mono ?_)
  rintro e wq11 ⟨rfl, hbq⟩
  have HB11 : Hid (Below w3.heap.size w3 wq11) := Lib.hid (HS.out.trans (hbq.mono HS.out.size))
  clear hbq
  go_simp
  refine hK.out _ _ ?_ (fun hHeld => ?_)
  · exact HB11.out
  clear hHeld hK K
  try simp only [Act.put, List.setIfInBounds_toArray, List.set_cons_zero, List.set_cons_succ]
  replace HS := HB11
  refine wpAnyH_ready (rs := [35]) (by kernel_rfl) (by simp) ?_
  refine AllReadyH.cons rfl (fun K hK => ?_) AllReadyH.nil
  go_simp
  (with_reducible refine (HW5.out _).mono ?_)
  rintro e wq12 ⟨rfl, rfl⟩
  go_simp
  refine hK.out _ _ ?_ (fun hHeld => ?_)
  · exact HS.out
  clear hHeld hK K
  try simp only [Act.put, List.setIfInBounds_toArray, List.set_cons_zero, List.set_cons_succ]
  refine wpAnyH_ready (rs := [36]) (by kernel_rfl) (by simp) ?_
  refine AllReadyH.cons rfl (fun K hK => ?_) AllReadyH.nil
  go_simp
  refine hK.out _ _ ?_ (fun hHeld => ?_)
  · exact HS.out.alloc HS.out.size _
  replace HS : Hid (Below w3.heap.size w3 _) := Lib.hid hHeld
  clear hHeld hK K
  try simp only [Act.put, List.setIfInBounds_toArray, List.set_cons_zero, List.set_cons_succ]
  refine wpAnyH_ready (rs := [37]) (by kernel_rfl) (by simp) ?_
  refine AllReadyH.cons rfl (fun K hK => ?_) AllReadyH.nil
  go_simp
  (with_reducible refine (HWR.out _ _ _ ?hw).mono ?_)
  case hw =>
    intro j hj
    have hj5 : j = 0 ∨ j = 1 ∨ j = 2 ∨ j = 3 ∨ j = 4 := by omega
    rcases hj5 with rfl | rfl | rfl | rfl | rfl <;> (rw [World.cell?_alloc_at _ _ _ _ (by simp)]; rfl)
  rintro e wr ⟨rfl, hbr⟩
  have HBR : Hid (Below w3.heap.size w3 wr) := Lib.hid (HS.out.trans (hbr.mono HS.out.size))
  clear hbr
  go_simp
  refine hK.out _ _ ?_ (fun hHeld => ?_)
  · exact HBR.out
  clear hHeld hK K
  try simp only [Act.put, List.setIfInBounds_toArray, List.set_cons_zero, List.set_cons_succ]
  replace HS := HBR
  refine takeD (i := 38) (some 2) (v := ?_) rfl rfl (by kernel_rfl) (by kernel_rfl) (by kernel_rfl) (fun _ _ _ h => h) (by rfl) HS.out ?_ ?_
  rotate_left
  · intro wx hSx
    clear hSx
    go_simp
    try (with_reducible rfl)
  simp only [Act.put, List.setIfInBounds_toArray, List.set_cons_zero, List.set_cons_succ]
  refine takeD (i := 39) (some 3) (v := ?_) rfl rfl (by kernel_rfl) (by kernel_rfl) (by kernel_rfl) (fun _ _ _ h => h) (by rfl) HS.out ?_ ?_
  rotate_left
  · intro wx hSx
    clear hSx
    go_simp
    try (with_reducible rfl)
  simp only [Act.put, List.setIfInBounds_toArray, List.set_cons_zero, List.set_cons_succ]
  refine wpAnyH_done (by kernel_rfl) ?_ _
  go_wp2
  go_ret2
  refine ⟨rfl, ?_⟩
  have e1 : w.heap.size = b1 := HBE.out
  have e2 := HBW.out.size
  rw [e1] at e2 ⊢
  exact HBW.out.trans (HBR.out.mono e2)
end Go.Proofs.YtakdhdaoklcidaaGreatDoor

namespace Go.Proofs.YtakdhdaoklcidaaGreatDoor
open Go.RowKit Go.Lib
set_option linter.unusedVariables false
set_option maxRecDepth 100000
theorem results_cell_tmp {P : Program} {fn : Func} {p q : Tmp} {ty : TypeId} (h : fn.results = #[.cell p ty, .tmp q]) (tmps : Array Value) (w : World) (g : Nat) (t : TypeId) (cs : Array Value) (fr : Nat × Nat) (d : TypeDesc)
    (hp : tmps.getD p undef = .pointer (some ⟨g, 0, none⟩)) (hg : w.heap[g]? = some (.cells cs t fr))
    (hu : P.underlying ty = some d) (hd : (match d with | .struct _ | .array _ _ => true | _ => false) = true) (hi : (P.info? ty).map (·.size) = some cs.size) :
    (results fn tmps).run P w = .ok (.tuple #[.agg cs, tmps.getD q undef]) w := by
  have hp' : tmps[p]?.getD undef = .pointer (some ⟨g, 0, none⟩) := by simpa using hp
  simp [results, h, hp', asAddr, run_loadVar_row w g t ty cs fr d hg hu hd hi]
theorem opF_L (l : Bs) : opF ⟨l.toArray⟩ = opL l := by
  unfold opF opL
  congr 2
  funext j
  congr 1
  unfold sameT nameT nameB
  rw [ByteArray.toList_eq, ByteArray.toList_eq]
theorem opP (l : Bs) (w : World) : Calls Tryz.prog 37 #[str l] w fun e w' => e = .returned (.int .i64 (opL l)) ∧ Below w.heap.size w w' := by
  have h := op_is ⟨l.toArray⟩ w
  rw [opF_L] at h; exact h
theorem setCell_row {w : World} {b : Nat} {cs : Array Value} {t : TypeId} {fr : Nat × Nat} (h : w.heap[b]? = some (.cells cs t fr)) (j : Nat) (v : Value) : (w.setCell ⟨b, j, none⟩ v).heap[b]? = some (.cells (cs.setIfInBounds j v) t fr) := by
  simp [World.setCell, Array.getElem?_modify, h]
structure PS (w wx : World) (bi bl bn bs br : Nat) (i : Ins) (rest : Bs) (q1 q2 q3 q4 q5 : Bool) : Prop where
  inst : wx.heap[bi]? = some (.cells #[.int .i64 i.op, .int .i64 i.rd, .int .i64 i.a, .int .i64 i.b, .int .i64 i.imm, .int .i64 i.csr, .bool i.aq, .bool i.rl] 23 (0, 0))
  left : BoxS wx bl rest
  next : wx.heap[bn]? = some (.cells #[nextV bl] 108 (0, 0))
  said : wx.heap[bs]? = some (.cells #[.bool q1, .bool q2, .bool q3, .bool q4, .bool q5] 51 (0, 0))
  res : wx.heap[br]? = some (.cells #[.int .i64 0, .int .i64 0, .int .i64 0, .int .i64 0, .int .i64 0, .int .i64 0, .bool false, .bool false] 23 (0, 0))
  len : rest.length ≤ 1000000
  bel : Below w.heap.size w wx
  low : w.heap.size ≤ br ∧ br < bl ∧ bl < bn ∧ bn < bi ∧ bi < bs
section
variable {w wx : World} {bi bl bn bs br : Nat} {i : Ins} {rest : Bs} {q1 q2 q3 q4 q5 : Bool}
theorem PS.env (h : PS w wx bi bl bn bs br i rest q1 q2 q3 q4 q5) (he : Env w) : ∀ w', Only (fun k => k = bl) wx w' → Env w' := fun w' ho => by
  have hl := h.low
  exact he.below (Below.thenOnly h.bel ho (by intro k hk; omega) h.bel.size)
theorem PS.cutt (h : PS w wx bi bl bn bs br i rest q1 q2 q3 q4 q5) {w' : World} {r : Bs} (hr : r.length ≤ 1000000) (hb : BoxS w' bl r) (ho : Only (fun k => k = bl) wx w') : PS w w' bi bl bn bs br i r q1 q2 q3 q4 q5 := by
  have hl := h.low
  exact ⟨ho.keeps (by omega) h.inst, hb, ho.keeps (by omega) h.next, ho.keeps (by omega) h.said, ho.keeps (by omega) h.res, hr, Below.thenOnly h.bel ho (by intro k hk; omega) h.bel.size, hl⟩
theorem PS.reg (h : PS w wx bi bl bn bs br i rest q1 q2 q3 q4 q5) (he : Env w) : Calls Tryz.prog 64 #[.pointer (some ⟨bn, 0, none⟩)] wx fun e w' => e = .returned (.int .i64 (regP (cut rest sepC).1)) ∧ PS w w' bi bl bn bs br i (cut rest sepC).2.1 q1 q2 q3 q4 q5 := by
  refine (reg_any bn bl rest wx (h.env he) h.len (by rw [Lib.cell_of_heap h.next]; rfl) h.left).mono ?_
  rintro e w' ⟨rfl, h1, h2⟩
  exact ⟨rfl, h.cutt (Nat.le_trans (cut_len rest sepC).2 h.len) h1 h2⟩
theorem PS.num (h : PS w wx bi bl bn bs br i rest q1 q2 q3 q4 q5) (he : Env w) : Calls Tryz.prog 67 #[.pointer (some ⟨bn, 0, none⟩)] wx fun e w' => e = .returned (.int .i64 (numP (cut rest sepC).1)) ∧ PS w w' bi bl bn bs br i (cut rest sepC).2.1 q1 q2 q3 q4 q5 := by
  refine (num_any bn bl rest wx (h.env he) h.len (by rw [Lib.cell_of_heap h.next]; rfl) h.left).mono ?_
  rintro e w' ⟨rfl, h1, h2⟩
  exact ⟨rfl, h.cutt (Nat.le_trans (cut_len rest sepC).2 h.len) h1 h2⟩
theorem PS.set (h : PS w wx bi bl bn bs br i rest q1 q2 q3 q4 q5) (k : Ins) (j : Nat) (v : Value) (hk : (#[.int .i64 i.op, .int .i64 i.rd, .int .i64 i.a, .int .i64 i.b, .int .i64 i.imm, .int .i64 i.csr, .bool i.aq, .bool i.rl] : Array Value).setIfInBounds j v = #[.int .i64 k.op, .int .i64 k.rd, .int .i64 k.a, .int .i64 k.b, .int .i64 k.imm, .int .i64 k.csr, .bool k.aq, .bool k.rl]) : PS w (wx.setCell ⟨bi, j, none⟩ v) bi bl bn bs br k rest q1 q2 q3 q4 q5 := by
  have hl := h.low
  have ho : Only (fun k => k = bi) wx (wx.setCell ⟨bi, j, none⟩ v) := (Only.refl (fun k => k = bi) wx).setCell (p := ⟨bi, j, none⟩) (.inl rfl) v
  exact ⟨by rw [← hk]; exact setCell_row h.inst j v, ho.keeps (by omega) h.left, ho.keeps (by omega) h.next, ho.keeps (by omega) h.said, ho.keeps (by omega) h.res, h.len, h.bel.setCell (p := ⟨bi, j, none⟩) (by show w.heap.size ≤ bi; omega) v, hl⟩
theorem PS.put1 (h : PS w wx bi bl bn bs br i rest q1 q2 q3 q4 q5) (n : Int) : PS w (wx.setCell ⟨bi, 1, none⟩ (.int .i64 n)) bi bl bn bs br { i with rd := n } rest q1 q2 q3 q4 q5 := h.set { i with rd := n } 1 (.int .i64 n) rfl
theorem PS.put2 (h : PS w wx bi bl bn bs br i rest q1 q2 q3 q4 q5) (n : Int) : PS w (wx.setCell ⟨bi, 2, none⟩ (.int .i64 n)) bi bl bn bs br { i with a := n } rest q1 q2 q3 q4 q5 := h.set { i with a := n } 2 (.int .i64 n) rfl
theorem PS.put3 (h : PS w wx bi bl bn bs br i rest q1 q2 q3 q4 q5) (n : Int) : PS w (wx.setCell ⟨bi, 3, none⟩ (.int .i64 n)) bi bl bn bs br { i with b := n } rest q1 q2 q3 q4 q5 := h.set { i with b := n } 3 (.int .i64 n) rfl
theorem PS.put4 (h : PS w wx bi bl bn bs br i rest q1 q2 q3 q4 q5) (n : Int) : PS w (wx.setCell ⟨bi, 4, none⟩ (.int .i64 n)) bi bl bn bs br { i with imm := n } rest q1 q2 q3 q4 q5 := h.set { i with imm := n } 4 (.int .i64 n) rfl
theorem PS.put5 (h : PS w wx bi bl bn bs br i rest q1 q2 q3 q4 q5) (n : Int) : PS w (wx.setCell ⟨bi, 5, none⟩ (.int .i64 n)) bi bl bn bs br { i with csr := n } rest q1 q2 q3 q4 q5 := h.set { i with csr := n } 5 (.int .i64 n) rfl
theorem PS.cell (h : PS w wx bi bl bn bs br i rest q1 q2 q3 q4 q5) : wx.cell? ⟨bi, 1, none⟩ = some (.int .i64 i.rd) ∧ wx.cell? ⟨bi, 2, none⟩ = some (.int .i64 i.a) ∧ wx.cell? ⟨bi, 3, none⟩ = some (.int .i64 i.b) ∧ wx.cell? ⟨bi, 4, none⟩ = some (.int .i64 i.imm) ∧ wx.cell? ⟨bi, 5, none⟩ = some (.int .i64 i.csr) ∧ ∀ j, wx.frozen? ⟨bi, j, none⟩ = false := by
  refine ⟨?_, ?_, ?_, ?_, ?_, fun j => Lib.frozen_of_heap h.inst j⟩ <;> (rw [Lib.cell_of_heap h.inst]; rfl)
theorem PS.flag (h : PS w wx bi bl bn bs br i rest q1 q2 q3 q4 q5) : wx.cell? ⟨bs, 0, none⟩ = some (.bool q1) ∧ wx.cell? ⟨bs, 1, none⟩ = some (.bool q2) ∧ wx.cell? ⟨bs, 2, none⟩ = some (.bool q3) ∧ wx.cell? ⟨bs, 3, none⟩ = some (.bool q4) ∧ wx.cell? ⟨bs, 4, none⟩ = some (.bool q5) := by
  refine ⟨?_, ?_, ?_, ?_, ?_⟩ <;> (rw [Lib.cell_of_heap h.said]; rfl)
end
end Go.Proofs.YtakdhdaoklcidaaGreatDoor

namespace Go.Proofs.YtakdhdaoklcidaaGreatDoor
open Go.RowKit Go.Lib
set_option linter.unusedVariables false
set_option maxRecDepth 100000
abbrev Pst (w wx : World) (i : Ins) (rest : Bs) (q1 q2 q3 q4 q5 : Bool) (bi bs : Nat) : Prop := PS w wx bi (w.heap.size + 1) (w.heap.size + 2) bs w.heap.size i rest q1 q2 q3 q4 q5
set_option maxHeartbeats 4000000 in
theorem parse_gen (l : Bs) (hl : l.length ≤ 1000000) (G : Ins) (hG : guessP l = G) (RI : Ins) (RE : Int) (c : Bool)
    (hc : c = (rightB G && (printT G == l))) (hRI : RI = if c then G else insZ) (hRE : RE = if c then 0 else 100) (w : World) (he : Env w) :
    Calls Tryz.prog 13 #[str l] w fun e w' => e = .returned (.tuple #[insV RI, .int .i64 RE]) ∧ Below w.heap.size w w' := by
  have hCUT : ∀ w, Env w → Calls Tryz.prog 34 #[str l, .string ⟨#[32]⟩] w fun e w' => e = .returned (.tuple #[str (cut l [32]).1, str (cut l [32]).2.1, .bool (cut l [32]).2.2]) ∧ Below w.heap.size w w' := fun w he => cutP l [32] w hl he
  have hcl := cut_len l [32]
  have hUN : ∀ w, Calls Tryz.prog 36 #[str (cut l [32]).1] w fun e w' => e = .returned (.tuple #[str (unmark (cut l [32]).1).1, .bool (unmark (cut l [32]).1).2.1, .bool (unmark (cut l [32]).1).2.2]) ∧ w = w' := fun w => unmark_any _ w (by omega)
  have hOP : ∀ w, Calls Tryz.prog 37 #[str (unmark (cut l [32]).1).1] w fun e w' => e = .returned (.int .i64 (opL (unmark (cut l [32]).1).1)) ∧ Below w.heap.size w w' := fun w => opP _ w
  have hRD : ∀ w, _ := fun w => reader_any (cut l [32]).2.1 w
  have hGE : guessP l = (let n := unmark (cut l [32]).1
    let f := fT (opL n.1)
    let r1 := rdOp f.rd regP (cut l [32]).2.1
    let r2 := rdOp f.a regP r1.2
    let r3 := rdOp f.b regP r2.2
    let r4 := rdOp (f.imm != 0) numP r3.2
    let r5 := rdOp f.csr numP r4.2
    (⟨opL n.1, r1.1, r2.1, r3.1, r4.1, r5.1, n.2.1, n.2.2⟩ : Ins)) := rfl
  rw [hGE] at hG
  simp only [] at hG
  have hR0 : (cut l [32]).2.1.length ≤ 1000000 := by omega
  have hSY : ∀ w, Env w → _ := fun w he => says_any (opL (unmark (cut l [32]).1).1) w he
  have HSY := Lib.hid hSY
  generalize (cut l [32]).2.1 = r0 at *
  generalize (cut l [32]).2.2 = qq at *
  generalize (unmark (cut l [32]).1).1 = nm at *
  generalize (unmark (cut l [32]).1).2.1 = aq at *
  generalize (unmark (cut l [32]).1).2.2 = rl at *
  generalize (cut l [32]).1 = n0 at *
  generalize opL nm = k at *
  generalize (fT k).rd = q1 at *
  generalize (fT k).a = q2 at *
  generalize (fT k).b = q3 at *
  generalize ((fT k).imm != 0) = q4 at *
  generalize (fT k).csr = q5 at *
  have HCUT := Lib.hid hCUT; have HUN := Lib.hid hUN; have HOP := Lib.hid hOP; have HRD := Lib.hid hRD; have HE := Lib.hid he; have HG := Lib.hid hG
  have HC := Lib.hid hc; have HRI := Lib.hid hRI; have HRE := Lib.hid hRE; have HR0 := Lib.hid hR0
  clear hCUT hUN hOP hRD he hG hGE hl hcl hc hRI hRE hR0 hSY
  go_enter Tryz.func13, Tryz.ntmps13
  go_wp2_with (fail)
  (with_reducible refine (HCUT.out _ (HE.out.below ((Below.refl _ _).alloc (Nat.le_refl _) _))).mono ?_)
  rintro e w1 ⟨rfl, hb1⟩
  have HB1 := Lib.hid (((Below.refl _ _).alloc (Nat.le_refl _) (.cells #[.int .i64 0, .int .i64 0, .int .i64 0, .int .i64 0, .int .i64 0, .int .i64 0, .bool false, .bool false] 23)).trans (hb1.mono (by simp)))
  have HR1 : Hid (w1.heap[w.heap.size]? = some (.cells #[.int .i64 0, .int .i64 0, .int .i64 0, .int .i64 0, .int .i64 0, .int .i64 0, .bool false, .bool false] 23 (0, 0))) := Lib.hid ((hb1.block _ (by simp)).trans (heap_alloc_new _ _))
  have HZ1 : Hid (w.heap.size < w1.heap.size) := Lib.hid (by have := hb1.size; simp at this; omega)
  clear hb1
  go_wp2_with (fail)
  (with_reducible refine (HRD.out _).mono ?_)
  rintro e w2 ⟨rfl, h1, h2, h3, h4'⟩
  have HB2 := Lib.hid (HB1.out.trans (h4'.mono (by have := HZ1.out; omega)))
  have HR2 := Lib.hid ((h4'.block _ HZ1.out).trans HR1.out)
  have HL2 := Lib.hid h1; have HN2 := Lib.hid h2
  have HZ2 : Hid (w1.heap.size + 2 = w2.heap.size) := Lib.hid h3
  clear h1 h2 h3 h4' HB1 HR1
  go_wp2_with (go_at_call 36; (with_reducible refine (HUN.out _).mono ?_); rintro e wu ⟨rfl, rfl⟩)
  (with_reducible refine (HOP.out _).mono ?_)
  rintro e w4 ⟨rfl, hb4⟩
  have HI4 : Hid (w4.heap[w2.heap.size]? = some (.cells #[.int .i64 0, .int .i64 0, .int .i64 0, .int .i64 0, .int .i64 0, .int .i64 0, .bool aq, .bool rl] 23 (0, 0))) := Lib.hid ((hb4.block _ (by simp)).trans (heap_alloc_new _ _))
  have HL4 : Hid (BoxS w4 w1.heap.size r0) := Lib.hid ((hb4.block _ (by have := HZ2.out; simp; omega)).trans ((Lib.alloc_old _ _ _ (by have := HZ2.out; omega)).trans HL2.out))
  have HN4 : Hid (w4.heap[w1.heap.size + 1]? = some (.cells #[nextV w1.heap.size] 108 (0, 0))) := Lib.hid ((hb4.block _ (by have := HZ2.out; simp; omega)).trans ((Lib.alloc_old _ _ _ (by have := HZ2.out; omega)).trans HN2.out))
  have HR4 : Hid (w4.heap[w.heap.size]? = some (.cells #[.int .i64 0, .int .i64 0, .int .i64 0, .int .i64 0, .int .i64 0, .int .i64 0, .bool false, .bool false] 23 (0, 0))) := Lib.hid ((hb4.block _ (by have := HZ2.out; have := HZ1.out; simp; omega)).trans ((Lib.alloc_old _ _ _ (by have := HZ2.out; have := HZ1.out; omega)).trans HR2.out))
  have HB4 : Hid (Below w.heap.size w w4) := Lib.hid ((HB2.out.alloc HB2.out.size _).trans (hb4.mono (by have := HB2.out.size; simp; omega)))
  have HZ4 : Hid (w2.heap.size < w4.heap.size) := Lib.hid (by have := hb4.size; simp at this; omega)
  have hc0 : w4.cell? ⟨w2.heap.size, 0, none⟩ = some (.int .i64 0) := by rw [Lib.cell_of_heap HI4.out]; rfl
  have hf0 : w4.frozen? ⟨w2.heap.size, 0, none⟩ = false := Lib.frozen_of_heap HI4.out 0
  clear hb4 HL2 HN2 HR2 HB2
  go_wp2_with (fail)
  (with_reducible refine (HSY.out _ (HE.out.below (HB4.out.setCell (p := ⟨w2.heap.size, 0, none⟩) (by show w.heap.size ≤ w2.heap.size; have := HZ2.out; have := HZ1.out; omega) _))).mono ?_)
  rintro e w6 ⟨rfl, hb6⟩
  have hzz : w2.heap.size < (w4.setCell ⟨w2.heap.size, 0, none⟩ (.int .i64 k)).heap.size := by simpa [World.setCell] using HZ4.out
  have HI6 : Hid (w6.heap[w2.heap.size]? = some (.cells #[.int .i64 k, .int .i64 0, .int .i64 0, .int .i64 0, .int .i64 0, .int .i64 0, .bool aq, .bool rl] 23 (0, 0))) := Lib.hid ((hb6.block _ hzz).trans (setCell_row HI4.out 0 (.int .i64 k)))
  have HL6 : Hid (BoxS w6 w1.heap.size r0) := Lib.hid ((hb6.block _ (by have := HZ2.out; omega)).trans ((Below.heap_setCell _ _ _ _ (by show w1.heap.size ≠ w2.heap.size; have := HZ2.out; omega)).trans HL4.out))
  have HN6 : Hid (w6.heap[w1.heap.size + 1]? = some (.cells #[nextV w1.heap.size] 108 (0, 0))) := Lib.hid ((hb6.block _ (by have := HZ2.out; omega)).trans ((Below.heap_setCell _ _ _ _ (by show w1.heap.size + 1 ≠ w2.heap.size; have := HZ2.out; omega)).trans HN4.out))
  have HR6 : Hid (w6.heap[w.heap.size]? = some (.cells #[.int .i64 0, .int .i64 0, .int .i64 0, .int .i64 0, .int .i64 0, .int .i64 0, .bool false, .bool false] 23 (0, 0))) := Lib.hid ((hb6.block _ (by have := HZ2.out; have := HZ1.out; omega)).trans ((Below.heap_setCell _ _ _ _ (by show w.heap.size ≠ w2.heap.size; have := HZ2.out; have := HZ1.out; omega)).trans HR4.out))
  have HB6 : Hid (Below w.heap.size w w6) := Lib.hid ((HB4.out.setCell (p := ⟨w2.heap.size, 0, none⟩) (by show w.heap.size ≤ w2.heap.size; have := HZ2.out; have := HZ1.out; omega) _).trans (hb6.mono (by have := HZ2.out; have := HZ1.out; omega)))
  have HZ6 : Hid (w2.heap.size < w6.heap.size) := Lib.hid (by have := hb6.size; omega)
  clear hb6 hzz hc0 hf0 HI4 HL4 HN4 HR4 HB4 HZ4
  go_wp2_with (refine wpList_store_row rfl _ _ _ rfl w6.heap.size _ rfl rfl 51 _ (heap_alloc_new w6 _) size_said rfl (by simp [Value.oneCell']) ?_; refine Hid.out ?_)
  have HPS : Hid (PS w ((w6.alloc (.cells #[.bool false, .bool false, .bool false, .bool false, .bool false] 51)).setRow w6.heap.size #[.bool q1, .bool q2, .bool q3, .bool q4, .bool q5]) w2.heap.size w1.heap.size (w1.heap.size + 1) w6.heap.size w.heap.size ⟨k, 0, 0, 0, 0, 0, aq, rl⟩ r0 q1 q2 q3 q4 q5) := Lib.hid (by
    have z1 := HZ1.out; have z2 := HZ2.out; have z6 := HZ6.out
    have ko : ∀ b o, b < w6.heap.size → w6.heap[b]? = some o → ((w6.alloc (.cells #[.bool false, .bool false, .bool false, .bool false, .bool false] 51)).setRow w6.heap.size #[.bool q1, .bool q2, .bool q3, .bool q4, .bool q5]).heap[b]? = some o := fun b o hb h => by
      rw [setRow_other _ _ _ _ (by omega), Lib.alloc_old _ _ _ hb]; exact h
    exact ⟨ko _ _ (by omega) HI6.out, ko _ _ (by omega) HL6.out, ko _ _ (by omega) HN6.out, setRow_heap _ _ _ _ _ _ (heap_alloc_new w6 _), ko _ _ (by omega) HR6.out, HR0.out, below_setRow (HB6.out.alloc HB6.out.size _) HB6.out.size _, by omega⟩)
  generalize (w6.alloc (.cells #[.bool false, .bool false, .bool false, .bool false, .bool false] 51)).setRow w6.heap.size #[.bool q1, .bool q2, .bool q3, .bool q4, .bool q5] = w7 at *
  generalize w6.heap.size = bs at *
  generalize w2.heap.size = bi at *
  generalize w1.heap.size + 1 = bn at *
  generalize w1.heap.size = bl at *
  clear HI6 HL6 HN6 HR6 HB6 HZ6 HZ1 HZ2 HR0 HSY HCUT HUN HOP HRD
  refine Lib.hid ?_
  obtain ⟨f1, f2, f3, f4, f5⟩ := HPS.out.flag
  go_upto_if 39 with (fail)
  clear f1 f2 f3 f4 f5
  go_cut [] (fun wx => PS w wx bi bl bn bs w.heap.size ⟨k, (rdOp q1 regP r0).1, 0, 0, 0, 0, aq, rl⟩ (rdOp q1 regP r0).2 q1 q2 q3 q4 q5)
  case first =>
    cases q1
    · go_wp2_with fail
      go_meet
      exact HPS.out
    · go_wp2_with fail
      (with_reducible refine (HPS.out.reg HE.out).mono ?_)
      rintro e w20 ⟨rfl, h2⟩
      have HQ := Lib.hid h2
      obtain ⟨c1, c2, c3, c4, c5, cf⟩ := h2.cell
      have cf1 := cf 1
      clear h2 cf
      go_wp2_with fail
      go_meet
      exact HQ.out.put1 _
  case rest =>
  have HP1 := Lib.hid hcut
  clear hcut HPS
  generalize wc = w30 at *
  obtain ⟨f1, f2, f3, f4, f5⟩ := HP1.out.flag
  go_upto_if 44 with (fail)
  clear f1 f2 f3 f4 f5
  go_cut [] (fun wx => PS w wx bi bl bn bs w.heap.size ⟨k, (rdOp q1 regP r0).1, (rdOp q2 regP (rdOp q1 regP r0).2).1, 0, 0, 0, aq, rl⟩ (rdOp q2 regP (rdOp q1 regP r0).2).2 q1 q2 q3 q4 q5)
  case first =>
    cases q2
    · go_wp2_with fail
      go_meet
      exact HP1.out
    · go_wp2_with fail
      (with_reducible refine (HP1.out.reg HE.out).mono ?_)
      rintro e w21 ⟨rfl, h2⟩
      have HQ := Lib.hid h2
      obtain ⟨c1, c2, c3, c4, c5, cf⟩ := h2.cell
      have cf2 := cf 2
      clear h2 cf
      go_wp2_with fail
      go_meet
      exact HQ.out.put2 _
  case rest =>
  have HP2 := Lib.hid hcut
  clear hcut HP1
  generalize wc = w31 at *
  obtain ⟨f1, f2, f3, f4, f5⟩ := HP2.out.flag
  go_upto_if 49 with (fail)
  clear f1 f2 f3 f4 f5
  go_cut [] (fun wx => PS w wx bi bl bn bs w.heap.size ⟨k, (rdOp q1 regP r0).1, (rdOp q2 regP (rdOp q1 regP r0).2).1, (rdOp q3 regP (rdOp q2 regP (rdOp q1 regP r0).2).2).1, 0, 0, aq, rl⟩ (rdOp q3 regP (rdOp q2 regP (rdOp q1 regP r0).2).2).2 q1 q2 q3 q4 q5)
  case first =>
    cases q3
    · go_wp2_with fail
      go_meet
      exact HP2.out
    · go_wp2_with fail
      (with_reducible refine (HP2.out.reg HE.out).mono ?_)
      rintro e w22 ⟨rfl, h2⟩
      have HQ := Lib.hid h2
      obtain ⟨c1, c2, c3, c4, c5, cf⟩ := h2.cell
      have cf3 := cf 3
      clear h2 cf
      go_wp2_with fail
      go_meet
      exact HQ.out.put3 _
  case rest =>
  have HP3 := Lib.hid hcut
  clear hcut HP2
  generalize wc = w32 at *
  obtain ⟨f1, f2, f3, f4, f5⟩ := HP3.out.flag
  go_upto_if 54 with (fail)
  clear f1 f2 f3 f4 f5
  go_cut [] (fun wx => PS w wx bi bl bn bs w.heap.size ⟨k, (rdOp q1 regP r0).1, (rdOp q2 regP (rdOp q1 regP r0).2).1, (rdOp q3 regP (rdOp q2 regP (rdOp q1 regP r0).2).2).1, (rdOp q4 numP (rdOp q3 regP (rdOp q2 regP (rdOp q1 regP r0).2).2).2).1, 0, aq, rl⟩ (rdOp q4 numP (rdOp q3 regP (rdOp q2 regP (rdOp q1 regP r0).2).2).2).2 q1 q2 q3 q4 q5)
  case first =>
    cases q4
    · go_wp2_with fail
      go_meet
      exact HP3.out
    · go_wp2_with fail
      (with_reducible refine (HP3.out.num HE.out).mono ?_)
      rintro e w23 ⟨rfl, h2⟩
      have HQ := Lib.hid h2
      obtain ⟨c1, c2, c3, c4, c5, cf⟩ := h2.cell
      have cf4 := cf 4
      clear h2 cf
      go_wp2_with fail
      go_meet
      exact HQ.out.put4 _
  case rest =>
  have HP4 := Lib.hid hcut
  clear hcut HP3
  generalize wc = w33 at *
  obtain ⟨f1, f2, f3, f4, f5⟩ := HP4.out.flag
  go_upto_if 59 with (fail)
  clear f1 f2 f3 f4 f5
  go_cut [] (fun wx => PS w wx bi bl bn bs w.heap.size ⟨k, (rdOp q1 regP r0).1, (rdOp q2 regP (rdOp q1 regP r0).2).1, (rdOp q3 regP (rdOp q2 regP (rdOp q1 regP r0).2).2).1, (rdOp q4 numP (rdOp q3 regP (rdOp q2 regP (rdOp q1 regP r0).2).2).2).1, (rdOp q5 numP (rdOp q4 numP (rdOp q3 regP (rdOp q2 regP (rdOp q1 regP r0).2).2).2).2).1, aq, rl⟩ (rdOp q5 numP (rdOp q4 numP (rdOp q3 regP (rdOp q2 regP (rdOp q1 regP r0).2).2).2).2).2 q1 q2 q3 q4 q5)
  case first =>
    cases q5
    · go_wp2_with fail
      go_meet
      exact HP4.out
    · go_wp2_with fail
      (with_reducible refine (HP4.out.num HE.out).mono ?_)
      rintro e w24 ⟨rfl, h2⟩
      have HQ := Lib.hid h2
      obtain ⟨c1, c2, c3, c4, c5, cf⟩ := h2.cell
      have cf5 := cf 5
      clear h2 cf
      go_wp2_with fail
      go_meet
      exact HQ.out.put5 _
  case rest =>
  have HP5 := Lib.hid hcut
  clear hcut HP4
  generalize wc = w34 at *
  have hGE : (⟨k, (rdOp q1 regP r0).1, (rdOp q2 regP (rdOp q1 regP r0).2).1, (rdOp q3 regP (rdOp q2 regP (rdOp q1 regP r0).2).2).1, (rdOp q4 numP (rdOp q3 regP (rdOp q2 regP (rdOp q1 regP r0).2).2).2).1, (rdOp q5 numP (rdOp q4 numP (rdOp q3 regP (rdOp q2 regP (rdOp q1 regP r0).2).2).2).2).1, aq, rl⟩ : Ins) = G := HG.out
  rw [hGE] at HP5
  generalize (rdOp q5 numP (rdOp q4 numP (rdOp q3 regP (rdOp q2 regP (rdOp q1 regP r0).2).2).2).2).2 = rr at HP5
  have HEP : Hid (Env w34) := Lib.hid (HE.out.below HP5.out.bel)
  clear HG hGE
  go_wp2_with (refine wpList_load_row rfl _ _ rfl bi rfl 23 _ _ _ HP5.out.inst Tryz.underlying23 rfl size_ins ?_)
  cases hr : rightB G
  · have hC : c = false := by rw [HC.out, hr]; rfl
    have eRI : RI = insZ := by rw [HRI.out, hC]; rfl
    have eRE : RE = 100 := by rw [HRE.out, hC]; rfl
    subst eRI eRE
    have HPR := Lib.hid (print_no G hr w34 HEP.out)
    clear hC HC HRI HRE hr
    (with_reducible refine HPR.out.mono ?_)
    rintro e wp ⟨rfl, hbp⟩
    have HBP : Hid (Below w.heap.size w wp) := Lib.hid (HP5.out.bel.trans (hbp.mono HP5.out.bel.size))
    have HRS : Hid (wp.heap[w.heap.size]? = some (.cells #[.int .i64 0, .int .i64 0, .int .i64 0, .int .i64 0, .int .i64 0, .int .i64 0, .bool false, .bool false] 23 (0, 0))) := Lib.hid ((hbp.block _ (Array.getElem?_eq_some_iff.1 HP5.out.res).1).trans HP5.out.res)
    have HIS : Hid (wp.heap[bi]? = some (.cells #[.int .i64 G.op, .int .i64 G.rd, .int .i64 G.a, .int .i64 G.b, .int .i64 G.imm, .int .i64 G.csr, .bool G.aq, .bool G.rl] 23 (0, 0))) := Lib.hid ((hbp.block _ (Array.getElem?_eq_some_iff.1 HP5.out.inst).1).trans HP5.out.inst)
    clear hbp
    go_wp2_with (refine wpList_store_row rfl _ _ _ rfl w.heap.size _ rfl rfl 23 _ HRS.out size_ins rfl (by simp [Value.oneCell']) ?_)
    exact bodyPost_ret (v := .tuple #[.agg #[.int .i64 0, .int .i64 0, .int .i64 0, .int .i64 0, .int .i64 0, .int .i64 0, .bool false, .bool false], .int .i64 100]) (results_cell_tmp (show Tryz.f13.results = #[.cell 2 23, .tmp 3] by kernel_rfl) _ _ w.heap.size 23 _ _ _ rfl (setRow_heap _ _ _ _ _ _ HRS.out) Tryz.underlying23 rfl size_ins) rfl ⟨rfl, below_setRow HBP.out (Nat.le_refl _) _⟩
  · by_cases hp : printT G = l
    · have hC : c = true := by rw [HC.out, hr, hp]; simp
      have eRI : RI = G := by rw [HRI.out, hC]; rfl
      have eRE : RE = 0 := by rw [HRE.out, hC]; rfl
      subst eRI eRE
      have HPR := Lib.hid (print_yes RI hr w34 HEP.out)
      rw [hp] at HPR
      clear hC HC HRI HRE hr hp
      (with_reducible refine HPR.out.mono ?_)
      rintro e wp ⟨rfl, hbp⟩
      have HBP : Hid (Below w.heap.size w wp) := Lib.hid (HP5.out.bel.trans (hbp.mono HP5.out.bel.size))
      have HRS : Hid (wp.heap[w.heap.size]? = some (.cells #[.int .i64 0, .int .i64 0, .int .i64 0, .int .i64 0, .int .i64 0, .int .i64 0, .bool false, .bool false] 23 (0, 0))) := Lib.hid ((hbp.block _ (Array.getElem?_eq_some_iff.1 HP5.out.res).1).trans HP5.out.res)
      have HIS : Hid (wp.heap[bi]? = some (.cells #[.int .i64 RI.op, .int .i64 RI.rd, .int .i64 RI.a, .int .i64 RI.b, .int .i64 RI.imm, .int .i64 RI.csr, .bool RI.aq, .bool RI.rl] 23 (0, 0))) := Lib.hid ((hbp.block _ (Array.getElem?_eq_some_iff.1 HP5.out.inst).1).trans HP5.out.inst)
      clear hbp
      go_wp2_with (first
        | (refine wpList_load_row rfl _ _ rfl bi rfl 23 _ _ _ HIS.out Tryz.underlying23 rfl size_ins ?_)
        | (refine wpList_store_row rfl _ _ _ rfl w.heap.size _ rfl rfl 23 _ HRS.out size_ins rfl (by simp [Value.oneCell']) ?_))
      exact bodyPost_ret (v := .tuple #[.agg #[.int .i64 RI.op, .int .i64 RI.rd, .int .i64 RI.a, .int .i64 RI.b, .int .i64 RI.imm, .int .i64 RI.csr, .bool RI.aq, .bool RI.rl], .int .i64 0]) (results_cell_tmp (show Tryz.f13.results = #[.cell 2 23, .tmp 3] by kernel_rfl) _ _ w.heap.size 23 _ _ _ rfl (setRow_heap _ _ _ _ _ _ HRS.out) Tryz.underlying23 rfl size_ins) rfl ⟨rfl, below_setRow HBP.out (Nat.le_refl _) _⟩
    · have hC : c = false := by rw [HC.out, hr, Bool.true_and]; exact beq_eq_false_iff_ne.2 hp
      have eRI : RI = insZ := by rw [HRI.out, hC]; rfl
      have eRE : RE = 100 := by rw [HRE.out, hC]; rfl
      subst eRI eRE
      have HPR := Lib.hid (print_yes G hr w34 HEP.out)
      have hq : (printT G == l) = false := beq_eq_false_iff_ne.2 hp
      clear hC HC HRI HRE hr hp
      generalize printT G = tx at *
      (with_reducible refine HPR.out.mono ?_)
      rintro e wp ⟨rfl, hbp⟩
      have HBP : Hid (Below w.heap.size w wp) := Lib.hid (HP5.out.bel.trans (hbp.mono HP5.out.bel.size))
      have HRS : Hid (wp.heap[w.heap.size]? = some (.cells #[.int .i64 0, .int .i64 0, .int .i64 0, .int .i64 0, .int .i64 0, .int .i64 0, .bool false, .bool false] 23 (0, 0))) := Lib.hid ((hbp.block _ (Array.getElem?_eq_some_iff.1 HP5.out.res).1).trans HP5.out.res)
      have HIS : Hid (wp.heap[bi]? = some (.cells #[.int .i64 G.op, .int .i64 G.rd, .int .i64 G.a, .int .i64 G.b, .int .i64 G.imm, .int .i64 G.csr, .bool G.aq, .bool G.rl] 23 (0, 0))) := Lib.hid ((hbp.block _ (Array.getElem?_eq_some_iff.1 HP5.out.inst).1).trans HP5.out.inst)
      clear hbp
      go_wp2_with (refine wpList_store_row rfl _ _ _ rfl w.heap.size _ rfl rfl 23 _ HRS.out size_ins rfl (by simp [Value.oneCell']) ?_)
      exact bodyPost_ret (v := .tuple #[.agg #[.int .i64 0, .int .i64 0, .int .i64 0, .int .i64 0, .int .i64 0, .int .i64 0, .bool false, .bool false], .int .i64 100]) (results_cell_tmp (show Tryz.f13.results = #[.cell 2 23, .tmp 3] by kernel_rfl) _ _ w.heap.size 23 _ _ _ rfl (setRow_heap _ _ _ _ _ _ HRS.out) Tryz.underlying23 rfl size_ins) rfl ⟨rfl, below_setRow HBP.out (Nat.le_refl _) _⟩
end Go.Proofs.YtakdhdaoklcidaaGreatDoor

namespace Go.Proofs.YtakdhdaoklcidaaGreatDoor
open Go.Lib Go.RowKit
set_option linter.unusedVariables false
set_option maxRecDepth 100000
theorem fit_gen (k : Nat) (hk : 1 ≤ k ∧ k ≤ 9) (n : Int) (m : Nat) (hm : (formP k).length = m) (hno : ∀ j, j < m → decide ((formP k).getD j 0 < 0) = false) :
    ((formL k).number ((formL k).word n) = n) ↔ ((if k ≤ 5 then -(2 : Int) ^ (m - 1) else 0) ≤ n ∧ n ≤ (if k ≤ 5 then (2 : Int) ^ (m - 1) - 1 else 2 ^ m - 1)) := by
  have h := (formOk k hk).fits (form_len k hk) n
  rw [form_sg k hk] at h
  have hb : (List.range (formP k).length).any (badAt n (formP k)) = false := by
    rw [List.any_eq_false]
    intro j hj
    unfold badAt
    rw [hno j (by have := List.mem_range.1 hj; omega)]; simp
  have hd : fitsD n (decide (k ≤ 5)) (formP k) = decide ((if k ≤ 5 then -(2 : Int) ^ (m - 1) else 0) ≤ n ∧ n ≤ (if k ≤ 5 then (2 : Int) ^ (m - 1) - 1 else 2 ^ m - 1)) := by
    unfold fitsD
    rw [hb, hm]
    by_cases c : k ≤ 5 <;> simp [c]
  rw [hd] at h
  constructor
  · intro e
    rw [beq_iff_eq.2 e] at h
    exact of_decide_eq_true h.symm
  · intro e
    rw [decide_eq_true e] at h
    exact beq_iff_eq.1 h
theorem fit_I (n : Int) : ((formL 1).number ((formL 1).word n) = n) ↔ (-2048 ≤ n ∧ n ≤ 2047) := by
  have := fit_gen 1 (by decide) n 12 (by decide +kernel) (by decide +kernel)
  rw [this]
  simp
theorem fit_H (n : Int) : ((formL 6).number ((formL 6).word n) = n) ↔ (0 ≤ n ∧ n ≤ 63) := by
  have := fit_gen 6 (by decide) n 6 (by decide +kernel) (by decide +kernel)
  rw [this]
  simp
theorem fit_U (n : Int) : ((formL 4).number ((formL 4).word n) = n) ↔ (-2147483648 ≤ n ∧ n ≤ 2147483647 ∧ n % 4096 = 0) := by
  have h := (formOk 4 (by omega)).fits (form_len 4 (by omega)) n
  rw [form_sg 4 (by omega)] at h
  have hl : (formP 4).length = 32 := by decide +kernel
  have hneg : ∀ j, j < 32 → (decide ((formP 4).getD j 0 < 0) = decide (20 ≤ j)) := by decide +kernel
  have hb : (!(List.range (formP 4).length).any (badAt n (formP 4))) = decide (n % 4096 = 0) := by
    rw [Bool.eq_iff_iff, Bool.not_eq_true', List.any_eq_false, decide_eq_true_eq]
    constructor
    · intro e
      have := mod_zero n 12 (fun j hj => by
        have h1 := e (31 - j) (List.mem_range.2 (by omega))
        unfold badAt at h1
        rw [hneg _ (by omega), decide_eq_true (by omega), hl, Bool.true_and, show 32 - 1 - (31 - j) = j by omega] at h1
        rcases bitN_01 n j with h2 | h2
        · exact h2
        · rw [h2] at h1; simp at h1)
      simpa using this
    · intro e j hj
      have hj2 := List.mem_range.1 hj
      unfold badAt
      rw [hneg _ (by omega), hl]
      by_cases c : 20 ≤ j
      · have := zero_mod n 12 (32 - 1 - j) (by omega) (by simpa using e)
        rw [this]; simp
      · simp [c]
  have hd : fitsD n (decide (4 ≤ 5)) (formP 4) = decide (-2147483648 ≤ n ∧ n ≤ 2147483647 ∧ n % 4096 = 0) := by
    unfold fitsD
    rw [hb, hl, show (decide (4 ≤ 5)) = true from rfl]
    simp only [if_true]
    rw [← Bool.decide_and, decide_eq_decide]
    simp only [show (32 - 1 : Nat) = 31 from rfl, show (2 : Int) ^ 31 = 2147483648 from rfl]
    omega
  rw [hd] at h
  constructor
  · intro e
    rw [beq_iff_eq.2 e] at h
    exact of_decide_eq_true h.symm
  · intro e
    rw [decide_eq_true e] at h
    exact beq_iff_eq.1 h
def lowZ (n : Int) : Int := (n + 2048) % 4096 - 2048
theorem lowZ_bd (n : Int) : -2048 ≤ lowZ n ∧ lowZ n ≤ 2047 := by unfold lowZ; omega
theorem lowZ_mod (n : Int) : (n - lowZ n) % 4096 = 0 := by unfold lowZ; omega
theorem lowZ_self (n : Int) : lowZ n = n ↔ -2048 ≤ n ∧ n ≤ 2047 := by unfold lowZ; omega
theorem low_wrap (n : Int) : wrap64 (n * 4503599627370496) / 4503599627370496 = lowZ n := by
  have e : (n * 4503599627370496 + 9223372036854775808) % 18446744073709551616 = 4503599627370496 * ((n + 2048) % 4096) := by
    rw [show n * 4503599627370496 + 9223372036854775808 = 4503599627370496 * (n + 2048) by omega, show (18446744073709551616 : Int) = 4503599627370496 * 4096 from rfl, Int.mul_emod_mul_of_pos _ _ (by omega)]
  unfold wrap64 lowZ
  rw [e]
  omega
def ctzI (m : Int) : Nat := ctz 64 (m % 18446744073709551616).toNat
theorem ctzI_spec (m : Int) (h0 : m ≠ 0) (h1 : -9223372036854775808 ≤ m) (h2 : m ≤ 9223372036854775807) : ctzI m < 64 ∧ ∃ q : Int, m = 2 ^ ctzI m * (2 * q + 1) := by
  have hx : 0 < (m % 18446744073709551616).toNat := by omega
  have hx2 : (m % 18446744073709551616).toNat < 2 ^ 64 := by
    have : (2 : Nat) ^ 64 = 18446744073709551616 := by decide
    omega
  obtain ⟨q, hq, hlt⟩ := ctzFrom_spec 64 _ hx hx2
  have e : ctzI m = ctzFrom 64 (m % 18446744073709551616).toNat := by unfold ctzI ctz; rw [if_neg (by omega)]
  rw [e]
  generalize ctzFrom 64 (m % 18446744073709551616).toNat = z at *
  refine ⟨hlt, ?_⟩
  have hc : m % 18446744073709551616 = 2 ^ z * (2 * (q : Int) + 1) := by
    have : ((m % 18446744073709551616).toNat : Int) = ((2 ^ z * (2 * q + 1) : Nat) : Int) := by rw [← hq]
    rw [Int.toNat_of_nonneg (by omega)] at this
    rw [this]; simp
  have hm : m = 18446744073709551616 * (m / 18446744073709551616) + m % 18446744073709551616 := (Int.mul_ediv_add_emod m _).symm
  have hp : (18446744073709551616 : Int) = 2 ^ z * (2 * 2 ^ (63 - z)) := by
    rw [← Int.mul_assoc, Int.mul_comm (2 ^ z) 2, Int.mul_assoc, ← Int.pow_add, show z + (63 - z) = 63 by omega]; decide
  refine ⟨2 ^ (63 - z) * (m / 18446744073709551616) + q, ?_⟩
  rw [hc] at hm
  calc m = 18446744073709551616 * (m / 18446744073709551616) + 2 ^ z * (2 * (q : Int) + 1) := hm
    _ = (2 ^ z * (2 * 2 ^ (63 - z))) * (m / 18446744073709551616) + 2 ^ z * (2 * (q : Int) + 1) := by rw [← hp]
    _ = 2 ^ z * (2 * (2 ^ (63 - z) * (m / 18446744073709551616) + q) + 1) := by
      rw [Int.mul_assoc, ← Int.mul_add]
      congr 1
      rw [Int.mul_add, ← Int.mul_assoc, Int.add_assoc]
theorem ctzI_12 (m : Int) (h0 : m ≠ 0) (h1 : -9223372036854775808 ≤ m) (h2 : m ≤ 9223372036854775807) (hm : m % 4096 = 0) : 12 ≤ ctzI m := by
  obtain ⟨hlt, q, hq⟩ := ctzI_spec m h0 h1 h2
  generalize ctzI m = z at *
  rcases Nat.lt_or_ge z 12 with h | h
  · exfalso
    have hp : (4096 : Int) = 2 ^ z * (2 * 2 ^ (11 - z)) := by
      rw [← Int.mul_assoc, Int.mul_comm (2 ^ z) 2, Int.mul_assoc, ← Int.pow_add, show z + (11 - z) = 11 by omega]; decide
    rw [hp, hq, Int.mul_emod_mul_of_pos _ _ (two_pow_pos z)] at hm
    have hz : (2 : Int) ^ z ≠ 0 := by have := two_pow_pos z; omega
    have h3 := (Int.mul_eq_zero.1 hm).resolve_left hz
    have : (2 * q + 1) % (2 * 2 ^ (11 - z)) % 2 = (2 * q + 1) % 2 := Int.emod_emod_of_dvd _ ⟨_, rfl⟩
    rw [h3] at this
    omega
  · exact h
def nextL (n : Int) : Int := wrap64 (n - lowZ n) / 2 ^ ctzI (wrap64 (n - lowZ n))
def bF : Nat → Int
  | 0 => 524288
  | f + 1 => 4096 * bF f
theorem bF_pos (f : Nat) : 524288 ≤ bF f := by
  induction f with
  | zero => decide
  | succ f ih => show 524288 ≤ 4096 * bF f; omega
theorem bF_even (f : Nat) : bF f % 2 = 0 := by
  cases f with
  | zero => decide
  | succ f => show (4096 * bF f) % 2 = 0; omega
theorem high_ne {n : Int} (h : ¬ (-2048 ≤ n ∧ n ≤ 2047)) (h1 : -9223372036854775808 ≤ n) (h2 : n ≤ 9223372036854775807) : wrap64 (n - lowZ n) ≠ 0 ∧ wrap64 (n - lowZ n) % 4096 = 0 ∧ (wrap64 (n - lowZ n) = n - lowZ n ∨ n - lowZ n = 9223372036854775808) := by
  have a := lowZ_bd n
  have b := lowZ_mod n
  have c := lowZ_self n
  unfold wrap64
  omega
theorem wrap64_in (x : Int) : -9223372036854775808 ≤ wrap64 x ∧ wrap64 x ≤ 9223372036854775807 := by unfold wrap64; omega
theorem next_in {f : Nat} {n : Int} (hf : 1 ≤ f) (h : ¬ (-2048 ≤ n ∧ n ≤ 2047)) (h1 : -9223372036854775808 ≤ n) (h2 : n ≤ 9223372036854775807) (hb : -bF (f + 1) ≤ n ∧ n < bF (f + 1)) :
    -bF f ≤ nextL n ∧ nextL n < bF f ∧ (-9223372036854775808 ≤ nextL n ∧ nextL n ≤ 9223372036854775807) := by
  obtain ⟨e1, e2, e3⟩ := high_ne h h1 h2
  have a := lowZ_bd n
  have b := lowZ_mod n
  have wi := wrap64_in (n - lowZ n)
  have hm : -bF (f + 1) ≤ wrap64 (n - lowZ n) ∧ wrap64 (n - lowZ n) ≤ bF (f + 1) := by
    have e : bF (f + 1) = 4096 * bF f := rfl
    rw [e] at hb ⊢
    rcases e3 with e3 | e3
    · omega
    · have : wrap64 (n - lowZ n) = -9223372036854775808 := by rw [e3]; decide +kernel
      omega
  obtain ⟨z1, q, z2⟩ := ctzI_spec _ e1 wi.1 wi.2
  have z3 := ctzI_12 _ e1 wi.1 wi.2 e2
  unfold nextL
  generalize wrap64 (n - lowZ n) = m at *
  generalize ctzI m = z at *
  have hz := two_pow_pos z
  have hd : m / 2 ^ z = 2 * q + 1 := by rw [z2]; exact Int.mul_ediv_cancel_left _ (by omega)
  rw [hd]
  have hp : (2 : Int) ^ z = 4096 * 2 ^ (z - 12) := by rw [show (4096 : Int) = 2 ^ 12 from rfl, ← Int.pow_add, show 12 + (z - 12) = z by omega]
  have hz2 := two_pow_pos (z - 12)
  have e : bF (f + 1) = 4096 * bF f := rfl
  have ev := bF_even f
  have bp := bF_pos f
  have hmul : m = 4096 * (2 ^ (z - 12) * (2 * q + 1)) := by rw [z2, hp, Int.mul_assoc]
  have hr : -bF f ≤ 2 ^ (z - 12) * (2 * q + 1) ∧ 2 ^ (z - 12) * (2 * q + 1) ≤ bF f := by rw [e, hmul] at hm; omega
  have hq : (0 ≤ q → 2 * q + 1 ≤ 2 ^ (z - 12) * (2 * q + 1)) ∧ (q < 0 → 2 ^ (z - 12) * (2 * q + 1) ≤ 2 * q + 1) := by
    constructor
    · intro h; have := Int.mul_le_mul_of_nonneg_right (show (1 : Int) ≤ 2 ^ (z - 12) by omega) (show 0 ≤ 2 * q + 1 by omega); omega
    · intro h; have := Int.mul_le_mul_of_nonpos_right (show (1 : Int) ≤ 2 ^ (z - 12) by omega) (show 2 * q + 1 ≤ 0 by omega); omega
  omega
def addI (rd a n : Int) : Ins := ⟨22, rd, a, 0, n, 0, false, false⟩
def addiwI (rd a n : Int) : Ins := ⟨31, rd, a, 0, n, 0, false, false⟩
def luiI (rd n : Int) : Ins := ⟨1, rd, 0, 0, n, 0, false, false⟩
def slliI (rd n : Int) : Ins := ⟨28, rd, rd, 0, n, 0, false, false⟩
def s32 (m : Int) : Int := RowKit.wrap32 m
def moreI (i : Ins) : List Ins := if i.imm = 0 then [] else [i]
def liF (rd : Int) : Nat → Int → List Ins
  | 0, _ => []
  | f + 1, n =>
    if -2048 ≤ n ∧ n ≤ 2047 then [addI rd 0 n]
    else if -2147483648 ≤ n ∧ n ≤ 2147483647 then luiI rd (s32 (n - lowZ n)) :: moreI (addiwI rd rd (lowZ n))
    else liF rd f (nextL n) ++ (slliI rd (ctzI (wrap64 (n - lowZ n))) :: moreI (addI rd rd (lowZ n)))
theorem liF_len (rd : Int) : ∀ f n, (liF rd f n).length ≤ 2 * f := by
  intro f
  induction f with
  | zero => intro n; simp [liF]
  | succ f ih =>
    intro n
    have hm : ∀ i, (moreI i).length ≤ 1 := fun i => by unfold moreI; split <;> simp
    unfold liF
    split
    · simp; omega
    · split
      · have := hm (addiwI rd rd (lowZ n)); simp; omega
      · have := ih (nextL n)
        have := hm (addI rd rd (lowZ n)); simp; omega
theorem bF4 : bF 4 = 147573952589676412928 := by decide
theorem bF1 : bF 1 = 2147483648 := by decide
end Go.Proofs.YtakdhdaoklcidaaGreatDoor

namespace Go.Proofs.YtakdhdaoklcidaaGreatDoor
open Go.Shelf
set_option linter.unusedVariables false
set_option maxRecDepth 100000
def tzLays_ren : Go.Shelf.Ren := ⟨fun | 29 => 41 | n => n, fun | 22 => 36 | 3 => 3 | 4 => 4 | 25 => 75 | 54 => 125 | 0 => 0 | 5 => 5 | n => n, fun | 1 => 1 | n => n⟩
theorem tzLays : Go.Proofs.Lays7.n29 Tryz.prog tzLays_ren where
  mixed := by kernel_rfl
  f29 := Tryz.func41.trans (congrArg some (by kernel_rfl))
  t0 := Tryz.underlying0
  a0 := Tryz.isAgg0
  z0 := Tryz.sizeOf0
  v0 := Tryz.zeroValue0
  i0 := by kernel_rfl
  t3 := Tryz.underlying3
  a3 := Tryz.isAgg3
  z3 := Tryz.sizeOf3
  v3 := Tryz.zeroValue3
  i3 := by kernel_rfl
  t4 := Tryz.underlying4
  a4 := Tryz.isAgg4
  z4 := Tryz.sizeOf4
  v4 := Tryz.zeroValue4
  i4 := by kernel_rfl
  t5 := Tryz.underlying5
  a5 := Tryz.isAgg5
  z5 := Tryz.sizeOf5
  v5 := Tryz.zeroValue5
  i5 := by kernel_rfl
  t22 := Tryz.underlying36
  a22 := Tryz.isAgg36
  z22 := Tryz.sizeOf36
  v22 := Tryz.zeroValue36
  i22 := by kernel_rfl
  t25 := Tryz.underlying75
  a25 := Tryz.isAgg75
  z25 := Tryz.sizeOf75
  v25 := Tryz.zeroValue75
  i25 := by kernel_rfl
  t54 := Tryz.underlying125
  a54 := Tryz.isAgg125
  z54 := Tryz.sizeOf125
  g1 := by kernel_rfl
end Go.Proofs.YtakdhdaoklcidaaGreatDoor

namespace Go.Proofs.YtakdhdaoklcidaaGreatDoor
open Go.RowKit
set_option linter.unusedVariables false
set_option maxRecDepth 100000
def varr (n : Nat) (f : Nat → Value) : Array Value := ((List.range n).map f).toArray
def barr (n : Nat) (f : Nat → Bool) : Array Value := varr n fun i => .bool (f i)
theorem varr_get (n : Nat) (f : Nat → Value) (j : Nat) (h : j < n) : (varr n f)[j]? = some (f j) := by unfold varr; simp [h]
theorem varr_congr {n : Nat} {f g : Nat → Value} (h : ∀ i, i < n → f i = g i) : varr n f = varr n g := by
  unfold varr; congr 1; exact List.map_congr_left fun i hi => h i (List.mem_range.1 hi)
theorem varr_set (n : Nat) (f : Nat → Value) (k : Nat) (v : Value) : (varr n f).setIfInBounds k v = varr n fun j => if j = k then v else f j := by
  apply Array.ext
  · simp [varr]
  · intro i h1 h2
    simp [varr]
    by_cases e : k = i
    · simp [e]
    · simp [e, show ¬ i = k from fun h => e h.symm]
theorem barr_set (n : Nat) (f : Nat → Bool) (k : Nat) (b : Bool) : (barr n f).setIfInBounds k (.bool b) = barr n fun j => if j = k then b else f j := by
  unfold barr; rw [varr_set]
  exact varr_congr fun i _ => by by_cases e : i = k <;> simp [e]
def HoldsB (w : World) (g : Nat) (t : TypeId) (n : Nat) (f : Nat → Bool) : Prop := w.heap[g]? = some (.cells (barr n f) t (0, 0))
theorem HoldsB.cell {w : World} {g : Nat} {t : TypeId} {n : Nat} {f : Nat → Bool} (h : HoldsB w g t n f) {j : Nat} (hj : j < n) : w.cell? ⟨g, j, none⟩ = some (.bool (f j)) := by
  rw [cell_of_row w g j _ t _ h]; exact varr_get n _ j hj
theorem HoldsB.frozen {w : World} {g : Nat} {t : TypeId} {n : Nat} {f : Nat → Bool} (h : HoldsB w g t n f) (j : Nat) : w.frozen? ⟨g, j, none⟩ = false := frozen_of_row w g j _ t h
theorem HoldsB.set {w : World} {g : Nat} {t : TypeId} {n : Nat} {f : Nat → Bool} (h : HoldsB w g t n f) (k : Nat) (b : Bool) : HoldsB (w.setCell ⟨g, k, none⟩ (.bool b)) g t n fun j => if j = k then b else f j := by
  unfold HoldsB; rw [heap_setCell_same w g k _ t _ h, barr_set]
theorem HoldsB.below {w w' : World} {B g : Nat} {t : TypeId} {n : Nat} {f : Nat → Bool} (h : HoldsB w g t n f) (hb : Below B w w') (hg : g < B) : HoldsB w' g t n f := by
  unfold HoldsB at *; rw [hb.block g hg]; exact h
theorem HoldsB.drewN {w : World} {g : Nat} {t : TypeId} {n : Nat} {f : Nat → Bool} (h : HoldsB w g t n f) (k : Nat) : HoldsB (w.drewN k) g t n f := h
theorem HoldsB.lt {w : World} {g : Nat} {t : TypeId} {n : Nat} {f : Nat → Bool} (h : HoldsB w g t n f) : g < w.heap.size := (Array.getElem?_eq_some_iff.1 h).1
theorem HoldsB.setRow {w : World} {g : Nat} {t : TypeId} {n : Nat} {f : Nat → Bool} (h : HoldsB w g t n f) (k : Nat → Bool) : HoldsB (w.setRow g (barr n k)) g t n k := setRow_heap w g _ _ t _ h
theorem HoldsB.alloc {w : World} {g : Nat} {t : TypeId} {n : Nat} {f : Nat → Bool} (h : HoldsB w g t n f) (o : Obj) : HoldsB (w.alloc o) g t n f := (Below.heap_alloc w o g h.lt).trans h
theorem HoldsB.setRow_other {w : World} {g g' : Nat} {t : TypeId} {n : Nat} {f : Nat → Bool} (h : HoldsB w g t n f) (hg : g ≠ g') (cs : Array Value) : HoldsB (w.setRow g' cs) g t n f := (Go.setRow_other w g' g cs hg).trans h
theorem HoldsB.laid (w : World) (t : TypeId) (n : Nat) (z f : Nat → Bool) : HoldsB ((w.alloc (.cells (barr n z) t)).setRow w.heap.size (barr n f)) w.heap.size t n f :=
  HoldsB.setRow (f := z) (heap_alloc_new w _) f
theorem below_setRow {B : Nat} {a w : World} (h : Below B a w) {g : Nat} (hg : B ≤ g) (cs : Array Value) : Below B a (w.setRow g cs) :=
  h.trans ⟨rfl, rfl, rfl, by simp, fun k hk => setRow_other w g k cs (by omega)⟩
end Go.Proofs.YtakdhdaoklcidaaGreatDoor

namespace Go.Proofs.YtakdhdaoklcidaaGreatDoor
open Go.RowKit
set_option linter.unusedVariables false
set_option maxRecDepth 100000
theorem own_slice' {w : World} {B : Nat} {e : TypeId} {s : Nat} {v : Value} {n : Nat} {xs : List Value} (h : w.ownsRow B e s v n xs) : ∃ A C, v = .slice A n C := by
  rcases h.2 with ⟨hv, h0⟩ | ⟨g, cap, cur, hv, _⟩
  · exact ⟨none, 0, by rw [hv, h0]⟩
  · exact ⟨_, cap, hv⟩
end Go.Proofs.YtakdhdaoklcidaaGreatDoor

namespace Go.Proofs.YtakdhdaoklcidaaGreatDoor
open Go.RowKit Go.Lib
set_option linter.unusedVariables false
set_option maxRecDepth 100000
theorem lowPart_any (n : Int) (h0 : -9223372036854775808 ≤ n) (h1 : n ≤ 9223372036854775807) (w : World) : Calls Tryz.prog 40 #[.int .i64 n] w fun e w' => e = .returned (.int .i64 (lowZ n)) ∧ w = w' := by
  have e := low_wrap n
  have HE := Lib.hid e
  clear e
  go_enter Tryz.func40, Tryz.ntmps40
  go_wp2
  go_ret
  exact ⟨congrArg (fun x => Ending.returned (.int .i64 x)) HE.out, rfl⟩
theorem tzP (m : Int) (w : World) (he : Env w) : Calls Tryz.prog 41 #[.int .u64 (IntKind.u64.wrap m)] w fun e w' => e = .returned (.int .i64 (ctzI m)) ∧ w = w' := by
  rw [show IntKind.u64.wrap m = m % 18446744073709551616 by simp [IntKind.wrap, IntKind.bits, IntKind.signed]]
  have hx : (((m % 18446744073709551616).toNat : Nat) : Int) = m % 18446744073709551616 := by omega
  have h := Any7.bits_TrailingZeros64 tzLays (m % 18446744073709551616).toNat (by omega) w (fun _ j hj => by
    obtain ⟨k, h1, h2⟩ := he.bru j (by simpa [Lib.deBruijn64tab] using hj)
    rw [show (Lib.deBruijn64tab.getD j 0) = k by rw [h2]; rfl]
    exact h1)
  rw [hx] at h
  refine h.mono ?_
  rintro e w' ⟨rfl, rfl⟩
  exact ⟨rfl, rfl⟩
def insC (i : Ins) : List Value := [.int .i64 i.op, .int .i64 i.rd, .int .i64 i.a, .int .i64 i.b, .int .i64 i.imm, .int .i64 i.csr, .bool i.aq, .bool i.rl]
def insCs (l : List Ins) : List Value := l.flatMap insC
theorem insCs_app (a b : List Ins) : insCs (a ++ b) = insCs a ++ insCs b := by unfold insCs; exact List.flatMap_append
abbrev OwnI (w : World) (B : Nat) (v : Value) (l : List Ins) : Prop := w.ownsRow B 23 8 v l.length (insCs l)
theorem info_insP : (Tryz.prog.info? 23).map (fun i => (i.zero, i.size, i.bytes)) = some (some (.agg #[.int .i64 0, .int .i64 0, .int .i64 0, .int .i64 0, .int .i64 0, .int .i64 0, .bool false, .bool false]), 8, 56) := by kernel_rfl
theorem run_pushIns (w : World) (B : Nat) (v : Value) (l : List Ins) (i : Ins) (h : OwnI w B v l) (hl : l.length ≤ 70000) (hB : B ≤ w.heap.size) (g : Nat) (c : Nat) (hc : w.heap[g]? = some (.cells (insC i).toArray 23 (0, 0))) (ty : TypeId) :
    ∃ v' w', (Builtin.append_ #[33, 33] ty #[v, .slice (some ⟨g, 0, none⟩) 1 c]).run Tryz.prog w = .ok v' w' ∧ OwnI w' B v' (l ++ [i]) ∧ Only (fun k => v.ownBlock = some k) w w' := by
  obtain ⟨i0, hi, hz0, hz1, hz2⟩ := info_parts info_insP
  have hn : ∀ j u, (insC i)[j]? = some u → w.cell? ((⟨g, 0, none⟩ : Addr).add j) = some u := by
    intro j u hj
    rw [Lib.add_plain, Nat.zero_add, Lib.cell_of_heap hc]
    simpa using hj
  have h1 : ∀ u ∈ insC i, u.oneCell' = true := by intro u hu; unfold insC at hu; simp at hu; rcases hu with rfl | rfl | rfl | rfl | rfl | rfl | rfl | rfl <;> rfl
  obtain ⟨v', w', hr, h2, h3, _, h5⟩ := run_append_own_at (P := Tryz.prog) w B 33 ty 23 i0 _ 8 56 Tryz.underlying33 hi hz0 hz1 hz2 rfl (by decide) v l.length _ h ⟨g, 0, none⟩ 1 c (insC i) rfl hn h1 (by unfold maxLen; omega) (by omega) hB
  refine ⟨v', w', hr, ?_, (Only.refl _ w).grown h3 (fun k hk => .inl hk)⟩
  unfold OwnI
  rw [insCs_app, List.length_append]
  simpa [insCs] using h2
theorem ownI_one (w : World) (B g : Nat) (i : Ins) (hB : B ≤ g) (hc : w.heap[g]? = some (.cells (insC i).toArray 23 (0, 0))) : OwnI w B (.slice (some ⟨g, 0, none⟩) 1 1) [i] :=
  ⟨rfl, .inr ⟨g, 1, _, rfl, hB, hc, Nat.le_refl _, by decide, rfl, by simp [insCs, insC]⟩⟩
theorem ownI_keep {w w' : World} {B : Nat} {v : Value} {l : List Ins} (h : OwnI w B v l) {S : Nat → Prop} (o : Only S w w') (hS : ∀ g, v.ownBlock = some g → ¬ S g) : OwnI w' B v l := by
  refine ⟨h.1, ?_⟩
  rcases h.2 with hn | ⟨g, cap, cur, rfl, hb, hg, rest⟩
  · exact .inl hn
  · exact .inr ⟨g, cap, cur, rfl, hb, o.keeps (hS g rfl) hg, rest⟩
theorem ownI_slice {w : World} {B : Nat} {v : Value} {l : List Ins} (h : OwnI w B v l) : ∃ A C, v = .slice A l.length C := own_slice' h
def LiEnd (w : World) (l : List Ins) (e : Ending) (w' : World) : Prop := ∃ v, e = .returned v ∧ OwnI w' w.heap.size v l ∧ Below w.heap.size w w'
theorem li_small (rd n : Int) (hr : 0 ≤ rd ∧ rd ≤ 31) (h : -2048 ≤ n ∧ n ≤ 2047) (w : World) (he : Env w) : Calls Tryz.prog 16 #[.int .i64 rd, .int .i64 n] w (LiEnd w [addI rd 0 n]) := by
  have hF : Calls Tryz.prog 39 #[.int .i64 1, .int .i64 n] w fun e w' => e = .returned (.bool true) ∧ Below w.heap.size w w' := progFits_is 1 (by decide) n true (beq_iff_eq.2 ((fit_I n).2 h)) w
  have HF := Lib.hid hF
  obtain ⟨r0, r1⟩ := hr
  obtain ⟨n0, n1⟩ := h
  have hd1 : decide (rd < 0) = false := by simpa using r0
  have hd2 : decide (32 ≤ rd) = false := by simp; omega
  clear hF he
  go_enter Tryz.func16, Tryz.ntmps16
  go_wp2_with (fail)
  (with_reducible refine HF.out.mono ?_)
  rintro e w1 ⟨rfl, hb1⟩
  go_wp2
  go_ret
  exact ⟨_, rfl, ownI_one _ _ w1.heap.size (addI rd 0 n) hb1.size (heap_alloc_new _ _), hb1.alloc hb1.size _⟩
set_option maxHeartbeats 1000000 in
theorem li_mid (rd n : Int) (hr : 0 ≤ rd ∧ rd ≤ 31) (h : ¬ (-2048 ≤ n ∧ n ≤ 2047)) (h2 : -2147483648 ≤ n ∧ n ≤ 2147483647) (w : World) (he : Env w) : Calls Tryz.prog 16 #[.int .i64 rd, .int .i64 n] w (LiEnd w (luiI rd (s32 (n - lowZ n)) :: moreI (addiwI rd rd (lowZ n)))) := by
  have hF : Calls Tryz.prog 39 #[.int .i64 1, .int .i64 n] w fun e w' => e = .returned (.bool false) ∧ Below w.heap.size w w' := progFits_is 1 (by decide) n false (beq_eq_false_iff_ne.2 (fun e => h ((fit_I n).1 e))) w
  have HF := Lib.hid hF
  have HL := Lib.hid (fun w => lowPart_any n (by omega) (by omega) w)
  obtain ⟨lo0, lo1⟩ := lowZ_bd n
  obtain ⟨r0, r1⟩ := hr
  obtain ⟨n0, n1⟩ := h2
  have hd1 : decide (rd < 0) = false := by simpa using r0
  have hd2 : decide (32 ≤ rd) = false := by simp; omega
  clear hF he h
  generalize lowZ n = lo at *
  by_cases hlo : lo = 0
  · subst hlo
    rw [Int.sub_zero, show s32 n = n by unfold s32 RowKit.wrap32; omega]
    go_enter Tryz.func16, Tryz.ntmps16
    go_wp2_with (fail)
    (with_reducible refine HF.out.mono ?_)
    rintro e w1 ⟨rfl, hb1⟩
    go_wp2_with (fail)
    (with_reducible refine (HL.out _).mono ?_)
    rintro e wu ⟨rfl, rfl⟩
    go_wp2
    go_ret
    refine ⟨_, rfl, ownI_one _ _ w1.heap.size (luiI rd n) hb1.size (heap_alloc_new _ _), hb1.alloc hb1.size _⟩
  · have hq : (lo != 0) = true := by simpa using hlo
    have hws : RowKit.wrap64 (RowKit.wrap32 (n - lo)) = s32 (n - lo) := by unfold s32 RowKit.wrap64 RowKit.wrap32; omega
    go_enter Tryz.func16, Tryz.ntmps16
    go_wp2_with (fail)
    (with_reducible refine HF.out.mono ?_)
    rintro e w1 ⟨rfl, hb1⟩
    go_wp2_with (fail)
    (with_reducible refine (HL.out _).mono ?_)
    rintro e wu ⟨rfl, rfl⟩
    go_wp2_with (at_builtin; refine Hid.out ?_)
    have hI2 : ((w1.alloc (.cells (insC (luiI rd (s32 (n - lo)))).toArray 23)).alloc (.cells (insC (addiwI rd rd lo)).toArray 23)).heap[w1.heap.size + 1]? = some (.cells (insC (addiwI rd rd lo)).toArray 23 (0, 0)) := by
      have := heap_alloc_new (w1.alloc (.cells (insC (luiI rd (s32 (n - lo)))).toArray 23)) (.cells (insC (addiwI rd rd lo)).toArray 23)
      rw [World.size_alloc] at this; exact this
    have hI1 : ((w1.alloc (.cells (insC (luiI rd (s32 (n - lo)))).toArray 23)).alloc (.cells (insC (addiwI rd rd lo)).toArray 23)).heap[w1.heap.size]? = some (.cells (insC (luiI rd (s32 (n - lo)))).toArray 23 (0, 0)) := by
      rw [Lib.alloc_old _ _ _ (by simp)]; exact heap_alloc_new _ _
    have hBW : Below w.heap.size w ((w1.alloc (.cells (insC (luiI rd (s32 (n - lo)))).toArray 23)).alloc (.cells (insC (addiwI rd rd lo)).toArray 23)) := (hb1.alloc hb1.size _).alloc (by have := hb1.size; simp; omega) _
    obtain ⟨v', w', hr, ho, hon⟩ := run_pushIns _ w.heap.size _ _ (addiwI rd rd lo) (ownI_one _ w.heap.size w1.heap.size _ hb1.size hI1) (by simp) hBW.size (w1.heap.size + 1) 1 hI2 33
    obtain ⟨A, C, rfl⟩ := ownI_slice ho
    have HRUN := Lib.hid hr
    have HOW := Lib.hid ho
    have HBW := Lib.hid (Below.thenOnly hBW hon (by intro k hk; simp [Value.ownBlock] at hk; have := hb1.size; omega) hBW.size)
    clear hI2 hI1 hBW hr ho hon
    refine Lib.hid ?_
    refine wpList_append_run rfl _ _ _ rfl (.slice (some ⟨w1.heap.size, 0, none⟩) 1 1) (.slice (some ⟨w1.heap.size + 1, 0, none⟩) 1 1) _ w' rfl rfl HRUN.out ?_
    go_wp2
    go_ret
    exact ⟨_, rfl, by simpa [moreI, addiwI, hlo] using HOW.out, HBW.out⟩
end Go.Proofs.YtakdhdaoklcidaaGreatDoor

namespace Go.Proofs.YtakdhdaoklcidaaGreatDoor
open Go.RowKit Go.Lib
set_option linter.unusedVariables false
set_option maxRecDepth 100000
theorem ownI_base {w : World} {B B' : Nat} {v : Value} {l : List Ins} (h : OwnI w B v l) (hB : B' ≤ B) : OwnI w B' v l := by
  refine ⟨h.1, ?_⟩
  rcases h.2 with hn | ⟨g, cap, cur, rfl, hb, rest⟩
  · exact .inl hn
  · exact .inr ⟨g, cap, cur, rfl, by omega, rest⟩
theorem ownI_lt {w : World} {B : Nat} {v : Value} {l : List Ins} (h : OwnI w B v l) : ∀ g, v.ownBlock = some g → B ≤ g ∧ g < w.heap.size := by
  intro g hg
  rcases h.2 with ⟨rfl, _⟩ | ⟨g', cap, cur, rfl, hb, hc, _⟩
  · simp [Value.ownBlock] at hg
  · simp [Value.ownBlock] at hg
    subst hg
    exact ⟨hb, (Array.getElem?_eq_some_iff.1 hc).1⟩
theorem ownI_alloc {w : World} {B : Nat} {v : Value} {l : List Ins} (h : OwnI w B v l) (o : Obj) : OwnI (w.alloc o) B v l :=
  ownI_keep (S := fun k => w.heap.size ≤ k) h ((Only.refl _ w).alloc o) (fun g hg hs => by have := (ownI_lt h g hg).2; omega)
theorem push_new (w0 w : World) (v : Value) (l : List Ins) (i : Ins) (n : Nat) (hn : l.length = n) (h : OwnI w w0.heap.size v l) (hl : l.length ≤ 70000) (hb : Below w0.heap.size w0 w) (ty : TypeId) :
    ∃ A C w', (Builtin.append_ #[33, 33] ty #[v, .slice (some ⟨w.heap.size, 0, none⟩) 1 1]).run Tryz.prog (w.alloc (.cells (insC i).toArray 23)) = .ok (.slice A (n + 1) C) w' ∧ OwnI w' w0.heap.size (.slice A (n + 1) C) (l ++ [i]) ∧ Below w0.heap.size w0 w' := by
  have hB := hb.alloc hb.size (.cells (insC i).toArray 23)
  obtain ⟨v', w', hr, ho, hon⟩ := run_pushIns _ w0.heap.size v l i (ownI_alloc h _) hl hB.size w.heap.size 1 (heap_alloc_new w (.cells (insC i).toArray 23)) ty
  obtain ⟨A, C, rfl⟩ := ownI_slice ho
  have e : (l ++ [i]).length = n + 1 := by simp [hn]
  rw [e] at hr
  have ho' : OwnI w' w0.heap.size (.slice A (n + 1) C) (l ++ [i]) := by rw [← e]; exact ho
  exact ⟨A, C, w', hr, ho', Below.thenOnly hB hon (fun k hk => (ownI_lt h k hk).1) hB.size⟩
set_option maxHeartbeats 2000000 in
theorem li_big (rd n : Int) (L : List Ins) (hL : L.length ≤ 1000) (hr : 0 ≤ rd ∧ rd ≤ 31) (h : ¬ (-2048 ≤ n ∧ n ≤ 2047)) (h2 : ¬ (-2147483648 ≤ n ∧ n ≤ 2147483647)) (n0 : -9223372036854775808 ≤ n) (n1 : n ≤ 9223372036854775807)
    (hih : ∀ w, Env w → Calls Tryz.prog 16 #[.int .i64 rd, .int .i64 (nextL n)] w (LiEnd w L)) (w : World) (he : Env w) :
    Calls Tryz.prog 16 #[.int .i64 rd, .int .i64 n] w (LiEnd w (L ++ (slliI rd (ctzI (wrap64 (n - lowZ n))) :: moreI (addI rd rd (lowZ n))))) := by
  have hF : Calls Tryz.prog 39 #[.int .i64 1, .int .i64 n] w fun e w' => e = .returned (.bool false) ∧ Below w.heap.size w w' := progFits_is 1 (by decide) n false (beq_eq_false_iff_ne.2 (fun e => h ((fit_I n).1 e))) w
  have HF := Lib.hid hF
  have HL := Lib.hid (fun w => lowPart_any n (by omega) (by omega) w)
  have HTZ := Lib.hid (fun w he => tzP (wrap64 (n - lowZ n)) w he)
  have hne := high_ne h n0 n1
  have hwi := wrap64_in (n - lowZ n)
  have hcz := (ctzI_spec _ hne.1 hwi.1 hwi.2).1
  obtain ⟨lo0, lo1⟩ := lowZ_bd n
  obtain ⟨r0, r1⟩ := hr
  have hd1 : decide (rd < 0) = false := by simpa using r0
  have hd2 : decide (32 ≤ rd) = false := by simp; omega
  have hnx : nextL n = wrap64 (n - lowZ n) / 2 ^ ctzI (wrap64 (n - lowZ n)) := rfl
  rw [hnx] at hih
  have HIH := Lib.hid hih
  have HE := Lib.hid he
  clear hF he h hih hne hnx
  generalize hlw : lowZ n = lo at *
  clear hlw
  generalize hm : wrap64 (n - lo) = m at *
  obtain ⟨m0, m1⟩ := hwi
  generalize ctzI m = z at *
  generalize hnn : m / 2 ^ z = nn at *
  have hor : n < -2147483648 ∨ 2147483647 < n := by omega
  clear h2
  rcases hor with hor | hor
  all_goals
    go_enter Tryz.func16, Tryz.ntmps16
    go_wp2_with (fail)
    (with_reducible refine HF.out.mono ?_)
    rintro e w1 ⟨rfl, hb1⟩
    have HB1 := Lib.hid hb1
    clear hb1
    go_wp2_with (fail)
    (with_reducible refine (HL.out _).mono ?_)
    rintro e wu ⟨rfl, rfl⟩
    go_wp2_with (fail)
    (with_reducible refine (HTZ.out _ (HE.out.below HB1.out)).mono ?_)
    rintro e wu ⟨rfl, rfl⟩
    go_wp2_with (fail)
    (with_reducible refine (HIH.out _ (HE.out.below HB1.out)).mono ?_)
    rintro e w2 ⟨v, rfl, ho2, hb2⟩
    have HB2 := Lib.hid (HB1.out.trans (hb2.mono HB1.out.size))
    obtain ⟨A0, C0, rfl⟩ := ownI_slice ho2
    obtain ⟨A, C, w3, hr, ho3, hb3⟩ := push_new w w2 _ L (slliI rd z) L.length rfl (ownI_base ho2 HB1.out.size) (by omega) HB2.out 33
    have HRUN := Lib.hid hr; have HO3 := Lib.hid ho3; have HB3 := Lib.hid hb3
    clear hr ho3 hb3 ho2 hb2
    by_cases hlo : lo = 0
    · subst hlo
      go_wp2_with (at_builtin; refine wpList_append_run rfl _ _ _ rfl (.slice A0 L.length C0) (.slice (some ⟨w2.heap.size, 0, none⟩) 1 1) (.slice A (L.length + 1) C) w3 rfl rfl HRUN.out ?_)
      go_ret
      exact ⟨_, rfl, by simpa [moreI, addI] using HO3.out, HB3.out⟩
    · have hq : (lo != 0) = true := by simpa using hlo
      obtain ⟨A4, C4, w4, hr4, ho4, hb4⟩ := push_new w w3 _ (L ++ [slliI rd z]) (addI rd rd lo) (L.length + 1) (by simp) HO3.out (by simp; omega) HB3.out 33
      have HRUN4 := Lib.hid hr4; have HO4 := Lib.hid ho4; have HB4 := Lib.hid hb4
      clear hr4 ho4 hb4
      go_wp2_with (at_builtin; first
        | (refine wpList_append_run rfl _ _ _ rfl (.slice A0 L.length C0) (.slice (some ⟨w2.heap.size, 0, none⟩) 1 1) (.slice A (L.length + 1) C) w3 rfl rfl HRUN.out ?_)
        | (refine wpList_append_run rfl _ _ _ rfl (.slice A (L.length + 1) C) (.slice (some ⟨w3.heap.size, 0, none⟩) 1 1) (.slice A4 (L.length + 1 + 1) C4) w4 rfl rfl HRUN4.out ?_))
      go_ret
      exact ⟨_, rfl, by simpa [moreI, addI, hlo] using HO4.out, HB4.out⟩
theorem li_gen (rd : Int) (hr : 0 ≤ rd ∧ rd ≤ 31) : ∀ f n, 1 ≤ f → f ≤ 4 → -9223372036854775808 ≤ n → n ≤ 9223372036854775807 → (-bF f ≤ n ∧ n < bF f) → ∀ w, Env w → Calls Tryz.prog 16 #[.int .i64 rd, .int .i64 n] w (LiEnd w (liF rd f n)) := by
  intro f
  induction f with
  | zero => intro n h; omega
  | succ f ih =>
    intro n h1 h4 n0 n1 hb w he
    unfold liF
    by_cases c1 : -2048 ≤ n ∧ n ≤ 2047
    · rw [if_pos c1]; exact li_small rd n hr c1 w he
    · rw [if_neg c1]
      by_cases c2 : -2147483648 ≤ n ∧ n ≤ 2147483647
      · rw [if_pos c2]; exact li_mid rd n hr c1 c2 w he
      · rw [if_neg c2]
        have hf : 1 ≤ f := by
          rcases Nat.eq_zero_or_pos f with h | h
          · subst h; rw [bF1] at hb; omega
          · exact h
        have hx := next_in hf c1 n0 n1 hb
        exact li_big rd n _ (by have := liF_len rd f (nextL n); omega) hr c1 c2 n0 n1 (ih (nextL n) hf (by omega) hx.2.2.1 hx.2.2.2 ⟨hx.1, hx.2.1⟩) w he
theorem li_any (rd n : Int) (hr : 0 ≤ rd ∧ rd ≤ 31) (n0 : -9223372036854775808 ≤ n) (n1 : n ≤ 9223372036854775807) (w : World) (he : Env w) : Calls Tryz.prog 16 #[.int .i64 rd, .int .i64 n] w (LiEnd w (liF rd 4 n)) :=
  li_gen rd hr 4 n (by decide) (by decide) n0 n1 (by rw [bF4]; omega) w he
theorem li_none (rd n : Int) (hr : ¬ (0 ≤ rd ∧ rd ≤ 31)) (w : World) : Calls Tryz.prog 16 #[.int .i64 rd, .int .i64 n] w fun e w' => e = .returned (.slice none 0 0) ∧ w = w' := by
  by_cases h : rd < 0
  · have hd : decide (rd < 0) = true := by simpa using h
    clear hr
    go_enter Tryz.func16, Tryz.ntmps16
    go_wp2
    go_ret
    exact ⟨rfl, rfl⟩
  · have hd : decide (rd < 0) = false := by simpa using h
    have h2 : 32 ≤ rd := by omega
    have hd2 : decide (32 ≤ rd) = true := by simpa using h2
    clear hr
    go_enter Tryz.func16, Tryz.ntmps16
    go_wp2
    go_ret
    exact ⟨rfl, rfl⟩
end Go.Proofs.YtakdhdaoklcidaaGreatDoor

namespace Go.Proofs.YtakdhdaoklcidaaGreatDoor
open Go.RowKit Go.Lib
set_option linter.unusedVariables false
set_option maxRecDepth 100000
def wordCs (l : List Int) : List Value := l.map fun x => Value.int .u32 x
abbrev OwnW (w : World) (B : Nat) (v : Value) (l : List Int) : Prop := w.ownsRow B 43 1 v l.length (wordCs l)
theorem info_u32 : (Tryz.prog.info? 43).map (fun i => (i.zero, i.size, i.bytes)) = some (some (.int .u32 0), 1, 4) := by kernel_rfl
theorem ownW_slice {w : World} {B : Nat} {v : Value} {l : List Int} (h : OwnW w B v l) : ∃ A C, v = .slice A l.length C := own_slice' h
theorem ownW_base {w : World} {B B' : Nat} {v : Value} {l : List Int} (h : OwnW w B v l) (hB : B' ≤ B) : OwnW w B' v l := by
  refine ⟨h.1, ?_⟩
  rcases h.2 with hn | ⟨g, cap, cur, rfl, hb, rest⟩
  · exact .inl hn
  · exact .inr ⟨g, cap, cur, rfl, by omega, rest⟩
theorem ownW_keep {w w' : World} {B : Nat} {v : Value} {l : List Int} (h : OwnW w B v l) {S : Nat → Prop} (o : Only S w w') (hS : ∀ g, v.ownBlock = some g → ¬ S g) : OwnW w' B v l := by
  refine ⟨h.1, ?_⟩
  rcases h.2 with hn | ⟨g, cap, cur, rfl, hb, hg, rest⟩
  · exact .inl hn
  · exact .inr ⟨g, cap, cur, rfl, hb, o.keeps (hS g rfl) hg, rest⟩
theorem ownW_lt {w : World} {B : Nat} {v : Value} {l : List Int} (h : OwnW w B v l) : ∀ g, v.ownBlock = some g → B ≤ g ∧ g < w.heap.size := by
  intro g hg
  rcases h.2 with ⟨rfl, _⟩ | ⟨g', cap, cur, rfl, hb, hc, _⟩
  · simp [Value.ownBlock] at hg
  · simp [Value.ownBlock] at hg
    subst hg
    exact ⟨hb, (Array.getElem?_eq_some_iff.1 hc).1⟩
theorem ownW_below {w w' : World} {B : Nat} {v : Value} {l : List Int} (h : OwnW w B v l) (hb : Below w.heap.size w w') : OwnW w' B v l :=
  ownW_keep (S := fun k => w.heap.size ≤ k) h (Only.of_below _ hb) (fun g hg hs => by have := (ownW_lt h g hg).2; omega)
theorem ownW_nil (w : World) (B : Nat) : OwnW w B (.slice none 0 0) [] := ⟨rfl, .inl ⟨rfl, rfl⟩⟩
theorem run_pourW (w : World) (B : Nat) (v : Value) (l m : List Int) (n : Nat) (hn : l.length = n) (h : OwnW w B v l) (hl : l.length + m.length ≤ 1000000) (hB : B ≤ w.heap.size) (g off c : Nat) (hc : ∀ j, j < m.length → w.cell? ⟨g, off + j, none⟩ = some (.int .u32 (m.getD j 0))) (ty : TypeId) :
    ∃ v' w', (Builtin.append_ #[37, 37] ty #[v, .slice (some ⟨g, off, none⟩) m.length c]).run Tryz.prog w = .ok v' w' ∧ OwnW w' B v' (l ++ m) ∧ Only (fun k => v.ownBlock = some k) w w' ∧ (∀ k, v'.ownBlock = some k → v.ownBlock = some k ∨ w.heap.size ≤ k) := by
  obtain ⟨i0, hi, hz0, hz1, hz2⟩ := info_parts info_u32
  have hnn : ∀ j u, (wordCs m)[j]? = some u → w.cell? ((⟨g, off, none⟩ : Addr).add j) = some u := by
    intro j u hj
    rw [Lib.add_plain]
    have hlt : j < m.length := by have := (List.getElem?_eq_some_iff.1 hj).1; simpa [wordCs] using this
    rw [hc j hlt, ← hj]
    simp [wordCs, List.getElem?_eq_getElem hlt, List.getD_eq_getElem?_getD]
  have h1 : ∀ u ∈ wordCs m, u.oneCell' = true := by intro u hu; obtain ⟨x, _, rfl⟩ := List.mem_map.1 hu; rfl
  obtain ⟨v', w', hr, h2, h3, _, h5⟩ := run_append_own_at (P := Tryz.prog) w B 37 ty 43 i0 _ 1 4 Tryz.underlying37 hi hz0 hz1 hz2 rfl (by decide) v l.length _ h ⟨g, off, none⟩ m.length c (wordCs m) (by simp [wordCs]) hnn h1 (by unfold maxLen; omega) (by omega) hB
  refine ⟨v', w', hr, ?_, (Only.refl _ w).grown h3 (fun k hk => .inl hk), fun k hk => ?_⟩
  · unfold OwnW
    rw [List.length_append]
    simpa [wordCs] using h2
  · rcases h5 with h5 | h5
    · exact .inl (h5 ▸ hk)
    · rw [h5] at hk; injection hk with hk; exact .inr (by omega)
theorem pushW_new (w0 w : World) (v : Value) (l : List Int) (x : Int) (n : Nat) (hn : l.length = n) (h : OwnW w w0.heap.size v l) (hl : l.length ≤ 70000) (hb : Below w0.heap.size w0 w) (ty : TypeId) :
    ∃ A C w', (Builtin.append_ #[37, 37] ty #[v, .slice (some ⟨w.heap.size, 0, none⟩) 1 1]).run Tryz.prog (w.alloc (.cells #[.int .u32 x] 43)) = .ok (.slice A (n + 1) C) w' ∧ OwnW w' w0.heap.size (.slice A (n + 1) C) (l ++ [x]) ∧ Below w0.heap.size w0 w' := by
  have hB := hb.alloc hb.size (.cells #[.int .u32 x] 43)
  obtain ⟨v', w', hr, ho, hon, _⟩ := run_pourW _ w0.heap.size v l [x] n hn (ownW_below h ((Below.refl _ w).alloc (Nat.le_refl _) _)) (by simp; omega) hB.size w.heap.size 0 1 (fun j hj => by
    have : j = 0 := by simpa using hj
    subst this
    rw [World.cell?_alloc_at _ _ _ _ (by simp)]; rfl) ty
  obtain ⟨A, C, rfl⟩ := ownW_slice ho
  have e : (l ++ [x]).length = n + 1 := by simp [hn]
  rw [e] at hr
  have ho' : OwnW w' w0.heap.size (.slice A (n + 1) C) (l ++ [x]) := by rw [← e]; exact ho
  exact ⟨A, C, w', hr, ho', Below.thenOnly hB hon (fun k hk => (ownW_lt h k hk).1) hB.size⟩
def InsAt (w : World) (g : Nat) (l : List Ins) : Prop := ∀ k, k < l.length → ∀ j, j < 8 → w.cell? ⟨g, k * 8 + j, none⟩ = some ((insC (l.getD k insZ)).getD j undef)
theorem insAt_below {w w' : World} {g : Nat} {l : List Ins} (h : InsAt w g l) (hb : Below w.heap.size w w') : InsAt w' g l := fun k hk j hj => cell_stays hb (h k hk j hj)
def EncEnd (w : World) (l : List Int) (e : Ending) (w' : World) : Prop := ∃ v, e = .returned (.tuple #[v, .bool true]) ∧ OwnW w' w.heap.size v l ∧ Below w.heap.size w w'
def EncNo (w : World) (e : Ending) (w' : World) : Prop := e = .returned (.tuple #[.slice none 0 0, .bool false]) ∧ Below w.heap.size w w'
def EncQ (w : World) (l : List Ins) (e : Ending) (w' : World) : Prop := (l.all rightB = true → EncEnd w (l.map encW) e w') ∧ (l.all rightB = false → EncNo w e w')
set_option maxHeartbeats 2000000 in
theorem encode_gen (l : List Ins) (g cap : Nat) (w : World) (he : Env w) (hl : l.length ≤ 1000) (hc : InsAt w g l) :
    Calls Tryz.prog 139 #[.slice (some ⟨g, 0, none⟩) l.length cap] w (EncQ w l) := by
  have HC := Lib.hid hc
  have HE := Lib.hid he
  clear hc he
  go_enter Tryz.func139, Tryz.ntmps139
  go_wp2
  go_loopw [2, 10] (fun v k wr => ∃ j : Nat, j ≤ l.length ∧ k = .int .i64 j ∧ OwnW wr w.heap.size v ((l.take j).map encW) ∧ (∀ i ∈ l.take j, rightB i = true) ∧ Below w.heap.size w wr) (fun _ k _ => l.length - (RowKit.intOf k).toNat)
  case atStart => exact ⟨0, Nat.zero_le _, rfl, by rw [List.take_zero]; exact ownW_nil _ _, by simp, Below.refl _ _⟩
  case round =>
    obtain ⟨j, hj, rfl, ho, hall, hb⟩ := hrel
    obtain ⟨A, C, rfl⟩ := ownW_slice ho
    have hlen : ((l.take j).map encW).length = j := by simp; omega
    rw [hlen] at ho ⊢
    by_cases hlt : j < l.length
    · have hx := insAt_below HC.out hb j hlt
      have hmem : l.getD j insZ ∈ l := by rw [List.getD_eq_getElem?_getD, List.getElem?_eq_getElem hlt]; exact List.getElem_mem hlt
      have htk : l.take (j + 1) = l.take j ++ [l.getD j insZ] := by rw [List.take_succ_eq_append_getElem hlt, List.getD_eq_getElem?_getD, List.getElem?_eq_getElem hlt]; rfl
      have hE : ∀ w, Env w → Calls Tryz.prog 21 #[insV (l.getD j insZ)] w fun e w' => e = .returned (.tuple #[.int .u32 (encW (l.getD j insZ)), .int .i64 (encE (l.getD j insZ))]) ∧ Below w.heap.size w w' := fun w he => encode_is _ w he.tab
      have hee : encE (l.getD j insZ) = if rightB (l.getD j insZ) then 0 else 80 := rfl
      have x0 := hx 0 (by decide); have x1 := hx 1 (by decide); have x2 := hx 2 (by decide); have x3 := hx 3 (by decide)
      have x4 := hx 4 (by decide); have x5 := hx 5 (by decide); have x6 := hx 6 (by decide); have x7 := hx 7 (by decide)
      have HO := Lib.hid ho
      have HB := Lib.hid hb
      cases hi : rightB (l.getD j insZ) with
      | false =>
        rw [hi] at hee
        rw [hee] at hE
        have HEN := Lib.hid hE
        have HQ : Hid (l.all rightB = false) := Lib.hid (by
          cases q : l.all rightB
          · rfl
          · have := List.all_eq_true.1 q _ hmem; rw [hi] at this; cases this)
        clear hE hi hx ho hb hlen hee hmem htk hall
        generalize encW (l.getD j insZ) = W at *
        generalize l.getD j insZ = ii at *
        obtain ⟨op, rd, a, b, imm, csr, aq, rl⟩ := ii
        simp only [insC, List.getD_cons_zero, List.getD_cons_succ, Nat.add_zero] at x0 x1 x2 x3 x4 x5 x6 x7
        go_wp2_with (fail)
        (with_reducible refine (HEN.out _ (HE.out.below (HB.out.alloc HB.out.size _))).mono ?_)
        rintro e w2 ⟨rfl, hb2⟩
        have HB2 := Lib.hid ((HB.out.alloc HB.out.size (.cells #[.int .i64 op, .int .i64 rd, .int .i64 a, .int .i64 b, .int .i64 imm, .int .i64 csr, .bool aq, .bool rl] 23)).trans (hb2.mono (by have := HB.out.size; simp; omega)))
        clear hb2 x0 x1 x2 x3 x4 x5 x6 x7
        go_wp2
        go_ret2
        exact ⟨(fun q => by rw [HQ.out] at q; cases q), fun _ => ⟨rfl, HB2.out⟩⟩
      | true =>
        rw [hi, if_pos rfl] at hee
        rw [hee] at hE
        have HEN := Lib.hid hE
        have HT : Hid ((l.take (j + 1)).map encW = (l.take j).map encW ++ [encW (l.getD j insZ)] ∧ ∀ i ∈ l.take (j + 1), rightB i = true) := Lib.hid ⟨by rw [htk, List.map_append]; rfl, fun i hm => by
          rw [htk] at hm
          rcases List.mem_append.1 hm with hm | hm
          · exact hall i hm
          · rw [List.mem_singleton.1 hm]; exact hi⟩
        have HLN := Lib.hid hlen
        clear hE hi hx ho hb hlen hee hmem htk hall
        generalize encW (l.getD j insZ) = W at *
        generalize l.getD j insZ = ii at *
        generalize (l.take j).map encW = ws at *
        obtain ⟨op, rd, a, b, imm, csr, aq, rl⟩ := ii
        simp only [insC, List.getD_cons_zero, List.getD_cons_succ, Nat.add_zero] at x0 x1 x2 x3 x4 x5 x6 x7
        go_wp2_with (fail)
        (with_reducible refine (HEN.out _ (HE.out.below (HB.out.alloc HB.out.size _))).mono ?_)
        rintro e w2 ⟨rfl, hb2⟩
        have HB2 := Lib.hid ((HB.out.alloc HB.out.size (.cells #[.int .i64 op, .int .i64 rd, .int .i64 a, .int .i64 b, .int .i64 imm, .int .i64 csr, .bool aq, .bool rl] 23)).trans (hb2.mono (by have := HB.out.size; simp; omega)))
        have HO2 := Lib.hid (ownW_below (ownW_below HO.out ((Below.refl _ _).alloc (Nat.le_refl _) (.cells #[.int .i64 op, .int .i64 rd, .int .i64 a, .int .i64 b, .int .i64 imm, .int .i64 csr, .bool aq, .bool rl] 23))) hb2)
        obtain ⟨A3, C3, w3, hr3, ho3, hb3⟩ := pushW_new w w2 _ ws W j HLN.out HO2.out (by rw [HLN.out]; omega) HB2.out 37
        have HRUN := Lib.hid hr3; have HO3 := Lib.hid ho3; have HB3 := Lib.hid hb3
        clear hb2 x0 x1 x2 x3 x4 x5 x6 x7 hr3 ho3 hb3
        go_wp2_with (at_builtin; refine wpList_append_run rfl _ _ _ rfl (.slice A j C) (.slice (some ⟨w2.heap.size, 0, none⟩) 1 1) (.slice A3 (j + 1) C3) w3 rfl rfl HRUN.out ?_)
        go_roundw
        case rel => exact ⟨j + 1, by omega, by go_num, by rw [HT.out.1]; exact HO3.out, HT.out.2, HB3.out⟩
        case measure => simp [RowKit.intOf]; omega
    · obtain rfl : j = l.length := by omega
      have HO := Lib.hid ho
      have HB := Lib.hid hb
      have HAL : Hid (l.all rightB = true) := Lib.hid (by rw [List.all_eq_true]; intro i hi; exact hall i (by rw [List.take_length]; exact hi))
      clear ho hb hall hlen
      go_wp2
      go_ret2
      exact ⟨fun _ => ⟨_, rfl, by have := HO.out; rwa [List.take_length] at this, HB.out⟩, fun q => by rw [HAL.out] at q; cases q⟩
end Go.Proofs.YtakdhdaoklcidaaGreatDoor

namespace Go.Proofs.YtakdhdaoklcidaaGreatDoor
open Go.RowKit Go.Lib
set_option linter.unusedVariables false
set_option maxRecDepth 100000
def okB (b : UInt8) : Bool := isLow b || isDig b || b == 95
def nameOK (l : Bs) : Bool := decide (1 ≤ l.length) && decide (l.length ≤ 32) && isLow (l.getD 0 0) && l.all okB
theorem isLowZ_nat (b : UInt8) : isLowZ (b.toNat : Int) = isLow b := by
  unfold isLowZ isLow
  rw [Bool.eq_iff_iff]
  simp [UInt8.le_iff_toNat_le]
  omega
theorem letterP (b : UInt8) (q : Bool) (hq : isLow b = q) (w : World) : Calls Tryz.prog 136 #[.int .u8 b.toNat] w fun e w' => e = .returned (.bool q) ∧ w = w' := by
  rw [← hq, ← isLowZ_nat]; exact isLetter_any _ w
theorem okB_of {b : UInt8} : okB b = true ↔ isLow b = true ∨ (48 ≤ b.toNat ∧ b.toNat ≤ 57) ∨ b.toNat = 95 := by
  unfold okB
  rw [Bool.or_eq_true, Bool.or_eq_true, dig_nat, beq_iff_eq, or_assoc]
  have : b = 95 ↔ b.toNat = 95 := ⟨fun h => by rw [h]; rfl, fun h => UInt8.toNat_inj.1 (by rw [h]; rfl)⟩
  rw [this]
theorem isName_a (l : Bs) (h : l.length < 1 ∨ 32 < l.length) (w : World) : Calls Tryz.prog 106 #[str l] w fun e w' => e = .returned (.bool false) ∧ w = w' := by
  rcases h with h | h
  · obtain rfl : l = [] := List.eq_nil_of_length_eq_zero (by omega)
    go_enter Tryz.func106, Tryz.ntmps106
    go_wp2
    go_ret
    exact ⟨rfl, rfl⟩
  · have h2 : ¬ (l.length < 1) := by omega
    go_enter Tryz.func106, Tryz.ntmps106
    go_wp2
    go_ret
    exact ⟨rfl, rfl⟩
theorem isName_b (x : UInt8) (r : Bs) (h32 : r.length ≤ 31) (hx : isLow x = false) (w : World) : Calls Tryz.prog 106 #[str (x :: r)] w fun e w' => e = .returned (.bool false) ∧ w = w' := by
  have HL := Lib.hid (letterP x false hx w)
  have hd1 : decide ((r.length : Int) + 1 < 1) = false := by simp; omega
  have hd2 : decide (32 < (r.length : Int) + 1) = false := by simp; omega
  clear hx
  go_enter Tryz.func106, Tryz.ntmps106
  go_wp2_with (fail)
  refine HL.out.mono ?_
  rintro e w1 ⟨rfl, rfl⟩
  go_wp2
  go_ret
  exact ⟨rfl, rfl⟩
set_option maxHeartbeats 2000000 in
theorem isName_c (x : UInt8) (r : Bs) (h32 : r.length ≤ 31) (hx : isLow x = true) (w : World) : Calls Tryz.prog 106 #[str (x :: r)] w fun e w' => e = .returned (.bool ((x :: r).all okB)) ∧ Below w.heap.size w w' := by
  have HL := Lib.hid (letterP x true hx w)
  have hd1 : decide ((r.length : Int) + 1 < 1) = false := by simp; omega
  have hd2 : decide (32 < (r.length : Int) + 1) = false := by simp; omega
  have hconv := Lib.run_convert_string_bytes (P := Tryz.prog) w 9 48 5 ⟨(x :: r).toArray⟩ Tryz.underlying9 Tryz.underlying48 Tryz.underlying5
  have hsz : (⟨(x :: r).toArray⟩ : ByteArray).size = r.length + 1 := by show (x :: r).toArray.size = _; simp
  have HCL := Lib.hid (fun j (hj : j < r.length + 1) => Lib.bytesWorld_cell w 5 ⟨(x :: r).toArray⟩ j (by rw [hsz]; exact hj))
  have HBW := Lib.hid (Lib.bytesWorld_below w 5 ⟨(x :: r).toArray⟩)
  rw [hsz] at hconv
  have HCV := Lib.hid hconv
  clear hconv hsz hx
  generalize Lib.bytesWorld w 5 ⟨(x :: r).toArray⟩ = W at *
  generalize grownCap w (r.length + 1) 0 5 = cp at *
  go_enter Tryz.func106, Tryz.ntmps106
  go_wp2_with (fail)
  refine HL.out.mono ?_
  rintro e w1 ⟨rfl, rfl⟩
  have hcv := HCV.out
  go_wp2_with (fail)
  clear hcv
  go_loop [22] (fun k => ∃ j : Nat, j ≤ r.length + 1 ∧ k = .int .i64 j ∧ ∀ b ∈ (x :: r).take j, okB b = true) (fun k => r.length + 1 - (RowKit.intOf k).toNat)
  case atStart => exact ⟨0, Nat.zero_le _, rfl, by simp⟩
  case round =>
    obtain ⟨j, hj, rfl, hall⟩ := hrel
    by_cases hlt : j < r.length + 1
    · have hcell := HCL.out j hlt
      have hmem : (x :: r).getD j 0 ∈ x :: r := by rw [List.getD_eq_getElem?_getD, List.getElem?_eq_getElem (by simpa using hlt)]; exact List.getElem_mem _
      have htk : (x :: r).take (j + 1) = (x :: r).take j ++ [(x :: r).getD j 0] := by rw [List.take_succ_eq_append_getElem (by simpa using hlt), List.getD_eq_getElem?_getD, List.getElem?_eq_getElem (by simpa using hlt)]; rfl
      have HNO : Hid (okB ((x :: r).getD j 0) = false → (x :: r).all okB = false) := Lib.hid fun h => by
        cases q : (x :: r).all okB
        · rfl
        · have := List.all_eq_true.1 q _ hmem; rw [h] at this; cases this
      have HYE : Hid (okB ((x :: r).getD j 0) = true → ∀ b ∈ (x :: r).take (j + 1), okB b = true) := Lib.hid fun h b hb => by
        rw [htk] at hb
        rcases List.mem_append.1 hb with hb | hb
        · exact hall b hb
        · rw [List.mem_singleton.1 hb]; exact h
      have hcell' : W.cell? ⟨w.heap.size, j, none⟩ = some (.int .u8 ((x :: r).getD j 0).toNat) := hcell
      have hiff := okB_of (b := (x :: r).getD j 0)
      clear hcell hmem htk hall
      generalize (x :: r).getD j 0 = c at *
      have hc0 : c.toNat < 256 := c.toNat_lt
      cases hlo : isLow c with
      | true =>
        have HOK : Hid (okB c = true) := Lib.hid (hiff.2 (.inl hlo))
        have HL2 := Lib.hid (fun w => letterP c true hlo w)
        clear hiff hlo
        go_wp2_with (go_at_call 136; (with_reducible refine (HL2.out _).mono ?_); rintro e w1 ⟨rfl, rfl⟩)
        go_round
        case rel => exact ⟨j + 1, by omega, by go_num, HYE.out HOK.out⟩
        case measure => simp [RowKit.intOf]; omega
      | false =>
        have HL2 := Lib.hid (fun w => letterP c false hlo w)
        by_cases h48 : c.toNat < 48
        · have HOK : Hid (okB c = false) := Lib.hid (by
            cases q : okB c
            · rfl
            · rcases hiff.1 q with h | h | h
              · rw [hlo] at h; cases h
              · omega
              · omega)
          have hb1 : decide ((c.toNat : Int) < 48) = true := decide_eq_true (by omega)
          have hb2 : ((c.toNat : Int) != 95) = true := by simp; omega
          clear hiff hlo
          go_wp2_with (go_at_call 136; (with_reducible refine (HL2.out _).mono ?_); rintro e w1 ⟨rfl, rfl⟩)
          go_ret
          exact ⟨congrArg (fun q => Ending.returned (.bool q)) (HNO.out HOK.out).symm, HBW.out⟩
        · have hb1 : decide ((c.toNat : Int) < 48) = false := by simp; omega
          by_cases h57 : 57 < c.toNat
          · have hb3 : decide (57 < (c.toNat : Int)) = true := by simp; omega
            by_cases h95 : c.toNat = 95
            · have HOK : Hid (okB c = true) := Lib.hid (hiff.2 (.inr (.inr h95)))
              have hb2 : ((c.toNat : Int) != 95) = false := by simp; omega
              clear hiff hlo h95
              go_wp2_with (go_at_call 136; (with_reducible refine (HL2.out _).mono ?_); rintro e w1 ⟨rfl, rfl⟩)
              go_round
              case rel => exact ⟨j + 1, by omega, by go_num, HYE.out HOK.out⟩
              case measure => simp [RowKit.intOf]; omega
            · have HOK : Hid (okB c = false) := Lib.hid (by
                cases q : okB c
                · rfl
                · rcases hiff.1 q with h | h | h
                  · rw [hlo] at h; cases h
                  · omega
                  · omega)
              have hb2 : ((c.toNat : Int) != 95) = true := by simp; omega
              clear hiff hlo h95
              go_wp2_with (go_at_call 136; (with_reducible refine (HL2.out _).mono ?_); rintro e w1 ⟨rfl, rfl⟩)
              go_ret
              exact ⟨congrArg (fun q => Ending.returned (.bool q)) (HNO.out HOK.out).symm, HBW.out⟩
          · have HOK : Hid (okB c = true) := Lib.hid (hiff.2 (.inr (.inl (by omega))))
            have hb3 : decide (57 < (c.toNat : Int)) = false := by simp; omega
            clear hiff hlo
            go_wp2_with (go_at_call 136; (with_reducible refine (HL2.out _).mono ?_); rintro e w1 ⟨rfl, rfl⟩)
            go_round
            case rel => exact ⟨j + 1, by omega, by go_num, HYE.out HOK.out⟩
            case measure => simp [RowKit.intOf]; omega
    · have HAL : Hid ((x :: r).all okB = true) := Lib.hid (by
        rw [List.all_eq_true]; intro b hb
        exact hall b (by rw [List.take_of_length_le (by simp; omega)]; exact hb))
      clear hall
      go_wp2
      go_ret
      exact ⟨congrArg (fun q => Ending.returned (.bool q)) HAL.out.symm, HBW.out⟩
theorem isNameP (l : Bs) (w : World) : Calls Tryz.prog 106 #[str l] w fun e w' => e = .returned (.bool (nameOK l)) ∧ Below w.heap.size w w' := by
  by_cases h1 : l.length < 1 ∨ 32 < l.length
  · have : nameOK l = false := by
      unfold nameOK
      rcases h1 with h | h
      · rw [decide_eq_false (by omega)]; rfl
      · rw [decide_eq_false (show ¬ l.length ≤ 32 by omega)]; simp
    rw [this]
    exact (isName_a l h1 w).mono fun e w' ⟨a, b⟩ => ⟨a, b ▸ Below.refl _ _⟩
  · cases l with
    | nil => simp at h1
    | cons x r =>
      simp only [List.length_cons] at h1
      have e : nameOK (x :: r) = (isLow x && (x :: r).all okB) := by
        unfold nameOK
        rw [decide_eq_true (by simp), decide_eq_true (show (x :: r).length ≤ 32 by simp; omega)]; simp
      rw [e]
      cases hx : isLow x
      · exact (isName_b x r (by omega) hx w).mono fun e w' ⟨a, b⟩ => ⟨a, b ▸ Below.refl _ _⟩
      · rw [Bool.true_and]; exact isName_c x r (by omega) hx w
end Go.Proofs.YtakdhdaoklcidaaGreatDoor

namespace Go.Proofs.YtakdhdaoklcidaaGreatDoor
open Go.RowKit Go.Lib
set_option linter.unusedVariables false
set_option maxRecDepth 100000
theorem insCs_at : ∀ (l : List Ins) (k j : Nat), k < l.length → j < 8 → (insCs l)[k * 8 + j]? = some ((insC (l.getD k insZ)).getD j undef)
  | [], k, j, hk, hj => by simp at hk
  | i :: l, 0, j, hk, hj => by
    have e : insCs (i :: l) = insC i ++ insCs l := by simp [insCs]
    rw [e, Nat.zero_mul, Nat.zero_add, List.getElem?_append_left (by simpa [insC] using hj)]
    simp only [List.getD_cons_zero]
    rw [List.getD_eq_getElem?_getD, List.getElem?_eq_getElem (by simpa [insC] using hj)]; rfl
  | i :: l, k + 1, j, hk, hj => by
    have e : insCs (i :: l) = insC i ++ insCs l := by simp [insCs]
    have h8 : (insC i).length = 8 := rfl
    rw [e, List.getElem?_append_right (by rw [h8]; omega), h8, show (k + 1) * 8 + j - 8 = k * 8 + j by omega]
    simp only [List.getD_cons_succ]
    exact insCs_at l k j (by simpa using hk) hj
theorem insAt_row {w : World} {g : Nat} {l : List Ins} {t : TypeId} {fr : Nat × Nat} (h : w.heap[g]? = some (.cells (insCs l).toArray t fr)) : InsAt w g l := fun k hk j hj => by
  rw [Lib.cell_of_heap h]
  simpa using insCs_at l k j hk hj
def parseB (l : Bs) : Bool := rightB (guessP l) && (printT (guessP l) == l)
def parseI (l : Bs) : Ins := if parseB l then guessP l else insZ
def parseE (l : Bs) : Int := if parseB l then 0 else 100
theorem parseP (l : Bs) (hl : l.length ≤ 1000000) (w : World) (he : Env w) : Calls Tryz.prog 13 #[str l] w fun e w' => e = .returned (.tuple #[insV (parseI l), .int .i64 (parseE l)]) ∧ Below w.heap.size w w' :=
  parse_gen l hl (guessP l) rfl (parseI l) (parseE l) (parseB l) rfl rfl rfl w he
def auipcI (rd n : Int) : Ins := ⟨2, rd, 0, 0, n, 0, false, false⟩
def AimEnd (w : World) (o : Option (List Int)) (e : Ending) (w' : World) : Prop :=
  match o with
  | some ws => EncEnd w ws e w'
  | none => EncNo w e w'
def laL (rd far : Int) : List Ins := [auipcI rd (far - lowZ far), addI rd rd (lowZ far)]
def laW (rd far : Int) : Option (List Int) :=
  if far < -2147483648 ∨ 2147481599 < far then none else if (laL rd far).all rightB then some ((laL rd far).map encW) else none
theorem encEnd_mono {w0 w w' : World} {ws : List Int} {e : Ending} (h : EncEnd w ws e w') (hb : Below w0.heap.size w0 w) : EncEnd w0 ws e w' := by
  obtain ⟨v, he, ho, hbw⟩ := h
  exact ⟨v, he, ownW_base ho hb.size, hb.trans (hbw.mono hb.size)⟩
theorem encNo_mono {w0 w w' : World} {e : Ending} (h : EncNo w e w') (hb : Below w0.heap.size w0 w) : EncNo w0 e w' := ⟨h.1, hb.trans (h.2.mono hb.size)⟩
theorem la_out (rd far : Int) (b : Nat) (h : far < -2147483648 ∨ 2147481599 < far) (w : World) : Calls Tryz.prog 157 #[.int .i64 far, .pointer (some ⟨b, 0, none⟩)] w (AimEnd w none) := by
  rcases h with h | h
  · go_enter Tryz.func157, Tryz.ntmps157
    go_wp2
    go_ret2
    exact ⟨rfl, Below.refl _ _⟩
  · have h2 : ¬ far < -2147483648 := by omega
    go_enter Tryz.func157, Tryz.ntmps157
    go_wp2
    go_ret2
    exact ⟨rfl, Below.refl _ _⟩
set_option maxHeartbeats 1000000 in
theorem la_in (rd far : Int) (b : Nat) (h1 : -2147483648 ≤ far) (h2 : far ≤ 2147481599) (w : World) (he : Env w) (hc : w.cell? ⟨b, 0, none⟩ = some (.int .i64 rd)) : Calls Tryz.prog 157 #[.int .i64 far, .pointer (some ⟨b, 0, none⟩)] w (AimEnd w (laW rd far)) := by
  have HL := Lib.hid (fun w => lowPart_any far (by omega) (by omega) w)
  obtain ⟨l0, l1⟩ := lowZ_bd far
  have hlw : laW rd far = if (laL rd far).all rightB then some ((laL rd far).map encW) else none := by unfold laW; rw [if_neg (by omega)]
  have hEN : ∀ w g cap, Env w → InsAt w g (laL rd far) → Calls Tryz.prog 139 #[.slice (some ⟨g, 0, none⟩) 2 cap] w (EncQ w (laL rd far)) := fun w g cap he hi => encode_gen (laL rd far) g cap w he (by simp [laL]) hi
  have hLL : laL rd far = [auipcI rd (far - lowZ far), addI rd rd (lowZ far)] := rfl
  have HEN := Lib.hid hEN
  have HLW := Lib.hid hlw
  have HLL := Lib.hid hLL
  have HE := Lib.hid he
  clear hEN hlw he hLL
  generalize laL rd far = L at *
  generalize lowZ far = lo at *
  go_enter Tryz.func157, Tryz.ntmps157
  go_wp2_with (fail)
  (with_reducible refine (HL.out _).mono ?_)
  rintro e wu ⟨rfl, rfl⟩
  go_wp2_with (fail)
  have HLI : Hid (L = [auipcI rd (far - lo), addI rd rd lo]) := HLL
  have hrow : InsAt (w.alloc (.cells #[.int .i64 2, .int .i64 rd, .int .i64 0, .int .i64 0, .int .i64 (far - lo), .int .i64 0, .bool false, .bool false, .int .i64 22, .int .i64 rd, .int .i64 rd, .int .i64 0, .int .i64 lo, .int .i64 0, .bool false, .bool false] 23)) w.heap.size L := by
    rw [HLI.out]
    exact insAt_row (l := [auipcI rd (far - lo), addI rd rd lo]) (heap_alloc_new _ _)
  have hbw : Below w.heap.size w (w.alloc (.cells #[.int .i64 2, .int .i64 rd, .int .i64 0, .int .i64 0, .int .i64 (far - lo), .int .i64 0, .bool false, .bool false, .int .i64 22, .int .i64 rd, .int .i64 rd, .int .i64 0, .int .i64 lo, .int .i64 0, .bool false, .bool false] 23)) := (Below.refl _ _).alloc (Nat.le_refl _) _
  (with_reducible refine (HEN.out _ _ _ (HE.out.below hbw) hrow).mono ?_)
  rintro e w1 hq
  have HBW := Lib.hid hbw
  clear hrow hbw
  cases hall : L.all rightB with
  | true =>
    obtain ⟨v, rfl, ho, hb⟩ := hq.1 hall
    have HR : Hid (laW rd far = some (L.map encW)) := Lib.hid (by rw [HLW.out, hall]; rfl)
    clear hq
    generalize L.map encW = ws at *
    obtain ⟨A, C, rfl⟩ := ownW_slice ho
    have HO := Lib.hid ho
    have HB := Lib.hid hb
    clear ho hb hall HLW
    go_wp2
    go_ret2
    show AimEnd w (laW rd far) _ _
    rw [HR.out]
    exact (fun e (h : EncEnd _ ws e w1) => encEnd_mono h HBW.out) _ ⟨_, rfl, HO.out, HB.out⟩
  | false =>
    obtain ⟨rfl, hb⟩ := hq.2 hall
    have HR : Hid (laW rd far = none) := Lib.hid (by rw [HLW.out, hall]; rfl)
    have HQ := Lib.hid hb
    clear hq hall HLW hb
    go_wp2
    go_ret2
    show AimEnd w (laW rd far) _ _
    rw [HR.out]
    exact encNo_mono ⟨rfl, HQ.out⟩ HBW.out
def withImm (i : Ins) (n : Int) : Ins := ⟨i.op, i.rd, i.a, i.b, n, i.csr, i.aq, i.rl⟩
def HoldsI (w : World) (b : Nat) (i : Ins) : Prop := ∃ m, w.heap[b]? = some (.cells (insC (withImm i m)).toArray 23 (0, 0))
def JumpEnd (w : World) (b : Nat) (i : Ins) (far : Int) (e : Ending) (w' : World) : Prop :=
  (rightB (withImm i far) = true → ∃ v, e = .returned (.tuple #[v, .bool true]) ∧ OwnW w' w.heap.size v [encW (withImm i far)]) ∧
  (rightB (withImm i far) = false → e = .returned (.tuple #[.slice none 0 0, .bool false])) ∧ HoldsI w' b i ∧ Only (fun k => k = b) w w'
set_option maxHeartbeats 1000000 in
theorem jump_any (i : Ins) (far : Int) (b : Nat) (w : World) (he : ∀ w', Only (fun k => k = b) w w' → Env w') (hc : HoldsI w b i) : Calls Tryz.prog 159 #[.int .i64 far, .pointer (some ⟨b, 0, none⟩)] w (JumpEnd w b i far) := by
  obtain ⟨m, hm⟩ := hc
  have hEN : ∀ w g cap, Env w → InsAt w g [withImm i far] → Calls Tryz.prog 139 #[.slice (some ⟨g, 0, none⟩) 1 cap] w (EncQ w [withImm i far]) := fun w g cap he hi => encode_gen [withImm i far] g cap w he (by simp) hi
  have HEN := Lib.hid hEN
  have HE := Lib.hid he
  have hc4 : w.cell? ⟨b, 4, none⟩ = some (.int .i64 m) := by rw [Lib.cell_of_heap hm]; rfl
  have hf4 : w.frozen? ⟨b, 4, none⟩ = false := Lib.frozen_of_heap hm 4
  have hrow2 : (w.setCell ⟨b, 4, none⟩ (.int .i64 far)).heap[b]? = some (.cells #[.int .i64 i.op, .int .i64 i.rd, .int .i64 i.a, .int .i64 i.b, .int .i64 far, .int .i64 i.csr, .bool i.aq, .bool i.rl] 23 (0, 0)) := by
    have := setCell_row hm 4 (.int .i64 far)
    rw [this]; rfl
  have HR2 := Lib.hid hrow2
  have HO2 : Hid (Only (fun k => k = b) w (w.setCell ⟨b, 4, none⟩ (.int .i64 far))) := Lib.hid ((Only.refl (fun k => k = b) w).setCell (p := ⟨b, 4, none⟩) (.inl rfl) _)
  clear hEN he hrow2 hm
  go_enter Tryz.func159, Tryz.ntmps159
  generalize hw2 : w.setCell ⟨b, 4, none⟩ (.int .i64 far) = w2 at *
  go_wp2_with (refine wpList_load_row rfl _ _ rfl b rfl 23 _ _ _ HR2.out Tryz.underlying23 rfl size_ins ?_)
  have hrow : InsAt (w2.alloc (.cells #[.int .i64 i.op, .int .i64 i.rd, .int .i64 i.a, .int .i64 i.b, .int .i64 far, .int .i64 i.csr, .bool i.aq, .bool i.rl] 23)) w2.heap.size [withImm i far] := insAt_row (l := [withImm i far]) (heap_alloc_new _ _)
  have hbw : Below w2.heap.size w2 (w2.alloc (.cells #[.int .i64 i.op, .int .i64 i.rd, .int .i64 i.a, .int .i64 i.b, .int .i64 far, .int .i64 i.csr, .bool i.aq, .bool i.rl] 23)) := (Below.refl _ _).alloc (Nat.le_refl _) _
  have hsz : w.heap.size ≤ w2.heap.size := HO2.out.size
  (with_reducible refine (HEN.out _ _ _ (HE.out _ (HO2.out.thenBelow hbw)) hrow).mono ?_)
  rintro e w3 hq
  have HBW := Lib.hid hbw
  have HSZ := Lib.hid hsz
  clear hrow hbw hsz
  cases hall : rightB (withImm i far) with
  | true =>
    obtain ⟨v, rfl, ho, hb⟩ := hq.1 (by simp [hall])
    obtain ⟨A, C, rfl⟩ := ownW_slice ho
    have HOW := Lib.hid ho; have HB := Lib.hid hb
    have HALL := Lib.hid hall
    clear hq ho hb hall
    go_wp2
    go_ret2
    exact ⟨fun _ => ⟨_, rfl, ownW_base HOW.out (Nat.le_trans HSZ.out HBW.out.size)⟩, (fun q => by rw [HALL.out] at q; cases q), ⟨far, (HB.out.block _ (Nat.lt_of_lt_of_le (Array.getElem?_eq_some_iff.1 HR2.out).1 HBW.out.size)).trans ((HBW.out.block _ (Array.getElem?_eq_some_iff.1 HR2.out).1).trans HR2.out)⟩, (HO2.out.thenBelow HBW.out).thenBelow HB.out⟩
  | false =>
    obtain ⟨rfl, hb⟩ := hq.2 (by simp [hall])
    have HB := Lib.hid hb
    have HALL := Lib.hid hall
    clear hq hb hall
    go_wp2
    go_ret2
    exact ⟨(fun q => by rw [HALL.out] at q; cases q), fun _ => rfl, ⟨far, (HB.out.block _ (Nat.lt_of_lt_of_le (Array.getElem?_eq_some_iff.1 HR2.out).1 HBW.out.size)).trans ((HBW.out.block _ (Array.getElem?_eq_some_iff.1 HR2.out).1).trans HR2.out)⟩, (HO2.out.thenBelow HBW.out).thenBelow HB.out⟩
theorem write1 (name o : Bs) (h1 : name.length ≤ 100) (h2 : o.length ≤ 1000) (ho : o ≠ []) (w : World) (g cap : Nat) (hc : w.cell? ⟨g, 0, none⟩ = some (str o)) : Calls Tryz.prog 24 #[str name, .slice (some ⟨g, 0, none⟩) 1 cap] w fun e w' => e = .returned (str (lineT name [o])) ∧ Below w.heap.size w w' := by
  have h := writeL name [o] g cap w (by simp) (by simp; omega) (fun k hk => by
    have : k = 0 := by simpa using hk
    subst this; exact hc)
  have e : someT [o] = [o] := by unfold someT; cases o with | nil => exact absurd rfl ho | cons a b => rfl
  rw [e] at h; exact h
theorem write2 (name o p : Bs) (h1 : name.length ≤ 100) (h2 : o.length ≤ 1000) (h3 : p.length ≤ 1000) (ho : o ≠ []) (hp : p ≠ []) (w : World) (g cap : Nat) (hc : w.cell? ⟨g, 0, none⟩ = some (str o)) (hc2 : w.cell? ⟨g, 1, none⟩ = some (str p)) : Calls Tryz.prog 24 #[str name, .slice (some ⟨g, 0, none⟩) 2 cap] w fun e w' => e = .returned (str (lineT name [o, p])) ∧ Below w.heap.size w w' := by
  have h := writeL name [o, p] g cap w (by simp) (by simp; omega) (fun k hk => by
    have : k = 0 ∨ k = 1 := by simp at hk; omega
    rcases this with rfl | rfl
    · exact hc
    · exact hc2)
  have e : someT [o, p] = [o, p] := by
    unfold someT
    cases o with
    | nil => exact absurd rfl ho
    | cons a b => cases p with
      | nil => exact absurd rfl hp
      | cons c d => rfl
  rw [e] at h; exact h
def laRd (head : Bs) : Int := regP (cut (cut head [32]).2.1 sepC).1
def laB (head : Bs) : Bool := ((cut head [32]).1 == [108, 97]) && (lineT [108, 97] [xr (laRd head)] == head)
def LaEnd (w : World) (q : Bool) (rd : Int) (e : Ending) (w' : World) : Prop :=
  (q = true → ∃ b, e = .returned (.tuple #[.func (.func 157) #[] #[.pointer (some ⟨b, 0, none⟩)], .bool true]) ∧ w.heap.size ≤ b ∧ w'.heap[b]? = some (.cells #[.int .i64 rd] 3 (0, 0))) ∧
  (q = false → e = .returned (.tuple #[.nilFunc, .bool false])) ∧ Below w.heap.size w w'
set_option maxHeartbeats 1000000 in
theorem aimOfLa_any (head : Bs) (hl : head.length ≤ 1000000) (w : World) (he : Env w) : Calls Tryz.prog 137 #[str head] w (LaEnd w (laB head) (laRd head)) := by
  have hCUT : ∀ w, Env w → Calls Tryz.prog 34 #[str head, .string ⟨#[32]⟩] w fun e w' => e = .returned (.tuple #[str (cut head [32]).1, str (cut head [32]).2.1, .bool (cut head [32]).2.2]) ∧ Below w.heap.size w w' := fun w he => cutP head [32] w hl he
  have hcl := cut_len head [32]
  have hR0 : (cut head [32]).2.1.length ≤ 1000000 := by omega
  have hRD := fun w => reader_any (cut head [32]).2.1 w
  have hrd : laRd head = regP (cut (cut head [32]).2.1 sepC).1 := rfl
  have hin := numP_in (trimPrefix (cut (cut head [32]).2.1 sepC).1 [120])
  have hin2 : -9223372036854775808 ≤ laRd head ∧ laRd head ≤ 9223372036854775807 := hin
  have HCUT := Lib.hid hCUT
  have HRD := Lib.hid hRD
  have HE := Lib.hid he
  have HB0 : Hid (laB head = (((cut head [32]).1 == [108, 97]) && (lineT [108, 97] [xr (laRd head)] == head))) := Lib.hid rfl
  have HRG := Lib.hid hrd
  have HR0 := Lib.hid hR0
  clear hCUT hRD he hcl hin hrd hR0 hl
  generalize laB head = q at *
  generalize laRd head = rd at *
  generalize (cut head [32]).2.1 = r0 at *
  generalize (cut head [32]).2.2 = qq at *
  generalize (cut head [32]).1 = n0 at *
  go_enter Tryz.func137, Tryz.ntmps137
  go_wp2_with (fail)
  (with_reducible refine (HCUT.out _ HE.out).mono ?_)
  rintro e w1 ⟨rfl, hb1⟩
  have HB1 := Lib.hid hb1
  clear hb1
  go_wp2_with (fail)
  (with_reducible refine (HRD.out _).mono ?_)
  rintro e w2 ⟨rfl, h1, h2, h3, h4⟩
  have HB2 := Lib.hid (HB1.out.trans (h4.mono HB1.out.size))
  have HBX := Lib.hid h1
  have hn : w2.cell? ⟨w1.heap.size + 1, 0, none⟩ = some (nextV w1.heap.size) := by rw [Lib.cell_of_heap h2]; rfl
  have HN := Lib.hid hn
  clear h1 h2 h3 h4 hn
  go_wp2_with (fail)
  (with_reducible refine (reg_any (w1.heap.size + 1) w1.heap.size r0 w2 (fun w' ho => HE.out.below (Below.thenOnly HB2.out ho (by intro k hk; have := HB1.out.size; omega) HB2.out.size)) HR0.out HN.out HBX.out).mono ?_)
  rintro e w3 ⟨rfl, _, ho3⟩
  rw [← HRG.out]
  have HB3 := Lib.hid (Below.thenOnly HB2.out ho3 (by intro k hk; have := HB1.out.size; omega) HB2.out.size)
  clear ho3
  have HIN := Lib.hid hin2
  clear hin2
  by_cases hq : n0 = [108, 97]
  · subst hq
    go_wp2_with (fail)
    have hb4 := HB3.out.alloc HB3.out.size (.cells #[.int .i64 rd] 3)
    (with_reducible refine (registerText_any rd HIN.out.1 HIN.out.2 _ (HE.out.below hb4)).mono ?_)
    rintro e w5 ⟨rfl, hb5⟩
    have HC5 : Hid (w5.heap[w3.heap.size]? = some (.cells #[.int .i64 rd] 3 (0, 0))) := Lib.hid ((hb5.block _ (by simp)).trans (heap_alloc_new _ _))
    have HB5 := Lib.hid (hb4.trans (hb5.mono hb4.size))
    have HZ5 : Hid (w3.heap.size < w5.heap.size ∧ w.heap.size ≤ w3.heap.size) := Lib.hid ⟨by have := hb5.size; simp at this; omega, HB3.out.size⟩
    have HWR := Lib.hid (fun w g cap hc => write1 [108, 97] (xr rd) (by decide) (by have := itoa_length_le rd HIN.out.1 HIN.out.2; simp only [xr, List.length_cons]; omega) (by simp [xr]) w g cap hc)
    clear hb4 hb5
    generalize xr rd = xo at *
    have HC0 : Hid ((w5.alloc (.cells #[str xo] 9)).cell? ⟨w5.heap.size, 0, none⟩ = some (str xo)) := Lib.hid (by rw [World.cell?_alloc_at _ _ _ _ (by simp)]; rfl)
    go_wp2_with (fail)
    (with_reducible refine (HWR.out _ _ _ HC0.out).mono ?_)
    rintro e w6 ⟨rfl, hb6⟩
    have HC6 : Hid (w6.heap[w3.heap.size]? = some (.cells #[.int .i64 rd] 3 (0, 0))) := Lib.hid ((hb6.block _ (by have := HZ5.out; simp; omega)).trans ((Lib.alloc_old _ _ _ HZ5.out.1).trans HC5.out))
    have HB6 := Lib.hid ((HB5.out.alloc HB5.out.size (.cells #[str xo] 9)).trans (hb6.mono (by have := HB5.out.size; simp; omega)))
    clear hb6
    by_cases hp : lineT [108, 97] [xo] = head
    · have HQ : Hid (q = true) := Lib.hid (by rw [HB0.out, hp]; simp)
      rw [hp]
      clear HB0 hp HWR
      go_wp2
      go_ret2
      exact ⟨fun _ => ⟨w3.heap.size, rfl, HZ5.out.2, HC6.out⟩, (fun h => by rw [HQ.out] at h; cases h), HB6.out⟩
    · have HQ : Hid (q = false) := Lib.hid (by rw [HB0.out, beq_eq_false_iff_ne.2 hp, Bool.and_false])
      have hpq : (lineT [108, 97] [xo] == head) = false := beq_eq_false_iff_ne.2 hp
      clear HB0 hp HWR
      generalize lineT [108, 97] [xo] = tx at *
      go_wp2
      go_ret2
      exact ⟨(fun h => by rw [HQ.out] at h; cases h), fun _ => rfl, HB6.out⟩
  · have HQ : Hid (q = false) := Lib.hid (by rw [HB0.out, beq_eq_false_iff_ne.2 hq, Bool.false_and])
    have hnq : (n0 == [108, 97]) = false := beq_eq_false_iff_ne.2 hq
    clear HB0 hq
    go_wp2
    go_ret2
    exact ⟨(fun h => by rw [HQ.out] at h; cases h), fun _ => rfl, HB3.out.alloc HB3.out.size _⟩
def jumpI (head : Bs) : Ins := parseI (head ++ [44, 32, 48])
def jumpB (head : Bs) : Bool := parseB (head ++ [44, 32, 48]) && jumpsZ (jumpI head).op
def JaEnd (w : World) (q : Bool) (i : Ins) (e : Ending) (w' : World) : Prop :=
  (q = true → ∃ b, e = .returned (.tuple #[.func (.func 159) #[] #[.pointer (some ⟨b, 0, none⟩)], .bool true]) ∧ w.heap.size ≤ b ∧ HoldsI w' b i) ∧
  (q = false → e = .returned (.tuple #[.nilFunc, .bool false])) ∧ Below w.heap.size w w'
end Go.Proofs.YtakdhdaoklcidaaGreatDoor

namespace Go.Proofs.YtakdhdaoklcidaaGreatDoor
open Go.RowKit Go.Lib
set_option linter.unusedVariables false
set_option maxRecDepth 100000
set_option maxHeartbeats 1000000 in
theorem aimOfJump_any (head : Bs) (hl : head.length ≤ 100000) (w : World) (he : Env w) : Calls Tryz.prog 138 #[str head] w (JaEnd w (jumpB head) (jumpI head)) := by
  have hN : Calls Tryz.prog 29 #[.int .i64 0] w fun e w' => e = .returned (str [48]) ∧ Below w.heap.size w w' := by
    have h := numberText_any 0 (by decide) (by decide) w he
    rw [show itoa 0 = [48] by decide +kernel] at h; exact h
  have hP : ∀ w, Env w → Calls Tryz.prog 13 #[.string (((⟨head.toArray⟩ : ByteArray) ++ ⟨#[44, 32]⟩) ++ ⟨[48].toArray⟩)] w fun e w' => e = .returned (.tuple #[insV (jumpI head), .int .i64 (parseE (head ++ [44, 32, 48]))]) ∧ Below w.heap.size w w' := fun w he => by
    have h := parseP (head ++ [44, 32, 48]) (by simp; omega) w he
    have e : (((⟨head.toArray⟩ : ByteArray) ++ ⟨#[44, 32]⟩) ++ ⟨[48].toArray⟩) = ⟨(head ++ [44, 32, 48]).toArray⟩ := by
      have e1 := str_cat head [44, 32]
      have e2 := str_cat (head ++ [44, 32]) [48]
      injection e1 with e1
      injection e2 with e2
      rw [show (⟨#[44, 32]⟩ : ByteArray) = ⟨[44, 32].toArray⟩ from rfl, e1, e2]
      simp
    rw [e]; exact h
  have hq : jumpB head = (parseB (head ++ [44, 32, 48]) && jumpsZ (jumpI head).op) := rfl
  have hee : parseE (head ++ [44, 32, 48]) = if parseB (head ++ [44, 32, 48]) then 0 else 100 := rfl
  rw [hee] at hP
  rw [hq]
  clear hq hee
  have HN := Lib.hid hN
  have HE := Lib.hid he
  clear hN he
  generalize parseB (head ++ [44, 32, 48]) = pb at *
  generalize jumpI head = I at *
  cases pb with
  | false =>
    have hP2 : ∀ w, Env w → Calls Tryz.prog 13 #[.string (((⟨head.toArray⟩ : ByteArray) ++ ⟨#[44, 32]⟩) ++ ⟨[48].toArray⟩)] w fun e w' => e = .returned (.tuple #[insV I, .int .i64 100]) ∧ Below w.heap.size w w' := hP
    have HP := Lib.hid hP2
    clear hP hP2
    obtain ⟨op, rd, a, b, imm, csr, aq, rl⟩ := I
    go_enter Tryz.func138, Tryz.ntmps138
    go_wp2_with (fail)
    (with_reducible refine HN.out.mono ?_)
    rintro e w1 ⟨rfl, hb1⟩
    have HB1 := Lib.hid hb1
    clear hb1
    go_wp2_with (fail)
    (with_reducible refine (HP.out _ (HE.out.below HB1.out)).mono ?_)
    rintro e w2 ⟨rfl, hb2⟩
    have HB2 := Lib.hid (HB1.out.trans (hb2.mono HB1.out.size))
    clear hb2
    go_wp2
    go_ret2
    exact ⟨(fun h => by cases h), fun _ => rfl, HB2.out.alloc HB2.out.size _⟩
  | true =>
    have hP2 : ∀ w, Env w → Calls Tryz.prog 13 #[.string (((⟨head.toArray⟩ : ByteArray) ++ ⟨#[44, 32]⟩) ++ ⟨[48].toArray⟩)] w fun e w' => e = .returned (.tuple #[insV I, .int .i64 0]) ∧ Below w.heap.size w w' := hP
    have HP := Lib.hid hP2
    clear hP hP2
    rw [Bool.true_and]
    obtain ⟨op, rd, a, b, imm, csr, aq, rl⟩ := I
    have hj : ∀ w, Calls Tryz.prog 158 #[.int .i64 op] w fun e w' => e = .returned (.bool (jumpsZ op)) ∧ w = w' := fun w => by
      cases h : jumpsZ op
      · exact jumps_no op h w
      · exact jumps_yes op h w
    have HJ := Lib.hid hj
    clear hj
    show Calls _ _ _ _ (JaEnd w (jumpsZ op) _)
    generalize jumpsZ op = jz at *
    go_enter Tryz.func138, Tryz.ntmps138
    go_wp2_with (fail)
    (with_reducible refine HN.out.mono ?_)
    rintro e w1 ⟨rfl, hb1⟩
    have HB1 := Lib.hid hb1
    clear hb1
    go_wp2_with (fail)
    (with_reducible refine (HP.out _ (HE.out.below HB1.out)).mono ?_)
    rintro e w2 ⟨rfl, hb2⟩
    have HB2 := Lib.hid (HB1.out.trans (hb2.mono HB1.out.size))
    clear hb2
    cases jz
    · go_wp2_with (fail)
      (with_reducible refine (HJ.out _).mono ?_)
      rintro e wu ⟨rfl, rfl⟩
      go_wp2
      go_ret2
      exact ⟨(fun h => by cases h), fun _ => rfl, HB2.out.alloc HB2.out.size _⟩
    · go_wp2_with (fail)
      (with_reducible refine (HJ.out _).mono ?_)
      rintro e wu ⟨rfl, rfl⟩
      go_wp2
      go_ret2
      exact ⟨fun _ => ⟨w2.heap.size, rfl, HB2.out.size, imm, heap_alloc_new _ _⟩, (fun h => by cases h), HB2.out.alloc HB2.out.size _⟩
inductive Stm
  | none
  | label (l : Bs)
  | words (ws : List Int)
  | la (rd : Int) (l : Bs)
  | jump (i : Ins) (l : Bs)
def namingS (head name : Bs) : Option Stm :=
  if nameOK name then
    if laB head then (if (laL (laRd head) 0).all rightB then some (.la (laRd head) name) else none)
    else if jumpB head then (if rightB (withImm (jumpI head) 0) then some (.jump (jumpI head) name) else none)
    else none
  else none
def WordsAt (w : World) (B : Nat) (v : Value) (ws : List Int) : Prop := OwnW w B v ws
def StmV (w : World) (B : Nat) (s : Stm) (c0 c1 c2 c3 : Value) : Prop :=
  match s with
  | .none => c0 = str [] ∧ c1 = .slice none 0 0 ∧ c2 = str [] ∧ c3 = .nilFunc
  | .label l => c0 = str l ∧ c1 = .slice none 0 0 ∧ c2 = str [] ∧ c3 = .nilFunc
  | .words ws => c0 = str [] ∧ OwnW w B c1 ws ∧ c2 = str [] ∧ c3 = .nilFunc
  | .la rd l => c0 = str [] ∧ (∃ ws, ws.length = 2 ∧ OwnW w B c1 ws) ∧ c2 = str l ∧ ∃ b, c3 = .func (.func 157) #[] #[.pointer (some ⟨b, 0, none⟩)] ∧ B ≤ b ∧ w.heap[b]? = some (.cells #[.int .i64 rd] 3 (0, 0))
  | .jump i l => c0 = str [] ∧ (∃ ws, ws.length = 1 ∧ OwnW w B c1 ws) ∧ c2 = str l ∧ ∃ b, c3 = .func (.func 159) #[] #[.pointer (some ⟨b, 0, none⟩)] ∧ B ≤ b ∧ HoldsI w b i
def StmVal (w : World) (B : Nat) (s : Stm) (v : Value) : Prop := ∃ c0 c1 c2 c3, v = .agg #[c0, c1, c2, c3] ∧ StmV w B s c0 c1 c2 c3
def Four (v : Value) : Prop := ∃ c0 c1 c2 c3, v = .agg #[c0, c1, c2, c3] ∧ c0.oneCell' = true ∧ c1.oneCell' = true ∧ c2.oneCell' = true ∧ c3.oneCell' = true
def NmEnd (w : World) (o : Option Stm) (e : Ending) (w' : World) : Prop :=
  (∀ s, o = some s → ∃ v, e = .returned (.tuple #[v, .bool true]) ∧ StmVal w' w.heap.size s v) ∧ (o = none → ∃ v, e = .returned (.tuple #[v, .bool false]) ∧ Four v) ∧ Below w.heap.size w w'
theorem stmV_four {w : World} {B : Nat} {s : Stm} {c0 c1 c2 c3 : Value} (h : StmV w B s c0 c1 c2 c3) : c0.oneCell' = true ∧ c1.oneCell' = true ∧ c2.oneCell' = true ∧ c3.oneCell' = true := by
  cases s with
  | none => obtain ⟨rfl, rfl, rfl, rfl⟩ := h; exact ⟨rfl, rfl, rfl, rfl⟩
  | label l => obtain ⟨rfl, rfl, rfl, rfl⟩ := h; exact ⟨rfl, rfl, rfl, rfl⟩
  | words ws =>
    obtain ⟨rfl, h1, rfl, rfl⟩ := h
    obtain ⟨A, C, rfl⟩ := ownW_slice h1
    exact ⟨rfl, rfl, rfl, rfl⟩
  | la rd l =>
    obtain ⟨rfl, ⟨ws, _, h1⟩, rfl, b, rfl, _⟩ := h
    obtain ⟨A, C, rfl⟩ := ownW_slice h1
    exact ⟨rfl, rfl, rfl, rfl⟩
  | jump i l =>
    obtain ⟨rfl, ⟨ws, _, h1⟩, rfl, b, rfl, _⟩ := h
    obtain ⟨A, C, rfl⟩ := ownW_slice h1
    exact ⟨rfl, rfl, rfl, rfl⟩
end Go.Proofs.YtakdhdaoklcidaaGreatDoor

namespace Go.Proofs.YtakdhdaoklcidaaGreatDoor
open Go.RowKit Go.Lib
set_option linter.unusedVariables false
set_option maxRecDepth 100000
theorem size_stm : (Tryz.prog.info? 129).map (·.size) = some 4 := by kernel_rfl
theorem laW_0 (rd : Int) : laW rd 0 = if (laL rd 0).all rightB then some ((laL rd 0).map encW) else none := by unfold laW; rw [if_neg (by decide)]
theorem stmV_row {w w' : World} {B g : Nat} {s : Stm} {c0 c1 c2 c3 : Value} (h : StmV w B s c0 c1 c2 c3) (hg : g < B) {S : Nat → Prop} (o : Only S w w') (hS : ∀ k, B ≤ k → k < w.heap.size → ¬ S k) : StmV w' B s c0 c1 c2 c3 := by
  cases s with
  | none => exact h
  | label l => exact h
  | words ws => exact ⟨h.1, ownW_keep h.2.1 o (fun k hk => hS k (ownW_lt h.2.1 k hk).1 (ownW_lt h.2.1 k hk).2), h.2.2⟩
  | la rd l =>
    obtain ⟨h0, ⟨ws, hl, h1⟩, h2, b, h3, h4, h5⟩ := h
    exact ⟨h0, ⟨ws, hl, ownW_keep h1 o (fun k hk => hS k (ownW_lt h1 k hk).1 (ownW_lt h1 k hk).2)⟩, h2, b, h3, h4, o.keeps (hS b h4 (Array.getElem?_eq_some_iff.1 h5).1) h5⟩
  | jump i l =>
    obtain ⟨h0, ⟨ws, hl, h1⟩, h2, b, h3, h4, m, h5⟩ := h
    exact ⟨h0, ⟨ws, hl, ownW_keep h1 o (fun k hk => hS k (ownW_lt h1 k hk).1 (ownW_lt h1 k hk).2)⟩, h2, b, h3, h4, m, o.keeps (hS b h4 (Array.getElem?_eq_some_iff.1 h5).1) h5⟩
theorem stmV_base {w : World} {B B' : Nat} {s : Stm} {c0 c1 c2 c3 : Value} (h : StmV w B s c0 c1 c2 c3) (hB : B' ≤ B) : StmV w B' s c0 c1 c2 c3 := by
  cases s with
  | none => exact h
  | label l => exact h
  | words ws => exact ⟨h.1, ownW_base h.2.1 hB, h.2.2⟩
  | la rd l =>
    obtain ⟨h0, ⟨ws, hl, h1⟩, h2, b, h3, h4, h5⟩ := h
    exact ⟨h0, ⟨ws, hl, ownW_base h1 hB⟩, h2, b, h3, by omega, h5⟩
  | jump i l =>
    obtain ⟨h0, ⟨ws, hl, h1⟩, h2, b, h3, h4, m, h5⟩ := h
    exact ⟨h0, ⟨ws, hl, ownW_base h1 hB⟩, h2, b, h3, by omega, m, h5⟩
theorem setRow_only (w : World) (g : Nat) (cs : Array Value) : Only (fun k => k = g) w (w.setRow g cs) := (Only.refl (fun k => k = g) w).setRow (.inl rfl) cs
set_option maxHeartbeats 4000000 in
theorem readNaming_any (head name : Bs) (hl : head.length ≤ 100000) (w : World) (he : Env w) : Calls Tryz.prog 107 #[str head, str name] w (NmEnd w (namingS head name)) := by
  have HNM := Lib.hid (fun w => isNameP name w)
  have HLA := Lib.hid (fun w he => aimOfLa_any head (by omega) w he)
  have HJA := Lib.hid (fun w he => aimOfJump_any head (by omega) w he)
  have hS : namingS head name = if nameOK name then
    if laB head then (if (laL (laRd head) 0).all rightB then some (.la (laRd head) name) else none)
    else if jumpB head then (if rightB (withImm (jumpI head) 0) then some (.jump (jumpI head) name) else none)
    else none
  else none := rfl
  have HS := Lib.hid hS
  have HE := Lib.hid he
  clear hS he hl
  generalize namingS head name = o at *
  generalize nameOK name = q1 at *
  generalize laB head = q2 at *
  generalize jumpB head = q3 at *
  generalize laRd head = rd at *
  generalize jumpI head = I at *
  go_enter Tryz.func107, Tryz.ntmps107
  go_wp2_with (fail)
  (with_reducible refine (HNM.out _).mono ?_)
  rintro e w1 ⟨rfl, hb1⟩
  have HR : Hid (w1.heap[w.heap.size]? = some (.cells #[.string ⟨#[]⟩, .slice none 0 0, .string ⟨#[]⟩, .nilFunc] 129 (0, 0))) := Lib.hid ((hb1.block _ (by simp)).trans (heap_alloc_new _ _))
  have HB1 := Lib.hid (((Below.refl _ _).alloc (Nat.le_refl _) (.cells #[.string ⟨#[]⟩, .slice none 0 0, .string ⟨#[]⟩, .nilFunc] 129)).trans (hb1.mono (by simp)))
  have HZ1 : Hid (w.heap.size < w1.heap.size) := Lib.hid (by have := hb1.size; simp at this; omega)
  clear hb1
  cases q1 with
  | false =>
    have hO : o = none := HS.out
    subst hO
    go_wp2_with (refine wpList_store_row rfl _ _ _ rfl w.heap.size _ rfl rfl 129 _ HR.out size_stm rfl (by simp [Value.oneCell']) ?_)
    exact bodyPost_ret (v := .tuple #[.agg #[.string ⟨#[]⟩, .slice none 0 0, .string ⟨#[]⟩, .nilFunc], .bool false]) (results_cell_tmp (show Tryz.f107.results = #[.cell 4 129, .tmp 5] by kernel_rfl) _ _ w.heap.size 129 _ _ _ rfl (setRow_heap _ _ _ _ _ _ HR.out) Tryz.underlying129 rfl size_stm) rfl ⟨(fun s h => by cases h), fun _ => ⟨_, rfl, _, _, _, _, rfl, rfl, rfl, rfl, rfl⟩, below_setRow HB1.out (Nat.le_refl _) _⟩
  | true =>
    go_wp2_with (fail)
    (with_reducible refine (HLA.out _ (HE.out.below HB1.out)).mono ?_)
    rintro e w2 ⟨hy, hno, hb2⟩
    have HR2 : Hid (w2.heap[w.heap.size]? = some (.cells #[.string ⟨#[]⟩, .slice none 0 0, .string ⟨#[]⟩, .nilFunc] 129 (0, 0))) := Lib.hid ((hb2.block _ HZ1.out).trans HR.out)
    have HB2 := Lib.hid (HB1.out.trans (hb2.mono HB1.out.size))
    have HZ2 : Hid (w.heap.size < w2.heap.size) := Lib.hid (by have := hb2.size; have := HZ1.out; omega)
    clear hb2
    cases q2 with
    | true =>
      obtain ⟨b, rfl, hbb, hcb⟩ := hy rfl
      have HCB := Lib.hid hcb
      have HBB : Hid (w.heap.size < b) := Lib.hid (by have := HZ1.out; omega)
      have hc0 : w2.cell? ⟨b, 0, none⟩ = some (.int .i64 rd) := by rw [Lib.cell_of_heap hcb]; rfl
      have HLI := Lib.hid (la_in rd 0 b (by decide) (by decide) w2 (HE.out.below HB2.out) hc0)
      clear hy hno hbb hcb hc0
      go_wp2_with (fail)
      (with_reducible refine HLI.out.mono ?_)
      rintro e w3 h3
      rw [laW_0] at h3
      have hO : o = if (laL rd 0).all rightB then some (.la rd name) else none := HS.out
      clear HS HLI
      have hL2 : ((laL rd 0).map encW).length = 2 := rfl
      generalize (laL rd 0).map encW = ws at *
      cases hall : (laL rd 0).all rightB with
      | true =>
        rw [hall, if_pos rfl] at hO h3
        subst hO
        obtain ⟨v, rfl, how, hb3⟩ := h3
        obtain ⟨A, C, rfl⟩ := ownW_slice how
        have how2 : OwnW w3 w2.heap.size (.slice A 2 C) ws := by have := how; rw [show Value.slice A ws.length C = Value.slice A 2 C by rw [hL2]] at this; exact this
        rw [hL2]
        have HOW := Lib.hid how2
        have HL2 := Lib.hid hL2
        clear how2
        have HR : Hid (w3.heap[w.heap.size]? = some (.cells #[.string ⟨#[]⟩, .slice none 0 0, .string ⟨#[]⟩, .nilFunc] 129 (0, 0))) := Lib.hid ((hb3.block _ HZ2.out).trans HR2.out)
        have HB3 := Lib.hid (HB2.out.trans (hb3.mono HB2.out.size))
        have HCB3 := Lib.hid ((hb3.block _ (Array.getElem?_eq_some_iff.1 HCB.out).1).trans HCB.out)
        clear how hb3 hall hL2
        go_wp2_with (refine wpList_store_row rfl _ _ _ rfl w.heap.size _ rfl rfl 129 _ HR.out size_stm rfl (by simp [Value.oneCell']) ?_)
        have hst : StmV w3 (w.heap.size + 1) (.la rd name) (str []) (.slice A 2 C) (str name) (.func (.func 157) #[] #[.pointer (some ⟨b, 0, none⟩)]) := ⟨rfl, ⟨ws, HL2.out, ownW_base HOW.out (by have := HZ2.out; omega)⟩, rfl, b, rfl, HBB.out, HCB3.out⟩
        have hst2 := stmV_base (stmV_row hst (Nat.lt_succ_self _) (setRow_only w3 w.heap.size #[.string ⟨#[]⟩, .slice A 2 C, str name, .func (.func 157) #[] #[.pointer (some ⟨b, 0, none⟩)]]) (fun k h1 _ h2 => by omega)) (Nat.le_succ _)
        exact bodyPost_ret (v := .tuple #[.agg #[.string ⟨#[]⟩, .slice A 2 C, str name, .func (.func 157) #[] #[.pointer (some ⟨b, 0, none⟩)]], .bool true]) (results_cell_tmp (show Tryz.f107.results = #[.cell 4 129, .tmp 5] by kernel_rfl) _ _ w.heap.size 129 _ _ _ rfl (setRow_heap _ _ _ _ _ _ HR.out) Tryz.underlying129 rfl size_stm) rfl ⟨(fun s h => by cases h; exact ⟨_, rfl, _, _, _, _, rfl, hst2⟩), (fun h => by cases h), below_setRow HB3.out (Nat.le_refl _) _⟩
      | false =>
        rw [hall, if_neg (by decide)] at hO h3
        subst hO
        obtain ⟨rfl, hb3⟩ := h3
        have HR : Hid (w3.heap[w.heap.size]? = some (.cells #[.string ⟨#[]⟩, .slice none 0 0, .string ⟨#[]⟩, .nilFunc] 129 (0, 0))) := Lib.hid ((hb3.block _ HZ2.out).trans HR2.out)
        have HB3 := Lib.hid (HB2.out.trans (hb3.mono HB2.out.size))
        clear hb3 hall
        go_wp2_with (refine wpList_store_row rfl _ _ _ rfl w.heap.size _ rfl rfl 129 _ HR.out size_stm rfl (by simp [Value.oneCell']) ?_)
        exact bodyPost_ret (v := .tuple #[.agg #[.string ⟨#[]⟩, .slice none 0 0, str name, .func (.func 157) #[] #[.pointer (some ⟨b, 0, none⟩)]], .bool false]) (results_cell_tmp (show Tryz.f107.results = #[.cell 4 129, .tmp 5] by kernel_rfl) _ _ w.heap.size 129 _ _ _ rfl (setRow_heap _ _ _ _ _ _ HR.out) Tryz.underlying129 rfl size_stm) rfl ⟨(fun s h => by cases h), fun _ => ⟨_, rfl, _, _, _, _, rfl, rfl, rfl, rfl, rfl⟩, below_setRow HB3.out (Nat.le_refl _) _⟩
    | false =>
      obtain rfl := hno rfl
      clear hy hno
      go_wp2_with (fail)
      (with_reducible refine (HJA.out _ (HE.out.below HB2.out)).mono ?_)
      rintro e w3 ⟨hy, hno, hb3⟩
      have HR3 : Hid (w3.heap[w.heap.size]? = some (.cells #[.string ⟨#[]⟩, .slice none 0 0, .string ⟨#[]⟩, .nilFunc] 129 (0, 0))) := Lib.hid ((hb3.block _ HZ2.out).trans HR2.out)
      have HB3 := Lib.hid (HB2.out.trans (hb3.mono HB2.out.size))
      have HZ3 : Hid (w.heap.size < w3.heap.size) := Lib.hid (by have := hb3.size; have := HZ2.out; omega)
      clear hb3
      cases q3 with
      | false =>
        obtain rfl := hno rfl
        have hO : o = none := HS.out
        subst hO
        have HR : Hid (w3.heap[w.heap.size]? = some (.cells #[.string ⟨#[]⟩, .slice none 0 0, .string ⟨#[]⟩, .nilFunc] 129 (0, 0))) := HR3
        clear hy hno
        go_wp2_with (refine wpList_store_row rfl _ _ _ rfl w.heap.size _ rfl rfl 129 _ HR.out size_stm rfl (by simp [Value.oneCell']) ?_)
        exact bodyPost_ret (v := .tuple #[.agg #[.string ⟨#[]⟩, .slice none 0 0, .string ⟨#[]⟩, .nilFunc], .bool false]) (results_cell_tmp (show Tryz.f107.results = #[.cell 4 129, .tmp 5] by kernel_rfl) _ _ w.heap.size 129 _ _ _ rfl (setRow_heap _ _ _ _ _ _ HR.out) Tryz.underlying129 rfl size_stm) rfl ⟨(fun s h => by cases h), fun _ => ⟨_, rfl, _, _, _, _, rfl, rfl, rfl, rfl, rfl⟩, below_setRow HB3.out (Nat.le_refl _) _⟩
      | true =>
        obtain ⟨b, rfl, hbb, hcb⟩ := hy rfl
        have HBB : Hid (w.heap.size < b) := Lib.hid (by have := HZ2.out; omega)
        have HJM := Lib.hid (jump_any I 0 b w3 (fun w' ho => HE.out.below (Below.thenOnly HB3.out ho (by intro k hk; have := HBB.out; omega) HB3.out.size)) hcb)
        clear hy hno hbb hcb
        go_wp2_with (fail)
        (with_reducible refine HJM.out.mono ?_)
        rintro e w4 ⟨h4, h4n, hI, ho4⟩
        have hO : o = if rightB (withImm I 0) then some (.jump I name) else none := HS.out
        have HR : Hid (w4.heap[w.heap.size]? = some (.cells #[.string ⟨#[]⟩, .slice none 0 0, .string ⟨#[]⟩, .nilFunc] 129 (0, 0))) := Lib.hid (ho4.keeps (by have := HBB.out; omega) HR3.out)
        have HB4 : Hid (Below w.heap.size w w4) := Lib.hid (Below.thenOnly HB3.out ho4 (by intro k hk; have := HBB.out; omega) HB3.out.size)
        have HI := Lib.hid hI
        clear HS HJM ho4 hI
        cases hall : rightB (withImm I 0) with
        | true =>
          rw [hall, if_pos rfl] at hO
          subst hO
          obtain ⟨v, rfl, how⟩ := h4 hall
          generalize encW (withImm I 0) = W at *
          obtain ⟨A, C, rfl⟩ := ownW_slice how
          have HOW := Lib.hid how
          clear h4 h4n how hall
          go_wp2_with (refine wpList_store_row rfl _ _ _ rfl w.heap.size _ rfl rfl 129 _ HR.out size_stm rfl (by simp [Value.oneCell']) ?_)
          have hst : StmV w4 (w.heap.size + 1) (.jump I name) (str []) (.slice A 1 C) (str name) (.func (.func 159) #[] #[.pointer (some ⟨b, 0, none⟩)]) := ⟨rfl, ⟨[W], rfl, ownW_base HOW.out (by have := HZ3.out; omega)⟩, rfl, b, rfl, HBB.out, HI.out⟩
          have hst2 := stmV_base (stmV_row hst (Nat.lt_succ_self _) (setRow_only w4 w.heap.size #[.string ⟨#[]⟩, .slice A 1 C, str name, .func (.func 159) #[] #[.pointer (some ⟨b, 0, none⟩)]]) (fun k h1 _ h2 => by omega)) (Nat.le_succ _)
          exact bodyPost_ret (v := .tuple #[.agg #[.string ⟨#[]⟩, .slice A 1 C, str name, .func (.func 159) #[] #[.pointer (some ⟨b, 0, none⟩)]], .bool true]) (results_cell_tmp (show Tryz.f107.results = #[.cell 4 129, .tmp 5] by kernel_rfl) _ _ w.heap.size 129 _ _ _ rfl (setRow_heap _ _ _ _ _ _ HR.out) Tryz.underlying129 rfl size_stm) rfl ⟨(fun s h => by cases h; exact ⟨_, rfl, _, _, _, _, rfl, hst2⟩), (fun h => by cases h), below_setRow HB4.out (Nat.le_refl _) _⟩
        | false =>
          rw [hall, if_neg (by decide)] at hO
          subst hO
          obtain rfl := h4n hall
          clear h4 h4n hall
          go_wp2_with (refine wpList_store_row rfl _ _ _ rfl w.heap.size _ rfl rfl 129 _ HR.out size_stm rfl (by simp [Value.oneCell']) ?_)
          exact bodyPost_ret (v := .tuple #[.agg #[.string ⟨#[]⟩, .slice none 0 0, str name, .func (.func 159) #[] #[.pointer (some ⟨b, 0, none⟩)]], .bool false]) (results_cell_tmp (show Tryz.f107.results = #[.cell 4 129, .tmp 5] by kernel_rfl) _ _ w.heap.size 129 _ _ _ rfl (setRow_heap _ _ _ _ _ _ HR.out) Tryz.underlying129 rfl size_stm) rfl ⟨(fun s h => by cases h), fun _ => ⟨_, rfl, _, _, _, _, rfl, rfl, rfl, rfl, rfl⟩, below_setRow HB4.out (Nat.le_refl _) _⟩
end Go.Proofs.YtakdhdaoklcidaaGreatDoor

namespace Go.Proofs.YtakdhdaoklcidaaGreatDoor
open Go.RowKit Go.Lib
set_option linter.unusedVariables false
set_option maxRecDepth 100000
def liT : Bs := [108, 105]
def wordT : Bs := [46, 119, 111, 114, 100]
def wordsG (line n0 r0 : Bs) : Option (List Int) :=
  if n0 = liT then
    (if 0 ≤ regP (cut r0 sepC).1 ∧ regP (cut r0 sepC).1 ≤ 31 then
      (if lineT liT [xr (regP (cut r0 sepC).1), itoa (numP (cut (cut r0 sepC).2.1 sepC).1)] = line then
        (if (liF (regP (cut r0 sepC).1) 4 (numP (cut (cut r0 sepC).2.1 sepC).1)).all rightB then some ((liF (regP (cut r0 sepC).1) 4 (numP (cut (cut r0 sepC).2.1 sepC).1)).map encW) else none)
      else none)
    else none)
  else if n0 = wordT then
    (if 0 ≤ numP (cut r0 sepC).1 ∧ numP (cut r0 sepC).1 ≤ 4294967295 then
      (if lineT wordT [itoa (numP (cut r0 sepC).1)] = line then some [numP (cut r0 sepC).1] else none)
    else none)
  else if parseB line then (if rightB (parseI line) then some [encW (parseI line)] else none) else none
def wordsS (line : Bs) : Option (List Int) := wordsG line (cut line [32]).1 (cut line [32]).2.1
theorem liF_ne (rd n : Int) : liF rd 4 n ≠ [] := by
  unfold liF
  split
  · simp
  · split <;> simp
theorem insAt_own {w : World} {B : Nat} {v : Value} {l : List Ins} (h : OwnI w B v l) (hl : l ≠ []) : ∃ g C, v = .slice (some ⟨g, 0, none⟩) l.length C ∧ InsAt w g l := by
  rcases h.2 with ⟨rfl, h0⟩ | ⟨g, cap, cur, rfl, hb, hc, hn, _, hcs, ht⟩
  · exact absurd (List.eq_nil_of_length_eq_zero h0) hl
  · refine ⟨g, cap, rfl, fun k hk j hj => ?_⟩
    rw [Lib.cell_of_heap hc]
    have h1 := insCs_at l k j hk hj
    rw [← ht, List.getElem?_take, if_pos (by omega)] at h1
    simpa using h1
structure RS (w wx : World) (bl bn : Nat) (rest : Bs) : Prop where
  left : BoxS wx bl rest
  next : wx.heap[bn]? = some (.cells #[nextV bl] 108 (0, 0))
  len : rest.length ≤ 1000000
  bel : Below w.heap.size w wx
  low : w.heap.size ≤ bl ∧ bl < bn
section
variable {w wx : World} {bl bn : Nat} {rest : Bs}
theorem RS.env (h : RS w wx bl bn rest) (he : Env w) : ∀ w', Only (fun k => k = bl) wx w' → Env w' := fun w' ho => by
  have hl := h.low
  exact he.below (Below.thenOnly h.bel ho (by intro k hk; omega) h.bel.size)
theorem RS.step (h : RS w wx bl bn rest) {w' : World} {r : Bs} (hr : r.length ≤ 1000000) (hb : BoxS w' bl r) (ho : Only (fun k => k = bl) wx w') : RS w w' bl bn r := by
  have hl := h.low
  exact ⟨hb, ho.keeps (by omega) h.next, hr, Below.thenOnly h.bel ho (by intro k hk; omega) h.bel.size, hl⟩
theorem RS.reg (h : RS w wx bl bn rest) (he : Env w) : Calls Tryz.prog 64 #[.pointer (some ⟨bn, 0, none⟩)] wx fun e w' => e = .returned (.int .i64 (regP (cut rest sepC).1)) ∧ RS w w' bl bn (cut rest sepC).2.1 := by
  refine (reg_any bn bl rest wx (h.env he) h.len (by rw [Lib.cell_of_heap h.next]; rfl) h.left).mono ?_
  rintro e w' ⟨rfl, h1, h2⟩
  exact ⟨rfl, h.step (Nat.le_trans (cut_len rest sepC).2 h.len) h1 h2⟩
theorem RS.num (h : RS w wx bl bn rest) (he : Env w) : Calls Tryz.prog 67 #[.pointer (some ⟨bn, 0, none⟩)] wx fun e w' => e = .returned (.int .i64 (numP (cut rest sepC).1)) ∧ RS w w' bl bn (cut rest sepC).2.1 := by
  refine (num_any bn bl rest wx (h.env he) h.len (by rw [Lib.cell_of_heap h.next]; rfl) h.left).mono ?_
  rintro e w' ⟨rfl, h1, h2⟩
  exact ⟨rfl, h.step (Nat.le_trans (cut_len rest sepC).2 h.len) h1 h2⟩
end
theorem aimEnd_yes {w : World} {o : Option (List Int)} {ws : List Int} (h : o = some ws) {e : Ending} {w' : World} (hx : EncEnd w ws e w') : AimEnd w o e w' := by subst h; exact hx
theorem aimEnd_no {w : World} {o : Option (List Int)} (h : o = none) {e : Ending} {w' : World} (hx : EncNo w e w') : AimEnd w o e w' := by subst h; exact hx
set_option maxHeartbeats 4000000 in
theorem readWords_li (l : Bs) (c1 : (cut l [32]).1 = liT) (hl : l.length ≤ 100000) (w : World) (he : Env w) : Calls Tryz.prog 108 #[str l] w (AimEnd w (wordsS l)) := by
  have K1 := Lib.hid c1
  clear c1
  have hCUT : ∀ w, Env w → Calls Tryz.prog 34 #[str l, .string ⟨#[32]⟩] w fun e w' => e = .returned (.tuple #[str (cut l [32]).1, str (cut l [32]).2.1, .bool (cut l [32]).2.2]) ∧ Below w.heap.size w w' := fun w he => cutP l [32] w (by omega) he
  have hcl := cut_len l [32]
  have hR0 : (cut l [32]).2.1.length ≤ 1000000 := by omega
  have hRD := fun w => reader_any (cut l [32]).2.1 w
  have hS : wordsS l = wordsG l (cut l [32]).1 (cut l [32]).2.1 := rfl
  have i1 := numP_in (trimPrefix (cut (cut l [32]).2.1 sepC).1 [120])
  have i1' : -9223372036854775808 ≤ regP (cut (cut l [32]).2.1 sepC).1 ∧ regP (cut (cut l [32]).2.1 sepC).1 ≤ 9223372036854775807 := i1
  have i2 := numP_in (cut (cut (cut l [32]).2.1 sepC).2.1 sepC).1
  have i3 := numP_in (cut (cut l [32]).2.1 sepC).1
  have hPA := fun w he => parseP l (by omega) w he
  have hee : parseE l = if parseB l then 0 else 100 := rfl
  have HS := Lib.hid hS
  have HCUT := Lib.hid hCUT
  have HRD := Lib.hid hRD
  have HE := Lib.hid he
  have HR0 := Lib.hid hR0
  have HPA := Lib.hid hPA
  have HEE := Lib.hid hee
  have HI1 := Lib.hid i1'; have HI2 := Lib.hid i2; have HI3 := Lib.hid i3
  clear hCUT hRD he hcl hR0 hS i1 i1' i2 i3 hPA hee hl
  generalize wordsS l = o at *
  generalize (cut l [32]).2.1 = r0 at *
  generalize (cut l [32]).2.2 = qq at *
  generalize (cut l [32]).1 = n0 at *
  go_enter Tryz.func108, Tryz.ntmps108
  go_wp2_with (fail)
  (with_reducible refine (HCUT.out _ HE.out).mono ?_)
  rintro e w1 ⟨rfl, hb1⟩
  have HB1 := Lib.hid hb1
  clear hb1
  go_wp2_with (fail)
  (with_reducible refine (HRD.out _).mono ?_)
  rintro e w2 ⟨rfl, h1, h2, h3, h4⟩
  have HRS : Hid (RS w w2 w1.heap.size (w1.heap.size + 1) r0) := Lib.hid ⟨h1, h2, HR0.out, HB1.out.trans (h4.mono HB1.out.size), HB1.out.size, Nat.lt_succ_self _⟩
  clear h1 h2 h3 h4
  generalize w1.heap.size + 1 = bn at *
  generalize w1.heap.size = bl at *
  clear HB1 HCUT HRD HR0
  have c1 := K1.out
  have hO : o = wordsG l n0 r0 := HS.out
  unfold wordsG at hO
  rw [if_pos c1] at hO
  have HO := Lib.hid hO
  subst c1
  clear hO HS HPA HEE HI3
  go_wp2_with (fail)
  (with_reducible refine (HRS.out.reg HE.out).mono ?_)
  rintro e w3 ⟨rfl, h3⟩
  have HR3 := Lib.hid h3
  clear h3
  go_wp2_with (fail)
  (with_reducible refine (HR3.out.num HE.out).mono ?_)
  rintro e w4 ⟨rfl, h4⟩
  have HB4 := Lib.hid h4.bel
  clear h4 HRS HR3
  generalize regP (cut r0 sepC).1 = rd at *
  generalize numP (cut (cut r0 sepC).2.1 sepC).1 = n at *
  by_cases hr : 0 ≤ rd ∧ rd ≤ 31
  · have hO := HO.out
    rw [if_pos hr] at hO
    have HLI := Lib.hid (li_any rd n hr HI2.out.1 HI2.out.2 w4 (HE.out.below HB4.out))
    have HO2 := Lib.hid hO
    have HNE := Lib.hid (liF_ne rd n)
    have hll := liF_len rd 4 n
    obtain ⟨hr0, hr1⟩ := hr
    clear hO HO
    generalize liF rd 4 n = L at *
    go_wp2_with (fail)
    (with_reducible refine HLI.out.mono ?_)
    rintro e w5 ⟨v, rfl, how, hb5⟩
    have hne := HNE.out
    obtain ⟨g, C, rfl, hat⟩ := insAt_own how hne
    have HAT := Lib.hid hat
    have HB5 := Lib.hid (HB4.out.trans (hb5.mono HB4.out.size))
    have hlz : ((L.length : Int) == 0) = false := by
      have : L.length ≠ 0 := fun h => hne (List.eq_nil_of_length_eq_zero h)
      simp; omega
    have hlz2 : 0 < L.length := by
      have : L.length ≠ 0 := fun h => hne (List.eq_nil_of_length_eq_zero h)
      omega
    clear how hat hb5 hne HLI
    have HT := Lib.hid (fun w he => registerText_any rd (by omega) (by omega) w he)
    have HN := Lib.hid (fun w he => numberText_any n HI2.out.1 HI2.out.2 w he)
    have HWR := Lib.hid (fun w g cap hc hc2 => write2 liT (xr rd) (itoa n) (by decide) (by have := itoa_length_le rd (by omega) (by omega); simp only [xr, List.length_cons]; omega) (by have := itoa_length_le n HI2.out.1 HI2.out.2; omega) (by simp [xr]) (itoa_ne n) w g cap hc hc2)
    generalize lineT liT [xr rd, itoa n] = tx at *
    generalize xr rd = xo at *
    generalize itoa n = no at *
    go_wp2_with (fail)
    (with_reducible refine (HT.out _ (HE.out.below HB5.out)).mono ?_)
    rintro e w6 ⟨rfl, hb6⟩
    have HB6 := Lib.hid (HB5.out.trans (hb6.mono HB5.out.size))
    have HAT6 := Lib.hid (insAt_below HAT.out hb6)
    clear hb6 HAT
    go_wp2_with (fail)
    (with_reducible refine (HN.out _ (HE.out.below HB6.out)).mono ?_)
    rintro e w7 ⟨rfl, hb7⟩
    have HB7 := Lib.hid (HB6.out.trans (hb7.mono HB6.out.size))
    have HAT7 := Lib.hid (insAt_below HAT6.out hb7)
    have HC0 : Hid ((w7.alloc (.cells #[str xo, str no] 9)).cell? ⟨w7.heap.size, 0, none⟩ = some (str xo)) := Lib.hid (by rw [World.cell?_alloc_at _ _ _ _ (by simp)]; rfl)
    have HC1 : Hid ((w7.alloc (.cells #[str xo, str no] 9)).cell? ⟨w7.heap.size, 1, none⟩ = some (str no)) := Lib.hid (by rw [World.cell?_alloc_at _ _ _ _ (by simp)]; rfl)
    clear hb7 HAT6
    go_wp2_with (fail)
    (with_reducible refine (HWR.out _ _ _ HC0.out HC1.out).mono ?_)
    rintro e w8 ⟨rfl, hb8⟩
    have HB8 := Lib.hid ((HB7.out.alloc HB7.out.size (.cells #[str xo, str no] 9)).trans (hb8.mono (by have := HB7.out.size; simp; omega)))
    have HAT8 := Lib.hid (insAt_below (insAt_below HAT7.out ((Below.refl _ _).alloc (Nat.le_refl _) (.cells #[str xo, str no] 9))) hb8)
    clear hb8 HAT7 HC0 HC1
    by_cases hp : tx = l
    · have hO := HO2.out
      rw [if_pos hp] at hO
      have HO := Lib.hid hO
      subst hp
      have HEN := Lib.hid (encode_gen L g C w8 (HE.out.below HB8.out) (by omega) HAT8.out)
      clear hO HO2 HWR
      go_wp2_with (fail)
      (with_reducible refine HEN.out.mono ?_)
      rintro e w9 hq
      cases hall : L.all rightB with
      | true =>
        have h9 := hq.1 hall
        have HR : Hid (o = some (L.map encW)) := Lib.hid (by rw [HO.out, hall]; rfl)
        clear hq HEN
        generalize L.map encW = ws at *
        obtain ⟨v, rfl, ho, hb⟩ := h9
        obtain ⟨A, C9, rfl⟩ := ownW_slice ho
        have HOW := Lib.hid ho
        have HB := Lib.hid hb
        clear ho hb hall HO
        go_wp2
        go_ret2
        exact aimEnd_yes HR.out ((fun e (h : EncEnd _ ws e w9) => encEnd_mono h HB8.out) _ ⟨_, rfl, HOW.out, HB.out⟩)
      | false =>
        have h9 := hq.2 hall
        have HR : Hid (o = none) := Lib.hid (by rw [HO.out, hall]; rfl)
        obtain ⟨rfl, hb⟩ := h9
        have HB := Lib.hid hb
        clear hq HEN hb hall HO
        go_wp2
        go_ret2
        exact aimEnd_no HR.out ⟨rfl, HB8.out.trans (HB.out.mono HB8.out.size)⟩
    · have hO := HO2.out
      rw [if_neg hp] at hO
      have HO := Lib.hid hO
      have hpq : (tx == l) = false := beq_eq_false_iff_ne.2 hp
      clear hO HO2 HWR hp
      go_wp2
      go_ret2
      exact aimEnd_no HO.out ⟨rfl, HB8.out⟩
  · have hO := HO.out
    rw [if_neg hr] at hO
    have HO2 := Lib.hid hO
    have HLI := Lib.hid (li_none rd n hr w4)
    clear hO HO hr
    go_wp2_with (fail)
    (with_reducible refine HLI.out.mono ?_)
    rintro e w5 ⟨rfl, rfl⟩
    go_wp2
    go_ret2
    exact aimEnd_no HO2.out ⟨rfl, HB4.out⟩
set_option maxHeartbeats 4000000 in
theorem readWords_word (l : Bs) (c1 : ¬ (cut l [32]).1 = liT) (c2 : (cut l [32]).1 = wordT) (hl : l.length ≤ 100000) (w : World) (he : Env w) : Calls Tryz.prog 108 #[str l] w (AimEnd w (wordsS l)) := by
  have K1 := Lib.hid c1
  have K2 := Lib.hid c2
  clear c1 c2
  have hCUT : ∀ w, Env w → Calls Tryz.prog 34 #[str l, .string ⟨#[32]⟩] w fun e w' => e = .returned (.tuple #[str (cut l [32]).1, str (cut l [32]).2.1, .bool (cut l [32]).2.2]) ∧ Below w.heap.size w w' := fun w he => cutP l [32] w (by omega) he
  have hcl := cut_len l [32]
  have hR0 : (cut l [32]).2.1.length ≤ 1000000 := by omega
  have hRD := fun w => reader_any (cut l [32]).2.1 w
  have hS : wordsS l = wordsG l (cut l [32]).1 (cut l [32]).2.1 := rfl
  have i1 := numP_in (trimPrefix (cut (cut l [32]).2.1 sepC).1 [120])
  have i1' : -9223372036854775808 ≤ regP (cut (cut l [32]).2.1 sepC).1 ∧ regP (cut (cut l [32]).2.1 sepC).1 ≤ 9223372036854775807 := i1
  have i2 := numP_in (cut (cut (cut l [32]).2.1 sepC).2.1 sepC).1
  have i3 := numP_in (cut (cut l [32]).2.1 sepC).1
  have hPA := fun w he => parseP l (by omega) w he
  have hee : parseE l = if parseB l then 0 else 100 := rfl
  have HS := Lib.hid hS
  have HCUT := Lib.hid hCUT
  have HRD := Lib.hid hRD
  have HE := Lib.hid he
  have HR0 := Lib.hid hR0
  have HPA := Lib.hid hPA
  have HEE := Lib.hid hee
  have HI1 := Lib.hid i1'; have HI2 := Lib.hid i2; have HI3 := Lib.hid i3
  clear hCUT hRD he hcl hR0 hS i1 i1' i2 i3 hPA hee hl
  generalize wordsS l = o at *
  generalize (cut l [32]).2.1 = r0 at *
  generalize (cut l [32]).2.2 = qq at *
  generalize (cut l [32]).1 = n0 at *
  go_enter Tryz.func108, Tryz.ntmps108
  go_wp2_with (fail)
  (with_reducible refine (HCUT.out _ HE.out).mono ?_)
  rintro e w1 ⟨rfl, hb1⟩
  have HB1 := Lib.hid hb1
  clear hb1
  go_wp2_with (fail)
  (with_reducible refine (HRD.out _).mono ?_)
  rintro e w2 ⟨rfl, h1, h2, h3, h4⟩
  have HRS : Hid (RS w w2 w1.heap.size (w1.heap.size + 1) r0) := Lib.hid ⟨h1, h2, HR0.out, HB1.out.trans (h4.mono HB1.out.size), HB1.out.size, Nat.lt_succ_self _⟩
  clear h1 h2 h3 h4
  generalize w1.heap.size + 1 = bn at *
  generalize w1.heap.size = bl at *
  clear HB1 HCUT HRD HR0
  have c1 := K1.out
  have hO : o = wordsG l n0 r0 := HS.out
  unfold wordsG at hO
  rw [if_neg c1] at hO
  have HO := Lib.hid hO
  have hc1 : (n0 == [108, 105]) = false := beq_eq_false_iff_ne.2 c1
  clear hO HS c1
  have c2 := K2.out
  have hO := HO.out
  rw [if_pos c2] at hO
  have HO2 := Lib.hid hO
  subst c2
  clear hO HO hc1 HPA HEE HI1 HI2
  go_wp2_with (fail)
  (with_reducible refine (HRS.out.num HE.out).mono ?_)
  rintro e w3 ⟨rfl, h3⟩
  have HB3 := Lib.hid h3.bel
  clear h3 HRS
  generalize numP (cut r0 sepC).1 = n at *
  by_cases hr : 0 ≤ n ∧ n ≤ 4294967295
  · have hO := HO2.out
    rw [if_pos hr] at hO
    have HO3 := Lib.hid hO
    have HN := Lib.hid (fun w he => numberText_any n HI3.out.1 HI3.out.2 w he)
    have HWR := Lib.hid (fun w g cap hc => write1 wordT (itoa n) (by decide) (by have := itoa_length_le n HI3.out.1 HI3.out.2; omega) (itoa_ne n) w g cap hc)
    clear hO HO2
    generalize lineT wordT [itoa n] = tx at *
    generalize itoa n = no at *
    obtain ⟨hr0, hr1⟩ := hr
    go_wp2_with (fail)
    (with_reducible refine (HN.out _ (HE.out.below HB3.out)).mono ?_)
    rintro e w4 ⟨rfl, hb4⟩
    have HB4 := Lib.hid (HB3.out.trans (hb4.mono HB3.out.size))
    have HC0 : Hid ((w4.alloc (.cells #[str no] 9)).cell? ⟨w4.heap.size, 0, none⟩ = some (str no)) := Lib.hid (by rw [World.cell?_alloc_at _ _ _ _ (by simp)]; rfl)
    clear hb4
    go_wp2_with (fail)
    (with_reducible refine (HWR.out _ _ _ HC0.out).mono ?_)
    rintro e w5 ⟨rfl, hb5⟩
    have HB5 := Lib.hid ((HB4.out.alloc HB4.out.size (.cells #[str no] 9)).trans (hb5.mono (by have := HB4.out.size; simp; omega)))
    clear hb5 HC0
    by_cases hp : tx = l
    · have hO := HO3.out
      rw [if_pos hp] at hO
      have HO := Lib.hid hO
      subst hp
      clear hO HO3 HWR
      go_wp2
      go_ret2
      exact aimEnd_yes HO.out ⟨_, rfl, ⟨rfl, .inr ⟨w5.heap.size, 1, _, rfl, HB5.out.size, heap_alloc_new _ _, Nat.le_refl _, by decide, rfl, rfl⟩⟩, HB5.out.alloc HB5.out.size _⟩
    · have hO := HO3.out
      rw [if_neg hp] at hO
      have HO := Lib.hid hO
      have hpq : (tx == l) = false := beq_eq_false_iff_ne.2 hp
      clear hO HO3 HWR hp
      go_wp2
      go_ret2
      exact aimEnd_no HO.out ⟨rfl, HB5.out⟩
  · have hO := HO2.out
    rw [if_neg hr] at hO
    have HO := Lib.hid hO
    have hor : n < 0 ∨ (¬ n < 0 ∧ 4294967295 < n) := by omega
    clear hO HO2 hr
    rcases hor with h | ⟨h, h'⟩
    · go_wp2
      go_ret2
      exact aimEnd_no HO.out ⟨rfl, HB3.out⟩
    · go_wp2
      go_ret2
      exact aimEnd_no HO.out ⟨rfl, HB3.out⟩
set_option maxHeartbeats 4000000 in
theorem readWords_parse (l : Bs) (c1 : ¬ (cut l [32]).1 = liT) (c2 : ¬ (cut l [32]).1 = wordT) (hl : l.length ≤ 100000) (w : World) (he : Env w) : Calls Tryz.prog 108 #[str l] w (AimEnd w (wordsS l)) := by
  have K1 := Lib.hid c1
  have K2 := Lib.hid c2
  clear c1 c2
  have hCUT : ∀ w, Env w → Calls Tryz.prog 34 #[str l, .string ⟨#[32]⟩] w fun e w' => e = .returned (.tuple #[str (cut l [32]).1, str (cut l [32]).2.1, .bool (cut l [32]).2.2]) ∧ Below w.heap.size w w' := fun w he => cutP l [32] w (by omega) he
  have hcl := cut_len l [32]
  have hR0 : (cut l [32]).2.1.length ≤ 1000000 := by omega
  have hRD := fun w => reader_any (cut l [32]).2.1 w
  have hS : wordsS l = wordsG l (cut l [32]).1 (cut l [32]).2.1 := rfl
  have i1 := numP_in (trimPrefix (cut (cut l [32]).2.1 sepC).1 [120])
  have i1' : -9223372036854775808 ≤ regP (cut (cut l [32]).2.1 sepC).1 ∧ regP (cut (cut l [32]).2.1 sepC).1 ≤ 9223372036854775807 := i1
  have i2 := numP_in (cut (cut (cut l [32]).2.1 sepC).2.1 sepC).1
  have i3 := numP_in (cut (cut l [32]).2.1 sepC).1
  have hPA := fun w he => parseP l (by omega) w he
  have hee : parseE l = if parseB l then 0 else 100 := rfl
  have HS := Lib.hid hS
  have HCUT := Lib.hid hCUT
  have HRD := Lib.hid hRD
  have HE := Lib.hid he
  have HR0 := Lib.hid hR0
  have HPA := Lib.hid hPA
  have HEE := Lib.hid hee
  have HI1 := Lib.hid i1'; have HI2 := Lib.hid i2; have HI3 := Lib.hid i3
  clear hCUT hRD he hcl hR0 hS i1 i1' i2 i3 hPA hee hl
  generalize wordsS l = o at *
  generalize (cut l [32]).2.1 = r0 at *
  generalize (cut l [32]).2.2 = qq at *
  generalize (cut l [32]).1 = n0 at *
  go_enter Tryz.func108, Tryz.ntmps108
  go_wp2_with (fail)
  (with_reducible refine (HCUT.out _ HE.out).mono ?_)
  rintro e w1 ⟨rfl, hb1⟩
  have HB1 := Lib.hid hb1
  clear hb1
  go_wp2_with (fail)
  (with_reducible refine (HRD.out _).mono ?_)
  rintro e w2 ⟨rfl, h1, h2, h3, h4⟩
  have HRS : Hid (RS w w2 w1.heap.size (w1.heap.size + 1) r0) := Lib.hid ⟨h1, h2, HR0.out, HB1.out.trans (h4.mono HB1.out.size), HB1.out.size, Nat.lt_succ_self _⟩
  clear h1 h2 h3 h4
  generalize w1.heap.size + 1 = bn at *
  generalize w1.heap.size = bl at *
  clear HB1 HCUT HRD HR0
  have c1 := K1.out
  have hO : o = wordsG l n0 r0 := HS.out
  unfold wordsG at hO
  rw [if_neg c1] at hO
  have HO := Lib.hid hO
  have hc1 : (n0 == [108, 105]) = false := beq_eq_false_iff_ne.2 c1
  clear hO HS c1
  have c2 := K2.out
  have hO := HO.out
  rw [if_neg c2] at hO
  have HO2 := Lib.hid hO
  have hc2 : (n0 == [46, 119, 111, 114, 100]) = false := beq_eq_false_iff_ne.2 c2
  have HB2 := Lib.hid HRS.out.bel
  clear hO HO c2 HRS HI1 HI2 HI3
  have hP : ∀ w, Env w → Calls Tryz.prog 13 #[str l] w fun e w' => e = .returned (.tuple #[insV (parseI l), .int .i64 (if parseB l then 0 else 100)]) ∧ Below w.heap.size w w' := fun w he => by
    have h := HPA.out w he
    rw [HEE.out] at h; exact h
  clear HPA HEE
  cases hb : parseB l with
  | false =>
    rw [hb] at hP HO2
    have hP2 : ∀ w, Env w → Calls Tryz.prog 13 #[str l] w fun e w' => e = .returned (.tuple #[insV (parseI l), .int .i64 100]) ∧ Below w.heap.size w w' := hP
    have HP := Lib.hid hP2
    have HO : Hid (o = none) := Lib.hid HO2.out
    clear hP hP2 HO2 hb
    generalize parseI l = I at *
    obtain ⟨op, rd, a, b, imm, csr, aq, rl⟩ := I
    go_wp2_with (fail)
    (with_reducible refine (HP.out _ (HE.out.below HB2.out)).mono ?_)
    rintro e w3 ⟨rfl, hb3⟩
    have HB3 := Lib.hid (HB2.out.trans (hb3.mono HB2.out.size))
    clear hb3
    go_wp2
    go_ret2
    exact aimEnd_no HO.out ⟨rfl, HB3.out.alloc HB3.out.size _⟩
  | true =>
    rw [hb] at hP HO2
    have hP2 : ∀ w, Env w → Calls Tryz.prog 13 #[str l] w fun e w' => e = .returned (.tuple #[insV (parseI l), .int .i64 0]) ∧ Below w.heap.size w w' := hP
    have HP := Lib.hid hP2
    have hEN : ∀ w g cap, Env w → InsAt w g [parseI l] → Calls Tryz.prog 139 #[.slice (some ⟨g, 0, none⟩) 1 cap] w (EncQ w [parseI l]) := fun w g cap he hi => encode_gen [parseI l] g cap w he (by simp) hi
    have HEN := Lib.hid hEN
    have HO : Hid (o = if rightB (parseI l) then some [encW (parseI l)] else none) := Lib.hid HO2.out
    clear hP hP2 HO2 hb hEN
    generalize parseI l = I at *
    obtain ⟨op, rd, a, b, imm, csr, aq, rl⟩ := I
    go_wp2_with (fail)
    (with_reducible refine (HP.out _ (HE.out.below HB2.out)).mono ?_)
    rintro e w3 ⟨rfl, hb3⟩
    have HB3 := Lib.hid (HB2.out.trans (hb3.mono HB2.out.size))
    clear hb3
    go_wp2_with (fail)
    have hb4 : Below w.heap.size w ((w3.alloc (.cells #[.int .i64 op, .int .i64 rd, .int .i64 a, .int .i64 b, .int .i64 imm, .int .i64 csr, .bool aq, .bool rl] 23)).alloc (.cells #[.int .i64 op, .int .i64 rd, .int .i64 a, .int .i64 b, .int .i64 imm, .int .i64 csr, .bool aq, .bool rl] 23)) := (HB3.out.alloc HB3.out.size _).alloc (by have := HB3.out.size; simp; omega) _
    have hrow : InsAt ((w3.alloc (.cells #[.int .i64 op, .int .i64 rd, .int .i64 a, .int .i64 b, .int .i64 imm, .int .i64 csr, .bool aq, .bool rl] 23)).alloc (.cells #[.int .i64 op, .int .i64 rd, .int .i64 a, .int .i64 b, .int .i64 imm, .int .i64 csr, .bool aq, .bool rl] 23)) (w3.heap.size + 1) [⟨op, rd, a, b, imm, csr, aq, rl⟩] := by
      have := heap_alloc_new (w3.alloc (.cells #[.int .i64 op, .int .i64 rd, .int .i64 a, .int .i64 b, .int .i64 imm, .int .i64 csr, .bool aq, .bool rl] 23)) (.cells #[.int .i64 op, .int .i64 rd, .int .i64 a, .int .i64 b, .int .i64 imm, .int .i64 csr, .bool aq, .bool rl] 23)
      rw [World.size_alloc] at this
      exact insAt_row (l := [⟨op, rd, a, b, imm, csr, aq, rl⟩]) this
    (with_reducible refine (HEN.out _ _ _ (HE.out.below hb4) hrow).mono ?_)
    rintro e w5 hq
    have HB4 := Lib.hid hb4
    clear hb4 hrow
    cases hall : rightB ⟨op, rd, a, b, imm, csr, aq, rl⟩ with
    | true =>
      have h9 := hq.1 (by simp [hall])
      have HR : Hid (o = some [encW ⟨op, rd, a, b, imm, csr, aq, rl⟩]) := Lib.hid (by rw [HO.out, hall]; rfl)
      clear hq HEN hall HO
      have h9' : EncEnd _ [encW ⟨op, rd, a, b, imm, csr, aq, rl⟩] e w5 := h9
      clear h9
      generalize [encW ⟨op, rd, a, b, imm, csr, aq, rl⟩] = ws at *
      obtain ⟨v, rfl, ho, hb⟩ := h9'
      obtain ⟨A, C9, rfl⟩ := ownW_slice ho
      have HOW := Lib.hid ho
      have HB := Lib.hid hb
      clear ho hb
      go_wp2
      go_ret2
      exact aimEnd_yes HR.out ((fun e (h : EncEnd _ ws e w5) => encEnd_mono h HB4.out) _ ⟨_, rfl, HOW.out, HB.out⟩)
    | false =>
      have h9 := hq.2 (by simp [hall])
      have HR : Hid (o = none) := Lib.hid (by rw [HO.out, hall]; rfl)
      obtain ⟨rfl, hb⟩ := h9
      have HB := Lib.hid hb
      clear hq HEN hb hall HO
      go_wp2
      go_ret2
      exact aimEnd_no HR.out ⟨rfl, HB4.out.trans (HB.out.mono HB4.out.size)⟩
theorem readWords_any (l : Bs) (hl : l.length ≤ 100000) (w : World) (he : Env w) : Calls Tryz.prog 108 #[str l] w (AimEnd w (wordsS l)) := by
  by_cases c1 : (cut l [32]).1 = liT
  · exact readWords_li l c1 hl w he
  · by_cases c2 : (cut l [32]).1 = wordT
    · exact readWords_word l c1 c2 hl w he
    · exact readWords_parse l c1 c2 hl w he
end Go.Proofs.YtakdhdaoklcidaaGreatDoor

namespace Go.Proofs.YtakdhdaoklcidaaGreatDoor
open Go.Shelf
set_option linter.unusedVariables false
set_option maxRecDepth 100000
def splitLays_ren : Go.Shelf.Ren := ⟨fun | 146 => 74 | 221 => 104 | 268 => 126 | 138 => 127 | 143 => 128 | 195 => 151 | 197 => 152 | 218 => 153 | 219 => 94 | 260 => 161 | 217 => 114 | 225 => 115 | 224 => 116 | 267 => 117 | 266 => 145 | 314 => 146 | n => n, fun | 9 => 9 | 31 => 100 | 3 => 3 | 4 => 4 | 0 => 0 | 105 => 199 | 21 => 21 | 5 => 5 | 46 => 75 | 119 => 208 | 139 => 211 | 138 => 210 | 146 => 192 | 51 => 43 | n => n, fun | 1 => 2 | 3 => 7 | 4 => 8 | n => n⟩
theorem splitLays : Go.Proofs.Lays.n146 Tryz.prog splitLays_ren where
  mixed := by kernel_rfl
  f138 := Tryz.func127.trans (congrArg some (by kernel_rfl))
  f143 := Tryz.func128.trans (congrArg some (by kernel_rfl))
  f146 := Tryz.func74.trans (congrArg some (by kernel_rfl))
  f195 := Tryz.func151.trans (congrArg some (by kernel_rfl))
  f197 := Tryz.func152.trans (congrArg some (by kernel_rfl))
  f217 := Tryz.func114.trans (congrArg some (by kernel_rfl))
  f218 := Tryz.func153.trans (congrArg some (by kernel_rfl))
  f219 := Tryz.func94.trans (congrArg some (by kernel_rfl))
  f221 := Tryz.func104.trans (congrArg some (by kernel_rfl))
  f224 := Tryz.func116.trans (congrArg some (by kernel_rfl))
  f225 := Tryz.func115.trans (congrArg some (by kernel_rfl))
  f260 := Tryz.func161.trans (congrArg some (by kernel_rfl))
  f266 := Tryz.func145.trans (congrArg some (by kernel_rfl))
  f267 := Tryz.func117.trans (congrArg some (by kernel_rfl))
  f268 := Tryz.func126.trans (congrArg some (by kernel_rfl))
  f314 := Tryz.func146.trans (congrArg some (by kernel_rfl))
  t0 := Tryz.underlying0
  a0 := Tryz.isAgg0
  z0 := Tryz.sizeOf0
  v0 := Tryz.zeroValue0
  t3 := Tryz.underlying3
  a3 := Tryz.isAgg3
  z3 := Tryz.sizeOf3
  v3 := Tryz.zeroValue3
  t4 := Tryz.underlying4
  a4 := Tryz.isAgg4
  z4 := Tryz.sizeOf4
  v4 := Tryz.zeroValue4
  t5 := Tryz.underlying5
  a5 := Tryz.isAgg5
  z5 := Tryz.sizeOf5
  v5 := Tryz.zeroValue5
  t9 := Tryz.underlying9
  a9 := Tryz.isAgg9
  z9 := Tryz.sizeOf9
  v9 := Tryz.zeroValue9
  t21 := Tryz.underlying21
  a21 := Tryz.isAgg21
  z21 := Tryz.sizeOf21
  v21 := Tryz.zeroValue21
  t31 := Tryz.underlying100
  a31 := Tryz.isAgg100
  z31 := Tryz.sizeOf100
  v31 := Tryz.zeroValue100
  t46 := Tryz.underlying75
  a46 := Tryz.isAgg75
  z46 := Tryz.sizeOf75
  v46 := Tryz.zeroValue75
  t51 := Tryz.underlying43
  a51 := Tryz.isAgg43
  z51 := Tryz.sizeOf43
  v51 := Tryz.zeroValue43
  t105 := Tryz.underlying199
  a105 := Tryz.isAgg199
  z105 := Tryz.sizeOf199
  v105 := Tryz.zeroValue199
  t119 := Tryz.underlying208
  a119 := Tryz.isAgg208
  z119 := Tryz.sizeOf208
  t138 := Tryz.underlying210
  a138 := Tryz.isAgg210
  z138 := Tryz.sizeOf210
  v138 := Tryz.zeroValue210
  t139 := Tryz.underlying211
  a139 := Tryz.isAgg211
  z139 := Tryz.sizeOf211
  v139 := Tryz.zeroValue211
  t146 := Tryz.underlying192
  a146 := Tryz.isAgg192
  z146 := Tryz.sizeOf192
  v146 := Tryz.zeroValue192
  g1 := by kernel_rfl
  g3 := by kernel_rfl
  g4 := by kernel_rfl
def trimLays_ren : Go.Shelf.Ren := ⟨fun | 160 => 105 | 232 => 130 | 231 => 129 | 227 => 131 | 234 => 133 | 233 => 132 | 236 => 135 | 235 => 134 | 228 => 154 | 271 => 156 | 151 => 155 | 197 => 152 | 120 => 163 | 152 => 162 | 260 => 161 | 137 => 164 | 119 => 165 | 224 => 116 | 225 => 115 | 217 => 114 | 266 => 145 | n => n, fun | 9 => 9 | 4 => 4 | 3 => 3 | 5 => 5 | 117 => 180 | 116 => 179 | 0 => 0 | 124 => 183 | 21 => 21 | 105 => 199 | 46 => 75 | 119 => 208 | 139 => 211 | 138 => 210 | n => n, fun | 3 => 7 | 4 => 8 | n => n⟩
theorem trimLays : Go.Proofs.Lays.n160 Tryz.prog trimLays_ren where
  mixed := by kernel_rfl
  f119 := Tryz.func165.trans (congrArg some (by kernel_rfl))
  f120 := Tryz.func163.trans (congrArg some (by kernel_rfl))
  f137 := Tryz.func164.trans (congrArg some (by kernel_rfl))
  f151 := Tryz.func155.trans (congrArg some (by kernel_rfl))
  f152 := Tryz.func162.trans (congrArg some (by kernel_rfl))
  f160 := Tryz.func105.trans (congrArg some (by kernel_rfl))
  f197 := Tryz.func152.trans (congrArg some (by kernel_rfl))
  f217 := Tryz.func114.trans (congrArg some (by kernel_rfl))
  f224 := Tryz.func116.trans (congrArg some (by kernel_rfl))
  f225 := Tryz.func115.trans (congrArg some (by kernel_rfl))
  f227 := Tryz.func131.trans (congrArg some (by kernel_rfl))
  f228 := Tryz.func154.trans (congrArg some (by kernel_rfl))
  f231 := Tryz.func129.trans (congrArg some (by kernel_rfl))
  f232 := Tryz.func130.trans (congrArg some (by kernel_rfl))
  f233 := Tryz.func132.trans (congrArg some (by kernel_rfl))
  f234 := Tryz.func133.trans (congrArg some (by kernel_rfl))
  f235 := Tryz.func134.trans (congrArg some (by kernel_rfl))
  f236 := Tryz.func135.trans (congrArg some (by kernel_rfl))
  f260 := Tryz.func161.trans (congrArg some (by kernel_rfl))
  f266 := Tryz.func145.trans (congrArg some (by kernel_rfl))
  f271 := Tryz.func156.trans (congrArg some (by kernel_rfl))
  t0 := Tryz.underlying0
  a0 := Tryz.isAgg0
  z0 := Tryz.sizeOf0
  v0 := Tryz.zeroValue0
  t3 := Tryz.underlying3
  a3 := Tryz.isAgg3
  z3 := Tryz.sizeOf3
  v3 := Tryz.zeroValue3
  t4 := Tryz.underlying4
  a4 := Tryz.isAgg4
  z4 := Tryz.sizeOf4
  v4 := Tryz.zeroValue4
  t5 := Tryz.underlying5
  a5 := Tryz.isAgg5
  z5 := Tryz.sizeOf5
  v5 := Tryz.zeroValue5
  t9 := Tryz.underlying9
  a9 := Tryz.isAgg9
  z9 := Tryz.sizeOf9
  v9 := Tryz.zeroValue9
  t21 := Tryz.underlying21
  a21 := Tryz.isAgg21
  z21 := Tryz.sizeOf21
  v21 := Tryz.zeroValue21
  t46 := Tryz.underlying75
  a46 := Tryz.isAgg75
  z46 := Tryz.sizeOf75
  v46 := Tryz.zeroValue75
  t105 := Tryz.underlying199
  a105 := Tryz.isAgg199
  z105 := Tryz.sizeOf199
  v105 := Tryz.zeroValue199
  t116 := Tryz.underlying179
  a116 := Tryz.isAgg179
  z116 := Tryz.sizeOf179
  t117 := Tryz.underlying180
  a117 := Tryz.isAgg180
  z117 := Tryz.sizeOf180
  v117 := Tryz.zeroValue180
  t119 := Tryz.underlying208
  a119 := Tryz.isAgg208
  z119 := Tryz.sizeOf208
  t124 := Tryz.underlying183
  a124 := Tryz.isAgg183
  z124 := Tryz.sizeOf183
  v124 := Tryz.zeroValue183
  t138 := Tryz.underlying210
  a138 := Tryz.isAgg210
  z138 := Tryz.sizeOf210
  v138 := Tryz.zeroValue210
  t139 := Tryz.underlying211
  a139 := Tryz.isAgg211
  z139 := Tryz.sizeOf211
  v139 := Tryz.zeroValue211
  g3 := by kernel_rfl
  g4 := by kernel_rfl
end Go.Proofs.YtakdhdaoklcidaaGreatDoor

namespace Go.Proofs.YtakdhdaoklcidaaGreatDoor
open Go.RowKit Go.Lib
set_option linter.unusedVariables false
set_option maxRecDepth 100000
theorem trimP (l : Bs) (w : World) (hs : l.length ≤ 1000000) : Calls Tryz.prog 105 #[str l, .string ⟨#[32, 9]⟩] w fun e w' => e = .returned (str (trimS l [32, 9])) ∧ Below w.heap.size w w' := by
  have h := Any.strings_Trim_laid trimLays (by kernel_rfl) ⟨l.toArray⟩ ⟨#[32, 9]⟩ w (by show l.toArray.size ≤ _; rw [List.size_toArray]; omega) (by decide) (ascii_of_all (by decide))
  exact h
def readS (s : Bs) : Option Stm :=
  if s = [] then some .none
  else if hasSuffix s [58] then (if nameOK (trimSuffix s [58]) then some (.label (trimSuffix s [58])) else none)
  else if (cut s [44, 32, 64]).2.2 then namingS (cut s [44, 32, 64]).1 (cut s [44, 32, 64]).2.1
  else (wordsS s).map .words
def coreS (line : Bs) : Bs := trimS (cut line [35]).1 [32, 9]
def lineS (line : Bs) : Option Stm := readS (coreS line)
theorem four_one {c0 c1 c2 c3 : Value} (o0 : c0.oneCell' = true) (o1 : c1.oneCell' = true) (o2 : c2.oneCell' = true) (o3 : c3.oneCell' = true) : (#[c0, c1, c2, c3] : Array Value).all (·.oneCell') = true := by
  simp [o0, o1, o2, o3]
theorem trimS_len (l c : Bs) : (trimS l c).length ≤ l.length := by
  unfold trimS trimLeftS trimRightS
  refine Nat.le_trans (List.dropWhile_sublist _).length_le ?_
  rw [List.length_reverse]
  refine Nat.le_trans (List.dropWhile_sublist _).length_le ?_
  rw [List.length_reverse]; exact Nat.le_refl _
set_option maxHeartbeats 4000000 in
theorem readL (l : Bs) (hl : l.length ≤ 100000) (w : World) (he : Env w) : Calls Tryz.prog 75 #[str l] w (NmEnd w (lineS l)) := by
  have hC1 : ∀ w, Env w → Calls Tryz.prog 34 #[str l, .string ⟨#[35]⟩] w fun e w' => e = .returned (.tuple #[str (cut l [35]).1, str (cut l [35]).2.1, .bool (cut l [35]).2.2]) ∧ Below w.heap.size w w' := fun w he => cutP l [35] w (by omega) he
  have hcl := (cut_len l [35]).1
  have hT : ∀ w, Calls Tryz.prog 105 #[str (cut l [35]).1, .string ⟨#[32, 9]⟩] w fun e w' => e = .returned (str (coreS l)) ∧ Below w.heap.size w w' := fun w => trimP _ w (by omega)
  have hsl : (coreS l).length ≤ 100000 := Nat.le_trans (trimS_len _ _) (by omega)
  have hlS : lineS l = readS (coreS l) := rfl
  rw [hlS]
  have HC1 := Lib.hid hC1; have HT := Lib.hid hT; have HE := Lib.hid he
  clear hC1 hT he hcl hlS hl
  generalize (cut l [35]).1 = k1 at *
  generalize (cut l [35]).2.1 = k2 at *
  generalize (cut l [35]).2.2 = k3 at *
  generalize coreS l = s at *
  have hSU : ∀ w, Calls Tryz.prog 69 #[str s, .string ⟨#[58]⟩] w fun e w' => e = .returned (.tuple #[str (trimSuffix s [58]), .bool (hasSuffix s [58])]) ∧ w = w' := fun w => sufP s [58] w (by omega)
  have hC2 : ∀ w, Env w → Calls Tryz.prog 34 #[str s, .string ⟨#[44, 32, 64]⟩] w fun e w' => e = .returned (.tuple #[str (cut s [44, 32, 64]).1, str (cut s [44, 32, 64]).2.1, .bool (cut s [44, 32, 64]).2.2]) ∧ Below w.heap.size w w' := fun w he => cutP s [44, 32, 64] w (by omega) he
  have hcl2 := (cut_len s [44, 32, 64]).1
  have hNM := fun w he => readNaming_any (cut s [44, 32, 64]).1 (cut s [44, 32, 64]).2.1 (by omega) w he
  have hWD := fun w he => readWords_any s hsl w he
  have hIN := fun w => isNameP (trimSuffix s [58]) w
  have hS : readS s = if s = [] then some .none
  else if hasSuffix s [58] then (if nameOK (trimSuffix s [58]) then some (.label (trimSuffix s [58])) else none)
  else if (cut s [44, 32, 64]).2.2 then namingS (cut s [44, 32, 64]).1 (cut s [44, 32, 64]).2.1
  else (wordsS s).map .words := rfl
  have HSU := Lib.hid hSU; have HC2 := Lib.hid hC2; have HNM := Lib.hid hNM; have HWD := Lib.hid hWD; have HIN := Lib.hid hIN; have HS := Lib.hid hS
  clear hSU hC2 hcl2 hNM hWD hIN hS hsl
  generalize readS s = o at *
  generalize trimSuffix s [58] = nm at *
  generalize hasSuffix s [58] = q1 at *
  generalize namingS (cut s [44, 32, 64]).1 (cut s [44, 32, 64]).2.1 = on at *
  generalize (cut s [44, 32, 64]).1 = a1 at *
  generalize (cut s [44, 32, 64]).2.1 = a2 at *
  generalize (cut s [44, 32, 64]).2.2 = q2 at *
  generalize wordsS s = ow at *
  go_enter Tryz.func75, Tryz.ntmps75
  go_wp2_with (fail)
  (with_reducible refine (HC1.out _ (HE.out.below ((Below.refl _ _).alloc (Nat.le_refl _) _))).mono ?_)
  rintro e w1 ⟨rfl, hb1⟩
  have HR : Hid (w1.heap[w.heap.size]? = some (.cells #[.string ⟨#[]⟩, .slice none 0 0, .string ⟨#[]⟩, .nilFunc] 129 (0, 0))) := Lib.hid ((hb1.block _ (by simp)).trans (heap_alloc_new _ _))
  have HB1 := Lib.hid (((Below.refl _ _).alloc (Nat.le_refl _) (.cells #[.string ⟨#[]⟩, .slice none 0 0, .string ⟨#[]⟩, .nilFunc] 129)).trans (hb1.mono (by simp)))
  have HZ1 : Hid (w.heap.size < w1.heap.size) := Lib.hid (by have := hb1.size; simp at this; omega)
  clear hb1
  go_wp2_with (fail)
  (with_reducible refine (HT.out _).mono ?_)
  rintro e w2 ⟨rfl, hb2⟩
  have HR : Hid (w2.heap[w.heap.size]? = some (.cells #[.string ⟨#[]⟩, .slice none 0 0, .string ⟨#[]⟩, .nilFunc] 129 (0, 0))) := Lib.hid ((hb2.block _ HZ1.out).trans HR.out)
  have HB2 := Lib.hid (HB1.out.trans (hb2.mono HB1.out.size))
  have HZ2 : Hid (w.heap.size < w2.heap.size) := Lib.hid (by have := hb2.size; have := HZ1.out; omega)
  clear hb2
  by_cases hs : s = []
  · have hO : o = some .none := by have := HS.out; rw [if_pos hs] at this; exact this
    subst hO
    subst hs
    clear HS HSU HC2 HNM HWD HIN HT HC1
    go_wp2_with (refine wpList_store_row rfl _ _ _ rfl w.heap.size _ rfl rfl 129 _ HR.out size_stm rfl (by simp [Value.oneCell']) ?_)
    exact bodyPost_ret (v := .tuple #[.agg #[.string ⟨#[]⟩, .slice none 0 0, .string ⟨#[]⟩, .nilFunc], .bool true]) (results_cell_tmp (show Tryz.f75.results = #[.cell 2 129, .tmp 3] by kernel_rfl) _ _ w.heap.size 129 _ _ _ rfl (setRow_heap _ _ _ _ _ _ HR.out) Tryz.underlying129 rfl size_stm) rfl ⟨(fun s h => by cases h; exact ⟨_, rfl, _, _, _, _, rfl, rfl, rfl, rfl, rfl⟩), (fun h => by cases h), below_setRow HB2.out (Nat.le_refl _) _⟩
  · have hO : o = if q1 then (if nameOK nm then some (.label nm) else none) else if q2 then on else ow.map .words := by have := HS.out; rw [if_neg hs] at this; exact this
    have HO := Lib.hid hO
    have hsq : (s == []) = false := beq_eq_false_iff_ne.2 hs
    clear hO HS hs HT HC1
    go_wp2_with (fail)
    (with_reducible refine (HSU.out _).mono ?_)
    rintro e wu ⟨rfl, rfl⟩
    cases q1 with
    | true =>
      have hO : o = if nameOK nm then some (.label nm) else none := HO.out
      have HO2 := Lib.hid hO
      clear hO HO
      generalize nameOK nm = nq at *
      go_wp2_with (fail)
      (with_reducible refine (HIN.out _).mono ?_)
      rintro e w3 ⟨rfl, hb3⟩
      have HR : Hid (w3.heap[w.heap.size]? = some (.cells #[.string ⟨#[]⟩, .slice none 0 0, .string ⟨#[]⟩, .nilFunc] 129 (0, 0))) := Lib.hid ((hb3.block _ HZ2.out).trans HR.out)
      have HB3 := Lib.hid (HB2.out.trans (hb3.mono HB2.out.size))
      have HZ3 : Hid (w.heap.size < w3.heap.size) := Lib.hid (by have := hb3.size; have := HZ2.out; omega)
      clear hb3
      go_wp2_with (refine wpList_store_row rfl _ _ _ rfl w.heap.size _ rfl rfl 129 _ HR.out size_stm rfl (by simp [Value.oneCell']) ?_)
      cases nq with
      | true =>
        have hO : o = some (.label nm) := HO2.out
        subst hO
        exact bodyPost_ret (v := .tuple #[.agg #[str nm, .slice none 0 0, .string ⟨#[]⟩, .nilFunc], .bool true]) (results_cell_tmp (show Tryz.f75.results = #[.cell 2 129, .tmp 3] by kernel_rfl) _ _ w.heap.size 129 _ _ _ rfl (setRow_heap _ _ _ _ _ _ HR.out) Tryz.underlying129 rfl size_stm) rfl ⟨(fun s h => by cases h; exact ⟨_, rfl, _, _, _, _, rfl, rfl, rfl, rfl, rfl⟩), (fun h => by cases h), below_setRow HB3.out (Nat.le_refl _) _⟩
      | false =>
        have hO : o = none := HO2.out
        subst hO
        exact bodyPost_ret (v := .tuple #[.agg #[str nm, .slice none 0 0, .string ⟨#[]⟩, .nilFunc], .bool false]) (results_cell_tmp (show Tryz.f75.results = #[.cell 2 129, .tmp 3] by kernel_rfl) _ _ w.heap.size 129 _ _ _ rfl (setRow_heap _ _ _ _ _ _ HR.out) Tryz.underlying129 rfl size_stm) rfl ⟨(fun s h => by cases h), fun _ => ⟨_, rfl, _, _, _, _, rfl, rfl, rfl, rfl, rfl⟩, below_setRow HB3.out (Nat.le_refl _) _⟩
    | false =>
      have hO : o = if q2 then on else ow.map .words := HO.out
      have HO2 := Lib.hid hO
      clear hO HO
      go_wp2_with (fail)
      (with_reducible refine (HC2.out _ (HE.out.below HB2.out)).mono ?_)
      rintro e w3 ⟨rfl, hb3⟩
      have HR : Hid (w3.heap[w.heap.size]? = some (.cells #[.string ⟨#[]⟩, .slice none 0 0, .string ⟨#[]⟩, .nilFunc] 129 (0, 0))) := Lib.hid ((hb3.block _ HZ2.out).trans HR.out)
      have HB3 := Lib.hid (HB2.out.trans (hb3.mono HB2.out.size))
      have HZ3 : Hid (w.heap.size < w3.heap.size) := Lib.hid (by have := hb3.size; have := HZ2.out; omega)
      clear hb3
      cases q2 with
      | true =>
        have hO : o = on := HO2.out
        subst hO
        clear HO2
        go_wp2_with (fail)
        (with_reducible refine (HNM.out _ (HE.out.below HB3.out)).mono ?_)
        rintro e w4 ⟨hy, hno, hb4⟩
        have HSZ3 := Lib.hid HB3.out.size
        have HR : Hid (w4.heap[w.heap.size]? = some (.cells #[.string ⟨#[]⟩, .slice none 0 0, .string ⟨#[]⟩, .nilFunc] 129 (0, 0))) := Lib.hid ((hb4.block _ HZ3.out).trans HR.out)
        have HB4 := Lib.hid (HB3.out.trans (hb4.mono HB3.out.size))
        have HZ4 : Hid (w.heap.size < w4.heap.size) := Lib.hid (by have := hb4.size; have := HZ3.out; omega)
        clear hb4
        cases o with
        | none =>
          obtain ⟨v, rfl, c0, c1, c2, c3, rfl, o0, o1, o2, o3⟩ := hno rfl
          clear hy hno
          go_wp2_with (refine wpList_store_row rfl _ _ _ rfl w.heap.size _ rfl rfl 129 _ HR.out size_stm rfl (four_one o0 o1 o2 o3) ?_)
          exact bodyPost_ret (v := .tuple #[.agg #[c0, c1, c2, c3], .bool false]) (results_cell_tmp (show Tryz.f75.results = #[.cell 2 129, .tmp 3] by kernel_rfl) _ _ w.heap.size 129 _ _ _ rfl (setRow_heap _ _ _ _ _ _ HR.out) Tryz.underlying129 rfl size_stm) rfl ⟨(fun s h => by cases h), fun _ => ⟨_, rfl, _, _, _, _, rfl, o0, o1, o2, o3⟩, below_setRow HB4.out (Nat.le_refl _) _⟩
        | some st =>
          obtain ⟨v, rfl, c0, c1, c2, c3, rfl, hst⟩ := hy st rfl
          obtain ⟨o0, o1, o2, o3⟩ := stmV_four hst
          have HST := Lib.hid hst
          clear hy hno hst
          go_wp2_with (refine wpList_store_row rfl _ _ _ rfl w.heap.size _ rfl rfl 129 _ HR.out size_stm rfl (four_one o0 o1 o2 o3) ?_)
          have hst2 := stmV_base (stmV_row HST.out (Nat.lt_of_lt_of_le HZ3.out (Nat.le_refl _)) (setRow_only w4 w.heap.size #[c0, c1, c2, c3]) (fun k h1 _ h2 => by have := HZ3.out; omega)) HSZ3.out
          exact bodyPost_ret (v := .tuple #[.agg #[c0, c1, c2, c3], .bool true]) (results_cell_tmp (show Tryz.f75.results = #[.cell 2 129, .tmp 3] by kernel_rfl) _ _ w.heap.size 129 _ _ _ rfl (setRow_heap _ _ _ _ _ _ HR.out) Tryz.underlying129 rfl size_stm) rfl ⟨(fun s h => by cases h; exact ⟨_, rfl, _, _, _, _, rfl, hst2⟩), (fun h => by cases h), below_setRow HB4.out (Nat.le_refl _) _⟩
      | false =>
        have hO : o = ow.map .words := HO2.out
        subst hO
        clear HO2
        go_wp2_with (fail)
        (with_reducible refine (HWD.out _ (HE.out.below HB3.out)).mono ?_)
        rintro e w4 hy
        cases ow with
        | none =>
          obtain ⟨rfl, hb4⟩ := hy
          have HR : Hid (w4.heap[w.heap.size]? = some (.cells #[.string ⟨#[]⟩, .slice none 0 0, .string ⟨#[]⟩, .nilFunc] 129 (0, 0))) := Lib.hid ((hb4.block _ HZ3.out).trans HR.out)
          have HB4 := Lib.hid (HB3.out.trans (hb4.mono HB3.out.size))
          have HZ4 : Hid (w.heap.size < w4.heap.size) := Lib.hid (by have := hb4.size; have := HZ3.out; omega)
          clear hb4
          go_wp2_with (refine wpList_store_row rfl _ _ _ rfl w.heap.size _ rfl rfl 129 _ HR.out size_stm rfl (by simp [Value.oneCell']) ?_)
          exact bodyPost_ret (v := .tuple #[.agg #[.string ⟨#[]⟩, .slice none 0 0, .string ⟨#[]⟩, .nilFunc], .bool false]) (results_cell_tmp (show Tryz.f75.results = #[.cell 2 129, .tmp 3] by kernel_rfl) _ _ w.heap.size 129 _ _ _ rfl (setRow_heap _ _ _ _ _ _ HR.out) Tryz.underlying129 rfl size_stm) rfl ⟨(fun s h => by cases h), fun _ => ⟨_, rfl, _, _, _, _, rfl, rfl, rfl, rfl, rfl⟩, below_setRow HB4.out (Nat.le_refl _) _⟩
        | some ws =>
          obtain ⟨v, rfl, how, hb4⟩ := hy
          obtain ⟨A, C, rfl⟩ := ownW_slice how
          have HOW := Lib.hid how
          have HSZ3 := Lib.hid HB3.out.size
          clear how
          have HR : Hid (w4.heap[w.heap.size]? = some (.cells #[.string ⟨#[]⟩, .slice none 0 0, .string ⟨#[]⟩, .nilFunc] 129 (0, 0))) := Lib.hid ((hb4.block _ HZ3.out).trans HR.out)
          have HB4 := Lib.hid (HB3.out.trans (hb4.mono HB3.out.size))
          have HZ4 : Hid (w.heap.size < w4.heap.size) := Lib.hid (by have := hb4.size; have := HZ3.out; omega)
          clear hb4
          go_wp2_with (refine wpList_store_row rfl _ _ _ rfl w.heap.size _ rfl rfl 129 _ HR.out size_stm rfl (by simp [Value.oneCell']) ?_)
          have hst : StmV w4 w3.heap.size (.words ws) (str []) (.slice A ws.length C) (str []) .nilFunc := ⟨rfl, HOW.out, rfl, rfl⟩
          have hst2 := stmV_base (stmV_row hst HZ3.out (setRow_only w4 w.heap.size #[.string ⟨#[]⟩, .slice A ws.length C, .string ⟨#[]⟩, .nilFunc]) (fun k h1 _ h2 => by have := HZ3.out; omega)) HSZ3.out
          exact bodyPost_ret (v := .tuple #[.agg #[.string ⟨#[]⟩, .slice A ws.length C, .string ⟨#[]⟩, .nilFunc], .bool true]) (results_cell_tmp (show Tryz.f75.results = #[.cell 2 129, .tmp 3] by kernel_rfl) _ _ w.heap.size 129 _ _ _ rfl (setRow_heap _ _ _ _ _ _ HR.out) Tryz.underlying129 rfl size_stm) rfl ⟨(fun s h => by cases h; exact ⟨_, rfl, _, _, _, _, rfl, hst2⟩), (fun h => by cases h), below_setRow HB4.out (Nat.le_refl _) _⟩
end Go.Proofs.YtakdhdaoklcidaaGreatDoor

namespace Go.Proofs.YtakdhdaoklcidaaGreatDoor
open Go.RowKit Go.Lib
set_option linter.unusedVariables false
set_option maxRecDepth 100000
def linesT (l : Bs) : List Bs := Lib.split l [10]
theorem splitK_len : ∀ (k : Nat) (l : Bs), (splitK [10] 0 k l).length ≤ k + 1 ∧ ∀ x ∈ splitK [10] 0 k l, x.length ≤ l.length
  | 0, l => ⟨by simp [splitK], fun x hx => by simp [splitK] at hx; rw [hx]; exact Nat.le_refl _⟩
  | k + 1, l => by
    unfold splitK
    split
    · exact ⟨by simp, fun x hx => by rw [List.mem_singleton.1 hx]; exact Nat.le_refl _⟩
    · have := splitK_len k (l.drop ((index l [10]).toNat + [10].length))
      refine ⟨by simp; exact this.1, fun x hx => ?_⟩
      rcases List.mem_cons.1 hx with h | h
      · rw [h]; simp; omega
      · have := this.2 x h; simp at this; omega
theorem splitP (l : Bs) (w : World) (hs : l.length ≤ 1000000) (he : Env w) : Calls Tryz.prog 74 #[str l, .string ⟨#[10]⟩] w fun e w' => e = .returned (.slice (some ⟨w.heap.size, 0, none⟩) (linesT l).length (linesT l).length) ∧ w' = w.alloc (.cells ((linesT l).map str).toArray 9) := by
  obtain ⟨m, hm⟩ := he.mlen
  have h := Any.strings_Split splitLays (by kernel_rfl) ⟨l.toArray⟩ ⟨#[10]⟩ m w (by show l.toArray.size < _; rw [List.size_toArray]; omega) hm (by decide)
  have e1 : (splitB ⟨#[10]⟩ 0 (countB ⟨l.toArray⟩ ⟨#[10]⟩) ⟨l.toArray⟩).map (·.data.toList) = linesT l := splitB_data _ _ _ _
  have e2 : (splitB ⟨#[10]⟩ 0 (countB ⟨l.toArray⟩ ⟨#[10]⟩) ⟨l.toArray⟩).map Value.string = (linesT l).map str := by
    rw [← e1, List.map_map]
    refine List.map_congr_left fun s _ => ?_
    show Value.string s = str s.data.toList
    rw [show str s.data.toList = Value.string ⟨s.data.toList.toArray⟩ from rfl, mk_data]
  have e3 : countB ⟨l.toArray⟩ ⟨#[10]⟩ + 1 = (linesT l).length := by
    rw [← e1, List.length_map]
    exact (splitB_all ⟨#[10]⟩ (by decide) 0 _ _ rfl).symm
  rw [e2, e3] at h
  exact h
abbrev Q4 := Value × Value × Value × Value
def q4C (q : Q4) : List Value := [q.1, q.2.1, q.2.2.1, q.2.2.2]
def q4Cs (l : List Q4) : List Value := l.flatMap q4C
theorem q4Cs_app (a b : List Q4) : q4Cs (a ++ b) = q4Cs a ++ q4Cs b := by unfold q4Cs; exact List.flatMap_append
theorem info_stmP : (Tryz.prog.info? 129).map (fun i => (i.zero, i.size, i.bytes)) = some (some (.agg #[.string ⟨#[]⟩, .slice none 0 0, .string ⟨#[]⟩, .nilFunc]), 4, 64) := by kernel_rfl
abbrev OwnS (w : World) (B : Nat) (v : Value) (qs : List Q4) : Prop := w.ownsRow B 129 4 v qs.length (q4Cs qs)
theorem ownS_slice {w : World} {B : Nat} {v : Value} {l : List Q4} (h : OwnS w B v l) : ∃ A C, v = .slice A l.length C := own_slice' h
theorem ownS_keep {w w' : World} {B : Nat} {v : Value} {l : List Q4} (h : OwnS w B v l) {S : Nat → Prop} (o : Only S w w') (hS : ∀ g, v.ownBlock = some g → ¬ S g) : OwnS w' B v l := by
  refine ⟨h.1, ?_⟩
  rcases h.2 with hn | ⟨g, cap, cur, rfl, hb, hg, rest⟩
  · exact .inl hn
  · exact .inr ⟨g, cap, cur, rfl, hb, o.keeps (hS g rfl) hg, rest⟩
theorem ownS_lt {w : World} {B : Nat} {v : Value} {l : List Q4} (h : OwnS w B v l) : ∀ g, v.ownBlock = some g → B ≤ g ∧ g < w.heap.size ∧ ∃ cs fr, w.heap[g]? = some (.cells cs 129 fr) := by
  intro g hg
  rcases h.2 with ⟨rfl, _⟩ | ⟨g', cap, cur, rfl, hb, hc, _⟩
  · simp [Value.ownBlock] at hg
  · simp [Value.ownBlock] at hg
    subst hg
    exact ⟨hb, (Array.getElem?_eq_some_iff.1 hc).1, _, _, hc⟩
theorem ownS_below {w w' : World} {B : Nat} {v : Value} {l : List Q4} (h : OwnS w B v l) (hb : Below w.heap.size w w') : OwnS w' B v l :=
  ownS_keep (S := fun k => w.heap.size ≤ k) h (Only.of_below _ hb) (fun g hg hs => by have := (ownS_lt h g hg).2.1; omega)
theorem stmV_typed {w w' : World} {B : Nat} {s : Stm} {c0 c1 c2 c3 : Value} (h : StmV w B s c0 c1 c2 c3) {S : Nat → Prop} (o : Only S w w') (hS : ∀ k, S k → ∃ cs fr, w.heap[k]? = some (.cells cs 129 fr)) : StmV w' B s c0 c1 c2 c3 := by
  have no : ∀ k cs t fr, w.heap[k]? = some (.cells cs t fr) → t ≠ 129 → ¬ S k := fun k cs t fr h1 h2 h3 => by
    obtain ⟨cs', fr', h4⟩ := hS k h3
    rw [h1] at h4
    injection h4 with h4
    injection h4 with _ h5
    exact h2 h5
  have nw : ∀ v ws, OwnW w B v ws → OwnW w' B v ws := fun v ws h1 => ownW_keep h1 o (fun k hk => by
    rcases h1.2 with ⟨rfl, _⟩ | ⟨g', cap, cur, rfl, hb, hc, _⟩
    · simp [Value.ownBlock] at hk
    · simp [Value.ownBlock] at hk
      subst hk
      exact no _ _ _ _ hc (by decide))
  cases s with
  | none => exact h
  | label l => exact h
  | words ws => exact ⟨h.1, nw _ _ h.2.1, h.2.2⟩
  | la rd l =>
    obtain ⟨h0, ⟨ws, hl, h1⟩, h2, b, h3, h4, h5⟩ := h
    exact ⟨h0, ⟨ws, hl, nw _ _ h1⟩, h2, b, h3, h4, o.keeps (no _ _ _ _ h5 (by decide)) h5⟩
  | jump i l =>
    obtain ⟨h0, ⟨ws, hl, h1⟩, h2, b, h3, h4, m, h5⟩ := h
    exact ⟨h0, ⟨ws, hl, nw _ _ h1⟩, h2, b, h3, h4, m, o.keeps (no _ _ _ _ h5 (by decide)) h5⟩
theorem stmV_below {w w' : World} {B : Nat} {s : Stm} {c0 c1 c2 c3 : Value} (h : StmV w B s c0 c1 c2 c3) (hb : Below w.heap.size w w') : StmV w' B s c0 c1 c2 c3 :=
  stmV_typed (S := fun _ => False) h ⟨hb.os, hb.tape, hb.output, hb.size, fun k hk _ => hb.block k hk⟩ (fun k hk => hk.elim)
structure StmRow (w : World) (B : Nat) (v : Value) (ss : List Stm) (qs : List Q4) : Prop where
  own : OwnS w B v qs
  len : qs.length = ss.length
  at' : ∀ k (hk : k < ss.length) (hq : k < qs.length), StmV w B ss[k] qs[k].1 qs[k].2.1 qs[k].2.2.1 qs[k].2.2.2
theorem stmRow_nil (w : World) (B : Nat) : StmRow w B (.slice none 0 0) [] [] := ⟨⟨rfl, .inl ⟨rfl, rfl⟩⟩, rfl, fun k hk => by simp at hk⟩
theorem stmRow_below {w w' : World} {B : Nat} {v : Value} {ss : List Stm} {qs : List Q4} (h : StmRow w B v ss qs) (hb : Below w.heap.size w w') : StmRow w' B v ss qs :=
  ⟨ownS_below h.own hb, h.len, fun k hk hq => stmV_below (h.at' k hk hq) hb⟩
theorem stmRow_push (w : World) (B : Nat) (v : Value) (ss : List Stm) (qs : List Q4) (n : Nat) (hn : qs.length = n) (h : StmRow w B v ss qs) (hl : n ≤ 1000000) (hB : B ≤ w.heap.size) (s : Stm) (q : Q4) (hs : StmV w B s q.1 q.2.1 q.2.2.1 q.2.2.2) (ty : TypeId) :
    ∃ A C w', (Builtin.append_ #[76, 76] ty #[v, .slice (some ⟨w.heap.size, 0, none⟩) 1 1]).run Tryz.prog (w.alloc (.cells #[q.1, q.2.1, q.2.2.1, q.2.2.2] 129)) = .ok (.slice A (n + 1) C) w' ∧ StmRow w' B (.slice A (n + 1) C) (ss ++ [s]) (qs ++ [q]) ∧ (∀ B0 w0, Below B0 w0 w → B0 ≤ B → B0 ≤ w.heap.size → Below B0 w0 w') := by
  obtain ⟨i0, hi, hz0, hz1, hz2⟩ := info_parts info_stmP
  have ha : Below w.heap.size w (w.alloc (.cells #[q.1, q.2.1, q.2.2.1, q.2.2.2] 129)) := (Below.refl _ _).alloc (Nat.le_refl _) _
  have h2 := stmRow_below h ha
  have hs2 := stmV_below hs ha
  have hc := heap_alloc_new w (.cells #[q.1, q.2.1, q.2.2.1, q.2.2.2] 129)
  have hBa := Nat.le_trans hB ha.size
  have hold := ha.size
  generalize w.alloc (.cells #[q.1, q.2.1, q.2.2.1, q.2.2.2] 129) = wa at *
  have hone := stmV_four hs
  have hn1 : ∀ j u, (q4C q)[j]? = some u → wa.cell? ((⟨w.heap.size, 0, none⟩ : Addr).add j) = some u := by
    intro j u hj
    rw [Lib.add_plain, Nat.zero_add, Lib.cell_of_heap hc]
    simpa [q4C] using hj
  have h1 : ∀ u ∈ q4C q, u.oneCell' = true := by
    intro u hu
    simp [q4C] at hu
    rcases hu with rfl | rfl | rfl | rfl
    · exact hone.1
    · exact hone.2.1
    · exact hone.2.2.1
    · exact hone.2.2.2
  obtain ⟨v', w', hr, ho, hg, _, h5⟩ := run_append_own_at (P := Tryz.prog) wa B 76 ty 129 i0 _ 4 64 Tryz.underlying76 hi hz0 hz1 hz2 rfl (by decide) v qs.length _ h2.own ⟨w.heap.size, 0, none⟩ 1 1 (q4C q) rfl hn1 h1 (by unfold maxLen; omega) (by omega) hBa
  have ho' : OwnS w' B v' (qs ++ [q]) := by
    unfold OwnS
    rw [q4Cs_app, List.length_append]
    simpa [q4Cs] using ho
  have hon : Only (fun k => v.ownBlock = some k) wa w' := (Only.refl _ wa).grown hg (fun k hk => .inl hk)
  have hty : ∀ k, v.ownBlock = some k → ∃ cs fr, wa.heap[k]? = some (.cells cs 129 fr) := fun k hk => (ownS_lt h2.own k hk).2.2
  obtain ⟨A, C, rfl⟩ := ownS_slice ho'
  have e : (qs ++ [q]).length = n + 1 := by simp [hn]
  rw [e] at hr ho'
  refine ⟨A, C, w', hr, ⟨ho', by simp [h.len], fun k hk hq => ?_⟩, fun B0 w0 hb h1 h2' => ?_⟩
  · by_cases c : k < ss.length
    · have c2 : k < qs.length := by rw [h.len]; exact c
      rw [List.getElem_append_left c, List.getElem_append_left c2]
      exact stmV_typed (h2.at' k c c2) hon hty
    · have hk2 : k = ss.length := by simp at hk; omega
      subst hk2
      have hq2 : ss.length = qs.length := h.len.symm
      have e1 : (ss ++ [s])[ss.length] = s := by simp
      have e2 : ∀ (i : Nat) (hi : i < (qs ++ [q]).length), i = qs.length → (qs ++ [q])[i] = q := fun i hi hh => by subst hh; simp
      rw [e1, e2 _ hq hq2]
      exact stmV_typed hs2 hon hty
  · have hbw := hb
    have hb3 : Below B0 w0 wa := hb.trans (ha.mono h2')
    exact Below.thenOnly hb3 hon (fun k hk => Nat.le_trans h1 (ownS_lt h2.own k hk).1) (Nat.le_trans h2' hold)
end Go.Proofs.YtakdhdaoklcidaaGreatDoor
