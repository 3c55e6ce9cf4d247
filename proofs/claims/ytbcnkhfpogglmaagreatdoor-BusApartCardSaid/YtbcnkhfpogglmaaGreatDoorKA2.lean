/- Joined: PlU PlV PlS7 Ints Ua Ub Uc Ud Ue Uf Ug Uh Ui Uj EqG Uk Ul Um R3 R3b RdN R3c R3d -/
import Derived.Test.YtbcnkhfpogglmaaGreatDoorKA1
import Derived.WalkKit
import Derived.ProofKit
import Derived.WalkSmall
import Derived.OpenShut
import Derived.Test.YtbcnkhfpogglmaaGreatDoorRows
import Derived.Maps.AppendAt
import Derived.ArgAppend
import Derived.Laws.BytesArg
import Derived.WalkLawsBesides
import Derived.BigQuiet
import Derived.Deep.QuietTactic
import Derived.Lib.Hide
import Derived.StillTailTactics
import Derived.Deep.CutRange
import Derived.Lib.SliceRun
import Derived.Laws.StructEq
namespace Go.Proofs.YtbcnkhfpogglmaaGreatDoor.P5
open Go.RowKit
set_option linter.unusedVariables false
set_option maxRecDepth 100000

def tabQ : Array Value := #[.int .i64 0, .int .u64 0, .int .u64 4, .int .u64 32, .int .i64 1, .int .u64 4096, .int .u64 4, .int .u64 1, .int .i64 2, .int .u64 8192, .int .u64 128, .int .u64 2, .int .i64 3, .int .u64 2097152, .int .u64 4096, .int .u64 2, .int .i64 4, .int .u64 2097156, .int .u64 4096, .int .u64 2]
/-- The program's table stands in memory. -/
def Tab (w : World) : Prop := ∃ t fr, w.heap[0]? = some (.cells tabQ t fr)
theorem Tab.lt {w : World} (h : Tab w) : 0 < w.heap.size := by obtain ⟨t, fr, h⟩ := h; exact (Array.getElem?_eq_some_iff.1 h).1
theorem Tab.below {w w' : World} (h : Tab w) (o : Below w.heap.size w w') : Tab w' := by
  have hl := h.lt
  obtain ⟨t, fr, h⟩ := h; exact ⟨t, fr, (o.block _ hl).trans h⟩
theorem Tab.keeps {w w' : World} {T : Nat → Prop} (h : Tab w) (o : Only T w w') (hT : ¬ T 0) : Tab w' := by obtain ⟨t, fr, h⟩ := h; exact ⟨t, fr, o.keeps hT h⟩
theorem size_tab : (Tryz.prog.info? 181).map (·.size) = some tabQ.size := by kernel_rfl
theorem tab_0 (w : World) : (Instr.index 181 (.agg tabQ) (.int .i64 0)).run Tryz.prog w = .ok (.agg #[.int .i64 0, .int .u64 0, .int .u64 4, .int .u64 32]) w := by kernel_rfl
theorem tab_1 (w : World) : (Instr.index 181 (.agg tabQ) (.int .i64 1)).run Tryz.prog w = .ok (.agg #[.int .i64 1, .int .u64 4096, .int .u64 4, .int .u64 1]) w := by kernel_rfl
theorem tab_2 (w : World) : (Instr.index 181 (.agg tabQ) (.int .i64 2)).run Tryz.prog w = .ok (.agg #[.int .i64 2, .int .u64 8192, .int .u64 128, .int .u64 2]) w := by kernel_rfl
theorem tab_3 (w : World) : (Instr.index 181 (.agg tabQ) (.int .i64 3)).run Tryz.prog w = .ok (.agg #[.int .i64 3, .int .u64 2097152, .int .u64 4096, .int .u64 2]) w := by kernel_rfl
theorem tab_4 (w : World) : (Instr.index 181 (.agg tabQ) (.int .i64 4)).run Tryz.prog w = .ok (.agg #[.int .i64 4, .int .u64 2097156, .int .u64 4096, .int .u64 2]) w := by kernel_rfl
/-- What find answers. -/
def FindP (w : World) (r : Int × Int × Bool) (e : Ending) (w' : World) : Prop := e = .returned (.tuple #[.int .i64 r.1, .int .i64 r.2.1, .bool r.2.2]) ∧ Below w.heap.size w w'
theorem find_len (w : World) (off n : Int) (hn : ¬ n = 4) : Calls Tryz.prog 124 #[.int .u64 off, .int .i64 n] w (FindP w (0, 0, false)) := by
  have e4 : (n != 4) = true := by simpa using hn
  clear hn
  go_enter Tryz.func124, Tryz.ntmps124
  go_wp2
  go_ret3
  exact ⟨rfl, Below.refl _ _⟩
def dvQ (off A : Int) : Int := (off - A) % 18446744073709551616
def hitQ (off A S C : Int) : Bool := (dvQ off A % S == 0) && decide (dvQ off A / S < C)
def findQ (off : Int) : Int × Int × Bool :=
  if hitQ off 0 4 32 = true then (0, dvQ off 0 / 4, true) else if hitQ off 4096 4 1 = true then (1, dvQ off 4096 / 4, true) else if hitQ off 8192 128 2 = true then (2, dvQ off 8192 / 128, true)
  else if hitQ off 2097152 4096 2 = true then (3, dvQ off 2097152 / 4096, true) else if hitQ off 2097156 4096 2 = true then (4, dvQ off 2097156 / 4096, true) else (0, 0, false)
def missTo (off : Int) (k : Nat) : Prop :=
  (1 ≤ k → hitQ off 0 4 32 = false) ∧ (2 ≤ k → hitQ off 4096 4 1 = false) ∧ (3 ≤ k → hitQ off 8192 128 2 = false) ∧ (4 ≤ k → hitQ off 2097152 4096 2 = false) ∧ (5 ≤ k → hitQ off 2097156 4096 2 = false)
theorem dv_in (off A : Int) : 0 ≤ dvQ off A ∧ dvQ off A < 18446744073709551616 := by unfold dvQ; omega
theorem dv_wrap (off A : Int) : IntKind.u64.wrap (off - A) = dvQ off A := by rw [IntKind.wrap_u64]; rfl
theorem dv_wrap0 (off : Int) : IntKind.u64.wrap off = dvQ off 0 := by rw [IntKind.wrap_u64]; unfold dvQ; rw [Int.sub_zero]
theorem div_wrap {d S : Int} (h0 : 0 ≤ d) (h1 : d < 18446744073709551616) (hS : 1 ≤ S) : IntKind.u64.wrap (d.tdiv S) = d / S := by
  have k0 : 0 ≤ d / S := Int.ediv_nonneg h0 (by omega)
  have k1 : d / S ≤ d := Int.ediv_le_self _ h0
  rw [Int.tdiv_eq_ediv_of_nonneg h0, IntKind.wrap_u64]; omega
set_option maxRecDepth 100000 in
set_option maxHeartbeats 8000000 in
theorem find_any (w : World) (off : Int) (ht : Tab w) : Calls Tryz.prog 124 #[.int .u64 off, .int .i64 4] w (FindP w (findQ off)) := by
  obtain ⟨tt, fr, hrow⟩ := ht
  have HROW := Lib.hid hrow
  clear hrow
  go_enter Tryz.func124, Tryz.ntmps124
  go_wp2_with (refine wpList_load_row rfl _ _ rfl 0 rfl _ _ _ _ HROW.out Tryz.underlying181 rfl size_tab ?_)
  go_loopw [13] (fun i wr => ∃ k : Nat, k ≤ 5 ∧ i = .int .i64 k ∧ Hid (missTo off k) ∧ Below w.heap.size w wr) (fun i wr => (5 - intOf i).toNat)
  case atStart => exact ⟨0, by omega, rfl, Lib.hid ⟨fun h => by omega, fun h => by omega, fun h => by omega, fun h => by omega, fun h => by omega⟩, Below.refl _ _⟩
  case round =>
    obtain ⟨k, hk, rfl, HM, hbr⟩ := hrel
    have HBR := Lib.hid hbr
    clear hbr
    have hkk : k = 0 ∨ k = 1 ∨ k = 2 ∨ k = 3 ∨ k = 4 ∨ k = 5 := by omega
    rcases hkk with rfl | rfl | rfl | rfl | rfl | rfl

    · have P := tab_0
      go_wp2_with fail
      clear P
      have hd := dv_in off 0
      rw [dv_wrap0]
      obtain ⟨d, hdd⟩ : ∃ d, dvQ off 0 = d := ⟨_, rfl⟩
      rw [hdd] at hd ⊢
      have HDV := Lib.hid hdd
      clear hdd
      have hd0 := hd.1
      have hm : d.tmod 4 = d % 4 := Int.tmod_eq_emod_of_nonneg hd0
      have hq : IntKind.u64.wrap (d.tdiv 4) = d / 4 := div_wrap hd0 hd.2 (by omega)
      have H0 := heap_alloc_new wr (.cells #[.int .i64 0, .int .u64 0, .int .u64 4, .int .u64 32] 180)
      have HB2 := Lib.hid (HBR.out.alloc HBR.out.size (.cells #[.int .i64 0, .int .u64 0, .int .u64 4, .int .u64 32] 180))
      generalize wr.alloc (.cells #[.int .i64 0, .int .u64 0, .int .u64 4, .int .u64 32] 180) = wa at *
      have c0 : wa.cell? ⟨wr.heap.size, 0, none⟩ = some (.int .i64 0) := by rw [cell_of_row wa _ _ _ _ _ H0]; rfl
      have c1 : wa.cell? ⟨wr.heap.size, 2, none⟩ = some (.int .u64 4) := by rw [cell_of_row wa _ _ _ _ _ H0]; rfl
      have c2 : wa.cell? ⟨wr.heap.size, 3, none⟩ = some (.int .u64 32) := by rw [cell_of_row wa _ _ _ _ _ H0]; rfl
      clear H0 hd
      by_cases h1 : d % 4 = 0
      · have e1 : (d % 4 == 0) = true := by rw [beq_iff_eq]; exact h1
        by_cases h2 : d / 4 < 32
        · have e2 : decide (d / 4 < 32) = true := decide_eq_true h2
          have hn0 : 0 ≤ d / 4 := Int.ediv_nonneg hd0 (by omega)
          have hw : IntKind.i64.wrap (d / 4) = d / 4 := IntWalk.i64_in _ (by omega)
          have HR : Hid (findQ off = (0, d / 4, true)) := Lib.hid (by
            unfold findQ; rw [if_pos (by unfold hitQ; rw [HDV.out, e1, e2]; rfl), HDV.out])
          clear h1 h2
          go_quiet (fail)
          go_wp2_with fail
          go_quiet (fail)
          go_wp2
          go_ret3
          exact ⟨by rw [HR.out]; rfl, HB2.out.os, HB2.out.tape, HB2.out.output, HB2.out.size, HB2.out.block⟩
        · have e2 : decide (d / 4 < 32) = false := decide_eq_false h2
          have HH : Hid (hitQ off 0 4 32 = false) := Lib.hid (by unfold hitQ; rw [HDV.out, e2, Bool.and_false])
          clear h1 h2
          go_quiet (fail)
          go_wp2
          exact ⟨⟨1, by omega, rfl, Lib.hid ⟨fun _ => HH.out, fun h => by omega, fun h => by omega, fun h => by omega, fun h => by omega⟩, HB2.out.os, HB2.out.tape, HB2.out.output, HB2.out.size, HB2.out.block⟩, by simp [intOf]⟩
      · have e1 : (d % 4 == 0) = false := by rw [beq_eq_false_iff_ne]; exact h1
        have HH : Hid (hitQ off 0 4 32 = false) := Lib.hid (by unfold hitQ; rw [HDV.out, e1, Bool.false_and])
        clear h1
        go_quiet (fail)
        go_wp2
        exact ⟨⟨1, by omega, rfl, Lib.hid ⟨fun _ => HH.out, fun h => by omega, fun h => by omega, fun h => by omega, fun h => by omega⟩, HB2.out.os, HB2.out.tape, HB2.out.output, HB2.out.size, HB2.out.block⟩, by simp [intOf]⟩

    · have P := tab_1
      go_wp2_with fail
      clear P
      have hd := dv_in off 4096
      rw [dv_wrap]
      obtain ⟨d, hdd⟩ : ∃ d, dvQ off 4096 = d := ⟨_, rfl⟩
      rw [hdd] at hd ⊢
      have HDV := Lib.hid hdd
      clear hdd
      have hd0 := hd.1
      have hm : d.tmod 4 = d % 4 := Int.tmod_eq_emod_of_nonneg hd0
      have hq : IntKind.u64.wrap (d.tdiv 4) = d / 4 := div_wrap hd0 hd.2 (by omega)
      have H0 := heap_alloc_new wr (.cells #[.int .i64 1, .int .u64 4096, .int .u64 4, .int .u64 1] 180)
      have HB2 := Lib.hid (HBR.out.alloc HBR.out.size (.cells #[.int .i64 1, .int .u64 4096, .int .u64 4, .int .u64 1] 180))
      generalize wr.alloc (.cells #[.int .i64 1, .int .u64 4096, .int .u64 4, .int .u64 1] 180) = wa at *
      have c0 : wa.cell? ⟨wr.heap.size, 0, none⟩ = some (.int .i64 1) := by rw [cell_of_row wa _ _ _ _ _ H0]; rfl
      have c1 : wa.cell? ⟨wr.heap.size, 2, none⟩ = some (.int .u64 4) := by rw [cell_of_row wa _ _ _ _ _ H0]; rfl
      have c2 : wa.cell? ⟨wr.heap.size, 3, none⟩ = some (.int .u64 1) := by rw [cell_of_row wa _ _ _ _ _ H0]; rfl
      clear H0 hd
      by_cases h1 : d % 4 = 0
      · have e1 : (d % 4 == 0) = true := by rw [beq_iff_eq]; exact h1
        by_cases h2 : d / 4 < 1
        · have e2 : decide (d / 4 < 1) = true := decide_eq_true h2
          have hn0 : 0 ≤ d / 4 := Int.ediv_nonneg hd0 (by omega)
          have hw : IntKind.i64.wrap (d / 4) = d / 4 := IntWalk.i64_in _ (by omega)
          have HR : Hid (findQ off = (1, d / 4, true)) := Lib.hid (by
            unfold findQ; rw [if_neg (by rw [HM.out.1 (by omega)]; simp)]; rw [if_pos (by unfold hitQ; rw [HDV.out, e1, e2]; rfl), HDV.out])
          clear h1 h2
          go_quiet (fail)
          go_wp2_with fail
          go_quiet (fail)
          go_wp2
          go_ret3
          exact ⟨by rw [HR.out]; rfl, HB2.out.os, HB2.out.tape, HB2.out.output, HB2.out.size, HB2.out.block⟩
        · have e2 : decide (d / 4 < 1) = false := decide_eq_false h2
          have HH : Hid (hitQ off 4096 4 1 = false) := Lib.hid (by unfold hitQ; rw [HDV.out, e2, Bool.and_false])
          clear h1 h2
          go_quiet (fail)
          go_wp2
          exact ⟨⟨2, by omega, rfl, Lib.hid ⟨fun _ => HM.out.1 (by omega), fun _ => HH.out, fun h => by omega, fun h => by omega, fun h => by omega⟩, HB2.out.os, HB2.out.tape, HB2.out.output, HB2.out.size, HB2.out.block⟩, by simp [intOf]⟩
      · have e1 : (d % 4 == 0) = false := by rw [beq_eq_false_iff_ne]; exact h1
        have HH : Hid (hitQ off 4096 4 1 = false) := Lib.hid (by unfold hitQ; rw [HDV.out, e1, Bool.false_and])
        clear h1
        go_quiet (fail)
        go_wp2
        exact ⟨⟨2, by omega, rfl, Lib.hid ⟨fun _ => HM.out.1 (by omega), fun _ => HH.out, fun h => by omega, fun h => by omega, fun h => by omega⟩, HB2.out.os, HB2.out.tape, HB2.out.output, HB2.out.size, HB2.out.block⟩, by simp [intOf]⟩

    · have P := tab_2
      go_wp2_with fail
      clear P
      have hd := dv_in off 8192
      rw [dv_wrap]
      obtain ⟨d, hdd⟩ : ∃ d, dvQ off 8192 = d := ⟨_, rfl⟩
      rw [hdd] at hd ⊢
      have HDV := Lib.hid hdd
      clear hdd
      have hd0 := hd.1
      have hm : d.tmod 128 = d % 128 := Int.tmod_eq_emod_of_nonneg hd0
      have hq : IntKind.u64.wrap (d.tdiv 128) = d / 128 := div_wrap hd0 hd.2 (by omega)
      have H0 := heap_alloc_new wr (.cells #[.int .i64 2, .int .u64 8192, .int .u64 128, .int .u64 2] 180)
      have HB2 := Lib.hid (HBR.out.alloc HBR.out.size (.cells #[.int .i64 2, .int .u64 8192, .int .u64 128, .int .u64 2] 180))
      generalize wr.alloc (.cells #[.int .i64 2, .int .u64 8192, .int .u64 128, .int .u64 2] 180) = wa at *
      have c0 : wa.cell? ⟨wr.heap.size, 0, none⟩ = some (.int .i64 2) := by rw [cell_of_row wa _ _ _ _ _ H0]; rfl
      have c1 : wa.cell? ⟨wr.heap.size, 2, none⟩ = some (.int .u64 128) := by rw [cell_of_row wa _ _ _ _ _ H0]; rfl
      have c2 : wa.cell? ⟨wr.heap.size, 3, none⟩ = some (.int .u64 2) := by rw [cell_of_row wa _ _ _ _ _ H0]; rfl
      clear H0 hd
      by_cases h1 : d % 128 = 0
      · have e1 : (d % 128 == 0) = true := by rw [beq_iff_eq]; exact h1
        by_cases h2 : d / 128 < 2
        · have e2 : decide (d / 128 < 2) = true := decide_eq_true h2
          have hn0 : 0 ≤ d / 128 := Int.ediv_nonneg hd0 (by omega)
          have hw : IntKind.i64.wrap (d / 128) = d / 128 := IntWalk.i64_in _ (by omega)
          have HR : Hid (findQ off = (2, d / 128, true)) := Lib.hid (by
            unfold findQ; rw [if_neg (by rw [HM.out.1 (by omega)]; simp)]; rw [if_neg (by rw [HM.out.2.1 (by omega)]; simp)]; rw [if_pos (by unfold hitQ; rw [HDV.out, e1, e2]; rfl), HDV.out])
          clear h1 h2
          go_quiet (fail)
          go_wp2_with fail
          go_quiet (fail)
          go_wp2
          go_ret3
          exact ⟨by rw [HR.out]; rfl, HB2.out.os, HB2.out.tape, HB2.out.output, HB2.out.size, HB2.out.block⟩
        · have e2 : decide (d / 128 < 2) = false := decide_eq_false h2
          have HH : Hid (hitQ off 8192 128 2 = false) := Lib.hid (by unfold hitQ; rw [HDV.out, e2, Bool.and_false])
          clear h1 h2
          go_quiet (fail)
          go_wp2
          exact ⟨⟨3, by omega, rfl, Lib.hid ⟨fun _ => HM.out.1 (by omega), fun _ => HM.out.2.1 (by omega), fun _ => HH.out, fun h => by omega, fun h => by omega⟩, HB2.out.os, HB2.out.tape, HB2.out.output, HB2.out.size, HB2.out.block⟩, by simp [intOf]⟩
      · have e1 : (d % 128 == 0) = false := by rw [beq_eq_false_iff_ne]; exact h1
        have HH : Hid (hitQ off 8192 128 2 = false) := Lib.hid (by unfold hitQ; rw [HDV.out, e1, Bool.false_and])
        clear h1
        go_quiet (fail)
        go_wp2
        exact ⟨⟨3, by omega, rfl, Lib.hid ⟨fun _ => HM.out.1 (by omega), fun _ => HM.out.2.1 (by omega), fun _ => HH.out, fun h => by omega, fun h => by omega⟩, HB2.out.os, HB2.out.tape, HB2.out.output, HB2.out.size, HB2.out.block⟩, by simp [intOf]⟩

    · have P := tab_3
      go_wp2_with fail
      clear P
      have hd := dv_in off 2097152
      rw [dv_wrap]
      obtain ⟨d, hdd⟩ : ∃ d, dvQ off 2097152 = d := ⟨_, rfl⟩
      rw [hdd] at hd ⊢
      have HDV := Lib.hid hdd
      clear hdd
      have hd0 := hd.1
      have hm : d.tmod 4096 = d % 4096 := Int.tmod_eq_emod_of_nonneg hd0
      have hq : IntKind.u64.wrap (d.tdiv 4096) = d / 4096 := div_wrap hd0 hd.2 (by omega)
      have H0 := heap_alloc_new wr (.cells #[.int .i64 3, .int .u64 2097152, .int .u64 4096, .int .u64 2] 180)
      have HB2 := Lib.hid (HBR.out.alloc HBR.out.size (.cells #[.int .i64 3, .int .u64 2097152, .int .u64 4096, .int .u64 2] 180))
      generalize wr.alloc (.cells #[.int .i64 3, .int .u64 2097152, .int .u64 4096, .int .u64 2] 180) = wa at *
      have c0 : wa.cell? ⟨wr.heap.size, 0, none⟩ = some (.int .i64 3) := by rw [cell_of_row wa _ _ _ _ _ H0]; rfl
      have c1 : wa.cell? ⟨wr.heap.size, 2, none⟩ = some (.int .u64 4096) := by rw [cell_of_row wa _ _ _ _ _ H0]; rfl
      have c2 : wa.cell? ⟨wr.heap.size, 3, none⟩ = some (.int .u64 2) := by rw [cell_of_row wa _ _ _ _ _ H0]; rfl
      clear H0 hd
      by_cases h1 : d % 4096 = 0
      · have e1 : (d % 4096 == 0) = true := by rw [beq_iff_eq]; exact h1
        by_cases h2 : d / 4096 < 2
        · have e2 : decide (d / 4096 < 2) = true := decide_eq_true h2
          have hn0 : 0 ≤ d / 4096 := Int.ediv_nonneg hd0 (by omega)
          have hw : IntKind.i64.wrap (d / 4096) = d / 4096 := IntWalk.i64_in _ (by omega)
          have HR : Hid (findQ off = (3, d / 4096, true)) := Lib.hid (by
            unfold findQ; rw [if_neg (by rw [HM.out.1 (by omega)]; simp)]; rw [if_neg (by rw [HM.out.2.1 (by omega)]; simp)]; rw [if_neg (by rw [HM.out.2.2.1 (by omega)]; simp)]; rw [if_pos (by unfold hitQ; rw [HDV.out, e1, e2]; rfl), HDV.out])
          clear h1 h2
          go_quiet (fail)
          go_wp2_with fail
          go_quiet (fail)
          go_wp2
          go_ret3
          exact ⟨by rw [HR.out]; rfl, HB2.out.os, HB2.out.tape, HB2.out.output, HB2.out.size, HB2.out.block⟩
        · have e2 : decide (d / 4096 < 2) = false := decide_eq_false h2
          have HH : Hid (hitQ off 2097152 4096 2 = false) := Lib.hid (by unfold hitQ; rw [HDV.out, e2, Bool.and_false])
          clear h1 h2
          go_quiet (fail)
          go_wp2
          exact ⟨⟨4, by omega, rfl, Lib.hid ⟨fun _ => HM.out.1 (by omega), fun _ => HM.out.2.1 (by omega), fun _ => HM.out.2.2.1 (by omega), fun _ => HH.out, fun h => by omega⟩, HB2.out.os, HB2.out.tape, HB2.out.output, HB2.out.size, HB2.out.block⟩, by simp [intOf]⟩
      · have e1 : (d % 4096 == 0) = false := by rw [beq_eq_false_iff_ne]; exact h1
        have HH : Hid (hitQ off 2097152 4096 2 = false) := Lib.hid (by unfold hitQ; rw [HDV.out, e1, Bool.false_and])
        clear h1
        go_quiet (fail)
        go_wp2
        exact ⟨⟨4, by omega, rfl, Lib.hid ⟨fun _ => HM.out.1 (by omega), fun _ => HM.out.2.1 (by omega), fun _ => HM.out.2.2.1 (by omega), fun _ => HH.out, fun h => by omega⟩, HB2.out.os, HB2.out.tape, HB2.out.output, HB2.out.size, HB2.out.block⟩, by simp [intOf]⟩

    · have P := tab_4
      go_wp2_with fail
      clear P
      have hd := dv_in off 2097156
      rw [dv_wrap]
      obtain ⟨d, hdd⟩ : ∃ d, dvQ off 2097156 = d := ⟨_, rfl⟩
      rw [hdd] at hd ⊢
      have HDV := Lib.hid hdd
      clear hdd
      have hd0 := hd.1
      have hm : d.tmod 4096 = d % 4096 := Int.tmod_eq_emod_of_nonneg hd0
      have hq : IntKind.u64.wrap (d.tdiv 4096) = d / 4096 := div_wrap hd0 hd.2 (by omega)
      have H0 := heap_alloc_new wr (.cells #[.int .i64 4, .int .u64 2097156, .int .u64 4096, .int .u64 2] 180)
      have HB2 := Lib.hid (HBR.out.alloc HBR.out.size (.cells #[.int .i64 4, .int .u64 2097156, .int .u64 4096, .int .u64 2] 180))
      generalize wr.alloc (.cells #[.int .i64 4, .int .u64 2097156, .int .u64 4096, .int .u64 2] 180) = wa at *
      have c0 : wa.cell? ⟨wr.heap.size, 0, none⟩ = some (.int .i64 4) := by rw [cell_of_row wa _ _ _ _ _ H0]; rfl
      have c1 : wa.cell? ⟨wr.heap.size, 2, none⟩ = some (.int .u64 4096) := by rw [cell_of_row wa _ _ _ _ _ H0]; rfl
      have c2 : wa.cell? ⟨wr.heap.size, 3, none⟩ = some (.int .u64 2) := by rw [cell_of_row wa _ _ _ _ _ H0]; rfl
      clear H0 hd
      by_cases h1 : d % 4096 = 0
      · have e1 : (d % 4096 == 0) = true := by rw [beq_iff_eq]; exact h1
        by_cases h2 : d / 4096 < 2
        · have e2 : decide (d / 4096 < 2) = true := decide_eq_true h2
          have hn0 : 0 ≤ d / 4096 := Int.ediv_nonneg hd0 (by omega)
          have hw : IntKind.i64.wrap (d / 4096) = d / 4096 := IntWalk.i64_in _ (by omega)
          have HR : Hid (findQ off = (4, d / 4096, true)) := Lib.hid (by
            unfold findQ; rw [if_neg (by rw [HM.out.1 (by omega)]; simp)]; rw [if_neg (by rw [HM.out.2.1 (by omega)]; simp)]; rw [if_neg (by rw [HM.out.2.2.1 (by omega)]; simp)]; rw [if_neg (by rw [HM.out.2.2.2.1 (by omega)]; simp)]; rw [if_pos (by unfold hitQ; rw [HDV.out, e1, e2]; rfl), HDV.out])
          clear h1 h2
          go_quiet (fail)
          go_wp2_with fail
          go_quiet (fail)
          go_wp2
          go_ret3
          exact ⟨by rw [HR.out]; rfl, HB2.out.os, HB2.out.tape, HB2.out.output, HB2.out.size, HB2.out.block⟩
        · have e2 : decide (d / 4096 < 2) = false := decide_eq_false h2
          have HH : Hid (hitQ off 2097156 4096 2 = false) := Lib.hid (by unfold hitQ; rw [HDV.out, e2, Bool.and_false])
          clear h1 h2
          go_quiet (fail)
          go_wp2
          exact ⟨⟨5, by omega, rfl, Lib.hid ⟨fun _ => HM.out.1 (by omega), fun _ => HM.out.2.1 (by omega), fun _ => HM.out.2.2.1 (by omega), fun _ => HM.out.2.2.2.1 (by omega), fun _ => HH.out⟩, HB2.out.os, HB2.out.tape, HB2.out.output, HB2.out.size, HB2.out.block⟩, by simp [intOf]⟩
      · have e1 : (d % 4096 == 0) = false := by rw [beq_eq_false_iff_ne]; exact h1
        have HH : Hid (hitQ off 2097156 4096 2 = false) := Lib.hid (by unfold hitQ; rw [HDV.out, e1, Bool.false_and])
        clear h1
        go_quiet (fail)
        go_wp2
        exact ⟨⟨5, by omega, rfl, Lib.hid ⟨fun _ => HM.out.1 (by omega), fun _ => HM.out.2.1 (by omega), fun _ => HM.out.2.2.1 (by omega), fun _ => HM.out.2.2.2.1 (by omega), fun _ => HH.out⟩, HB2.out.os, HB2.out.tape, HB2.out.output, HB2.out.size, HB2.out.block⟩, by simp [intOf]⟩

    · have HR : Hid (findQ off = (0, 0, false)) := Lib.hid (by
        unfold findQ
        rw [HM.out.1 (by omega), HM.out.2.1 (by omega), HM.out.2.2.1 (by omega), HM.out.2.2.2.1 (by omega), HM.out.2.2.2.2 (by omega)]; rfl)
      go_wp2
      go_ret3
      exact ⟨by rw [HR.out]; rfl, HBR.out⟩

end Go.Proofs.YtbcnkhfpogglmaaGreatDoor.P5

namespace Go.Proofs.YtbcnkhfpogglmaaGreatDoor.P5
open Go.RowKit
set_option linter.unusedVariables false
set_option maxRecDepth 100000

/-- What stands at an offset (0 a priority, 1 what is pending, 2 enabled, 3 a threshold, 4 claims, 5 nothing), and of which number. -/
def plcK (off n : Int) : Nat × Nat :=
  if n = 4 then (if off < 128 ∧ off % 4 = 0 then (0, (off / 4).toNat) else if off = 4096 then (1, 0) else if off = 8192 then (2, 0) else if off = 8320 then (2, 1) else if off = 2097152 then (3, 0) else if off = 2101248 then (3, 1)
    else if off = 2097156 then (4, 0) else if off = 2101252 then (4, 1) else (5, 0)) else (5, 0)
theorem plc_cases (off n : Int) (h0 : 0 ≤ off) :
    (n = 4 ∧ ∃ k : Nat, k < 32 ∧ off = 4 * (k : Int) ∧ plcK off n = (0, k)) ∨ (n = 4 ∧ off = 4096 ∧ plcK off n = (1, 0)) ∨ (n = 4 ∧ off = 8192 ∧ plcK off n = (2, 0)) ∨ (n = 4 ∧ off = 8320 ∧ plcK off n = (2, 1)) ∨
    (n = 4 ∧ off = 2097152 ∧ plcK off n = (3, 0)) ∨ (n = 4 ∧ off = 2101248 ∧ plcK off n = (3, 1)) ∨ (n = 4 ∧ off = 2097156 ∧ plcK off n = (4, 0)) ∨ (n = 4 ∧ off = 2101252 ∧ plcK off n = (4, 1)) ∨
    (n = 4 ∧ NoPlic off ∧ plcK off n = (5, 0)) ∨ (¬ n = 4 ∧ plcK off n = (5, 0)) := by
  by_cases hn : n = 4
  · subst hn
    by_cases h1 : off < 128 ∧ off % 4 = 0
    · refine .inl ⟨rfl, (off / 4).toNat, by omega, by omega, ?_⟩
      unfold plcK; rw [if_pos rfl, if_pos h1]
    by_cases h2 : off = 4096
    · subst h2; exact .inr (.inl ⟨rfl, rfl, by decide⟩)
    by_cases h3 : off = 8192
    · subst h3; exact .inr (.inr (.inl ⟨rfl, rfl, by decide⟩))
    by_cases h4 : off = 8320
    · subst h4; exact .inr (.inr (.inr (.inl ⟨rfl, rfl, by decide⟩)))
    by_cases h5 : off = 2097152
    · subst h5; exact .inr (.inr (.inr (.inr (.inl ⟨rfl, rfl, by decide⟩))))
    by_cases h6 : off = 2101248
    · subst h6; exact .inr (.inr (.inr (.inr (.inr (.inl ⟨rfl, rfl, by decide⟩)))))
    by_cases h7 : off = 2097156
    · subst h7; exact .inr (.inr (.inr (.inr (.inr (.inr (.inl ⟨rfl, rfl, by decide⟩))))))
    by_cases h8 : off = 2101252
    · subst h8; exact .inr (.inr (.inr (.inr (.inr (.inr (.inr (.inl ⟨rfl, rfl, by decide⟩)))))))
    refine .inr (.inr (.inr (.inr (.inr (.inr (.inr (.inr (.inl ⟨rfl, ⟨h1, h2, h3, h4, h5, h6, h7, h8⟩, ?_⟩))))))))
    unfold plcK
    rw [if_pos rfl, if_neg h1, if_neg h2, if_neg h3, if_neg h4, if_neg h5, if_neg h6, if_neg h7, if_neg h8]
  · refine .inr (.inr (.inr (.inr (.inr (.inr (.inr (.inr (.inr ⟨hn, ?_⟩))))))))
    unfold plcK; rw [if_neg hn]
theorem findQ_prio {k : Nat} (hk : k < 32) : findQ (4 * (k : Int)) = (0, (k : Int), true) := by
  have hd : dvQ (4 * (k : Int)) 0 = 4 * (k : Int) := by unfold dvQ; omega
  unfold findQ
  rw [if_pos (by unfold hitQ; rw [hd, show (4 * (k : Int) % 4 == 0) = true by rw [beq_iff_eq]; omega, decide_eq_true (by omega)]; rfl), hd, show 4 * (k : Int) / 4 = (k : Int) by omega]
theorem hit_no {off A S C : Int} (h : ¬ (dvQ off A % S = 0 ∧ dvQ off A / S < C)) : hitQ off A S C = false := by
  unfold hitQ
  by_cases h1 : dvQ off A % S = 0
  · rw [decide_eq_false (fun h2 => h ⟨h1, h2⟩), Bool.and_false]
  · rw [show (dvQ off A % S == 0) = false by rw [beq_eq_false_iff_ne]; exact h1, Bool.false_and]
theorem findQ_no {off : Int} (hn : NoPlic off) (ho : In64 off) : findQ off = (0, 0, false) := by
  obtain ⟨h1, h2, h3, h4, h5, h6, h7, h8⟩ := hn
  unfold In64 at ho
  unfold findQ
  rw [hit_no (S := 4) (C := 32) (by unfold dvQ; omega), hit_no (A := 4096) (by unfold dvQ; omega), hit_no (A := 8192) (by unfold dvQ; omega), hit_no (A := 2097152) (by unfold dvQ; omega), hit_no (A := 2097156) (by unfold dvQ; omega)]
  rfl
/-- What a reading tells, what it leaves; what a writing leaves. -/
def rdX (t : PS) (p : Nat × Nat) : Int := match p.1 with
  | 0 => t.prio p.2
  | 1 => bits32 t.pend
  | 2 => bits32 fun s => t.on s p.2
  | 3 => t.floor p.2
  | 4 => bestC t p.2
  | _ => 0
def rdT (t : PS) (p : Nat × Nat) : PS := match p.1 with
  | 4 => claimed t (bestC t p.2)
  | _ => t
def okP (p : Nat × Nat) : Bool := decide (p.1 < 5)
def wrT (t : PS) (p : Nat × Nat) (v : Int) : PS := match p.1 with
  | 0 => if p.2 = 0 then t else prioT t p.2 (v % 8)
  | 2 => onT t p.2 (onBits v)
  | 3 => floorT t p.2 (v % 8)
  | 4 => doneT t p.2 (v % 4294967296).toNat
  | _ => t
theorem find_is (w : World) (off : Int) (ht : Tab w) (a i : Int) (ok : Bool) (h : findQ off = (a, i, ok)) : Calls Tryz.prog 124 #[.int .u64 off, .int .i64 4] w fun e w' => e = .returned (.tuple #[.int .i64 a, .int .i64 i, .bool ok]) ∧ Below w.heap.size w w' := by
  have k := find_any w off ht
  rw [h] at k; exact k
theorem wrap_u64s {x : Int} (h0 : 0 ≤ x) (h1 : x < 4294967296) : IntKind.u64.wrap x = x := by rw [IntKind.wrap_u64]; omega
end Go.Proofs.YtbcnkhfpogglmaaGreatDoor.P5

namespace Go.Proofs.YtbcnkhfpogglmaaGreatDoor.P5.In
open Go.RowKit
set_option linter.unusedVariables false
set_option maxRecDepth 100000
variable {fr : Fr 4}

/-- The program's plic t stands four cells behind the beginning of block b. -/
def ProgP (fr : Fr 4) (w : World) (b : Nat) (t : PS) : Prop := w.heap[b]? = some (.cells (fr.all (varr 39 (cellQ t))) fr.ty (0, 0)) ∧ t.ok
theorem ProgP.lt {w : World} {b : Nat} {t : PS} (h : ProgP fr w b t) : b < w.heap.size := (Array.getElem?_eq_some_iff.1 h.1).1
theorem ProgP.below {w w' : World} {b : Nat} {t : PS} (h : ProgP fr w b t) (o : Below w.heap.size w w') : ProgP fr w' b t := ⟨(o.block b h.lt).trans h.1, h.2⟩
theorem ProgP.keeps {w w' : World} {b : Nat} {t : PS} {T : Nat → Prop} (h : ProgP fr w b t) (o : Only T w w') (hb : ¬ T b) : ProgP fr w' b t := ⟨o.keeps hb h.1, h.2⟩
theorem ProgP.free {w : World} {b : Nat} {t : PS} (h : ProgP fr w b t) (k : Nat) : w.frozen? ⟨b, k, none⟩ = false := frozen_of_row w b k _ _ h.1
theorem ProgP.cell {w : World} {b : Nat} {t : PS} (h : ProgP fr w b t) {i a : Nat} (hi : i < 39) (ha : a = 4 + i) {v : Value} (hv : cellQ t i = v) : w.cell? ⟨b, a, none⟩ = some v := by
  subst ha
  rw [cell_of_row w b _ _ _ _ h.1, fr.get _ _ (by rw [varr_size]; exact hi), varr_get _ _ _ hi, hv]
theorem ProgP.up_ {w : World} {b : Nat} {t : PS} (h : ProgP fr w b t) : w.cell? ⟨b, 4, none⟩ = some (.int .u32 (bits32 t.up)) := h.cell (i := 0) (by omega) (by omega) rfl
theorem ProgP.pend_ {w : World} {b : Nat} {t : PS} (h : ProgP fr w b t) : w.cell? ⟨b, 5, none⟩ = some (.int .u32 (bits32 t.pend)) := h.cell (i := 1) (by omega) (by omega) rfl
theorem ProgP.busy_ {w : World} {b : Nat} {t : PS} (h : ProgP fr w b t) : w.cell? ⟨b, 6, none⟩ = some (.int .u32 (bits32 t.busy)) := h.cell (i := 2) (by omega) (by omega) rfl
theorem ProgP.prio_ {w : World} {b : Nat} {t : PS} (h : ProgP fr w b t) {s : Nat} (hs : s < 32) : w.cell? ⟨b, 7 + s, none⟩ = some (.int .u8 (t.prio s)) := h.cell (i := 3 + s) (by omega) (by omega) (cellQ_prio t hs)
theorem ProgP.on_ {w : World} {b : Nat} {t : PS} (h : ProgP fr w b t) {c : Nat} (hc : c < 2) : w.cell? ⟨b, 39 + c, none⟩ = some (.int .u32 (bits32 fun s => t.on s c)) := h.cell (i := 35 + c) (by omega) (by omega) (cellQ_on t hc)
theorem ProgP.floor_ {w : World} {b : Nat} {t : PS} (h : ProgP fr w b t) {c : Nat} (hc : c < 2) : w.cell? ⟨b, 41 + c, none⟩ = some (.int .u8 (t.floor c)) := h.cell (i := 37 + c) (by omega) (by omega) (cellQ_floor t hc)
theorem ProgP.set {w : World} {b : Nat} {t t' : PS} (h : ProgP fr w b t) {k : Nat} (a : Nat) (ha : a = 4 + k) (hk : k < 39) (v : Value) (ok : t'.ok) (he : ∀ i, i < 39 → cellQ t' i = if i = k then v else cellQ t i) : ProgP fr (w.setCell ⟨b, a, none⟩ v) b t' := by
  refine ⟨?_, ok⟩
  subst ha
  rw [heap_setCell_same w b _ _ _ _ h.1, fr.set _ _ _ (by rw [varr_size]; exact hk), varr_set]
  rw [show (varr 39 fun i => if i = k then v else cellQ t i) = varr 39 (cellQ t') from varr_congr fun i hi => (he i hi).symm]
theorem ProgP.setUp {w : World} {b : Nat} {t : PS} (h : ProgP fr w b t) {s : Nat} (hs : 1 ≤ s) (u : Bool) : ProgP fr (w.setCell ⟨b, 4, none⟩ (.int .u32 (bits32 (upd t.up s u)))) b (upP t s u) :=
  h.set (k := 0) 4 (by omega) (by omega) _ ⟨h.2.prio0, h.2.on0, h.2.pend0, (upd_other t.up u (show ¬ 0 = s by omega)).trans h.2.up0, h.2.pr, h.2.fl⟩ (cells_eq rfl rfl rfl (fun s _ => (if_neg (by omega)).symm) (fun c _ => (if_neg (by omega)).symm) (fun c _ => (if_neg (by omega)).symm))
theorem ProgP.setPend {w : World} {b : Nat} {t : PS} (h : ProgP fr w b t) (f : Nat → Bool) (h0 : f 0 = false) : ProgP fr (w.setCell ⟨b, 5, none⟩ (.int .u32 (bits32 f))) b { t with pend := f } :=
  h.set (k := 1) 5 (by omega) (by omega) _ ⟨h.2.prio0, h.2.on0, h0, h.2.up0, h.2.pr, h.2.fl⟩ (cells_eq rfl rfl rfl (fun s _ => (if_neg (by omega)).symm) (fun c _ => (if_neg (by omega)).symm) (fun c _ => (if_neg (by omega)).symm))
theorem ProgP.setBusy {w : World} {b : Nat} {t : PS} (h : ProgP fr w b t) (f : Nat → Bool) : ProgP fr (w.setCell ⟨b, 6, none⟩ (.int .u32 (bits32 f))) b { t with busy := f } :=
  h.set (k := 2) 6 (by omega) (by omega) _ ⟨h.2.prio0, h.2.on0, h.2.pend0, h.2.up0, h.2.pr, h.2.fl⟩ (cells_eq rfl rfl rfl (fun s _ => (if_neg (by omega)).symm) (fun c _ => (if_neg (by omega)).symm) (fun c _ => (if_neg (by omega)).symm))
theorem ProgP.setPrio {w : World} {b : Nat} {t : PS} (h : ProgP fr w b t) {s : Nat} (hs : 1 ≤ s) (hs2 : s < 32) {v : Int} (h0 : 0 ≤ v) (h8 : v < 8) : ProgP fr (w.setCell ⟨b, 7 + s, none⟩ (.int .u8 v)) b (prioT t s v) :=
  h.set (k := 3 + s) _ (by omega) (by omega) _ (ok_prio h.2 hs h0 h8) (cells_eq (if_neg (by omega)).symm (if_neg (by omega)).symm (if_neg (by omega)).symm (fun i _ => by
    show Value.int .u8 (upd t.prio s v i) = _
    unfold upd
    by_cases e : i = s
    · rw [if_pos e, if_pos (by omega)]
    · rw [if_neg e, if_neg (by omega)]) (fun c _ => (if_neg (by omega)).symm) (fun c _ => (if_neg (by omega)).symm))
theorem ProgP.setFloor {w : World} {b : Nat} {t : PS} (h : ProgP fr w b t) {c : Nat} (hc : c < 2) {v : Int} (h0 : 0 ≤ v) (h8 : v < 8) : ProgP fr (w.setCell ⟨b, 41 + c, none⟩ (.int .u8 v)) b (floorT t c v) :=
  h.set (k := 37 + c) _ (by omega) (by omega) _ (ok_floor h.2 c h0 h8) (cells_eq (if_neg (by omega)).symm (if_neg (by omega)).symm (if_neg (by omega)).symm (fun i _ => (if_neg (by omega)).symm) (fun i _ => (if_neg (by omega)).symm) (fun i _ => by
    rw [floorT_at]
    by_cases e : i = c
    · rw [if_pos e, if_pos (by omega)]
    · rw [if_neg e, if_neg (by omega)]))
theorem ProgP.setOn {w : World} {b : Nat} {t : PS} (h : ProgP fr w b t) {c : Nat} (hc : c < 2) (f : Nat → Bool) (h0 : f 0 = false) : ProgP fr (w.setCell ⟨b, 39 + c, none⟩ (.int .u32 (bits32 f))) b (onT t c f) :=
  h.set (k := 35 + c) _ (by omega) (by omega) _ (ok_on h.2 c h0) (cells_eq (if_neg (by omega)).symm (if_neg (by omega)).symm (if_neg (by omega)).symm (fun i _ => (if_neg (by omega)).symm) (fun i _ => by
    show Value.int .u32 (bits32 fun s => if i = c then f s else t.on s i) = _
    by_cases e : i = c
    · rw [if_pos (show 35 + i = 35 + c by omega)]; congr 1; exact bits32_congr fun s _ => if_pos e
    · rw [if_neg (by omega)]; congr 1; exact bits32_congr fun s _ => if_neg e) (fun i _ => (if_neg (by omega)).symm))

def SetQ (fr : Fr 4) (w : World) (b : Nat) (t' : PS) (e : Ending) (w' : World) : Prop := (∃ u, e = .returned u) ∧ Only (fun i => i = b) w w' ∧ ProgP fr w' b t'
set_option maxHeartbeats 1000000 in
theorem look_any (w : World) (b : Nat) (t : PS) (h : ProgP fr w b t) (s : Nat) (h1 : 1 ≤ s) (hs : s < 32) :
    Calls Tryz.prog 91 #[.pointer (some ⟨b, 4, none⟩), .int .i64 s] w (SetQ fr w b (lookP t s)) := by
  have c0 := h.up_
  have c1 := h.pend_
  have c2 := h.busy_
  have f1 := h.free 5
  have H := Lib.hid h
  have HN : Hid (ProgP fr (w.drew.setCell ⟨b, 5, none⟩ (.int .u32 (bits32 (upd t.pend s true)))) b { t with pend := upd t.pend s true }) := Lib.hid (ProgP.setPend (w := w.drew) ⟨h.1, h.2⟩ _ (upd0 h.2.pend0 h1 true))
  have HO : Hid (Only (fun i => i = b) w (w.drew.setCell ⟨b, 5, none⟩ (.int .u32 (bits32 (upd t.pend s true))))) := Lib.hid (Only.setCell ((Only.refl (fun i => i = b) w).drewN 1) (p := ⟨b, 5, none⟩) (.inl rfl) _)
  have H1 := Lib.hid (one_shl hs)
  have H2 := Lib.hid (set32 t.pend hs)
  clear h
  generalize hu : t.up s = u at *
  generalize hb : t.busy s = v at *
  have HU := Lib.hid hu
  have HB := Lib.hid hb
  have HL : Hid (lookP t s = if u && !v then { t with pend := upd t.pend s true } else t) := Lib.hid (by unfold lookP; rw [hu, hb])
  clear hu hb
  cases u with
  | false =>
    have HE : Hid (lookP t s = t) := Lib.hid (by rw [HL.out]; rfl)
    rw [HE.out]
    go_enter Tryz.func91, Tryz.ntmps91
    go_wp2_with fail
    (with_reducible refine (bitQ t.up s hs _ HU.out _).mono ?_)
    rintro e w' ⟨rfl, rfl⟩
    go_wp2
    go_end0
    exact ⟨⟨_, rfl⟩, Only.refl _ _, H.out⟩
  | true =>
  cases v with
  | true =>
    have HE : Hid (lookP t s = t) := Lib.hid (by rw [HL.out]; rfl)
    rw [HE.out]
    go_enter Tryz.func91, Tryz.ntmps91
    go_wp2_with fail
    (with_reducible refine (bitQ t.up s hs _ HU.out _).mono ?_)
    rintro e w' ⟨rfl, rfl⟩
    go_wp2_with fail
    (with_reducible refine (bitQ t.busy s hs _ HB.out _).mono ?_)
    rintro e w' ⟨rfl, rfl⟩
    go_wp2
    go_end0
    exact ⟨⟨_, rfl⟩, Only.refl _ _, H.out⟩
  | false =>
    have HE : Hid (lookP t s = { t with pend := upd t.pend s true }) := Lib.hid (by rw [HL.out]; rfl)
    rw [HE.out]
    go_enter Tryz.func91, Tryz.ntmps91
    go_wp2_with fail
    (with_reducible refine (bitQ t.up s hs _ HU.out _).mono ?_)
    rintro e w' ⟨rfl, rfl⟩
    go_wp2_with fail
    (with_reducible refine (bitQ t.busy s hs _ HB.out _).mono ?_)
    rintro e w' ⟨rfl, rfl⟩
    go_wp2_with fail
    go_still_tail 9, (by kernel_rfl)
    change wpList _ _ _ _ _ w.drew
    have d1 : w.drew.frozen? ⟨b, 5, none⟩ = false := f1
    have e1 := H1.out
    have e2 := H2.out
    go_wp2
    go_end0
    exact ⟨⟨_, rfl⟩, HO.out, HN.out⟩
def ProgEnd (fr : Fr 4) (w : World) (b : Nat) (r : Value) (t' : PS) (e : Ending) (w' : World) : Prop := e = .returned r ∧ Only (fun i => i = b) w w' ∧ ProgP fr w' b t'
set_option maxHeartbeats 1000000 in
theorem level_any (w : World) (b : Nat) (t : PS) (s : Int) (u : Bool) (h : ProgP fr w b t) :
    Calls Tryz.prog 45 #[.pointer (some ⟨b, 4, none⟩), .int .i64 s, .bool u] w (ProgEnd fr w b (.bool (isS s)) (levelP t s u)) := by
  cases hs : isS s with
  | false =>
    have HE : Hid (ProgEnd fr w b (.bool false) (levelP t s u) (.returned (.bool false)) w) := by
      refine Lib.hid ⟨rfl, Only.refl _ _, ?_⟩
      unfold levelP; rw [hs, if_neg (by simp)]; exact h
    have HS := Lib.hid hs
    clear h hs
    go_enter Tryz.func45, Tryz.ntmps45
    go_wp2_with fail
    (with_reducible refine (isSource_any _ _).mono ?_)
    rintro e w' ⟨rfl, rfl⟩
    rw [HS.out]
    go_wp2
    go_ret
    exact HE.out
  | true =>
    obtain ⟨k, rfl, hk1, hk2⟩ := isS_nat hs
    have HS := Lib.hid hs
    have HL : Hid (levelP t (k : Int) u = lookP (upP t k u) k) := by
      refine Lib.hid ?_
      unfold levelP; rw [hs, if_pos rfl]; rfl
    have c0 := h.up_
    have f0 := h.free 4
    have HN : Hid (ProgP fr (w.drew.setCell ⟨b, 4, none⟩ (.int .u32 (bits32 (upd t.up k u)))) b (upP t k u)) := Lib.hid (ProgP.setUp (w := w.drew) ⟨h.1, h.2⟩ hk1 u)
    have HO : Hid (Only (fun i => i = b) w (w.drew.setCell ⟨b, 4, none⟩ (.int .u32 (bits32 (upd t.up k u))))) := Lib.hid (Only.setCell ((Only.refl (fun i => i = b) w).drewN 1) (p := ⟨b, 4, none⟩) (.inl rfl) _)
    have H1 := Lib.hid (one_shl hk2)
    have H2 := Lib.hid (set32 t.up hk2)
    have H3 := Lib.hid (clr32 t.up hk2)
    clear h hs
    rw [HL.out]
    cases u <;>
    · go_enter Tryz.func45, Tryz.ntmps45
      go_wp2_with fail
      (with_reducible refine (isSource_any _ _).mono ?_)
      rintro e w' ⟨rfl, rfl⟩
      rw [HS.out]
      go_wp2_with fail
      go_still_tail 9, (by kernel_rfl)
      change wpList _ _ _ _ _ w.drew
      have d1 : w.drew.frozen? ⟨b, 4, none⟩ = false := f0
      have d0 : w.drew.cell? ⟨b, 4, none⟩ = some (.int .u32 (bits32 t.up)) := c0
      generalize w.drew = wd at *
      have e1 := H1.out
      have e2 := H2.out
      have e3 := H3.out
      go_wp2_with fail
      clear e1 e2 e3
      (with_reducible refine (look_any _ b _ HN.out k hk1 hk2).mono ?_)
      rintro e w' ⟨hu, ho, hp⟩
      obtain ⟨v, rfl⟩ := hu
      have HO2 := Lib.hid (HO.out.trans ho)
      have HP := Lib.hid hp
      clear ho hp
      go_wp2
      go_ret
      exact ⟨rfl, HO2.out, HP.out⟩
theorem setPriority_no (w : World) (b : Nat) (i v : Int) (hi : isS i = false) : Calls Tryz.prog 126 #[.pointer (some ⟨b, 4, none⟩), .int .i64 i, .int .u64 v] w fun e w' => (∃ u, e = .returned u) ∧ w = w' := by
  have HI := Lib.hid hi
  clear hi
  go_enter Tryz.func126, Tryz.ntmps126
  go_wp2_with fail
  (with_reducible refine (isSource_any _ _).mono ?_)
  rintro e w' ⟨rfl, rfl⟩
  rw [HI.out]
  go_wp2
  go_end0
  exact ⟨⟨_, rfl⟩, rfl⟩
set_option maxHeartbeats 1000000 in
theorem setPriority_yes (w : World) (b : Nat) (t : PS) (h : ProgP fr w b t) (k : Nat) (h1 : 1 ≤ k) (h2 : k < 32) (v : Int) (hv : In64 v) :
    Calls Tryz.prog 126 #[.pointer (some ⟨b, 4, none⟩), .int .i64 k, .int .u64 v] w (SetQ fr w b (prioT t k (v % 8))) := by
  have HI : Hid (isS (k : Int) = true) := Lib.hid (by unfold isS; rw [decide_eq_true (by omega)])
  have HV := Lib.hid hv
  have h8 := low3 hv
  have hr1 := Int.emod_nonneg v (show (8 : Int) ≠ 0 by decide)
  have hr2 := Int.emod_lt_of_pos v (show (0 : Int) < 8 by decide)
  have HN : Hid (∀ n, ProgP fr ((w.drewN n).setCell ⟨b, 7 + k, none⟩ (.int .u8 (v % 8))) b (prioT t k (v % 8))) := Lib.hid fun n => ProgP.setPrio (w := w.drewN n) ⟨h.1, h.2⟩ h1 h2 hr1 hr2
  have HO : Hid (∀ n, Only (fun i => i = b) w ((w.drewN n).setCell ⟨b, 7 + k, none⟩ (.int .u8 (v % 8)))) := Lib.hid fun n => Only.setCell ((Only.refl (fun i => i = b) w).drewN n) (p := ⟨b, 7 + k, none⟩) (.inl rfl) _
  have H8 := Lib.hid (wrap_u8 hr1 hr2)
  have ff := h.free (7 + k)
  have cc := h.prio_ h2
  have i1 : (k : Int) < 32 := by omega
  have HL := Lib.hid h8
  clear h hv h8 hr1 hr2
  go_enter Tryz.func126, Tryz.ntmps126
  go_wp2_with fail
  (with_reducible refine (isSource_any _ _).mono ?_)
  rintro e w' ⟨rfl, rfl⟩
  rw [HI.out]
  go_wp2_with fail
  go_region_with (go_at_call 117; refine (field_any _ _ _ HV.out _).mono ?_; rintro e w' ⟨rfl, q, rfl⟩; rw [HL.out]; have e8 := H8.out; have f8 : (w.drew.drewN q).frozen? ⟨b, 7 + k, none⟩ = false := ff; have g8 : (w.drew.drewN q).cell? ⟨b, 7 + k, none⟩ = some (.int .u8 (t.prio k)) := cc)
  go_end0
  exact ⟨⟨_, rfl⟩, HO.out _, HN.out _⟩
set_option maxHeartbeats 1000000 in
theorem complete_any (w : World) (b : Nat) (t : PS) (h : ProgP fr w b t) (c : Nat) (hc : c < 2) (x : Nat) :
    Calls Tryz.prog 127 #[.pointer (some ⟨b, 4, none⟩), .int .i64 c, .int .i64 x] w (SetQ fr w b (doneT t c x)) := by
  have con := h.on_ hc
  have cbu := h.busy_
  have fbu := h.free 6
  have H := Lib.hid h
  have i1 : (c : Int) < 2 := by omega
  have hand := both32 (fun s => t.on s c) t.busy
  by_cases hx : x < 32
  · obtain ⟨u, hu⟩ : ∃ u, (t.on x c && t.busy x) = u := ⟨_, rfl⟩
    have HU := Lib.hid hu
    cases u with
    | false =>
      have HE : Hid (doneT t c x = t) := Lib.hid (by
        unfold doneT mayB
        rw [if_neg]
        rw [Bool.and_assoc, hu]; simp)
      rw [HE.out]
      clear hu h
      go_enter Tryz.func127, Tryz.ntmps127
      go_wp2_with fail
      go_quiet ((go_at_call 87; exact Calls.quiet_of_same ((bitQ (fun s => t.on s c && t.busy s) x hx false HU.out _).mono fun e w' h => ⟨h.1, h.2.symm⟩)))
      go_wp2
      go_end0
      exact ⟨⟨_, rfl⟩, (Only.refl _ _).drewN _, H.out⟩
    | true =>
      have hx1 : 1 ≤ x := by
        rcases Nat.eq_zero_or_pos x with rfl | h0
        · rw [h.2.on0] at hu; cases hu
        · exact h0
      have HE : Hid (doneT t c x = lookP (idleP t x) x) := Lib.hid (by
        unfold doneT mayB
        rw [Bool.and_assoc, hu, if_pos]
        simp; omega)
      rw [HE.out]
      have H1 := Lib.hid (one_shl hx)
      have H2 := Lib.hid (clr32 t.busy hx)
      clear hu h
      go_enter Tryz.func127, Tryz.ntmps127
      go_wp2_with fail
      go_quiet ((go_at_call 87; exact Calls.quiet_of_same ((bitQ (fun s => t.on s c && t.busy s) x hx true HU.out _).mono fun e w' h => ⟨h.1, h.2.symm⟩)))
      have dbu : (w.drewN nq).cell? ⟨b, 6, none⟩ = some (.int .u32 (bits32 t.busy)) := cbu
      have dfu : (w.drewN nq).frozen? ⟨b, 6, none⟩ = false := fbu
      have HQ : Hid (ProgP fr (w.drewN nq) b t) := Lib.hid H.out
      have HW : Hid (Only (fun i => i = b) w (w.drewN nq)) := Lib.hid ((Only.refl _ _).drewN nq)
      generalize w.drewN nq = wq at *
      go_wp2_with fail
      go_still_tail 9, (by kernel_rfl)
      have HN : Hid (ProgP fr (wq.drew.setCell ⟨b, 6, none⟩ (.int .u32 (bits32 (upd t.busy x false)))) b (idleP t x)) := Lib.hid (ProgP.setBusy (w := wq.drew) HQ.out _)
      have HO : Hid (Only (fun i => i = b) w (wq.drew.setCell ⟨b, 6, none⟩ (.int .u32 (bits32 (upd t.busy x false))))) := Lib.hid (Only.setCell (HW.out.drewN 1) (p := ⟨b, 6, none⟩) (.inl rfl) _)
      change wpList _ _ _ _ _ wq.drew
      have d1 : wq.drew.frozen? ⟨b, 6, none⟩ = false := dfu
      have d0 : wq.drew.cell? ⟨b, 6, none⟩ = some (.int .u32 (bits32 t.busy)) := dbu
      generalize wq.drew = wd at *
      have e1 := H1.out
      have e2 := H2.out
      clear hand
      go_wp2_with fail
      clear e1 e2
      (with_reducible refine (look_any _ b _ HN.out x hx1 hx).mono ?_)
      rintro e w' ⟨hu, ho, hp⟩
      obtain ⟨v, rfl⟩ := hu
      have HO2 := Lib.hid (HO.out.trans ho)
      have HP := Lib.hid hp
      clear ho hp
      go_wp2
      go_end0
      exact ⟨⟨_, rfl⟩, HO2.out, HP.out⟩
  · have HE : Hid (doneT t c x = t) := Lib.hid (by
      unfold doneT mayB
      rw [decide_eq_false (show ¬ x ≤ 31 by omega), if_neg (by simp)])
    rw [HE.out]
    have HX : Hid (¬ (0 ≤ (x : Int) ∧ (x : Int) < 32)) := Lib.hid (by omega)
    clear h
    go_enter Tryz.func127, Tryz.ntmps127
    go_wp2_with fail
    go_quiet ((go_at_call 87; exact Calls.quiet_of_same ((bitQ_out (fun s => t.on s c && t.busy s) x HX.out _).mono fun e w' h => ⟨h.1, h.2.symm⟩)))
    go_wp2
    go_end0
    exact ⟨⟨_, rfl⟩, (Only.refl _ _).drewN _, H.out⟩
set_option maxHeartbeats 2000000 in
theorem claim_any (w : World) (b : Nat) (t : PS) (h : ProgP fr w b t) (c : Int) (k : Nat) (hk : bestC t c = k) :
    Calls Tryz.prog 125 #[.pointer (some ⟨b, 4, none⟩), .int .i64 c] w (ProgEnd fr w b (.int .i64 k) (claimed t k)) := by
  have hle := bestC_le t c
  have hbest := fun w' => best_any w' t h.2 c
  rw [hk] at hbest
  unfold progPV at hbest
  have HBEST := Lib.hid hbest
  have HROW : Hid (w.rangeAt b 4 (varr 39 (cellQ t)).toList) := Lib.hid (fr.range h.1)
  have HSZ : Hid ((varr 39 (cellQ t)).size = 39) := Lib.hid (varr_size _ _)
  have H := Lib.hid h
  rw [hk] at hle
  clear h hk hbest
  generalize varr 39 (cellQ t) = row at *
  go_enter Tryz.func125, Tryz.ntmps125
  go_wp2_with (refine wpList_load_fr rfl _ _ rfl b 4 rfl _ _ HROW.out Tryz.underlying69 rfl ?_ ?_; · exact size_progP.trans (by rw [HSZ.out]))
  refine (HBEST.out _).mono ?_
  rintro e w2 ⟨rfl, hb⟩
  have HB2 := Lib.hid hb
  have HP := Lib.hid (H.out.below hb)
  clear hb HROW HSZ HBEST H
  by_cases k0 : k = 0
  · subst k0
    have HC : Hid (claimed t 0 = t) := Lib.hid (by unfold claimed; rw [if_pos rfl])
    rw [HC.out]
    go_wp2
    go_ret
    exact ⟨rfl, Only.of_below _ HB2.out, HP.out⟩
  · have hk : (0 : Int) < (k : Int) := by omega
    have hk1 : 1 ≤ k := by omega
    have hk32 : k < 32 := by omega
    have HC : Hid (claimed t k = claimP t k) := Lib.hid (by unfold claimed; rw [if_neg k0])
    rw [HC.out]
    have c1 := HP.out.pend_
    have f1 := HP.out.free 5
    have H1 := Lib.hid (one_shl hk32)
    have H2 := Lib.hid (clr32 t.pend hk32)
    have H3 := Lib.hid (set32 t.busy hk32)
    clear k0
    go_wp2_with fail
    go_still_tail 9, (by kernel_rfl)
    change wpList _ _ _ _ _ w2.drew
    have HPD : Hid (ProgP fr w2.drew b t) := Lib.hid HP.out
    have HBD : Hid (Below w.heap.size w w2.drew) := Lib.hid HB2.out.drew
    have d0 : w2.drew.cell? ⟨b, 5, none⟩ = some (.int .u32 (bits32 t.pend)) := c1
    have d1 : w2.drew.frozen? ⟨b, 5, none⟩ = false := f1
    clear c1 f1
    generalize w2.drew = w3 at *
    have HN : Hid (ProgP fr (w3.setCell ⟨b, 5, none⟩ (.int .u32 (bits32 (upd t.pend k false)))) b (unpendP t k)) := Lib.hid (HPD.out.setPend _ (upd0 HPD.out.2.pend0 hk1 false))
    have HO : Hid (Only (fun i => i = b) w (w3.setCell ⟨b, 5, none⟩ (.int .u32 (bits32 (upd t.pend k false))))) := Lib.hid ((Only.of_below (fun i => i = b) HBD.out).setCell (p := ⟨b, 5, none⟩) (.inl rfl) _)
    have e1 := H1.out
    have e2 := H2.out
    go_wp2_with fail
    clear e1 e2 d0 d1
    generalize w3.setCell ⟨b, 5, none⟩ (.int .u32 (bits32 (upd t.pend k false))) = w4 at *
    have d2 : w4.cell? ⟨b, 6, none⟩ = some (.int .u32 (bits32 t.busy)) := HN.out.busy_
    have f2 := HN.out.free 6
    go_still_tail 9, (by kernel_rfl)
    change wpList _ _ _ _ _ w4.drew
    have HND : Hid (ProgP fr w4.drew b (unpendP t k)) := Lib.hid HN.out
    have HOD : Hid (Only (fun i => i = b) w w4.drew) := Lib.hid (HO.out.drewN 1)
    have g2 : w4.drew.cell? ⟨b, 6, none⟩ = some (.int .u32 (bits32 t.busy)) := d2
    have g3 : w4.drew.frozen? ⟨b, 6, none⟩ = false := f2
    clear d2 f2
    generalize w4.drew = w5 at *
    have HN2 : Hid (ProgP fr (w5.setCell ⟨b, 6, none⟩ (.int .u32 (bits32 (upd t.busy k true)))) b (claimP t k)) := Lib.hid (HND.out.setBusy (upd t.busy k true))
    have HO2 : Hid (Only (fun i => i = b) w (w5.setCell ⟨b, 6, none⟩ (.int .u32 (bits32 (upd t.busy k true))))) := Lib.hid (HOD.out.setCell (p := ⟨b, 6, none⟩) (.inl rfl) _)
    have e1 := H1.out
    have e3 := H3.out
    go_wp2
    go_ret
    exact ⟨rfl, HO2.out, by rw [HC.out]; exact HN2.out⟩
theorem read_len (w : World) (b : Nat) (t : PS) (h : ProgP fr w b t) (off n : Int) (hn : ¬ n = 4) : Calls Tryz.prog 80 #[.pointer (some ⟨b, 4, none⟩), .int .u64 off, .int .i64 n] w (ProgEnd fr w b (.tuple #[.int .u64 0, .bool false]) t) := by
  have HN := Lib.hid hn
  have H := Lib.hid h
  clear hn h
  go_enter Tryz.func80, Tryz.ntmps80
  go_wp2_with fail
  refine (find_len _ off n HN.out).mono ?_
  rintro e w2 ⟨rfl, hb⟩
  have HB := Lib.hid hb
  clear hb
  go_wp2
  go_ret2
  exact ⟨rfl, Only.of_below _ HB.out, H.out.below HB.out⟩
theorem read_no (w : World) (b : Nat) (t : PS) (h : ProgP fr w b t) (ht : Tab w) (off : Int) (hn : NoPlic off) (ho : In64 off) : Calls Tryz.prog 80 #[.pointer (some ⟨b, 4, none⟩), .int .u64 off, .int .i64 4] w (ProgEnd fr w b (.tuple #[.int .u64 0, .bool false]) t) := by
  have HF := Lib.hid (find_is w off ht _ _ _ (findQ_no hn ho))
  have H := Lib.hid h
  clear hn h ho ht
  go_enter Tryz.func80, Tryz.ntmps80
  go_wp2_with fail
  (with_reducible refine (HF.out).mono ?_)
  rintro e w2 ⟨rfl, hb⟩
  have HB := Lib.hid hb
  clear hb
  go_wp2
  go_ret2
  exact ⟨rfl, Only.of_below _ HB.out, H.out.below HB.out⟩
theorem read_prio (w : World) (b : Nat) (t : PS) (h : ProgP fr w b t) (ht : Tab w) (k : Nat) (hk : k < 32) (off : Int) (ho : off = 4 * (k : Int)) : Calls Tryz.prog 80 #[.pointer (some ⟨b, 4, none⟩), .int .u64 off, .int .i64 4] w (ProgEnd fr w b (.tuple #[.int .u64 (t.prio k), .bool true]) t) := by
  have HF := Lib.hid (find_is w off ht 0 (k : Int) true (by rw [ho]; exact findQ_prio hk))
  have H := Lib.hid h
  have hw := wrap_u64s (h.2.pr k).1 (by have := (h.2.pr k).2; omega)
  have i1 : (k : Int) < 32 := by omega
  clear h ht ho
  go_enter Tryz.func80, Tryz.ntmps80
  go_wp2_with fail
  (with_reducible refine (HF.out).mono ?_)
  rintro e w2 ⟨rfl, hb⟩
  have HB := Lib.hid hb
  have c0 := (H.out.below hb).prio_ hk
  clear hb
  go_wp2
  go_ret2
  exact ⟨rfl, Only.of_below _ HB.out, H.out.below HB.out⟩
theorem read_pend (w : World) (b : Nat) (t : PS) (h : ProgP fr w b t) (ht : Tab w) : Calls Tryz.prog 80 #[.pointer (some ⟨b, 4, none⟩), .int .u64 4096, .int .i64 4] w (ProgEnd fr w b (.tuple #[.int .u64 (bits32 t.pend), .bool true]) t) := by
  have HF := Lib.hid (find_is w 4096 ht 1 0 true (by decide))
  have H := Lib.hid h
  have hw := wrap_u64s (bits32_bd t.pend).1 (bits32_bd t.pend).2
  clear h ht
  go_enter Tryz.func80, Tryz.ntmps80
  go_wp2_with fail
  (with_reducible refine (HF.out).mono ?_)
  rintro e w2 ⟨rfl, hb⟩
  have HB := Lib.hid hb
  have c0 := (H.out.below hb).pend_
  clear hb
  go_wp2
  go_ret2
  exact ⟨rfl, Only.of_below _ HB.out, H.out.below HB.out⟩
theorem read_on (w : World) (b : Nat) (t : PS) (h : ProgP fr w b t) (ht : Tab w) (c : Nat) (hc : c < 2) (off : Int) (hf : findQ off = (2, (c : Int), true)) : Calls Tryz.prog 80 #[.pointer (some ⟨b, 4, none⟩), .int .u64 off, .int .i64 4] w (ProgEnd fr w b (.tuple #[.int .u64 (bits32 fun s => t.on s c), .bool true]) t) := by
  have HF := Lib.hid (find_is w off ht _ _ _ hf)
  have H := Lib.hid h
  have hw := wrap_u64s (bits32_bd fun s => t.on s c).1 (bits32_bd fun s => t.on s c).2
  have i1 : (c : Int) < 2 := by omega
  clear h ht hf
  go_enter Tryz.func80, Tryz.ntmps80
  go_wp2_with fail
  (with_reducible refine (HF.out).mono ?_)
  rintro e w2 ⟨rfl, hb⟩
  have HB := Lib.hid hb
  have c0 := (H.out.below hb).on_ hc
  clear hb
  go_wp2
  go_ret2
  exact ⟨rfl, Only.of_below _ HB.out, H.out.below HB.out⟩
theorem read_floor (w : World) (b : Nat) (t : PS) (h : ProgP fr w b t) (ht : Tab w) (c : Nat) (hc : c < 2) (off : Int) (hf : findQ off = (3, (c : Int), true)) : Calls Tryz.prog 80 #[.pointer (some ⟨b, 4, none⟩), .int .u64 off, .int .i64 4] w (ProgEnd fr w b (.tuple #[.int .u64 (t.floor c), .bool true]) t) := by
  have HF := Lib.hid (find_is w off ht _ _ _ hf)
  have H := Lib.hid h
  have hw := wrap_u64s (h.2.fl c).1 (by have := (h.2.fl c).2; omega)
  have i1 : (c : Int) < 2 := by omega
  clear h ht hf
  go_enter Tryz.func80, Tryz.ntmps80
  go_wp2_with fail
  (with_reducible refine (HF.out).mono ?_)
  rintro e w2 ⟨rfl, hb⟩
  have HB := Lib.hid hb
  have c0 := (H.out.below hb).floor_ hc
  clear hb
  go_wp2
  go_ret2
  exact ⟨rfl, Only.of_below _ HB.out, H.out.below HB.out⟩
theorem read_claim (w : World) (b : Nat) (t : PS) (h : ProgP fr w b t) (ht : Tab w) (c : Nat) (hc : c < 2) (off : Int) (hf : findQ off = (4, (c : Int), true)) : Calls Tryz.prog 80 #[.pointer (some ⟨b, 4, none⟩), .int .u64 off, .int .i64 4] w (ProgEnd fr w b (.tuple #[.int .u64 (bestC t c), .bool true]) (claimed t (bestC t c))) := by
  have HF := Lib.hid (find_is w off ht _ _ _ hf)
  have H := Lib.hid h
  have hle := bestC_le t c
  have HCL : Hid (∀ w2, ProgP fr w2 b t → Calls Tryz.prog 125 #[.pointer (some ⟨b, 4, none⟩), .int .i64 c] w2 (ProgEnd fr w2 b (.int .i64 (bestC t c)) (claimed t (bestC t c)))) := Lib.hid fun w2 h2 => claim_any w2 b t h2 c _ rfl
  generalize bestC t (c : Int) = k at *
  have hw : IntKind.u64.wrap (k : Int) = k := wrap_u64s (by omega) (by omega)
  clear h ht hf
  go_enter Tryz.func80, Tryz.ntmps80
  go_wp2_with fail
  (with_reducible refine (HF.out).mono ?_)
  rintro e w2 ⟨rfl, hb⟩
  have HB := Lib.hid hb
  clear hb
  go_wp2_with fail
  (with_reducible refine (HCL.out _ (H.out.below HB.out)).mono ?_)
  rintro e w3 ⟨rfl, ho, hp⟩
  have HO := Lib.hid ((Only.of_below _ HB.out).trans ho)
  have HP := Lib.hid hp
  clear ho hp
  go_wp2
  go_ret2
  exact ⟨rfl, HO.out, HP.out⟩
theorem read_any (w : World) (b : Nat) (t : PS) (h : ProgP fr w b t) (ht : Tab w) (off n : Int) (ho : In64 off) :
    Calls Tryz.prog 80 #[.pointer (some ⟨b, 4, none⟩), .int .u64 off, .int .i64 n] w (ProgEnd fr w b (.tuple #[.int .u64 (rdX t (plcK off n)), .bool (okP (plcK off n))]) (rdT t (plcK off n))) := by
  rcases plc_cases off n ho.1 with ⟨rfl, k, hk, hk4, hp⟩ | ⟨rfl, rfl, hp⟩ | ⟨rfl, rfl, hp⟩ | ⟨rfl, rfl, hp⟩ | ⟨rfl, rfl, hp⟩ | ⟨rfl, rfl, hp⟩ | ⟨rfl, rfl, hp⟩ | ⟨rfl, rfl, hp⟩ | ⟨rfl, hn, hp⟩ | ⟨hn, hp⟩
  all_goals rw [hp]
  · exact read_prio w b t h ht k hk off hk4
  · exact read_pend w b t h ht
  · exact read_on w b t h ht 0 (by omega) _ (by decide)
  · exact read_on w b t h ht 1 (by omega) _ (by decide)
  · exact read_floor w b t h ht 0 (by omega) _ (by decide)
  · exact read_floor w b t h ht 1 (by omega) _ (by decide)
  · exact read_claim w b t h ht 0 (by omega) _ (by decide)
  · exact read_claim w b t h ht 1 (by omega) _ (by decide)
  · exact read_no w b t h ht off hn ho
  · exact read_len w b t h off n hn
theorem write_len (w : World) (b : Nat) (t : PS) (h : ProgP fr w b t) (off n v : Int) (hn : ¬ n = 4) : Calls Tryz.prog 81 #[.pointer (some ⟨b, 4, none⟩), .int .u64 off, .int .i64 n, .int .u64 v] w (ProgEnd fr w b (.bool false) t) := by
  have HN := Lib.hid hn
  have H := Lib.hid h
  clear hn h
  go_enter Tryz.func81, Tryz.ntmps81
  go_wp2_with fail
  refine (find_len _ off n HN.out).mono ?_
  rintro e w2 ⟨rfl, hb⟩
  have HB := Lib.hid hb
  clear hb
  go_wp2
  go_ret
  exact ⟨rfl, Only.of_below _ HB.out, H.out.below HB.out⟩
theorem write_no (w : World) (b : Nat) (t : PS) (h : ProgP fr w b t) (ht : Tab w) (off v : Int) (hn : NoPlic off) (ho : In64 off) : Calls Tryz.prog 81 #[.pointer (some ⟨b, 4, none⟩), .int .u64 off, .int .i64 4, .int .u64 v] w (ProgEnd fr w b (.bool false) t) := by
  have HF := Lib.hid (find_is w off ht _ _ _ (findQ_no hn ho))
  have H := Lib.hid h
  clear hn h ho ht
  go_enter Tryz.func81, Tryz.ntmps81
  go_wp2_with fail
  (with_reducible refine (HF.out).mono ?_)
  rintro e w2 ⟨rfl, hb⟩
  have HB := Lib.hid hb
  clear hb
  go_wp2
  go_ret
  exact ⟨rfl, Only.of_below _ HB.out, H.out.below HB.out⟩
theorem write_pend (w : World) (b : Nat) (t : PS) (h : ProgP fr w b t) (ht : Tab w) (v : Int) : Calls Tryz.prog 81 #[.pointer (some ⟨b, 4, none⟩), .int .u64 4096, .int .i64 4, .int .u64 v] w (ProgEnd fr w b (.bool true) t) := by
  have HF := Lib.hid (find_is w 4096 ht 1 0 true (by decide))
  have H := Lib.hid h
  clear h ht
  go_enter Tryz.func81, Tryz.ntmps81
  go_wp2_with fail
  (with_reducible refine (HF.out).mono ?_)
  rintro e w2 ⟨rfl, hb⟩
  have HB := Lib.hid hb
  clear hb
  go_wp2
  go_ret
  exact ⟨rfl, Only.of_below _ HB.out, H.out.below HB.out⟩
theorem write_prio0 (w : World) (b : Nat) (t : PS) (h : ProgP fr w b t) (ht : Tab w) (v : Int) : Calls Tryz.prog 81 #[.pointer (some ⟨b, 4, none⟩), .int .u64 0, .int .i64 4, .int .u64 v] w (ProgEnd fr w b (.bool true) t) := by
  have HF := Lib.hid (find_is w 0 ht 0 0 true (by decide))
  have H := Lib.hid h
  clear h ht
  go_enter Tryz.func81, Tryz.ntmps81
  go_wp2_with fail
  (with_reducible refine (HF.out).mono ?_)
  rintro e w2 ⟨rfl, hb⟩
  have HB := Lib.hid hb
  clear hb
  go_wp2_with fail
  (with_reducible refine (setPriority_no _ _ _ _ (by decide)).mono ?_)
  rintro e w3 ⟨hu, rfl⟩
  obtain ⟨u, rfl⟩ := hu
  go_wp2
  go_ret
  exact ⟨rfl, Only.of_below _ HB.out, H.out.below HB.out⟩
theorem write_prio (w : World) (b : Nat) (t : PS) (h : ProgP fr w b t) (ht : Tab w) (k : Nat) (hk1 : 1 ≤ k) (hk : k < 32) (off v : Int) (ho : off = 4 * (k : Int)) (hv : In64 v) : Calls Tryz.prog 81 #[.pointer (some ⟨b, 4, none⟩), .int .u64 off, .int .i64 4, .int .u64 v] w (ProgEnd fr w b (.bool true) (prioT t k (v % 8))) := by
  have HF := Lib.hid (find_is w off ht 0 (k : Int) true (by rw [ho]; exact findQ_prio hk))
  have H := Lib.hid h
  have HV := Lib.hid hv
  clear h ht ho hv
  go_enter Tryz.func81, Tryz.ntmps81
  go_wp2_with fail
  (with_reducible refine (HF.out).mono ?_)
  rintro e w2 ⟨rfl, hb⟩
  have HB := Lib.hid hb
  have HP := Lib.hid (H.out.below hb)
  clear hb
  go_wp2_with fail
  (with_reducible refine (setPriority_yes _ b t HP.out k hk1 hk v HV.out).mono ?_)
  rintro e w3 ⟨hu, ho, hp⟩
  obtain ⟨u, rfl⟩ := hu
  have HO := Lib.hid ((Only.of_below _ HB.out).trans ho)
  have HP3 := Lib.hid hp
  clear ho hp
  go_wp2
  go_ret
  exact ⟨rfl, HO.out, HP3.out⟩
theorem write_on (w : World) (b : Nat) (t : PS) (h : ProgP fr w b t) (ht : Tab w) (c : Nat) (hc : c < 2) (off v : Int) (hf : findQ off = (2, (c : Int), true)) (hv : In64 v) : Calls Tryz.prog 81 #[.pointer (some ⟨b, 4, none⟩), .int .u64 off, .int .i64 4, .int .u64 v] w (ProgEnd fr w b (.bool true) (onT t c (onBits v))) := by
  have HF := Lib.hid (find_is w off ht _ _ _ hf)
  have H := Lib.hid h
  have hw : IntKind.u32.wrap v = v % 4294967296 := by rw [IntKind.wrap_u32]
  have hn1 := not1_32 hv.1
  have H1 := Lib.hid hw
  have H2 := Lib.hid hn1
  have i1 : (c : Int) < 2 := by omega
  clear h ht hf hv hw hn1
  go_enter Tryz.func81, Tryz.ntmps81
  go_wp2_with fail
  (with_reducible refine (HF.out).mono ?_)
  rintro e w2 ⟨rfl, hb⟩
  have HB := Lib.hid hb
  have HP := H.out.below hb
  have c0 := HP.on_ hc
  have f0 := HP.free (39 + c)
  have HP2 := Lib.hid (HP.setOn hc (onBits v) (by unfold onBits; rfl))
  have HO : Hid (Only (fun i => i = b) w (w2.setCell ⟨b, 39 + c, none⟩ (.int .u32 (bits32 (onBits v))))) := Lib.hid ((Only.of_below (fun i => i = b) HB.out).setCell (p := ⟨b, 39 + c, none⟩) (.inl rfl) _)
  have e1 := H1.out
  have e2 := H2.out
  clear hb HP
  go_wp2
  go_ret
  exact ⟨rfl, HO.out, HP2.out⟩
set_option maxHeartbeats 1000000 in
theorem write_floor (w : World) (b : Nat) (t : PS) (h : ProgP fr w b t) (ht : Tab w) (c : Nat) (hc : c < 2) (off v : Int) (hf : findQ off = (3, (c : Int), true)) (hv : In64 v) : Calls Tryz.prog 81 #[.pointer (some ⟨b, 4, none⟩), .int .u64 off, .int .i64 4, .int .u64 v] w (ProgEnd fr w b (.bool true) (floorT t c (v % 8))) := by
  have HF := Lib.hid (find_is w off ht _ _ _ hf)
  have H := Lib.hid h
  have HV := Lib.hid hv
  have HL := Lib.hid (low3 hv)
  have hr1 := Int.emod_nonneg v (show (8 : Int) ≠ 0 by decide)
  have hr2 := Int.emod_lt_of_pos v (show (0 : Int) < 8 by decide)
  have H8 := Lib.hid (wrap_u8 hr1 hr2)
  have HR : Hid (0 ≤ v % 8 ∧ v % 8 < 8) := Lib.hid ⟨hr1, hr2⟩
  have i1 : (c : Int) < 2 := by omega
  clear h ht hf hv hr1 hr2
  go_enter Tryz.func81, Tryz.ntmps81
  go_wp2_with fail
  (with_reducible refine (HF.out).mono ?_)
  rintro e w2 ⟨rfl, hb⟩
  have HB := Lib.hid hb
  have HP := H.out.below hb
  have cc := HP.floor_ hc
  have ff := HP.free (41 + c)
  have HN : Hid (∀ n, ProgP fr ((w2.drewN n).setCell ⟨b, 41 + c, none⟩ (.int .u8 (v % 8))) b (floorT t c (v % 8))) := Lib.hid fun n => ProgP.setFloor (w := w2.drewN n) ⟨HP.1, HP.2⟩ hc HR.out.1 HR.out.2
  have HO : Hid (∀ n, Only (fun i => i = b) w ((w2.drewN n).setCell ⟨b, 41 + c, none⟩ (.int .u8 (v % 8)))) := Lib.hid fun n => Only.setCell ((Only.of_below (fun i => i = b) HB.out).drewN n) (p := ⟨b, 41 + c, none⟩) (.inl rfl) _
  clear hb HP
  go_wp2_with fail
  go_region_with (go_at_call 117; refine (field_any _ _ _ HV.out _).mono ?_; rintro e w' ⟨rfl, q, rfl⟩; rw [HL.out]; have e8 := H8.out; have f8 : (w2.drew.drewN q).frozen? ⟨b, 41 + c, none⟩ = false := ff; have g8 : (w2.drew.drewN q).cell? ⟨b, 41 + c, none⟩ = some (.int .u8 (t.floor c)) := cc)
  go_wp2
  go_ret
  exact ⟨rfl, HO.out _, HN.out _⟩
theorem write_done (w : World) (b : Nat) (t : PS) (h : ProgP fr w b t) (ht : Tab w) (c : Nat) (hc : c < 2) (off v : Int) (hf : findQ off = (4, (c : Int), true)) (hv : In64 v) : Calls Tryz.prog 81 #[.pointer (some ⟨b, 4, none⟩), .int .u64 off, .int .i64 4, .int .u64 v] w (ProgEnd fr w b (.bool true) (doneT t c (v % 4294967296).toNat)) := by
  have HF := Lib.hid (find_is w off ht _ _ _ hf)
  have H := Lib.hid h
  have hx1 := Int.emod_nonneg v (show (4294967296 : Int) ≠ 0 by decide)
  have hx2 := Int.emod_lt_of_pos v (show (0 : Int) < 4294967296 by decide)
  obtain ⟨x, hx⟩ : ∃ x : Nat, (v % 4294967296).toNat = x := ⟨_, rfl⟩
  have hvx : IntKind.u32.wrap v = (x : Int) := by rw [IntKind.wrap_u32]; omega
  have hwx : IntKind.i64.wrap (x : Int) = x := IntWalk.i64_in _ (by omega)
  rw [hx]
  clear h ht hf hv hx hx1 hx2
  go_enter Tryz.func81, Tryz.ntmps81
  go_wp2_with fail
  (with_reducible refine (HF.out).mono ?_)
  rintro e w2 ⟨rfl, hb⟩
  have HB := Lib.hid hb
  have HP := Lib.hid (H.out.below hb)
  clear hb
  go_wp2_with fail
  (with_reducible refine (complete_any _ b t HP.out c hc x).mono ?_)
  rintro e w3 ⟨hu, ho, hp⟩
  obtain ⟨u, rfl⟩ := hu
  have HO := Lib.hid ((Only.of_below _ HB.out).trans ho)
  have HP3 := Lib.hid hp
  clear ho hp
  go_wp2
  go_ret
  exact ⟨rfl, HO.out, HP3.out⟩
theorem write_any (w : World) (b : Nat) (t : PS) (h : ProgP fr w b t) (ht : Tab w) (off n v : Int) (ho : In64 off) (hv : In64 v) :
    Calls Tryz.prog 81 #[.pointer (some ⟨b, 4, none⟩), .int .u64 off, .int .i64 n, .int .u64 v] w (ProgEnd fr w b (.bool (okP (plcK off n))) (wrT t (plcK off n) v)) := by
  rcases plc_cases off n ho.1 with ⟨rfl, k, hk, hk4, hp⟩ | ⟨rfl, rfl, hp⟩ | ⟨rfl, rfl, hp⟩ | ⟨rfl, rfl, hp⟩ | ⟨rfl, rfl, hp⟩ | ⟨rfl, rfl, hp⟩ | ⟨rfl, rfl, hp⟩ | ⟨rfl, rfl, hp⟩ | ⟨rfl, hn, hp⟩ | ⟨hn, hp⟩
  all_goals rw [hp]
  · by_cases k0 : k = 0
    · subst k0
      obtain rfl : off = 0 := by omega
      exact write_prio0 w b t h ht v
    · rw [show wrT t (0, k) v = prioT t k (v % 8) from if_neg k0]
      exact write_prio w b t h ht k (by omega) hk off v hk4 hv
  · exact write_pend w b t h ht v
  · exact write_on w b t h ht 0 (by omega) _ v (by decide) hv
  · exact write_on w b t h ht 1 (by omega) _ v (by decide) hv
  · exact write_floor w b t h ht 0 (by omega) _ v (by decide) hv
  · exact write_floor w b t h ht 1 (by omega) _ v (by decide) hv
  · exact write_done w b t h ht 0 (by omega) _ v (by decide) hv
  · exact write_done w b t h ht 1 (by omega) _ v (by decide) hv
  · exact write_no w b t h ht off v hn ho
  · exact write_len w b t h off n v hn

end Go.Proofs.YtbcnkhfpogglmaaGreatDoor.P5.In

namespace Go.Proofs.YtbcnkhfpogglmaaGreatDoor
open Go.RowKit
set_option linter.unusedVariables false
set_option maxRecDepth 100000

/-- The slice value v reads as the list xs of numbers of kind k, out of blocks below B. -/
def ReadsL (k : IntKind) (B : Nat) (w : World) (v : Value) (xs : List Int) : Prop :=
  ∃ a c, v = .slice a xs.length c ∧ xs.length ≤ maxLen ∧ (xs = [] ∨ ∃ b off, a = some ⟨b, off, none⟩ ∧ b < B ∧ ∀ i, i < xs.length → w.cell? ⟨b, off + i, none⟩ = some (.int k (xs.getD i 0)))

theorem ReadsL.below {k : IntKind} {B B' : Nat} {w w' : World} {v : Value} {xs : List Int} (h : ReadsL k B w v xs) (hb : Below B' w w') (hB : B ≤ B') : ReadsL k B w' v xs := by
  obtain ⟨a, c, hv, hm, h⟩ := h
  refine ⟨a, c, hv, hm, ?_⟩
  rcases h with h | ⟨b, off, ha, hlt, hc⟩
  · exact .inl h
  · exact .inr ⟨b, off, ha, hlt, fun i hi => (hb.cell (p := ⟨b, off + i, none⟩) (Nat.lt_of_lt_of_le hlt hB)).trans (hc i hi)⟩

theorem ReadsL.mono {k : IntKind} {B B' : Nat} {w : World} {v : Value} {xs : List Int} (h : ReadsL k B w v xs) (hB : B ≤ B') : ReadsL k B' w v xs := by
  obtain ⟨a, c, hv, hm, h⟩ := h
  refine ⟨a, c, hv, hm, ?_⟩
  rcases h with h | ⟨b, off, ha, hlt, hc⟩
  · exact .inl h
  · exact .inr ⟨b, off, ha, Nat.lt_of_lt_of_le hlt hB, hc⟩

theorem add_none (b off i : Nat) : (⟨b, off, none⟩ : Addr).add i = ⟨b, off + i, none⟩ := by
  unfold Addr.add; split <;> simp_all

/-- What the call made by append reads as its list. -/
theorem ReadsL.own {k : IntKind} {base : Nat} {e : TypeId} {w : World} {v : Value} {xs : List Int} (h : w.ownsRow base e 1 v xs.length (xs.map (Value.int k))) : ReadsL k w.heap.size w v xs := by
  rcases h.2 with ⟨hv, h0⟩ | ⟨g, cap, cur, hv, _, hg, hn, hc, _, _⟩
  · have : xs = [] := List.eq_nil_of_length_eq_zero h0
    subst this
    exact ⟨none, 0, hv, Nat.zero_le _, .inl rfl⟩
  · subst hv
    refine ⟨_, cap, rfl, by omega, .inr ⟨g, 0, rfl, (Array.getElem?_eq_some_iff.1 hg).1, fun i hi => ?_⟩⟩
    have := h.cells (g := g) rfl i (.int k (xs.getD i 0)) (by simp [List.getD, hi])
    rwa [add_none] at this

/-- What the frame of a law tells of a slice of integers that came in: nil, or a row of 'cap' cells of which the first 'len' are its elements. -/
def IsRow (k : IntKind) (w : World) (a : Option Addr) (len cap : Nat) (zs : List Int) : Prop :=
  (a = none ∧ len = 0 ∧ cap = 0 ∧ zs = []) ∨
  ∃ x, a = some x ∧ len ≤ cap ∧ cap ≤ maxLen ∧ zs.length = cap ∧ (∀ i, i < zs.length → w.cell? (x.add i) = some (.int k (zs.getD i 0))) ∧ ∀ n ∈ zs, (Lit.int k n).wf = true

theorem IsRow.reads {k : IntKind} {w : World} {a : Option Addr} {len cap : Nat} {zs : List Int} (h : IsRow k w a len cap zs) : ReadsL k w.heap.size w (.slice a len cap) (zs.take len) := by
  rcases h with ⟨rfl, rfl, rfl, rfl⟩ | ⟨x, rfl, hl, hm, hz, hc, _⟩
  · exact ⟨none, 0, rfl, Nat.zero_le _, .inl rfl⟩
  · have hlen : (zs.take len).length = len := by rw [List.length_take]; omega
    refine ⟨some x, cap, by rw [hlen], by omega, ?_⟩
    by_cases h0 : len = 0
    · exact .inl (by rw [h0, List.take_zero])
    · right
      obtain ⟨b, off, rfl, hcell⟩ := Go.ints_at hc (by omega)
      refine ⟨b, off, rfl, ?_, fun i hi => ?_⟩
      · have h1 := hcell 0 (by omega)
        by_cases hb : b < w.heap.size
        · exact hb
        · have hn : w.heap[b]? = none := by simp; omega
          simp [World.cell?, hn] at h1
      · rw [hcell i (by omega)]
        simp [List.getD, show i < len by omega]

/-- An append whose run is known. -/
theorem wp_append_run {P : Program} {o : Oper} {a : Act} {w : World} {K : Act → World → Prop} {Q : Exit → Act → World → Prop} (s x : Operand) (t : TypeId)
    (ho : o.op = .call { callee := .builtin .append, args := #[s, x], argTypes := #[t, t] }) (v v2 v' : Value) (w' : World) (hs : a.eval s = v) (hx : a.eval x = v2)
    (hr : (Builtin.append_ #[t, t] o.type #[v, v2]).run P w = .ok v' w') (h : K (a.put o.dst v') w') : o.wp P a w K Q := by
  unfold Oper.wp execOp
  simp only [ho, resolve, invoke, builtin, Sem.run_bind, Sem.run_pure, Result.andThen_ok, List.map_toArray, List.map_cons, List.map_nil, hs, hx, hr]
  exact h
theorem wpList_append_run {P : Program} {ops : Array Oper} {rest : List Oper} {o : Oper} {a : Act} {w : World} {Q : Exit → Act → World → Prop} (hgd : o.guard = none) (s x : Operand) (t : TypeId)
    (ho : o.op = .call { callee := .builtin .append, args := #[s, x], argTypes := #[t, t] }) (v v2 v' : Value) (w' : World) (hs : a.eval s = v) (hx : a.eval x = v2)
    (hr : (Builtin.append_ #[t, t] o.type #[v, v2]).run P w = .ok v' w') (h : wpList P ops Q rest (a.put o.dst v') w') : wpList P ops Q (o :: rest) a w :=
  wpList_plain hgd fun _ hK => wp_append_run s x t ho v v2 v' w' hs hx hr (hK _ _ h)

end Go.Proofs.YtbcnkhfpogglmaaGreatDoor

namespace Go.Proofs.YtbcnkhfpogglmaaGreatDoor.U6
open Go.RowKit
set_option linter.unusedVariables false
set_option maxRecDepth 100000

def Byt (xs : List Int) : Prop := ∀ x ∈ xs, 0 ≤ x ∧ x < 256
def u8s (xs : List Int) : List Value := xs.map (Value.int .u8)
theorem u8s_len (xs : List Int) : (u8s xs).length = xs.length := by simp [u8s]
theorem u8s_one (xs : List Int) : ∀ u ∈ u8s xs, u.oneCell' = true := by
  intro u hu; obtain ⟨z, _, rfl⟩ := List.mem_map.1 hu; rfl
theorem u8s_get {xs : List Int} {j : Nat} {u : Value} (h : (u8s xs)[j]? = some u) : j < xs.length ∧ u = .int .u8 (xs.getD j 0) := by
  unfold u8s at h
  rw [List.getElem?_map] at h
  rcases Nat.lt_or_ge j xs.length with hl | hl
  · refine ⟨hl, ?_⟩
    rw [List.getElem?_eq_getElem hl] at h
    simp at h
    rw [← h]; simp [List.getD, hl]
  · rw [List.getElem?_eq_none hl] at h; cases h
theorem u8s_at {xs : List Int} {j : Nat} (h : j < xs.length) : (u8s xs)[j]? = some (.int .u8 (xs.getD j 0)) := by
  unfold u8s; rw [List.getElem?_map, List.getElem?_eq_getElem h]; simp [List.getD, h]
theorem Byt.nil : Byt [] := fun x h => by cases h
theorem Byt.snoc {xs : List Int} (h : Byt xs) {b : Int} (hb : 0 ≤ b ∧ b < 256) : Byt (xs ++ [b]) := by
  intro x hx
  rcases List.mem_append.1 hx with hx | hx
  · exact h x hx
  · simp at hx; subst hx; exact hb
theorem Byt.tail {xs : List Int} (h : Byt xs) : Byt xs.tail := fun x hx => h x (List.mem_of_mem_tail hx)
theorem Byt.get {xs : List Int} (h : Byt xs) {j : Nat} (hj : j < xs.length) : 0 ≤ xs.getD j 0 ∧ xs.getD j 0 < 256 := by
  have : xs.getD j 0 = xs[j] := by simp [List.getD, hj]
  rw [this]; exact h _ (List.getElem_mem hj)

/-- The slice v reads as the bytes xs; its row is its own, or it has no room. -/
structure RowB (w : World) (v : Value) (xs : List Int) : Prop where
  byt : Byt xs
  lies : w.ownsRow 0 5 1 v xs.length (u8s xs) ∨ ∃ g off, v = .slice (some ⟨g, off, none⟩) xs.length xs.length ∧ g < w.heap.size ∧ ∀ j, j < xs.length → w.cell? ⟨g, off + j, none⟩ = some (.int .u8 (xs.getD j 0))

theorem RowB.nil (w : World) : RowB w (.slice none 0 0) [] := ⟨Byt.nil, .inl (World.ownsRow_nil _ _ _ _)⟩
theorem RowB.lt {w : World} {v : Value} {xs : List Int} (h : RowB w v xs) : ∀ g, v.ownBlock = some g → g < w.heap.size := by
  intro g hg
  rcases h.lies with h | ⟨g', off, rfl, hl, _⟩
  · exact (h.lt g hg).2
  · simp [Value.ownBlock] at hg; omega
/-- What it looks like. -/
theorem RowB.reads {w : World} {v : Value} {xs : List Int} (h : RowB w v xs) (hl : xs.length ≤ 70000) : ∃ a c, v = .slice a xs.length c ∧ xs.length ≤ c ∧ c ≤ maxLen ∧
    ((a = none ∧ c = 0 ∧ xs = []) ∨ ∃ g off, a = some ⟨g, off, none⟩ ∧ g < w.heap.size ∧ ∀ j, j < xs.length → w.cell? ⟨g, off + j, none⟩ = some (.int .u8 (xs.getD j 0))) := by
  rcases h.lies with h | ⟨g, off, rfl, hg, hc⟩
  · rcases h.2 with ⟨hv, h0⟩ | ⟨g, cap, cur, hv, _, hg, hn, hm, _, _⟩
    · have hx : xs = [] := List.eq_nil_of_length_eq_zero h0
      subst hx
      exact ⟨none, 0, hv, Nat.le_refl _, Nat.zero_le _, .inl ⟨rfl, rfl, rfl⟩⟩
    · subst hv
      refine ⟨_, cap, rfl, hn, hm, .inr ⟨g, 0, rfl, (Array.getElem?_eq_some_iff.1 hg).1, fun j hj => ?_⟩⟩
      have := h.cells (g := g) rfl j _ (u8s_at hj)
      rwa [add_none] at this
  · exact ⟨_, _, rfl, Nat.le_refl _, by unfold maxLen; omega, .inr ⟨g, off, rfl, hg, hc⟩⟩
theorem RowB.keeps {w w' : World} {v : Value} {xs : List Int} {T : Nat → Prop} (h : RowB w v xs) (o : Only T w w') (hd : ∀ g, v.ownBlock = some g → ¬ T g) : RowB w' v xs := by
  refine ⟨h.byt, ?_⟩
  rcases h.lies with h | ⟨g, off, rfl, hg, hc⟩
  · left
    refine ⟨h.1, ?_⟩
    rcases h.2 with hn | ⟨g, cap, cur, rfl, hb, hg, rest⟩
    · exact .inl hn
    · exact .inr ⟨g, cap, cur, rfl, hb, o.keeps (hd g rfl) hg, rest⟩
  · exact .inr ⟨g, off, rfl, Nat.lt_of_lt_of_le hg o.size, fun j hj => (World.cell?_of_block (o.block g hg (hd g rfl))).trans (hc j hj)⟩
theorem RowB.below {w w' : World} {v : Value} {xs : List Int} (h : RowB w v xs) (o : Below w.heap.size w w') : RowB w' v xs := h.keeps (Only.of_below (fun _ => False) o) fun _ _ => id

theorem info_u8 : (Tryz.prog.info? 5).map (fun i => (i.zero, i.size, i.bytes)) = some (some (.int .u8 0), 1, 1) := by kernel_rfl
theorem info_parts8 {t : TypeId} {z : Option Value} {n b : Nat} (h : (Tryz.prog.info? t).map (fun i => (i.zero, i.size, i.bytes)) = some (z, n, b)) : ∃ i, Tryz.prog.info? t = some i ∧ i.zero = z ∧ i.size = n ∧ i.bytes = b := by
  cases hi : Tryz.prog.info? t with
  | none => rw [hi] at h; cases h
  | some i =>
    rw [hi] at h
    simp at h
    exact ⟨i, rfl, h.1, h.2.1, h.2.2⟩

theorem own_base {w : World} {b b' : Nat} {e : TypeId} {s : Nat} {v : Value} {n : Nat} {xs : List Value} (h : w.ownsRow b e s v n xs) (hb : b' ≤ b := by omega) : w.ownsRow b' e s v n xs := by
  refine ⟨h.1, ?_⟩
  rcases h.2 with h0 | ⟨g, cap, cur, hv, hg, hh⟩
  · exact .inl h0
  · exact .inr ⟨g, cap, cur, hv, by omega, hh⟩

/-- One byte more. -/
theorem run_push (w : World) (v : Value) (xs : List Int) (h : RowB w v xs) (hl : xs.length ≤ 70000) (B off : Nat) (b : Int) (c : Nat) (hc : w.cell? ⟨B, off, none⟩ = some (.int .u8 b)) (hb : 0 ≤ b ∧ b < 256) (ty : TypeId) :
    ∃ v' w', (Builtin.append_ #[40, 40] ty #[v, .slice (some ⟨B, off, none⟩) 1 c]).run Tryz.prog w = .ok v' w' ∧ RowB w' v' (xs ++ [b]) ∧ Only (fun i => v.ownBlock = some i) w w' ∧
      (∀ g, v'.ownBlock = some g → v.ownBlock = some g ∨ w.heap.size ≤ g) := by
  obtain ⟨i0, hi, hz0, hz1, hz2⟩ := info_parts8 info_u8
  have hn : ∀ j u, [Value.int .u8 b][j]? = some u → w.cell? ((⟨B, off, none⟩ : Addr).add j) = some u := by
    intro j u hj
    match j, hj with
    | 0, hj => simp at hj; subst hj; rw [add_none]; exact hc
    | (j + 1), hj => simp at hj
  have h1 : ∀ u ∈ [Value.int .u8 b], u.oneCell' = true := by intro u hu; simp at hu; subst hu; rfl
  have e1 : u8s (xs ++ [b]) = u8s xs ++ [.int .u8 b] := by simp [u8s]
  have e2 : (xs ++ [b]).length = xs.length + 1 := by simp
  rcases h.lies with ho | ⟨g, off', rfl, hg, hcs⟩
  · obtain ⟨v', w', hr, h2, h3, _, h5⟩ := run_append_own_at (P := Tryz.prog) w 0 40 ty 5 i0 (.int .u8 0) 1 1 Tryz.underlying40 hi hz0 hz1 hz2 rfl (by decide) v xs.length _ ho ⟨B, off, none⟩ 1 c [.int .u8 b] rfl hn h1 (by unfold maxLen; omega) (by omega) (Nat.zero_le _)
    refine ⟨v', w', hr, ⟨h.byt.snoc hb, .inl (by rw [e1, e2]; exact h2)⟩, (Only.refl _ w).grown h3 (fun k hk => .inl hk), fun g hg => ?_⟩
    rcases h5 with h5 | h5
    · exact .inl (h5 ▸ hg)
    · rw [h5] at hg; injection hg with hg; exact .inr (by omega)
  · obtain ⟨v', w', hr, h2, h3⟩ := run_append_arg_grows (P := Tryz.prog) w 40 ty 5 i0 (.int .u8 0) 1 1 Tryz.underlying40 hi hz0 hz1 hz2 rfl (by decide) ⟨g, off', none⟩ xs.length xs.length (u8s xs) (by rw [u8s_len]; omega) (fun j u hj => by
      obtain ⟨hj2, rfl⟩ := u8s_get hj
      rw [add_none]; exact hcs j hj2) ⟨B, off, none⟩ 1 c [.int .u8 b] rfl hn (by omega) (by unfold maxLen; omega) (by omega)
    refine ⟨v', w', hr, ⟨h.byt.snoc hb, .inl (by rw [e1, e2]; exact own_base h2)⟩, (Only.refl _ w).grown h3 (fun k hk => by cases hk), fun g' hg' => .inr (h2.lt g' hg').1⟩

end Go.Proofs.YtbcnkhfpogglmaaGreatDoor.U6

namespace Go.Proofs.YtbcnkhfpogglmaaGreatDoor.U6
open Go.RowKit
set_option linter.unusedVariables false
set_option maxRecDepth 100000

/-- All bytes of one row poured onto an empty one. -/
theorem run_pour (w : World) (v : Value) (xs : List Int) (h : RowB w v xs) (hl : xs.length ≤ 70000) (hv : ¬ v = .slice none 0 0) (base : Nat) (d : Value) (hd : w.ownsRow base 5 1 d 0 []) (hb : base ≤ w.heap.size) (ty : TypeId) :
    ∃ v' w', (Builtin.append_ #[40, 40] ty #[d, v]).run Tryz.prog w = .ok v' w' ∧ w'.ownsRow base 5 1 v' xs.length (u8s xs) ∧ RowB w' v' xs ∧ Only (fun i => d.ownBlock = some i) w w' ∧
      (∀ g, v'.ownBlock = some g → d.ownBlock = some g ∨ w.heap.size ≤ g) := by
  obtain ⟨i0, hi, hz0, hz1, hz2⟩ := info_parts8 info_u8
  obtain ⟨a, c, rfl, _, _, hr⟩ := h.reads hl
  rcases hr with ⟨rfl, rfl, rfl⟩ | ⟨g, off, rfl, hg, hc⟩
  · exact absurd rfl hv
  obtain ⟨v', w', hr, h2, h3, _, h5⟩ := run_append_own_at (P := Tryz.prog) w base 40 ty 5 i0 (.int .u8 0) 1 1 Tryz.underlying40 hi hz0 hz1 hz2 rfl (by decide) d 0 [] hd ⟨g, off, none⟩ xs.length c (u8s xs) (by rw [u8s_len]; omega) (fun j u hj => by
      obtain ⟨hj2, rfl⟩ := u8s_get hj
      rw [add_none]; exact hc j hj2) (u8s_one xs) (by unfold maxLen; omega) (by omega) hb
  have e1 : 0 + xs.length = xs.length := by omega
  rw [e1, List.nil_append] at h2
  refine ⟨v', w', hr, h2, ⟨h.byt, .inl (own_base h2 (by omega))⟩, (Only.refl _ w).grown h3 (fun k hk => .inl hk), fun g' hg' => ?_⟩
  rcases h5 with h5 | h5
  · exact .inl (h5 ▸ hg')
  · rw [h5] at hg'; injection hg' with hg'; exact .inr (by omega)

/-- A uart's state. -/
structure US where
  inn : List Int
  out : List Int
  ier : Int
  fcr : Int
  lcr : Int
  mcr : Int
  scr : Int
  dl : Int
  dm : Int
  lost : Bool
  sent : Bool
structure US.ok (t : US) : Prop where
  li : t.inn.length ≤ 16
  lo : t.out.length ≤ 65536
  ier : 0 ≤ t.ier ∧ t.ier < 16
  fcr : 0 ≤ t.fcr ∧ t.fcr < 2
  lcr : 0 ≤ t.lcr ∧ t.lcr < 256
  mcr : 0 ≤ t.mcr ∧ t.mcr < 32
  scr : 0 ≤ t.scr ∧ t.scr < 256
  dl : 0 ≤ t.dl ∧ t.dl < 256
  dm : 0 ≤ t.dm ∧ t.dm < 256
def u0 : US := ⟨[], [], 0, 0, 0, 0, 0, 0, 0, false, false⟩
theorem u0_ok : u0.ok := ⟨by decide, by decide, by decide, by decide, by decide, by decide, by decide, by decide, by decide⟩
def cellsP (vi vo : Value) (t : US) : Array Value := #[vi, vo, .bool t.lost, .bool t.sent, .int .u8 0, .int .u8 t.ier, .int .u8 t.fcr, .int .u8 t.lcr, .int .u8 t.mcr, .int .u8 0, .int .u8 0, .int .u8 t.scr, .int .u8 t.dl, .int .u8 t.dm]
def cellsR (vi vo : Value) (t : US) : Array Value := #[vi, vo, .int .u8 t.ier, .int .u8 t.fcr, .int .u8 t.lcr, .int .u8 t.mcr, .int .u8 t.scr, .int .u8 t.dl, .int .u8 t.dm, .bool t.lost, .bool t.sent]

/-- An object in block b, its blocks are F's. -/
structure Holds (mk : Value → Value → US → Array Value) (ty : TypeId) (w : World) (b : Nat) (F : Nat → Prop) (t : US) (vi vo : Value) : Prop where
  obj : w.heap[b]? = some (.cells (mk vi vo t) ty (0, 0))
  ri : RowB w vi t.inn
  ro : RowB w vo t.out
  fb : F b
  fi : ∀ g, vi.ownBlock = some g → F g ∧ ¬ g = b
  fo : ∀ g, vo.ownBlock = some g → F g ∧ ¬ g = b
  io : ∀ g, vi.ownBlock = some g → ¬ vo.ownBlock = some g
  lt : ∀ i, F i → i < w.heap.size
  ok : t.ok
abbrev HP := Holds cellsP 131
abbrev HR := Holds cellsR 111
/-- The program's uart t stands in block b; the document's. -/
def UP (w : World) (b : Nat) (F : Nat → Prop) (t : US) : Prop := ∃ vi vo, HP w b F t vi vo
def UR (w : World) (b : Nat) (F : Nat → Prop) (t : US) : Prop := ∃ vi vo, HR w b F t vi vo

section
variable {mk : Value → Value → US → Array Value} {ty : TypeId} {w : World} {b : Nat} {F : Nat → Prop} {t : US} {vi vo : Value}
theorem Holds.blt (h : Holds mk ty w b F t vi vo) : b < w.heap.size := h.lt b h.fb
theorem Holds.keeps {w' : World} {T : Nat → Prop} (h : Holds mk ty w b F t vi vo) (o : Only T w w') (hd : ∀ i, F i → ¬ T i) : Holds mk ty w' b F t vi vo :=
  ⟨o.keeps (hd b h.fb) h.obj, h.ri.keeps o fun g hg => hd g (h.fi g hg).1, h.ro.keeps o fun g hg => hd g (h.fo g hg).1, h.fb, h.fi, h.fo, h.io, fun i hi => Nat.lt_of_lt_of_le (h.lt i hi) o.size, h.ok⟩
theorem Holds.below {w' : World} (h : Holds mk ty w b F t vi vo) (o : Below w.heap.size w w') : Holds mk ty w' b F t vi vo := h.keeps (Only.of_below (fun _ => False) o) fun _ _ => id
theorem Holds.mono {G : Nat → Prop} (h : Holds mk ty w b F t vi vo) (hs : ∀ i, F i → G i) (hl : ∀ i, G i → i < w.heap.size) : Holds mk ty w b G t vi vo :=
  ⟨h.obj, h.ri, h.ro, hs _ h.fb, fun g hg => ⟨hs _ (h.fi g hg).1, (h.fi g hg).2⟩, fun g hg => ⟨hs _ (h.fo g hg).1, (h.fo g hg).2⟩, h.io, hl, h.ok⟩
theorem Holds.cell (h : Holds mk ty w b F t vi vo) (k : Nat) {v : Value} (hv : (mk vi vo t)[k]? = some v) : w.cell? ⟨b, k, none⟩ = some v := by
  rw [cell_of_row w b k _ _ _ h.obj, hv]
theorem Holds.free (h : Holds mk ty w b F t vi vo) (k : Nat) : w.frozen? ⟨b, k, none⟩ = false := frozen_of_row w b k _ _ h.obj

/-- What a call leaves that may turn the object. -/
def EndU (mk : Value → Value → US → Array Value) (ty : TypeId) (w : World) (b : Nat) (F : Nat → Prop) (t' : US) (w' : World) : Prop :=
  Only F w w' ∧ ∃ F', (∀ i, F' i → F i ∨ w.heap.size ≤ i) ∧ ∃ vi vo, Holds mk ty w' b F' t' vi vo
theorem EndU.refl (h : Holds mk ty w b F t vi vo) : EndU mk ty w b F t w := ⟨Only.refl _ _, F, fun _ hi => .inl hi, vi, vo, h⟩
/-- One step behind another. -/
theorem EndU.step {w1 w2 : World} {F1 : Nat → Prop} {t2 : US} (o : Only F w w1) (hF : ∀ i, F1 i → F i ∨ w.heap.size ≤ i) (h : EndU mk ty w1 b F1 t2 w2) : EndU mk ty w b F t2 w2 := by
  obtain ⟨o2, F2, hF2, h2⟩ := h
  refine ⟨o.step o2 fun i hi => hF i hi, F2, fun i hi => ?_, h2⟩
  rcases hF2 i hi with h3 | h3
  · exact hF i h3
  · exact .inr (Nat.le_trans o.size h3)
/-- One cell turned that is no row. -/
theorem Holds.set (h : Holds mk ty w b F t vi vo) (k : Nat) (v : Value) {t' : US} (hi : t'.inn = t.inn) (ho : t'.out = t.out) (ok : t'.ok) (he : (mk vi vo t).setIfInBounds k v = mk vi vo t') : Holds mk ty (w.setCell ⟨b, k, none⟩ v) b F t' vi vo := by
  have o : Only (fun i => i = b) w (w.setCell ⟨b, k, none⟩ v) := (Only.refl (fun i => i = b) w).setCell (p := ⟨b, k, none⟩) (.inl rfl) v
  refine ⟨by rw [heap_setCell_same w b k _ _ _ h.obj, he], ?_, ?_, h.fb, h.fi, h.fo, h.io, fun i hi => Nat.lt_of_lt_of_le (h.lt i hi) o.size, ok⟩
  · rw [hi]; exact h.ri.keeps o fun g hg => (h.fi g hg).2
  · rw [ho]; exact h.ro.keeps o fun g hg => (h.fo g hg).2
theorem EndU.set (h : Holds mk ty w b F t vi vo) (k : Nat) (v : Value) {t' : US} (hi : t'.inn = t.inn) (ho : t'.out = t.out) (ok : t'.ok) (he : (mk vi vo t).setIfInBounds k v = mk vi vo t') : EndU mk ty w b F t' (w.setCell ⟨b, k, none⟩ v) :=
  ⟨(Only.refl F w).setCell (p := ⟨b, k, none⟩) (.inl h.fb) v, F, fun _ hi => .inl hi, vi, vo, h.set k v hi ho ok he⟩
/-- The row that came in turned. -/
theorem EndU.turnIn (h : Holds mk ty w b F t vi vo) {w2 : World} {v' : Value} {t' : US} (o : Only (fun i => vi.ownBlock = some i) w w2) (hr : RowB w2 v' t'.inn) (hv : ∀ g, v'.ownBlock = some g → vi.ownBlock = some g ∨ w.heap.size ≤ g) (ho : t'.out = t.out) (ok : t'.ok)
    (he : (mk vi vo t).setIfInBounds 0 v' = mk v' vo t') : EndU mk ty w b F t' (w2.setCell ⟨b, 0, none⟩ v') := by
  have hb := h.blt
  have hnb : ¬ vi.ownBlock = some b := fun e => (h.fi b e).2 rfl
  have hob : w2.heap[b]? = some (.cells (mk vi vo t) ty (0, 0)) := o.keeps hnb h.obj
  have o2 : Only (fun i => i = b) w2 (w2.setCell ⟨b, 0, none⟩ v') := (Only.refl (fun i => i = b) w2).setCell (p := ⟨b, 0, none⟩) (.inl rfl) v'
  have oF : Only F w (w2.setCell ⟨b, 0, none⟩ v') := (o.mono fun i hi => .inl (h.fi i hi).1).step o2 (fun i hi => .inl (hi ▸ h.fb))
  have hg2 : ∀ g, v'.ownBlock = some g → ¬ g = b := fun g hg e => by
    rcases hv g hg with h1 | h1
    · exact (h.fi g h1).2 e
    · omega
  refine ⟨oF, fun i => F i ∨ (w.heap.size ≤ i ∧ i < w2.heap.size), fun i hi => hi.imp id fun h => h.1, v', vo, ⟨by rw [heap_setCell_same w2 b 0 _ _ _ hob, he], hr.keeps o2 hg2, ?_, .inl h.fb, ?_, ?_, ?_, ?_, ok⟩⟩
  · rw [ho]; exact (h.ro.keeps o fun g hg e => h.io g e hg).keeps o2 fun g hg => (h.fo g hg).2
  · intro g hg
    refine ⟨?_, hg2 g hg⟩
    rcases hv g hg with h1 | h1
    · exact .inl (h.fi g h1).1
    · exact .inr ⟨h1, hr.lt g hg⟩
  · exact fun g hg => ⟨.inl (h.fo g hg).1, (h.fo g hg).2⟩
  · intro g hg e
    rcases hv g hg with h1 | h1
    · exact h.io g h1 e
    · have := h.lt g (h.fo g e).1; omega
  · intro i hi
    have := o.size
    have s2 := o2.size
    rcases hi with hi | hi
    · have := h.lt i hi; omega
    · omega
/-- The row that was sent turned. -/
theorem EndU.turnOut (h : Holds mk ty w b F t vi vo) {w2 : World} {v' : Value} {t' : US} (o : Only (fun i => vo.ownBlock = some i) w w2) (hr : RowB w2 v' t'.out) (hv : ∀ g, v'.ownBlock = some g → vo.ownBlock = some g ∨ w.heap.size ≤ g) (ho : t'.inn = t.inn) (ok : t'.ok)
    (he : (mk vi vo t).setIfInBounds 1 v' = mk vi v' t') : EndU mk ty w b F t' (w2.setCell ⟨b, 1, none⟩ v') := by
  have hb := h.blt
  have hnb : ¬ vo.ownBlock = some b := fun e => (h.fo b e).2 rfl
  have hob : w2.heap[b]? = some (.cells (mk vi vo t) ty (0, 0)) := o.keeps hnb h.obj
  have o2 : Only (fun i => i = b) w2 (w2.setCell ⟨b, 1, none⟩ v') := (Only.refl (fun i => i = b) w2).setCell (p := ⟨b, 1, none⟩) (.inl rfl) v'
  have oF : Only F w (w2.setCell ⟨b, 1, none⟩ v') := (o.mono fun i hi => .inl (h.fo i hi).1).step o2 (fun i hi => .inl (hi ▸ h.fb))
  have hg2 : ∀ g, v'.ownBlock = some g → ¬ g = b := fun g hg e => by
    rcases hv g hg with h1 | h1
    · exact (h.fo g h1).2 e
    · omega
  refine ⟨oF, fun i => F i ∨ (w.heap.size ≤ i ∧ i < w2.heap.size), fun i hi => hi.imp id fun h => h.1, vi, v', ⟨by rw [heap_setCell_same w2 b 1 _ _ _ hob, he], ?_, hr.keeps o2 hg2, .inl h.fb, ?_, ?_, ?_, ?_, ok⟩⟩
  · rw [ho]; exact (h.ri.keeps o fun g hg e => h.io g hg e).keeps o2 fun g hg => (h.fi g hg).2
  · exact fun g hg => ⟨.inl (h.fi g hg).1, (h.fi g hg).2⟩
  · intro g hg
    refine ⟨?_, hg2 g hg⟩
    rcases hv g hg with h1 | h1
    · exact .inl (h.fo g h1).1
    · exact .inr ⟨h1, hr.lt g hg⟩
  · intro g hg e
    rcases hv g e with h1 | h1
    · exact h.io g hg h1
    · have := h.lt g (h.fi g hg).1; omega
  · intro i hi
    have := o.size
    have s2 := o2.size
    rcases hi with hi | hi
    · have := h.lt i hi; omega
    · omega
end

/-! ### what calls tell and leave -/
def rsn (t : US) : Int := if t.ier % 2 = 1 ∧ 0 < t.inn.length then 4 else if t.ier / 2 % 2 = 1 ∧ t.sent = true then 2 else 1
def lineU (t : US) : Bool := decide (¬ rsn t = 1)
/-- The place that stands at an offset; 10, if there is none. -/
def plK (t : US) (off n : Int) : Nat := if n = 1 ∧ 0 ≤ off ∧ off < 8 then (if off < 2 ∧ 128 ≤ t.lcr then off.toNat + 8 else off.toNat) else 10
def okK (k : Nat) : Bool := decide (k < 10)
def rdX (t : US) : Nat → Int
  | 0 => t.inn.getD 0 0
  | 1 => t.ier
  | 2 => rsn t + if t.fcr = 1 then 192 else 0
  | 3 => t.lcr
  | 4 => t.mcr
  | 5 => 96 + (if 0 < t.inn.length then 1 else 0) + if t.lost = true then 2 else 0
  | 6 => 176
  | 7 => t.scr
  | 8 => t.dl
  | 9 => t.dm
  | _ => 0
def rdT (t : US) : Nat → US
  | 0 => { t with inn := t.inn.tail }
  | 2 => { t with sent := if rsn t = 2 then false else t.sent }
  | 5 => { t with lost := false }
  | _ => t
def sendT (t : US) (b : Int) : US := { t with out := if t.out.length < 65536 then t.out ++ [b] else t.out, sent := true }
def ierT (t : US) (b : Int) : US := { t with ier := b % 16, sent := if t.ier / 2 % 2 = 0 ∧ b / 2 % 2 = 1 then true else t.sent }
def fcrT (t : US) (b : Int) : US := { t with fcr := b % 2, inn := if b / 2 % 2 = 1 then [] else t.inn }
def wrT (t : US) (b : Int) : Nat → US
  | 0 => sendT t b
  | 1 => ierT t b
  | 2 => fcrT t b
  | 3 => { t with lcr := b }
  | 4 => { t with mcr := b % 32 }
  | 7 => { t with scr := b }
  | 8 => { t with dl := b }
  | 9 => { t with dm := b }
  | _ => t
def feedT (t : US) (b : Int) : US := if t.inn.length = 16 then { t with lost := true } else { t with inn := t.inn ++ [b] }
def feedK (t : US) : Bool := decide (t.inn.length < 16)
theorem rsn_vals (t : US) : rsn t = 4 ∨ rsn t = 2 ∨ rsn t = 1 := by
  unfold rsn; split
  · exact .inl rfl
  · split
    · exact .inr (.inl rfl)
    · exact .inr (.inr rfl)

end Go.Proofs.YtbcnkhfpogglmaaGreatDoor.U6

namespace Go.Proofs.YtbcnkhfpogglmaaGreatDoor.U6
open Go.RowKit
set_option linter.unusedVariables false
set_option maxRecDepth 100000

theorem ret_boolU {a b : Bool} (h : a = b) : Ending.returned (.bool a) = .returned (.bool b) := by rw [h]
def tst (x i : Int) : Bool := decide (x / 2 ^ i.toNat % 2 = 1)
theorem bitP_any (x i : Int) (hi : 0 ≤ i) (h8 : i < 8) (h0 : 0 ≤ x) (h1 : x < 256) (w : World) :
    Calls Tryz.prog 156 #[.int .u8 x, .int .i64 i] w fun e w' => e = .returned (.bool (tst x i)) ∧ w = w' := by
  have H := Lib.hid h1
  have H8 := Lib.hid h8
  clear h1 h8
  go_enter Tryz.func156, Tryz.ntmps156
  go_wp2
  go_ret
  have h8 := H8.out
  exact ⟨ret_boolU (by rw [and_one_u8 (Int.ediv_nonneg h0 (Int.le_of_lt (Int.pow_pos (by omega))))]; unfold tst; rw [Nat.min_eq_left (by omega)]; rw [Bool.eq_iff_iff, beq_iff_eq, decide_eq_true_eq]), rfl⟩

def regOf (t : US) (p : Int) : Int := if p = 1 then t.ier else if p = 2 then t.fcr else t.lcr
def hasV (t : US) (p i : Int) : Bool := tst (regOf t p) i
theorem hasV_in (t : US) : hasV t 1 0 = decide (t.ier % 2 = 1) := by
  unfold hasV tst regOf; rw [if_pos rfl]; simp
theorem hasV_sent (t : US) : hasV t 1 1 = decide (t.ier / 2 % 2 = 1) := by
  unfold hasV tst regOf; rw [if_pos rfl]; rfl
theorem hasV_latch {t : US} (h : t.ok) : hasV t 3 7 = decide (128 ≤ t.lcr) := by
  have := h.lcr
  unfold hasV tst regOf
  rw [if_neg (by decide), if_neg (by decide), Bool.eq_iff_iff, decide_eq_true_eq, decide_eq_true_eq]
  show t.lcr / 128 % 2 = 1 ↔ _
  omega
theorem hasV_fifo {t : US} (h : t.ok) : hasV t 2 0 = decide (t.fcr = 1) := by
  have := h.fcr
  unfold hasV tst regOf
  rw [if_neg (by decide), if_pos rfl, Bool.eq_iff_iff, decide_eq_true_eq, decide_eq_true_eq]
  show t.fcr / 1 % 2 = 1 ↔ _
  omega

section
variable {w : World} {b : Nat} {F : Nat → Prop} {t : US} {vi vo : Value}
theorem Holds.pcells (h : HP w b F t vi vo) : w.cell? ⟨b, 0, none⟩ = some vi ∧ w.cell? ⟨b, 1, none⟩ = some vo ∧ w.cell? ⟨b, 2, none⟩ = some (.bool t.lost) ∧ w.cell? ⟨b, 3, none⟩ = some (.bool t.sent) :=
  ⟨h.cell 0 rfl, h.cell 1 rfl, h.cell 2 rfl, h.cell 3 rfl⟩
theorem Holds.pregs (h : HP w b F t vi vo) : w.cell? ⟨b, 4, none⟩ = some (.int .u8 0) ∧ w.cell? ⟨b, 5, none⟩ = some (.int .u8 t.ier) ∧ w.cell? ⟨b, 6, none⟩ = some (.int .u8 t.fcr) ∧ w.cell? ⟨b, 7, none⟩ = some (.int .u8 t.lcr) ∧
    w.cell? ⟨b, 8, none⟩ = some (.int .u8 t.mcr) ∧ w.cell? ⟨b, 9, none⟩ = some (.int .u8 0) ∧ w.cell? ⟨b, 10, none⟩ = some (.int .u8 0) ∧ w.cell? ⟨b, 11, none⟩ = some (.int .u8 t.scr) ∧ w.cell? ⟨b, 12, none⟩ = some (.int .u8 t.dl) ∧ w.cell? ⟨b, 13, none⟩ = some (.int .u8 t.dm) :=
  ⟨h.cell 4 rfl, h.cell 5 rfl, h.cell 6 rfl, h.cell 7 rfl, h.cell 8 rfl, h.cell 9 rfl, h.cell 10 rfl, h.cell 11 rfl, h.cell 12 rfl, h.cell 13 rfl⟩
end
theorem has_any (w : World) (b : Nat) (F : Nat → Prop) (t : US) (vi vo : Value) (h : HP w b F t vi vo) (p i : Int) (hp : p = 1 ∨ p = 2 ∨ p = 3) (hi : 0 ≤ i ∧ i < 8) :
    Calls Tryz.prog 155 #[.pointer (some ⟨b, 0, none⟩), .int .i64 p, .int .i64 i] w fun e w' => e = .returned (.bool (hasV t p i)) ∧ w = w' := by
  obtain ⟨hi0, hi8⟩ := hi
  obtain ⟨_, c1, c2, c3, _⟩ := h.pregs
  have e := h.ok.ier
  have f := h.ok.fcr
  have l := h.ok.lcr
  have E1 : 0 ≤ t.ier ∧ t.ier < 256 := by omega
  have E2 : 0 ≤ t.fcr ∧ t.fcr < 256 := by omega
  clear h e f
  rcases hp with rfl | rfl | rfl
  · go_enter Tryz.func155, Tryz.ntmps155
    go_wp2_with (go_at_call 156; refine (bitP_any _ _ hi0 hi8 E1.1 E1.2 _).mono ?_; rintro e w' ⟨rfl, rfl⟩)
    go_ret
    exact ⟨rfl, rfl⟩
  · go_enter Tryz.func155, Tryz.ntmps155
    go_wp2_with (go_at_call 156; refine (bitP_any _ _ hi0 hi8 E2.1 E2.2 _).mono ?_; rintro e w' ⟨rfl, rfl⟩)
    go_ret
    exact ⟨rfl, rfl⟩
  · go_enter Tryz.func155, Tryz.ntmps155
    go_wp2_with (go_at_call 156; refine (bitP_any _ _ hi0 hi8 l.1 l.2 _).mono ?_; rintro e w' ⟨rfl, rfl⟩)
    go_ret
    exact ⟨rfl, rfl⟩

theorem rsn_in {t : US} (h : t.ier % 2 = 1) (hn : 0 < t.inn.length) : rsn t = 4 := by unfold rsn; rw [if_pos ⟨h, hn⟩]
theorem rsn_snt {t : US} (h : ¬ (t.ier % 2 = 1 ∧ 0 < t.inn.length)) (h2 : t.ier / 2 % 2 = 1) (hs : t.sent = true) : rsn t = 2 := by unfold rsn; rw [if_neg h, if_pos ⟨h2, hs⟩]
theorem rsn_no {t : US} (h : ¬ (t.ier % 2 = 1 ∧ 0 < t.inn.length)) (h2 : ¬ (t.ier / 2 % 2 = 1 ∧ t.sent = true)) : rsn t = 1 := by unfold rsn; rw [if_neg h, if_neg h2]
set_option maxHeartbeats 1000000 in
theorem reason_any (w : World) (b : Nat) (F : Nat → Prop) (t : US) (vi vo : Value) (h : HP w b F t vi vo) :
    Calls Tryz.prog 157 #[.pointer (some ⟨b, 0, none⟩)] w fun e w' => e = .returned (.int .u8 (rsn t)) ∧ w = w' := by
  have H := Lib.hid h
  have hlen := h.ok.li
  obtain ⟨a, c, rfl, _, _, _⟩ := h.ri.reads (by omega)
  obtain ⟨c0, _, _, c3⟩ := h.pcells
  have h10 := hasV_in t
  have h11 := hasV_sent t
  clear h
  by_cases hA : t.ier % 2 = 1
  · by_cases hn : 0 < t.inn.length
    · have ER := Lib.hid (show rsn t = 4 from rsn_in hA hn)
      rw [decide_eq_true hA] at h10
      clear h11
      clear hA
      generalize t.inn.length = n at *
      generalize rsn t = r at *
      go_enter Tryz.func157, Tryz.ntmps157
      go_wp2_with (go_at_call 155; refine (has_any _ b F t _ vo H.out _ _ (by decide) (by decide)).mono ?_; rintro e w' ⟨rfl, rfl⟩)
      go_ret
      exact ⟨by rw [ER.out]; rfl, rfl⟩
    · by_cases hB : t.ier / 2 % 2 = 1
      · by_cases hs : t.sent = true
        · have ER := Lib.hid (show rsn t = 2 from rsn_snt (fun h => hn h.2) hB hs)
          rw [decide_eq_true hA] at h10
          rw [decide_eq_true hB] at h11
          have hn0 : t.inn.length = 0 := by omega
          clear hA
          clear hB
          generalize t.sent = s at *
          subst hs
          clear hn
          generalize t.inn.length = n at *
          subst hn0
          generalize rsn t = r at *
          go_enter Tryz.func157, Tryz.ntmps157
          go_wp2_with (go_at_call 155; refine (has_any _ b F t _ vo H.out _ _ (by decide) (by decide)).mono ?_; rintro e w' ⟨rfl, rfl⟩)
          go_ret
          exact ⟨by rw [ER.out]; rfl, rfl⟩
        · have ER := Lib.hid (show rsn t = 1 from rsn_no (fun h => hn h.2) (fun h => hs h.2))
          rw [decide_eq_true hA] at h10
          rw [decide_eq_true hB] at h11
          have hn0 : t.inn.length = 0 := by omega
          clear hA
          clear hB
          have hs2 : t.sent = false := by simpa using hs
          clear hs
          generalize t.sent = s at *
          subst hs2
          clear hn
          generalize t.inn.length = n at *
          subst hn0
          generalize rsn t = r at *
          go_enter Tryz.func157, Tryz.ntmps157
          go_wp2_with (go_at_call 155; refine (has_any _ b F t _ vo H.out _ _ (by decide) (by decide)).mono ?_; rintro e w' ⟨rfl, rfl⟩)
          go_ret
          exact ⟨by rw [ER.out]; rfl, rfl⟩
      · have ER := Lib.hid (show rsn t = 1 from rsn_no (fun h => hn h.2) (fun h => hB h.1))
        rw [decide_eq_true hA] at h10
        rw [decide_eq_false hB] at h11
        have hn0 : t.inn.length = 0 := by omega
        clear hA
        clear hB
        clear hn
        generalize t.inn.length = n at *
        subst hn0
        generalize rsn t = r at *
        go_enter Tryz.func157, Tryz.ntmps157
        go_wp2_with (go_at_call 155; refine (has_any _ b F t _ vo H.out _ _ (by decide) (by decide)).mono ?_; rintro e w' ⟨rfl, rfl⟩)
        go_ret
        exact ⟨by rw [ER.out]; rfl, rfl⟩
  · by_cases hB : t.ier / 2 % 2 = 1
    · by_cases hs : t.sent = true
      · have ER := Lib.hid (show rsn t = 2 from rsn_snt (fun h => hA h.1) hB hs)
        rw [decide_eq_false hA] at h10
        rw [decide_eq_true hB] at h11
        clear hA
        clear hB
        generalize t.sent = s at *
        subst hs
        generalize t.inn.length = n at *
        generalize rsn t = r at *
        go_enter Tryz.func157, Tryz.ntmps157
        go_wp2_with (go_at_call 155; refine (has_any _ b F t _ vo H.out _ _ (by decide) (by decide)).mono ?_; rintro e w' ⟨rfl, rfl⟩)
        go_ret
        exact ⟨by rw [ER.out]; rfl, rfl⟩
      · have ER := Lib.hid (show rsn t = 1 from rsn_no (fun h => hA h.1) (fun h => hs h.2))
        rw [decide_eq_false hA] at h10
        rw [decide_eq_true hB] at h11
        clear hA
        clear hB
        have hs2 : t.sent = false := by simpa using hs
        clear hs
        generalize t.sent = s at *
        subst hs2
        generalize t.inn.length = n at *
        generalize rsn t = r at *
        go_enter Tryz.func157, Tryz.ntmps157
        go_wp2_with (go_at_call 155; refine (has_any _ b F t _ vo H.out _ _ (by decide) (by decide)).mono ?_; rintro e w' ⟨rfl, rfl⟩)
        go_ret
        exact ⟨by rw [ER.out]; rfl, rfl⟩
    · have ER := Lib.hid (show rsn t = 1 from rsn_no (fun h => hA h.1) (fun h => hB h.1))
      rw [decide_eq_false hA] at h10
      rw [decide_eq_false hB] at h11
      clear hA
      clear hB
      generalize t.inn.length = n at *
      generalize rsn t = r at *
      go_enter Tryz.func157, Tryz.ntmps157
      go_wp2_with (go_at_call 155; refine (has_any _ b F t _ vo H.out _ _ (by decide) (by decide)).mono ?_; rintro e w' ⟨rfl, rfl⟩)
      go_ret
      exact ⟨by rw [ER.out]; rfl, rfl⟩

theorem line_any (w : World) (b : Nat) (F : Nat → Prop) (t : US) (vi vo : Value) (h : HP w b F t vi vo) :
    Calls Tryz.prog 130 #[.pointer (some ⟨b, 0, none⟩)] w fun e w' => e = .returned (.bool (lineU t)) ∧ w = w' := by
  have H := Lib.hid h
  clear h
  go_enter Tryz.func130, Tryz.ntmps130
  go_wp2_with (go_at_call 157; refine (reason_any _ b F t vi vo H.out).mono ?_; rintro e w' ⟨rfl, rfl⟩)
  go_ret
  exact ⟨ret_boolU (by unfold lineU; simp [bne]; try rfl), rfl⟩
/-- What find answers. -/
def FindU (w : World) (k : Nat) (e : Ending) (w' : World) : Prop := w = w' ∧ ((k < 10 ∧ e = .returned (.tuple #[.int .i64 (k : Int), .bool true])) ∨ (k = 10 ∧ e = .returned (.tuple #[.int .i64 0, .bool false])))
theorem plK_none {t : US} {off n : Int} (h : ¬ (n = 1 ∧ 0 ≤ off ∧ off < 8)) : plK t off n = 10 := by unfold plK; rw [if_neg h]
theorem plK_off {t : US} {off : Int} (h0 : 0 ≤ off) (h8 : off < 8) (h : ¬ (off < 2 ∧ 128 ≤ t.lcr)) : plK t off 1 = off.toNat := by
  unfold plK; rw [if_pos ⟨rfl, h0, h8⟩, if_neg h]
theorem plK_over {t : US} {off : Int} (h0 : 0 ≤ off) (h2 : off < 2) (h : 128 ≤ t.lcr) : plK t off 1 = off.toNat + 8 := by
  unfold plK; rw [if_pos ⟨rfl, h0, by omega⟩, if_pos ⟨h2, h⟩]
set_option maxHeartbeats 1000000 in
theorem find_any (w : World) (b : Nat) (F : Nat → Prop) (t : US) (vi vo : Value) (h : HP w b F t vi vo) (off n : Int) (ho : In64 off) :
    Calls Tryz.prog 150 #[.pointer (some ⟨b, 0, none⟩), .int .u64 off, .int .i64 n] w (FindU w (plK t off n)) := by
  have H := Lib.hid h
  have hlat := hasV_latch h.ok
  have h0 := ho.1
  clear h ho
  by_cases hn : n = 1
  · subst hn
    by_cases h8 : off < 8
    · by_cases h2 : off < 2
      · by_cases hL : 128 ≤ t.lcr
        · have h37 : hasV t 3 7 = true := by rw [hlat]; exact decide_eq_true hL
          have HK := Lib.hid (plK_over h0 h2 hL)
          have e1 : IntKind.i64.wrap off = off := IntWalk.i64_in _ (by omega)
          clear hlat hL
          generalize plK t off 1 = k at *
          go_enter Tryz.func150, Tryz.ntmps150
          go_wp2_with (go_at_call 155; refine (has_any _ b F t _ vo H.out _ _ (by decide) (by decide)).mono ?_; rintro e w' ⟨rfl, rfl⟩)
          go_ret2
          exact ⟨rfl, .inl ⟨by rw [HK.out]; omega, by rw [HK.out, show ((off.toNat + 8 : Nat) : Int) = off + 8 by omega]; rfl⟩⟩
        · have h37 : hasV t 3 7 = false := by rw [hlat]; exact decide_eq_false hL
          have HK := Lib.hid (plK_off h0 h8 (fun h => hL h.2))
          have e1 : IntKind.i64.wrap off = off := IntWalk.i64_in _ (by omega)
          clear hlat hL
          generalize plK t off 1 = k at *
          go_enter Tryz.func150, Tryz.ntmps150
          go_wp2_with (go_at_call 155; refine (has_any _ b F t _ vo H.out _ _ (by decide) (by decide)).mono ?_; rintro e w' ⟨rfl, rfl⟩)
          go_ret2
          exact ⟨rfl, .inl ⟨by rw [HK.out]; omega, by rw [HK.out, show ((off.toNat : Nat) : Int) = off by omega]; rfl⟩⟩
      · have HK := Lib.hid (plK_off (t := t) h0 h8 (fun h => h2 h.1))
        have e1 : IntKind.i64.wrap off = off := IntWalk.i64_in _ (by omega)
        clear hlat
        generalize plK t off 1 = k at *
        go_enter Tryz.func150, Tryz.ntmps150
        go_wp2
        go_ret2
        exact ⟨rfl, .inl ⟨by rw [HK.out]; omega, by rw [HK.out, show ((off.toNat : Nat) : Int) = off by omega]; rfl⟩⟩
    · have HK := Lib.hid (plK_none (t := t) (n := 1) (show ¬ ((1 : Int) = 1 ∧ 0 ≤ off ∧ off < 8) by omega))
      clear hlat
      generalize plK t off 1 = k at *
      go_enter Tryz.func150, Tryz.ntmps150
      go_wp2
      go_ret2
      exact ⟨rfl, .inr ⟨HK.out, rfl⟩⟩
  · have HK := Lib.hid (plK_none (t := t) (off := off) (show ¬ (n = 1 ∧ 0 ≤ off ∧ off < 8) from fun h => hn h.1))
    have hb : (n == 1) = false := by simpa using hn
    have hb2 : (n != 1) = true := by simpa [bne] using hn
    clear hlat hn
    generalize plK t off n = k at *
    go_enter Tryz.func150, Tryz.ntmps150
    go_wp2
    go_ret2
    exact ⟨rfl, .inr ⟨HK.out, rfl⟩⟩

end Go.Proofs.YtbcnkhfpogglmaaGreatDoor.U6

namespace Go.Proofs.YtbcnkhfpogglmaaGreatDoor.U6
open Go.RowKit
set_option linter.unusedVariables false
set_option maxRecDepth 100000

theorem cut_full {w : World} {g off : Nat} {x : Int} {xs : List Int} (hb : Byt (x :: xs)) (hg : g < w.heap.size) (hc : ∀ j, j < (x :: xs).length → w.cell? ⟨g, off + j, none⟩ = some (.int .u8 ((x :: xs).getD j 0))) : RowB w (.slice (some ⟨g, off + 1, none⟩) xs.length xs.length) xs :=
  ⟨hb.tail, .inr ⟨g, off + 1, rfl, hg, fun j hj => by
    have := hc (j + 1) (by simp; omega)
    rw [show off + 1 + j = off + (j + 1) by omega, this]; simp⟩⟩
theorem cut_last {w : World} {g off : Nat} (hg : g < w.heap.size) : RowB w (.slice (some ⟨g, off, none⟩) 0 0) [] :=
  ⟨Byt.nil, .inr ⟨g, off, rfl, hg, fun j hj => absurd hj (by simp)⟩⟩

theorem run_cut (w : World) (g off n c : Nat) (h2 : 2 ≤ n) (hc : n ≤ c) (z : Int) (hz : z = n) : (Instr.slice 40 (.slice (some ⟨g, off, none⟩) n c) (some (.int .i64 1)) (some (.int .i64 z)) (some (.int .i64 z))).run Tryz.prog w = .ok (.slice (some ⟨g, off + 1, none⟩) (n - 1) (n - 1)) w := by
  subst hz
  rw [run_slice_lhm (t := 40) w (some ⟨g, off, none⟩) n c ?_ .i64 .i64 .i64 1 n n (by decide) (by omega) (by omega) (by omega)]
  · have hs : (sizeOf (Tryz.prog.elem 40)).run Tryz.prog w = .ok 1 w := by kernel_rfl
    rw [hs]
    simp [sliced, Addr.add]
    omega
  · kernel_rfl

/-- What next answers. -/
def NextU (w : World) (b : Nat) (F : Nat → Prop) (t : US) (e : Ending) (w' : World) : Prop := e = .returned (.int .u8 (t.inn.getD 0 0)) ∧ EndU cellsP 131 w b F { t with inn := t.inn.tail } w'
set_option maxHeartbeats 2000000 in
theorem next_any (w : World) (b : Nat) (F : Nat → Prop) (t : US) (vi vo : Value) (h : HP w b F t vi vo) :
    Calls Tryz.prog 151 #[.pointer (some ⟨b, 0, none⟩)] w (NextU w b F t) := by
  have hlen := h.ok.li
  obtain ⟨a, c, rfl, hnc, hcm, hr⟩ := h.ri.reads (by omega)
  obtain ⟨c0, _, _, _⟩ := h.pcells
  have f0 := h.free 0
  obtain ⟨inn, out, ier, fcr, lcr, mcr, scr, dl, dm, lost, sent⟩ := t
  simp only at hlen hr c0 hnc
  cases inn with
  | nil =>
    have H := Lib.hid h
    clear h hr
    go_enter Tryz.func151, Tryz.ntmps151
    go_wp2
    go_ret
    exact ⟨rfl, EndU.refl H.out⟩
  | cons x xs =>
    rcases hr with ⟨_, _, h0⟩ | ⟨g, off, rfl, hg, hc⟩
    · cases h0
    have cx : w.cell? ⟨g, off, none⟩ = some (.int .u8 x) := by have := hc 0 (by simp); simpa using this
    have HC := Lib.hid hc
    have HB := Lib.hid h.ri.byt
    have H := Lib.hid h
    have OK := Lib.hid h.ok
    clear h hc
    have hnb : ¬ (some b = some g) := fun e => by
      obtain rfl := Option.some.inj e
      exact (H.out.fi b rfl).2 rfl
    clear hnb
    cases xs with
    | nil =>
      have hnc1 : (1 : Int) ≤ (c : Int) := by simp at hnc; omega
      simp only [List.length_cons, List.length_nil, Nat.zero_add] at H c0
      clear hnc hlen
      go_enter Tryz.func151, Tryz.ntmps151
      go_wp2
      go_still_tail 18, (by kernel_rfl)
      change wpList _ _ _ _ _ w.drew
      have O2 : Only (fun i => (Value.slice (some ⟨g, off, none⟩) 1 c).ownBlock = some i) w w.drew := (Only.refl _ w).drewN 1
      have f2 : w.drew.frozen? ⟨b, 0, none⟩ = false := f0
      have d0 : ∃ v, w.drew.cell? ⟨b, 0, none⟩ = some v := ⟨_, c0⟩
      have HO := Lib.hid O2
      have hg2 : g < w.drew.heap.size := hg
      clear O2 f0 c0
      generalize w.drew = w2 at *
      obtain ⟨v0, d0⟩ := d0
      go_wp2
      go_ret
      exact ⟨rfl, EndU.turnIn (t' := ⟨[], out, ier, fcr, lcr, mcr, scr, dl, dm, lost, sent⟩) H.out HO.out (cut_last hg2) (fun g hg => .inl hg) rfl ⟨by simp, OK.out.lo, OK.out.ier, OK.out.fcr, OK.out.lcr, OK.out.mcr, OK.out.scr, OK.out.dl, OK.out.dm⟩ rfl⟩
    | cons y ys =>
      have hlen2 : ys.length ≤ 14 := by simp at hlen; omega
      have hcut : ∀ wr, (Instr.slice 40 (.slice (some ⟨g, off, none⟩) (ys.length + 1 + 1) c) (some (.int .i64 1)) (some (.int .i64 ((ys.length : Int) + 1 + 1))) (some (.int .i64 ((ys.length : Int) + 1 + 1)))).run Tryz.prog wr = .ok (.slice (some ⟨g, off + 1, none⟩) (ys.length + 1) (ys.length + 1)) wr :=
        fun wr => run_cut wr g off (ys.length + 1 + 1) c (by omega) (by simpa using hnc) _ (by omega)
      clear hnc hlen
      go_enter Tryz.func151, Tryz.ntmps151
      go_wp2
      go_still_tail 18, (by kernel_rfl)
      change wpList _ _ _ _ _ w.drew
      have O2 : Only (fun i => (Value.slice (some ⟨g, off, none⟩) (ys.length + 1 + 1) c).ownBlock = some i) w w.drew := (Only.refl _ w).drewN 1
      have f2 : w.drew.frozen? ⟨b, 0, none⟩ = false := f0
      have d0 : ∃ v, w.drew.cell? ⟨b, 0, none⟩ = some v := ⟨_, c0⟩
      have HO := Lib.hid O2
      have HR2 : Hid (RowB w.drew (.slice (some ⟨g, off + 1, none⟩) (ys.length + 1) (ys.length + 1)) (y :: ys)) := Lib.hid (cut_full HB.out hg HC.out)
      clear O2 f0 c0
      generalize w.drew = w2 at *
      obtain ⟨v0, d0⟩ := d0
      go_wp2
      go_ret
      exact ⟨rfl, EndU.turnIn (t' := ⟨y :: ys, out, ier, fcr, lcr, mcr, scr, dl, dm, lost, sent⟩) H.out HO.out HR2.out (fun g hg => .inl hg) rfl ⟨by simp; omega, OK.out.lo, OK.out.ier, OK.out.fcr, OK.out.lcr, OK.out.mcr, OK.out.scr, OK.out.dl, OK.out.dm⟩ rfl⟩

end Go.Proofs.YtbcnkhfpogglmaaGreatDoor.U6

namespace Go.Proofs.YtbcnkhfpogglmaaGreatDoor.U6
open Go.RowKit
set_option linter.unusedVariables false
set_option maxRecDepth 100000

theorem new_cell (w : World) (v : Value) (ty : TypeId) : (w.alloc (.cells #[v] ty)).cell? ⟨w.heap.size, 0, none⟩ = some v := by
  rw [cell_of_row _ _ _ _ _ _ (heap_alloc_new w _)]; rfl
theorem below_alloc (w : World) (o : Obj) : Below w.heap.size w (w.alloc o) := (Below.refl _ _).alloc (Nat.le_refl _) o

def DoneU (w : World) (b : Nat) (F : Nat → Prop) (t' : US) (e : Ending) (w' : World) : Prop := (∃ u, e = .returned u) ∧ EndU cellsP 131 w b F t' w'
theorem sendT_ok {t : US} (h : t.ok) (b : Int) : (sendT t b).ok := ⟨h.li, by
    have := h.lo
    show (if t.out.length < 65536 then t.out ++ [b] else t.out).length ≤ 65536
    split
    · simp; omega
    · exact this, h.ier, h.fcr, h.lcr, h.mcr, h.scr, h.dl, h.dm⟩
set_option maxRecDepth 100000 in
set_option maxHeartbeats 2000000 in
theorem send_any (w : World) (b : Nat) (F : Nat → Prop) (t : US) (vi vo : Value) (h : HP w b F t vi vo) (x : Int) (hx : 0 ≤ x ∧ x < 256) :
    Calls Tryz.prog 154 #[.pointer (some ⟨b, 0, none⟩), .int .u8 x] w (DoneU w b F (sendT t x)) := by
  have hlo := h.ok.lo
  obtain ⟨a, c, hvo, hnc, hcm, hr⟩ := h.ro.reads (by omega)
  subst hvo
  obtain ⟨_, c1, _, _⟩ := h.pcells
  have f1 := h.free 1
  have f3 := h.free 3
  have HX := Lib.hid hx
  by_cases hlt : t.out.length < 65536
  · -- the byte is appended
    have h2 := h.below (below_alloc w (.cells #[.int .u8 x] 5))
    obtain ⟨v', w', hrun, hR, hO, hv⟩ := run_push (w.alloc (.cells #[.int .u8 x] 5)) _ t.out h2.ro (by omega) w.heap.size 0 x 1 (new_cell w _ _) hx 40
    obtain ⟨a2, c2, hv2, _, _, _⟩ := hR.reads (by simp; omega)
    have hl2 : (t.out ++ [x]).length = t.out.length + 1 := by simp
    rw [hl2] at hv2
    subst hv2
    have E1 : EndU cellsP 131 w b F { t with out := t.out ++ [x] } (w'.setCell ⟨b, 1, none⟩ (.slice a2 (t.out.length + 1) c2)) := by
      have k := EndU.turnOut (t' := { t with out := t.out ++ [x] }) h2 hO hR hv rfl ⟨h.ok.li, by simp; omega, h.ok.ier, h.ok.fcr, h.ok.lcr, h.ok.mcr, h.ok.scr, h.ok.dl, h.ok.dm⟩ rfl
      exact EndU.step (Only.of_below F (below_alloc w _)) (fun i hi => .inl hi) k
    have HE1 := Lib.hid E1
    have f1' : w'.frozen? ⟨b, 1, none⟩ = false := (World.frozen?_of_block (hO.block b (Nat.lt_of_lt_of_le h.blt (below_alloc w _).size) (fun e => (h2.fo b e).2 rfl))).trans (h2.free 1)
    have d1' : ∃ v, w'.cell? ⟨b, 1, none⟩ = some v := ⟨_, (World.cell?_of_block (hO.block b (Nat.lt_of_lt_of_le h.blt (below_alloc w _).size) (fun e => (h2.fo b e).2 rfl))).trans (h2.cell 1 rfl)⟩
    obtain ⟨v1, d1'⟩ := d1'
    have hT : sendT t x = { { t with out := t.out ++ [x] } with sent := true } := by unfold sendT; rw [if_pos hlt]
    have OK := Lib.hid (sendT_ok h.ok x)
    rw [hT] at OK ⊢
    have HRUN := Lib.hid hrun
    have HO2 := Lib.hid hO
    have hd : decide ((t.out.length : Int) < 65536) = true := by rw [decide_eq_true_eq]; omega
    clear hT h h2 hR hO hv hr E1 hx hrun hlo hlt
    generalize t.out.length = n at *
    go_enter Tryz.func154, Tryz.ntmps154
    go_upto_region 2 with ((at_builtin; refine wpList_append_run rfl _ _ _ rfl (.slice a n c) (.slice (some ⟨w.heap.size, 0, none⟩) 1 1) (.slice a2 (n + 1) c2) w' rfl rfl HRUN.out ?_))
    obtain ⟨ho, F1, hF1, vi1, vo1, h1⟩ := HE1.out
    generalize w'.setCell ⟨b, 1, none⟩ (.slice a2 (n + 1) c2) = w1 at *
    have H1 := Lib.hid h1
    have HO1 := Lib.hid ho
    have HF1 := Lib.hid hF1
    have f3b := h1.free 3
    obtain ⟨_, _, _, e3⟩ := h1.pcells
    clear h1 ho hF1 HE1 d1' f1' f1 f3 HRUN HO2 hnc hcm hd c1
    go_wp2
    go_end0
    exact ⟨⟨_, rfl⟩, EndU.step HO1.out HF1.out (EndU.set H1.out 3 (.bool true) rfl rfl OK.out rfl)⟩
  · have hd : decide ((t.out.length : Int) < 65536) = false := by rw [decide_eq_false_iff_not]; omega
    have hT : sendT t x = { t with sent := true } := by unfold sendT; rw [if_neg hlt]
    have OK := Lib.hid (sendT_ok h.ok x)
    have H := Lib.hid h
    rw [hT] at OK ⊢
    clear hT h hr hlt hlo hnc hcm hx
    generalize t.out.length = n at *
    go_enter Tryz.func154, Tryz.ntmps154
    go_wp2
    go_end0
    exact ⟨⟨_, rfl⟩, EndU.set H.out 3 (.bool true) rfl rfl OK.out rfl⟩

/-- What a call answers and leaves. -/
def TellU (w : World) (b : Nat) (F : Nat → Prop) (x : Value) (t' : US) (e : Ending) (w' : World) : Prop := e = .returned x ∧ EndU cellsP 131 w b F t' w'
theorem ok_sent {t : US} (h : t.ok) (s : Bool) : ({ t with sent := s } : US).ok := ⟨h.li, h.lo, h.ier, h.fcr, h.lcr, h.mcr, h.scr, h.dl, h.dm⟩
theorem ok_lost {t : US} (h : t.ok) (s : Bool) : ({ t with lost := s } : US).ok := ⟨h.li, h.lo, h.ier, h.fcr, h.lcr, h.mcr, h.scr, h.dl, h.dm⟩
theorem ok_inn {t : US} (h : t.ok) {l : List Int} (hl : l.length ≤ 16) : ({ t with inn := l } : US).ok := ⟨hl, h.lo, h.ier, h.fcr, h.lcr, h.mcr, h.scr, h.dl, h.dm⟩

/-! ### Feed, Waiting -/
set_option maxRecDepth 100000 in
set_option maxHeartbeats 2000000 in
theorem feed_any (w : World) (b : Nat) (F : Nat → Prop) (t : US) (vi vo : Value) (h : HP w b F t vi vo) (x : Int) (hx : 0 ≤ x ∧ x < 256) :
    Calls Tryz.prog 89 #[.pointer (some ⟨b, 0, none⟩), .int .u8 x] w (TellU w b F (.bool (feedK t)) (feedT t x)) := by
  have hli := h.ok.li
  obtain ⟨a, c, hvi, hnc, hcm, hr⟩ := h.ri.reads (by omega)
  subst hvi
  obtain ⟨c0, _, _, _⟩ := h.pcells
  have f0 := h.free 0
  have f2 := h.free 2
  have HX := Lib.hid hx
  by_cases hlt : t.inn.length < 16
  · have h2 := h.below (below_alloc w (.cells #[.int .u8 x] 5))
    obtain ⟨v', w', hrun, hR, hO, hv⟩ := run_push (w.alloc (.cells #[.int .u8 x] 5)) _ t.inn h2.ri (by omega) w.heap.size 0 x 1 (new_cell w _ _) hx 40
    obtain ⟨a2, c2, hv2, _, _, _⟩ := hR.reads (by simp; omega)
    have hl2 : (t.inn ++ [x]).length = t.inn.length + 1 := by simp
    rw [hl2] at hv2
    subst hv2
    have E1 : EndU cellsP 131 w b F { t with inn := t.inn ++ [x] } (w'.setCell ⟨b, 0, none⟩ (.slice a2 (t.inn.length + 1) c2)) := by
      have k := EndU.turnIn (t' := { t with inn := t.inn ++ [x] }) h2 hO hR hv rfl (ok_inn h.ok (by simp; omega)) rfl
      exact EndU.step (Only.of_below F (below_alloc w _)) (fun i hi => .inl hi) k
    have HE1 := Lib.hid E1
    have f0' : w'.frozen? ⟨b, 0, none⟩ = false := (World.frozen?_of_block (hO.block b (Nat.lt_of_lt_of_le h.blt (below_alloc w _).size) (fun e => (h2.fi b e).2 rfl))).trans (h2.free 0)
    have d0' : ∃ v, w'.cell? ⟨b, 0, none⟩ = some v := ⟨_, (World.cell?_of_block (hO.block b (Nat.lt_of_lt_of_le h.blt (below_alloc w _).size) (fun e => (h2.fi b e).2 rfl))).trans (h2.cell 0 rfl)⟩
    obtain ⟨v1, d0'⟩ := d0'
    have hT : feedT t x = { t with inn := t.inn ++ [x] } := by unfold feedT; rw [if_neg (by omega)]
    have hK : feedK t = true := decide_eq_true hlt
    have HRUN := Lib.hid hrun
    have hd : decide ((16 : Int) ≤ (t.inn.length : Int)) = false := by rw [decide_eq_false_iff_not]; omega
    rw [hT, hK]
    clear hT hK h h2 hR hO hv hr E1 hx hrun hli hlt
    generalize t.inn.length = n at *
    go_enter Tryz.func89, Tryz.ntmps89
    go_wp2_with ((at_builtin; refine wpList_append_run rfl _ _ _ rfl (.slice a n c) (.slice (some ⟨w.heap.size, 0, none⟩) 1 1) (.slice a2 (n + 1) c2) w' rfl rfl HRUN.out ?_))
    go_ret
    exact ⟨rfl, HE1.out⟩
  · have hd : decide ((16 : Int) ≤ (t.inn.length : Int)) = true := by rw [decide_eq_true_eq]; omega
    have hT : feedT t x = { t with lost := true } := by unfold feedT; rw [if_pos (by omega)]
    have hK : feedK t = false := decide_eq_false hlt
    have OK := Lib.hid (ok_lost h.ok true)
    have H := Lib.hid h
    rw [hT, hK]
    clear hT hK h hr hlt hli hnc hcm hx
    generalize t.inn.length = n at *
    go_enter Tryz.func89, Tryz.ntmps89
    go_wp2
    go_ret
    exact ⟨rfl, EndU.set H.out 2 (.bool true) rfl rfl OK.out rfl⟩
end Go.Proofs.YtbcnkhfpogglmaaGreatDoor.U6

namespace Go.Proofs.YtbcnkhfpogglmaaGreatDoor.U6
open Go.RowKit
set_option linter.unusedVariables false
set_option maxRecDepth 100000

theorem rdX2 {t : US} {r : Int} (h : rsn t = r) (hf : t.fcr = 1) : rdX t 2 = r + 192 := by show rsn t + _ = _; rw [h, if_pos hf]
theorem rdX2' {t : US} {r : Int} (h : rsn t = r) (hf : ¬ t.fcr = 1) : rdX t 2 = r := by show rsn t + _ = _; rw [h, if_neg hf]; omega
theorem rdT2 {t : US} (h : rsn t = 2) : rdT t 2 = { t with sent := false } := by show ({ t with sent := _ } : US) = _; rw [if_pos h]
theorem rdT2' {t : US} (h : ¬ rsn t = 2) : rdT t 2 = t := by show ({ t with sent := _ } : US) = _; rw [if_neg h]

set_option maxHeartbeats 2000000 in
theorem tellReason_any (w : World) (b : Nat) (F : Nat → Prop) (t : US) (vi vo : Value) (h : HP w b F t vi vo) :
    Calls Tryz.prog 152 #[.pointer (some ⟨b, 0, none⟩)] w (TellU w b F (.int .u8 (rdX t 2)) (rdT t 2)) := by
  have f3 := h.free 3
  obtain ⟨_, _, _, c3⟩ := h.pcells
  have h20 := hasV_fifo h.ok
  have H := Lib.hid h
  have H2 := Lib.hid (h.set 3 (.bool false) (t' := { t with sent := false }) rfl rfl (ok_sent h.ok false) rfl)
  have E2 := Lib.hid (EndU.set h 3 (.bool false) (t' := { t with sent := false }) rfl rfl (ok_sent h.ok false) rfl)
  have e20 : hasV { t with sent := false } 2 0 = hasV t 2 0 := rfl
  clear h
  rcases rsn_vals t with hr | hr | hr
  all_goals
    by_cases hf : t.fcr = 1
    all_goals
      first | rw [decide_eq_true hf] at h20 | rw [decide_eq_false hf] at h20
      rw [h20] at e20
      first | rw [rdX2 hr hf] | rw [rdX2' hr hf]
      first | rw [rdT2 hr] | rw [rdT2' (by omega)]
      have HRS := Lib.hid (reason_any w b F t vi vo H.out)
      rw [hr] at HRS
      clear hf hr
      go_enter Tryz.func152, Tryz.ntmps152
      go_wp2_with (first
        | (go_at_call 157; refine (HRS.out).mono ?_; rintro e w' ⟨rfl, rfl⟩)
        | (go_at_call 155; refine (has_any _ b F _ vi vo H.out _ _ (by decide) (by decide)).mono ?_; rintro e w' ⟨rfl, rfl⟩)
        | (go_at_call 155; refine (has_any _ b F _ vi vo H2.out _ _ (by decide) (by decide)).mono ?_; rintro e w' ⟨rfl, rfl⟩))
      go_ret
      first
        | exact ⟨rfl, E2.out⟩
        | exact ⟨rfl, EndU.refl H.out⟩

theorem rdX5 (t : US) (m : Nat) (hm : t.inn.length = m) : rdX t 5 = 96 + (if 0 < m then 1 else 0) + if t.lost = true then 2 else 0 := by subst hm; rfl
set_option maxHeartbeats 2000000 in
theorem tellStatus_any (w : World) (b : Nat) (F : Nat → Prop) (t : US) (vi vo : Value) (h : HP w b F t vi vo) :
    Calls Tryz.prog 153 #[.pointer (some ⟨b, 0, none⟩)] w (TellU w b F (.int .u8 (rdX t 5)) (rdT t 5)) := by
  have hli := h.ok.li
  obtain ⟨a, c, hvi, hnc, hcm, hr⟩ := h.ri.reads (by omega)
  subst hvi
  have f2 := h.free 2
  obtain ⟨c0, _, c2, _⟩ := h.pcells
  have E2 : Hid (EndU cellsP 131 w b F (rdT t 5) (w.setCell ⟨b, 2, none⟩ (.bool false))) := Lib.hid (EndU.set h 2 (.bool false) (t' := { t with lost := false }) rfl rfl (ok_lost h.ok false) rfl)
  have HX := Lib.hid (rdX5 t t.inn.length rfl)
  clear h hr hli hnc hcm
  generalize rdX t 5 = X at *
  generalize rdT t 5 = T at *
  generalize t.inn.length = n at *
  generalize t.lost = l at *
  by_cases hn : 0 < n
  · cases l
    all_goals
      go_enter Tryz.func153, Tryz.ntmps153
      go_wp2
      go_ret
      exact ⟨by rw [HX.out, if_pos hn]; rfl, E2.out⟩
  · obtain rfl : n = 0 := by omega
    cases l
    all_goals
      go_enter Tryz.func153, Tryz.ntmps153
      go_wp2
      go_ret
      exact ⟨by rw [HX.out, if_neg hn]; rfl, E2.out⟩

/-! ### the table of kept bits -/
def keptQ : Array Value := #[.int .u8 0, .int .u8 15, .int .u8 1, .int .u8 255, .int .u8 31, .int .u8 0, .int .u8 0, .int .u8 255, .int .u8 255, .int .u8 255]
/-- The program's table stands in its block. -/
def Tab (w : World) : Prop := ∃ t fr, w.heap[1]? = some (.cells keptQ t fr)
theorem Tab.lt {w : World} (h : Tab w) : 1 < w.heap.size := by obtain ⟨t, fr, h⟩ := h; exact (Array.getElem?_eq_some_iff.1 h).1
theorem Tab.below {w w' : World} (h : Tab w) (o : Below w.heap.size w w') : Tab w' := by
  have hl := h.lt
  obtain ⟨t, fr, h⟩ := h; exact ⟨t, fr, (o.block _ hl).trans h⟩
theorem Tab.keeps {w w' : World} {T : Nat → Prop} (h : Tab w) (o : Only T w w') (hT : ¬ T 1) : Tab w' := by obtain ⟨t, fr, h⟩ := h; exact ⟨t, fr, o.keeps hT h⟩
theorem Tab.cell {w : World} (h : Tab w) (k : Nat) {v : Value} (hv : keptQ[k]? = some v) : w.cell? ⟨1, k, none⟩ = some v := by
  obtain ⟨t, fr, h⟩ := h; rw [cell_of_row w _ k _ _ _ h, hv]

theorem and8 (x : Int) (h0 : 0 ≤ x) (h1 : x < 256) (m : Nat) (k : Nat) (hk : m = 2 ^ k - 1) (hm : m < 256) : bits .and .u8 x m = x % (2 ^ k : Nat) := by
  obtain ⟨n, rfl⟩ := Int.eq_ofNat_of_zero_le h0
  have hn : n < 256 := by omega
  have n8 : n % 2 ^ 8 = n := Nat.mod_eq_of_lt hn
  have m8 : m % 2 ^ 8 = m := Nat.mod_eq_of_lt hm
  show IntKind.u8.wrap ((BitVec.ofInt 8 (n : Int) &&& BitVec.ofInt 8 (m : Int)).toNat : Int) = _
  rw [BitVec.toNat_and, BitVec.ofInt_natCast, BitVec.ofInt_natCast, BitVec.toNat_ofNat, BitVec.toNat_ofNat, n8, m8, hk, Nat.and_two_pow_sub_one_eq_mod]
  have hlt : n % 2 ^ k < 256 := Nat.lt_of_le_of_lt (Nat.mod_le _ _) hn
  rw [show ((n : Int) % ((2 ^ k : Nat) : Int)) = ((n % 2 ^ k : Nat) : Int) from (Int.natCast_emod _ _).symm]
  generalize n % 2 ^ k = q at *
  clear n8 m8
  rw [IntKind.wrap_u8]; omega
theorem and8_0 {x : Int} (h0 : 0 ≤ x) (h1 : x < 256) : bits .and .u8 x 0 = 0 := by have := and8 x h0 h1 0 0 (by decide) (by decide); simpa using this
theorem and8_1 {x : Int} (h0 : 0 ≤ x) (h1 : x < 256) : bits .and .u8 x 1 = x % 2 := by have := and8 x h0 h1 1 1 (by decide) (by decide); simpa using this
theorem and8_15 {x : Int} (h0 : 0 ≤ x) (h1 : x < 256) : bits .and .u8 x 15 = x % 16 := by have := and8 x h0 h1 15 4 (by decide) (by decide); simpa using this
theorem and8_31 {x : Int} (h0 : 0 ≤ x) (h1 : x < 256) : bits .and .u8 x 31 = x % 32 := by have := and8 x h0 h1 31 5 (by decide) (by decide); simpa using this
theorem and8_255 {x : Int} (h0 : 0 ≤ x) (h1 : x < 256) : bits .and .u8 x 255 = x := by have := and8 x h0 h1 255 8 (by decide) (by decide); rw [show ((255 : Nat) : Int) = 255 from rfl] at this; rw [this]; omega
theorem wrap8 (v : Int) (h : 0 ≤ v) : IntKind.u8.wrap v = v % 256 := IntKind.wrap_u8 v

end Go.Proofs.YtbcnkhfpogglmaaGreatDoor.U6

namespace Go.Proofs.YtbcnkhfpogglmaaGreatDoor.U6
open Go.RowKit
set_option linter.unusedVariables false
set_option maxRecDepth 100000

theorem find_at (w : World) (b : Nat) (F : Nat → Prop) (t : US) (vi vo : Value) (h : HP w b F t vi vo) (off n : Int) (ho : In64 off) (z : Int) (hz : (plK t off n : Int) = z) (h10 : z < 10) :
    Calls Tryz.prog 150 #[.pointer (some ⟨b, 0, none⟩), .int .u64 off, .int .i64 n] w fun e w' => e = .returned (.tuple #[.int .i64 z, .bool true]) ∧ w = w' :=
  (find_any w b F t vi vo h off n ho).mono fun e w' ⟨hw, hq⟩ => by
    rcases hq with ⟨_, he⟩ | ⟨hk, _⟩
    · exact ⟨by rw [he, hz], hw⟩
    · omega
theorem find_out (w : World) (b : Nat) (F : Nat → Prop) (t : US) (vi vo : Value) (h : HP w b F t vi vo) (off n : Int) (ho : In64 off) (hz : plK t off n = 10) :
    Calls Tryz.prog 150 #[.pointer (some ⟨b, 0, none⟩), .int .u64 off, .int .i64 n] w fun e w' => e = .returned (.tuple #[.int .i64 0, .bool false]) ∧ w = w' :=
  (find_any w b F t vi vo h off n ho).mono fun e w' ⟨hw, hq⟩ => by
    rcases hq with ⟨hk, _⟩ | ⟨_, he⟩
    · omega
    · exact ⟨he, hw⟩
theorem bitP_1 (x : Int) (r : Bool) (hr : decide (x / 2 % 2 = 1) = r) (h0 : 0 ≤ x) (h1 : x < 256) (w : World) : Calls Tryz.prog 156 #[.int .u8 x, .int .i64 1] w fun e w' => e = .returned (.bool r) ∧ w = w' := by
  subst hr
  exact bitP_any x 1 (by decide) (by decide) h0 h1 w
theorem wrT_ok {t : US} (h : t.ok) (x : Int) (h0 : 0 ≤ x) (h1 : x < 256) (k : Nat) : (wrT t x k).ok := by
  unfold wrT
  split
  · exact sendT_ok h x
  · exact ⟨h.li, h.lo, ⟨by show 0 ≤ x % 16; omega, by show x % 16 < 16; omega⟩, h.fcr, h.lcr, h.mcr, h.scr, h.dl, h.dm⟩
  · refine ⟨?_, h.lo, h.ier, ⟨by show 0 ≤ x % 2; omega, by show x % 2 < 2; omega⟩, h.lcr, h.mcr, h.scr, h.dl, h.dm⟩
    show (if x / 2 % 2 = 1 then [] else t.inn).length ≤ 16
    split
    · simp
    · exact h.li
  · exact ⟨h.li, h.lo, h.ier, h.fcr, ⟨h0, h1⟩, h.mcr, h.scr, h.dl, h.dm⟩
  · exact ⟨h.li, h.lo, h.ier, h.fcr, h.lcr, ⟨by show 0 ≤ x % 32; omega, by show x % 32 < 32; omega⟩, h.scr, h.dl, h.dm⟩
  · exact ⟨h.li, h.lo, h.ier, h.fcr, h.lcr, h.mcr, ⟨h0, h1⟩, h.dl, h.dm⟩
  · exact ⟨h.li, h.lo, h.ier, h.fcr, h.lcr, h.mcr, h.scr, ⟨h0, h1⟩, h.dm⟩
  · exact ⟨h.li, h.lo, h.ier, h.fcr, h.lcr, h.mcr, h.scr, h.dl, ⟨h0, h1⟩⟩
  · exact h
theorem ierT_1 {t : US} {x : Int} (h : ¬ t.ier / 2 % 2 = 1) (h2 : x / 2 % 2 = 1) : ierT t x = { { t with sent := true } with ier := x % 16 } := by unfold ierT; rw [if_pos ⟨by omega, h2⟩]
theorem ierT_0 {t : US} {x : Int} (h : ¬ (¬ t.ier / 2 % 2 = 1 ∧ x / 2 % 2 = 1)) : ierT t x = { t with ier := x % 16 } := by unfold ierT; rw [if_neg (fun h2 => h ⟨by omega, h2.2⟩)]
theorem fcrT_1 {t : US} {x : Int} (h : x / 2 % 2 = 1) : fcrT t x = { { t with inn := [] } with fcr := x % 2 } := by unfold fcrT; rw [if_pos h]
theorem fcrT_0 {t : US} {x : Int} (h : ¬ x / 2 % 2 = 1) : fcrT t x = { t with fcr := x % 2 } := by unfold fcrT; rw [if_neg h]

theorem htb2 {w w' : World} {F : Nat → Prop} (h : Tab w) (hnt : ¬ F 1) (o : Only F w w') : Tab w' := h.keeps o hnt

set_option maxRecDepth 100000 in
set_option maxHeartbeats 4000000 in
theorem write_0 (w : World) (b : Nat) (F : Nat → Prop) (t : US) (vi vo : Value) (h : HP w b F t vi vo) (htb : Tab w) (hnt : ¬ F 1) (off n v : Int) (ho : In64 off) (hv : In64 v) (hk : plK t off n = 0) :
    Calls Tryz.prog 129 #[.pointer (some ⟨b, 0, none⟩), .int .u64 off, .int .i64 n, .int .u64 v] w (TellU w b F (.bool true) (wrT t (v % 256) 0)) := by
  have HFIND := Lib.hid (find_at w b F t vi vo h off n ho 0 (by rw [hk]; rfl) (by decide))
  have hw : IntKind.u8.wrap v = v % 256 := wrap8 v hv.1
  have x0 : 0 ≤ v % 256 := by omega
  have x1 : v % 256 < 256 := by omega
  have hw' : IntKind.u8.wrap (v % 256) = v % 256 := by rw [wrap8 _ x0]; omega
  generalize v % 256 = x at *
  have hand := and8_0 x0 x1
  have OK := Lib.hid (wrT_ok h.ok x x0 x1 0)
  have HT := Lib.hid htb
  have HW := Lib.hid hw
  have H := Lib.hid h
  clear hk ho hv htb
  have HSEND := Lib.hid (send_any w b F t vi vo h x ⟨x0, x1⟩)
  clear h hw
  have hw := HW.out
  go_enter Tryz.func129, Tryz.ntmps129
  go_upto_region 14 with (first
    | (go_at_call 150; refine (HFIND.out).mono ?_; rintro e w' ⟨rfl, rfl⟩)
    | (go_at_call 154; refine (HSEND.out).mono ?_; rintro e w1 ⟨⟨u, rfl⟩, ho, F1, hF1, vi1, vo1, h1⟩; have H1 := Lib.hid h1; have HO1 := Lib.hid ho; have HF1 := Lib.hid hF1; clear h1 ho hF1))
  have HT1 := Lib.hid (HT.out.keeps HO1.out hnt)
  have HD := Lib.hid (H1.out.keeps (T := fun _ => False) ((Only.refl _ w1).drewN 1) fun _ _ => id)
  have HOD := Lib.hid ((HO1.out).drewN 1)
  have fk := HD.out.free 4
  have dk := HD.out.pregs
  have hand2 := hand
  have f1 := H1.out.free 4
  have c1 := H1.out.pregs
  have ck : w1.cell? ⟨1, 0, none⟩ = some (.int .u8 0) := HT1.out.cell 0 rfl
  obtain ⟨r4, r5, r6, r7, r8, r9, r10, r11, r12, r13⟩ := dk
  obtain ⟨q4, q5, q6, q7, q8, q9, q10, q11, q12, q13⟩ := c1
  go_still_tail 10, (by kernel_rfl)
  change wpList _ _ _ _ _ (World.drewN w1 1)
  clear q4 q5 q6 q7 q8 q9 q10 q11 q12 q13 ck f1
  generalize World.drewN w1 1 = w2 at *
  go_wp2
  go_ret
  exact ⟨rfl, EndU.step HOD.out HF1.out (EndU.set HD.out 4 (.int .u8 0) rfl rfl OK.out rfl)⟩

set_option maxRecDepth 100000 in
set_option maxHeartbeats 4000000 in
theorem write_1 (w : World) (b : Nat) (F : Nat → Prop) (t : US) (vi vo : Value) (h : HP w b F t vi vo) (htb : Tab w) (hnt : ¬ F 1) (off n v : Int) (ho : In64 off) (hv : In64 v) (hk : plK t off n = 1) :
    Calls Tryz.prog 129 #[.pointer (some ⟨b, 0, none⟩), .int .u64 off, .int .i64 n, .int .u64 v] w (TellU w b F (.bool true) (wrT t (v % 256) 1)) := by
  have HFIND := Lib.hid (find_at w b F t vi vo h off n ho 1 (by rw [hk]; rfl) (by decide))
  have hw : IntKind.u8.wrap v = v % 256 := wrap8 v hv.1
  have x0 : 0 ≤ v % 256 := by omega
  have x1 : v % 256 < 256 := by omega
  have hw' : IntKind.u8.wrap (v % 256) = v % 256 := by rw [wrap8 _ x0]; omega
  generalize v % 256 = x at *
  have hand := and8_15 x0 x1
  have OK := Lib.hid (wrT_ok h.ok x x0 x1 1)
  have HT := Lib.hid htb
  have HW := Lib.hid hw
  have H := Lib.hid h
  clear hk ho hv htb
  have h11 := hasV_sent t
  have H1 := Lib.hid (h.set 3 (.bool true) (t' := { t with sent := true }) rfl rfl (ok_sent h.ok true) rfl)
  have HO1 := Lib.hid ((Only.refl F w).setCell (p := ⟨b, 3, none⟩) (.inl h.fb) (.bool true))
  have HT1 := Lib.hid (htb2 HT.out hnt HO1.out)
  have HF1 : Hid (∀ i, F i → F i ∨ w.heap.size ≤ i) := Lib.hid fun i hi => .inl hi
  have f3 := h.free 3
  have c3 := h.cell 3 (v := .bool t.sent) rfl
  clear h hw
  have hw := HW.out
  change Calls _ _ _ _ (TellU w b F (.bool true) (ierT t x))
  by_cases hA : t.ier / 2 % 2 = 1
  · have hT := ierT_0 (t := t) (x := x) (fun h => h.1 hA)
    have OK2 : Hid (ierT t x).ok := OK
    rw [decide_eq_true hA] at h11
    rw [hT] at OK2 ⊢
    clear hT OK hA H1 HO1 HT1
    have OK := OK2
    go_enter Tryz.func129, Tryz.ntmps129
    go_upto_region 14 with (first
      | (go_at_call 150; refine (HFIND.out).mono ?_; rintro e w' ⟨rfl, rfl⟩)
      | (go_at_call 155; refine (has_any _ b F _ vi vo H.out _ _ (by decide) (by decide)).mono ?_; rintro e w' ⟨rfl, rfl⟩))
    have HO1 := Lib.hid (Only.refl F w)
    have HD := Lib.hid (H.out.keeps (T := fun _ => False) ((Only.refl _ w).drewN 1) fun _ _ => id)
    have HOD := Lib.hid ((HO1.out).drewN 1)
    have fk := HD.out.free 5
    have dk := HD.out.pregs
    have hand2 := hand
    have f1 := H.out.free 5
    have c1 := H.out.pregs
    have ck : w.cell? ⟨1, 1, none⟩ = some (.int .u8 15) := HT.out.cell 1 rfl
    obtain ⟨r4, r5, r6, r7, r8, r9, r10, r11, r12, r13⟩ := dk
    obtain ⟨q4, q5, q6, q7, q8, q9, q10, q11, q12, q13⟩ := c1
    go_still_tail 10, (by kernel_rfl)
    change wpList _ _ _ _ _ (World.drewN w 1)
    clear q4 q5 q6 q7 q8 q9 q10 q11 q12 q13 ck f1
    generalize World.drewN w 1 = w2 at *
    go_wp2
    go_ret
    exact ⟨rfl, EndU.step HOD.out HF1.out (EndU.set HD.out 5 (.int .u8 (x % 16)) rfl rfl OK.out rfl)⟩
  · rw [decide_eq_false hA] at h11
    by_cases hB : x / 2 % 2 = 1
    · have hT := ierT_1 (t := t) (x := x) hA hB
      have OK2 : Hid (ierT t x).ok := OK
      have hb : decide (x / 2 % 2 = 1) = true := decide_eq_true hB
      have HBIT := Lib.hid (bitP_1 x true hb x0 x1)
      rw [hT] at OK2 ⊢
      clear hT OK hA hB hb
      have OK := OK2
      go_enter Tryz.func129, Tryz.ntmps129
      go_upto_region 14 with (first
        | (go_at_call 150; refine (HFIND.out).mono ?_; rintro e w' ⟨rfl, rfl⟩)
        | (go_at_call 155; refine (has_any _ b F _ vi vo H.out _ _ (by decide) (by decide)).mono ?_; rintro e w' ⟨rfl, rfl⟩)
        | (go_at_call 156; refine (HBIT.out _).mono ?_; rintro e w' ⟨rfl, rfl⟩))
      generalize w.setCell ⟨b, 3, none⟩ (.bool true) = w1 at *
      clear f3 c3
      have HD := Lib.hid (H1.out.keeps (T := fun _ => False) ((Only.refl _ w1).drewN 1) fun _ _ => id)
      have HOD := Lib.hid ((HO1.out).drewN 1)
      have fk := HD.out.free 5
      have dk := HD.out.pregs
      have hand2 := hand
      have f1 := H1.out.free 5
      have c1 := H1.out.pregs
      have ck : w1.cell? ⟨1, 1, none⟩ = some (.int .u8 15) := HT1.out.cell 1 rfl
      obtain ⟨r4, r5, r6, r7, r8, r9, r10, r11, r12, r13⟩ := dk
      obtain ⟨q4, q5, q6, q7, q8, q9, q10, q11, q12, q13⟩ := c1
      go_still_tail 10, (by kernel_rfl)
      change wpList _ _ _ _ _ (World.drewN w1 1)
      clear q4 q5 q6 q7 q8 q9 q10 q11 q12 q13 ck f1
      generalize World.drewN w1 1 = w2 at *
      go_wp2
      go_ret
      exact ⟨rfl, EndU.step HOD.out HF1.out (EndU.set HD.out 5 (.int .u8 (x % 16)) rfl rfl OK.out rfl)⟩
    · have hT := ierT_0 (t := t) (x := x) (fun h => hB h.2)
      have OK2 : Hid (ierT t x).ok := OK
      have hb : decide (x / 2 % 2 = 1) = false := decide_eq_false hB
      have HBIT := Lib.hid (bitP_1 x false hb x0 x1)
      rw [hT] at OK2 ⊢
      clear hT OK hA hB hb H1 HO1 HT1
      have OK := OK2
      go_enter Tryz.func129, Tryz.ntmps129
      go_upto_region 14 with (first
        | (go_at_call 150; refine (HFIND.out).mono ?_; rintro e w' ⟨rfl, rfl⟩)
        | (go_at_call 155; refine (has_any _ b F _ vi vo H.out _ _ (by decide) (by decide)).mono ?_; rintro e w' ⟨rfl, rfl⟩)
        | (go_at_call 156; refine (HBIT.out _).mono ?_; rintro e w' ⟨rfl, rfl⟩))
      have HO1 := Lib.hid (Only.refl F w)
      have HD := Lib.hid (H.out.keeps (T := fun _ => False) ((Only.refl _ w).drewN 1) fun _ _ => id)
      have HOD := Lib.hid ((HO1.out).drewN 1)
      have fk := HD.out.free 5
      have dk := HD.out.pregs
      have hand2 := hand
      have f1 := H.out.free 5
      have c1 := H.out.pregs
      have ck : w.cell? ⟨1, 1, none⟩ = some (.int .u8 15) := HT.out.cell 1 rfl
      obtain ⟨r4, r5, r6, r7, r8, r9, r10, r11, r12, r13⟩ := dk
      obtain ⟨q4, q5, q6, q7, q8, q9, q10, q11, q12, q13⟩ := c1
      go_still_tail 10, (by kernel_rfl)
      change wpList _ _ _ _ _ (World.drewN w 1)
      clear q4 q5 q6 q7 q8 q9 q10 q11 q12 q13 ck f1
      generalize World.drewN w 1 = w2 at *
      go_wp2
      go_ret
      exact ⟨rfl, EndU.step HOD.out HF1.out (EndU.set HD.out 5 (.int .u8 (x % 16)) rfl rfl OK.out rfl)⟩

set_option maxRecDepth 100000 in
set_option maxHeartbeats 4000000 in
theorem write_2 (w : World) (b : Nat) (F : Nat → Prop) (t : US) (vi vo : Value) (h : HP w b F t vi vo) (htb : Tab w) (hnt : ¬ F 1) (off n v : Int) (ho : In64 off) (hv : In64 v) (hk : plK t off n = 2) :
    Calls Tryz.prog 129 #[.pointer (some ⟨b, 0, none⟩), .int .u64 off, .int .i64 n, .int .u64 v] w (TellU w b F (.bool true) (wrT t (v % 256) 2)) := by
  have HFIND := Lib.hid (find_at w b F t vi vo h off n ho 2 (by rw [hk]; rfl) (by decide))
  have hw : IntKind.u8.wrap v = v % 256 := wrap8 v hv.1
  have x0 : 0 ≤ v % 256 := by omega
  have x1 : v % 256 < 256 := by omega
  have hw' : IntKind.u8.wrap (v % 256) = v % 256 := by rw [wrap8 _ x0]; omega
  generalize v % 256 = x at *
  have hand := and8_1 x0 x1
  have OK := Lib.hid (wrT_ok h.ok x x0 x1 2)
  have HT := Lib.hid htb
  have HW := Lib.hid hw
  have H := Lib.hid h
  clear hk ho hv htb
  have hli := h.ok.li
  have E1 : Hid (EndU cellsP 131 w b F { t with inn := [] } (w.setCell ⟨b, 0, none⟩ (.slice none 0 0))) := Lib.hid (EndU.turnIn (t' := { t with inn := [] }) h (Only.refl _ w) (RowB.nil w) (fun g hg => by cases hg) rfl (ok_inn h.ok (by simp)) rfl)
  have f0 := h.free 0
  have c0 := h.cell 0 (v := vi) rfl
  clear h hw
  have hw := HW.out
  change Calls _ _ _ _ (TellU w b F (.bool true) (fcrT t x))
  by_cases hB : x / 2 % 2 = 1
  · have hT := fcrT_1 (t := t) (x := x) hB
    have OK2 : Hid (fcrT t x).ok := OK
    have hb : decide (x / 2 % 2 = 1) = true := decide_eq_true hB
    have HBIT := Lib.hid (bitP_1 x true hb x0 x1)
    rw [hT] at OK2 ⊢
    clear hT OK hB hb hli
    have OK := OK2
    go_enter Tryz.func129, Tryz.ntmps129
    go_upto_region 14 with (first
      | (go_at_call 150; refine (HFIND.out).mono ?_; rintro e w' ⟨rfl, rfl⟩)
      | (go_at_call 156; refine (HBIT.out _).mono ?_; rintro e w' ⟨rfl, rfl⟩))
    obtain ⟨ho, F1, hF1, vi1, vo1, h1⟩ := E1.out
    generalize w.setCell ⟨b, 0, none⟩ (.slice none 0 0) = w1 at *
    have H1 := Lib.hid h1
    have HO1 := Lib.hid ho
    have HF1 := Lib.hid hF1
    have HT1 := Lib.hid (htb2 HT.out hnt ho)
    clear h1 ho hF1 E1 f0 c0
    have HD := Lib.hid (H1.out.keeps (T := fun _ => False) ((Only.refl _ w1).drewN 1) fun _ _ => id)
    have HOD := Lib.hid ((HO1.out).drewN 1)
    have fk := HD.out.free 6
    have dk := HD.out.pregs
    have hand2 := hand
    have f1 := H1.out.free 6
    have c1 := H1.out.pregs
    have ck : w1.cell? ⟨1, 2, none⟩ = some (.int .u8 1) := HT1.out.cell 2 rfl
    obtain ⟨r4, r5, r6, r7, r8, r9, r10, r11, r12, r13⟩ := dk
    obtain ⟨q4, q5, q6, q7, q8, q9, q10, q11, q12, q13⟩ := c1
    go_still_tail 10, (by kernel_rfl)
    change wpList _ _ _ _ _ (World.drewN w1 1)
    clear q4 q5 q6 q7 q8 q9 q10 q11 q12 q13 ck f1
    generalize World.drewN w1 1 = w2 at *
    go_wp2
    go_ret
    exact ⟨rfl, EndU.step HOD.out HF1.out (EndU.set HD.out 6 (.int .u8 (x % 2)) rfl rfl OK.out rfl)⟩
  · have hT := fcrT_0 (t := t) (x := x) hB
    have OK2 : Hid (fcrT t x).ok := OK
    have hb : decide (x / 2 % 2 = 1) = false := decide_eq_false hB
    have HBIT := Lib.hid (bitP_1 x false hb x0 x1)
    rw [hT] at OK2 ⊢
    clear hT OK hB hb hli E1 f0 c0
    have OK := OK2
    have HO1 := Lib.hid (Only.refl F w)
    have HF1 : Hid (∀ i, F i → F i ∨ w.heap.size ≤ i) := Lib.hid fun i hi => .inl hi
    go_enter Tryz.func129, Tryz.ntmps129
    go_upto_region 14 with (first
      | (go_at_call 150; refine (HFIND.out).mono ?_; rintro e w' ⟨rfl, rfl⟩)
      | (go_at_call 156; refine (HBIT.out _).mono ?_; rintro e w' ⟨rfl, rfl⟩))
    have HD := Lib.hid (H.out.keeps (T := fun _ => False) ((Only.refl _ w).drewN 1) fun _ _ => id)
    have HOD := Lib.hid ((HO1.out).drewN 1)
    have fk := HD.out.free 6
    have dk := HD.out.pregs
    have hand2 := hand
    have f1 := H.out.free 6
    have c1 := H.out.pregs
    have ck : w.cell? ⟨1, 2, none⟩ = some (.int .u8 1) := HT.out.cell 2 rfl
    obtain ⟨r4, r5, r6, r7, r8, r9, r10, r11, r12, r13⟩ := dk
    obtain ⟨q4, q5, q6, q7, q8, q9, q10, q11, q12, q13⟩ := c1
    go_still_tail 10, (by kernel_rfl)
    change wpList _ _ _ _ _ (World.drewN w 1)
    clear q4 q5 q6 q7 q8 q9 q10 q11 q12 q13 ck f1
    generalize World.drewN w 1 = w2 at *
    go_wp2
    go_ret
    exact ⟨rfl, EndU.step HOD.out HF1.out (EndU.set HD.out 6 (.int .u8 (x % 2)) rfl rfl OK.out rfl)⟩

set_option maxRecDepth 100000 in
set_option maxHeartbeats 4000000 in
theorem write_3 (w : World) (b : Nat) (F : Nat → Prop) (t : US) (vi vo : Value) (h : HP w b F t vi vo) (htb : Tab w) (hnt : ¬ F 1) (off n v : Int) (ho : In64 off) (hv : In64 v) (hk : plK t off n = 3) :
    Calls Tryz.prog 129 #[.pointer (some ⟨b, 0, none⟩), .int .u64 off, .int .i64 n, .int .u64 v] w (TellU w b F (.bool true) (wrT t (v % 256) 3)) := by
  have HFIND := Lib.hid (find_at w b F t vi vo h off n ho 3 (by rw [hk]; rfl) (by decide))
  have hw : IntKind.u8.wrap v = v % 256 := wrap8 v hv.1
  have x0 : 0 ≤ v % 256 := by omega
  have x1 : v % 256 < 256 := by omega
  have hw' : IntKind.u8.wrap (v % 256) = v % 256 := by rw [wrap8 _ x0]; omega
  generalize v % 256 = x at *
  have hand := and8_255 x0 x1
  have OK := Lib.hid (wrT_ok h.ok x x0 x1 3)
  have HT := Lib.hid htb
  have HW := Lib.hid hw
  have H := Lib.hid h
  clear hk ho hv htb
  clear h hw
  have hw := HW.out
  have HO1 := Lib.hid (Only.refl F w)
  have HF1 : Hid (∀ i, F i → F i ∨ w.heap.size ≤ i) := Lib.hid fun i hi => .inl hi
  go_enter Tryz.func129, Tryz.ntmps129
  go_upto_region 14 with (go_at_call 150; refine (HFIND.out).mono ?_; rintro e w' ⟨rfl, rfl⟩)
  have HD := Lib.hid (H.out.keeps (T := fun _ => False) ((Only.refl _ w).drewN 1) fun _ _ => id)
  have HOD := Lib.hid ((HO1.out).drewN 1)
  have fk := HD.out.free 7
  have dk := HD.out.pregs
  have hand2 := hand
  have f1 := H.out.free 7
  have c1 := H.out.pregs
  have ck : w.cell? ⟨1, 3, none⟩ = some (.int .u8 255) := HT.out.cell 3 rfl
  obtain ⟨r4, r5, r6, r7, r8, r9, r10, r11, r12, r13⟩ := dk
  obtain ⟨q4, q5, q6, q7, q8, q9, q10, q11, q12, q13⟩ := c1
  go_still_tail 10, (by kernel_rfl)
  change wpList _ _ _ _ _ (World.drewN w 1)
  clear q4 q5 q6 q7 q8 q9 q10 q11 q12 q13 ck f1
  generalize World.drewN w 1 = w2 at *
  go_wp2
  go_ret
  exact ⟨rfl, EndU.step HOD.out HF1.out (EndU.set HD.out 7 (.int .u8 x) rfl rfl OK.out rfl)⟩

set_option maxRecDepth 100000 in
set_option maxHeartbeats 4000000 in
theorem write_4 (w : World) (b : Nat) (F : Nat → Prop) (t : US) (vi vo : Value) (h : HP w b F t vi vo) (htb : Tab w) (hnt : ¬ F 1) (off n v : Int) (ho : In64 off) (hv : In64 v) (hk : plK t off n = 4) :
    Calls Tryz.prog 129 #[.pointer (some ⟨b, 0, none⟩), .int .u64 off, .int .i64 n, .int .u64 v] w (TellU w b F (.bool true) (wrT t (v % 256) 4)) := by
  have HFIND := Lib.hid (find_at w b F t vi vo h off n ho 4 (by rw [hk]; rfl) (by decide))
  have hw : IntKind.u8.wrap v = v % 256 := wrap8 v hv.1
  have x0 : 0 ≤ v % 256 := by omega
  have x1 : v % 256 < 256 := by omega
  have hw' : IntKind.u8.wrap (v % 256) = v % 256 := by rw [wrap8 _ x0]; omega
  generalize v % 256 = x at *
  have hand := and8_31 x0 x1
  have OK := Lib.hid (wrT_ok h.ok x x0 x1 4)
  have HT := Lib.hid htb
  have HW := Lib.hid hw
  have H := Lib.hid h
  clear hk ho hv htb
  clear h hw
  have hw := HW.out
  have HO1 := Lib.hid (Only.refl F w)
  have HF1 : Hid (∀ i, F i → F i ∨ w.heap.size ≤ i) := Lib.hid fun i hi => .inl hi
  go_enter Tryz.func129, Tryz.ntmps129
  go_upto_region 14 with (go_at_call 150; refine (HFIND.out).mono ?_; rintro e w' ⟨rfl, rfl⟩)
  have HD := Lib.hid (H.out.keeps (T := fun _ => False) ((Only.refl _ w).drewN 1) fun _ _ => id)
  have HOD := Lib.hid ((HO1.out).drewN 1)
  have fk := HD.out.free 8
  have dk := HD.out.pregs
  have hand2 := hand
  have f1 := H.out.free 8
  have c1 := H.out.pregs
  have ck : w.cell? ⟨1, 4, none⟩ = some (.int .u8 31) := HT.out.cell 4 rfl
  obtain ⟨r4, r5, r6, r7, r8, r9, r10, r11, r12, r13⟩ := dk
  obtain ⟨q4, q5, q6, q7, q8, q9, q10, q11, q12, q13⟩ := c1
  go_still_tail 10, (by kernel_rfl)
  change wpList _ _ _ _ _ (World.drewN w 1)
  clear q4 q5 q6 q7 q8 q9 q10 q11 q12 q13 ck f1
  generalize World.drewN w 1 = w2 at *
  go_wp2
  go_ret
  exact ⟨rfl, EndU.step HOD.out HF1.out (EndU.set HD.out 8 (.int .u8 (x % 32)) rfl rfl OK.out rfl)⟩

set_option maxRecDepth 100000 in
set_option maxHeartbeats 4000000 in
theorem write_5 (w : World) (b : Nat) (F : Nat → Prop) (t : US) (vi vo : Value) (h : HP w b F t vi vo) (htb : Tab w) (hnt : ¬ F 1) (off n v : Int) (ho : In64 off) (hv : In64 v) (hk : plK t off n = 5) :
    Calls Tryz.prog 129 #[.pointer (some ⟨b, 0, none⟩), .int .u64 off, .int .i64 n, .int .u64 v] w (TellU w b F (.bool true) (wrT t (v % 256) 5)) := by
  have HFIND := Lib.hid (find_at w b F t vi vo h off n ho 5 (by rw [hk]; rfl) (by decide))
  have hw : IntKind.u8.wrap v = v % 256 := wrap8 v hv.1
  have x0 : 0 ≤ v % 256 := by omega
  have x1 : v % 256 < 256 := by omega
  have hw' : IntKind.u8.wrap (v % 256) = v % 256 := by rw [wrap8 _ x0]; omega
  generalize v % 256 = x at *
  have hand := and8_0 x0 x1
  have OK := Lib.hid (wrT_ok h.ok x x0 x1 5)
  have HT := Lib.hid htb
  have HW := Lib.hid hw
  have H := Lib.hid h
  clear hk ho hv htb
  clear h hw
  have hw := HW.out
  have HO1 := Lib.hid (Only.refl F w)
  have HF1 : Hid (∀ i, F i → F i ∨ w.heap.size ≤ i) := Lib.hid fun i hi => .inl hi
  go_enter Tryz.func129, Tryz.ntmps129
  go_upto_region 14 with (go_at_call 150; refine (HFIND.out).mono ?_; rintro e w' ⟨rfl, rfl⟩)
  have HD := Lib.hid (H.out.keeps (T := fun _ => False) ((Only.refl _ w).drewN 1) fun _ _ => id)
  have HOD := Lib.hid ((HO1.out).drewN 1)
  have fk := HD.out.free 9
  have dk := HD.out.pregs
  have hand2 := hand
  have f1 := H.out.free 9
  have c1 := H.out.pregs
  have ck : w.cell? ⟨1, 5, none⟩ = some (.int .u8 0) := HT.out.cell 5 rfl
  obtain ⟨r4, r5, r6, r7, r8, r9, r10, r11, r12, r13⟩ := dk
  obtain ⟨q4, q5, q6, q7, q8, q9, q10, q11, q12, q13⟩ := c1
  go_still_tail 10, (by kernel_rfl)
  change wpList _ _ _ _ _ (World.drewN w 1)
  clear q4 q5 q6 q7 q8 q9 q10 q11 q12 q13 ck f1
  generalize World.drewN w 1 = w2 at *
  go_wp2
  go_ret
  exact ⟨rfl, EndU.step HOD.out HF1.out (EndU.set HD.out 9 (.int .u8 0) rfl rfl OK.out rfl)⟩

set_option maxRecDepth 100000 in
set_option maxHeartbeats 4000000 in
theorem write_6 (w : World) (b : Nat) (F : Nat → Prop) (t : US) (vi vo : Value) (h : HP w b F t vi vo) (htb : Tab w) (hnt : ¬ F 1) (off n v : Int) (ho : In64 off) (hv : In64 v) (hk : plK t off n = 6) :
    Calls Tryz.prog 129 #[.pointer (some ⟨b, 0, none⟩), .int .u64 off, .int .i64 n, .int .u64 v] w (TellU w b F (.bool true) (wrT t (v % 256) 6)) := by
  have HFIND := Lib.hid (find_at w b F t vi vo h off n ho 6 (by rw [hk]; rfl) (by decide))
  have hw : IntKind.u8.wrap v = v % 256 := wrap8 v hv.1
  have x0 : 0 ≤ v % 256 := by omega
  have x1 : v % 256 < 256 := by omega
  have hw' : IntKind.u8.wrap (v % 256) = v % 256 := by rw [wrap8 _ x0]; omega
  generalize v % 256 = x at *
  have hand := and8_0 x0 x1
  have OK := Lib.hid (wrT_ok h.ok x x0 x1 6)
  have HT := Lib.hid htb
  have HW := Lib.hid hw
  have H := Lib.hid h
  clear hk ho hv htb
  clear h hw
  have hw := HW.out
  have HO1 := Lib.hid (Only.refl F w)
  have HF1 : Hid (∀ i, F i → F i ∨ w.heap.size ≤ i) := Lib.hid fun i hi => .inl hi
  go_enter Tryz.func129, Tryz.ntmps129
  go_upto_region 14 with (go_at_call 150; refine (HFIND.out).mono ?_; rintro e w' ⟨rfl, rfl⟩)
  have HD := Lib.hid (H.out.keeps (T := fun _ => False) ((Only.refl _ w).drewN 1) fun _ _ => id)
  have HOD := Lib.hid ((HO1.out).drewN 1)
  have fk := HD.out.free 10
  have dk := HD.out.pregs
  have hand2 := hand
  have f1 := H.out.free 10
  have c1 := H.out.pregs
  have ck : w.cell? ⟨1, 6, none⟩ = some (.int .u8 0) := HT.out.cell 6 rfl
  obtain ⟨r4, r5, r6, r7, r8, r9, r10, r11, r12, r13⟩ := dk
  obtain ⟨q4, q5, q6, q7, q8, q9, q10, q11, q12, q13⟩ := c1
  go_still_tail 10, (by kernel_rfl)
  change wpList _ _ _ _ _ (World.drewN w 1)
  clear q4 q5 q6 q7 q8 q9 q10 q11 q12 q13 ck f1
  generalize World.drewN w 1 = w2 at *
  go_wp2
  go_ret
  exact ⟨rfl, EndU.step HOD.out HF1.out (EndU.set HD.out 10 (.int .u8 0) rfl rfl OK.out rfl)⟩

set_option maxRecDepth 100000 in
set_option maxHeartbeats 4000000 in
theorem write_7 (w : World) (b : Nat) (F : Nat → Prop) (t : US) (vi vo : Value) (h : HP w b F t vi vo) (htb : Tab w) (hnt : ¬ F 1) (off n v : Int) (ho : In64 off) (hv : In64 v) (hk : plK t off n = 7) :
    Calls Tryz.prog 129 #[.pointer (some ⟨b, 0, none⟩), .int .u64 off, .int .i64 n, .int .u64 v] w (TellU w b F (.bool true) (wrT t (v % 256) 7)) := by
  have HFIND := Lib.hid (find_at w b F t vi vo h off n ho 7 (by rw [hk]; rfl) (by decide))
  have hw : IntKind.u8.wrap v = v % 256 := wrap8 v hv.1
  have x0 : 0 ≤ v % 256 := by omega
  have x1 : v % 256 < 256 := by omega
  have hw' : IntKind.u8.wrap (v % 256) = v % 256 := by rw [wrap8 _ x0]; omega
  generalize v % 256 = x at *
  have hand := and8_255 x0 x1
  have OK := Lib.hid (wrT_ok h.ok x x0 x1 7)
  have HT := Lib.hid htb
  have HW := Lib.hid hw
  have H := Lib.hid h
  clear hk ho hv htb
  clear h hw
  have hw := HW.out
  have HO1 := Lib.hid (Only.refl F w)
  have HF1 : Hid (∀ i, F i → F i ∨ w.heap.size ≤ i) := Lib.hid fun i hi => .inl hi
  go_enter Tryz.func129, Tryz.ntmps129
  go_upto_region 14 with (go_at_call 150; refine (HFIND.out).mono ?_; rintro e w' ⟨rfl, rfl⟩)
  have HD := Lib.hid (H.out.keeps (T := fun _ => False) ((Only.refl _ w).drewN 1) fun _ _ => id)
  have HOD := Lib.hid ((HO1.out).drewN 1)
  have fk := HD.out.free 11
  have dk := HD.out.pregs
  have hand2 := hand
  have f1 := H.out.free 11
  have c1 := H.out.pregs
  have ck : w.cell? ⟨1, 7, none⟩ = some (.int .u8 255) := HT.out.cell 7 rfl
  obtain ⟨r4, r5, r6, r7, r8, r9, r10, r11, r12, r13⟩ := dk
  obtain ⟨q4, q5, q6, q7, q8, q9, q10, q11, q12, q13⟩ := c1
  go_still_tail 10, (by kernel_rfl)
  change wpList _ _ _ _ _ (World.drewN w 1)
  clear q4 q5 q6 q7 q8 q9 q10 q11 q12 q13 ck f1
  generalize World.drewN w 1 = w2 at *
  go_wp2
  go_ret
  exact ⟨rfl, EndU.step HOD.out HF1.out (EndU.set HD.out 11 (.int .u8 x) rfl rfl OK.out rfl)⟩

set_option maxRecDepth 100000 in
set_option maxHeartbeats 4000000 in
theorem write_8 (w : World) (b : Nat) (F : Nat → Prop) (t : US) (vi vo : Value) (h : HP w b F t vi vo) (htb : Tab w) (hnt : ¬ F 1) (off n v : Int) (ho : In64 off) (hv : In64 v) (hk : plK t off n = 8) :
    Calls Tryz.prog 129 #[.pointer (some ⟨b, 0, none⟩), .int .u64 off, .int .i64 n, .int .u64 v] w (TellU w b F (.bool true) (wrT t (v % 256) 8)) := by
  have HFIND := Lib.hid (find_at w b F t vi vo h off n ho 8 (by rw [hk]; rfl) (by decide))
  have hw : IntKind.u8.wrap v = v % 256 := wrap8 v hv.1
  have x0 : 0 ≤ v % 256 := by omega
  have x1 : v % 256 < 256 := by omega
  have hw' : IntKind.u8.wrap (v % 256) = v % 256 := by rw [wrap8 _ x0]; omega
  generalize v % 256 = x at *
  have hand := and8_255 x0 x1
  have OK := Lib.hid (wrT_ok h.ok x x0 x1 8)
  have HT := Lib.hid htb
  have HW := Lib.hid hw
  have H := Lib.hid h
  clear hk ho hv htb
  clear h hw
  have hw := HW.out
  have HO1 := Lib.hid (Only.refl F w)
  have HF1 : Hid (∀ i, F i → F i ∨ w.heap.size ≤ i) := Lib.hid fun i hi => .inl hi
  go_enter Tryz.func129, Tryz.ntmps129
  go_upto_region 14 with (go_at_call 150; refine (HFIND.out).mono ?_; rintro e w' ⟨rfl, rfl⟩)
  have HD := Lib.hid (H.out.keeps (T := fun _ => False) ((Only.refl _ w).drewN 1) fun _ _ => id)
  have HOD := Lib.hid ((HO1.out).drewN 1)
  have fk := HD.out.free 12
  have dk := HD.out.pregs
  have hand2 := hand
  have f1 := H.out.free 12
  have c1 := H.out.pregs
  have ck : w.cell? ⟨1, 8, none⟩ = some (.int .u8 255) := HT.out.cell 8 rfl
  obtain ⟨r4, r5, r6, r7, r8, r9, r10, r11, r12, r13⟩ := dk
  obtain ⟨q4, q5, q6, q7, q8, q9, q10, q11, q12, q13⟩ := c1
  go_still_tail 10, (by kernel_rfl)
  change wpList _ _ _ _ _ (World.drewN w 1)
  clear q4 q5 q6 q7 q8 q9 q10 q11 q12 q13 ck f1
  generalize World.drewN w 1 = w2 at *
  go_wp2
  go_ret
  exact ⟨rfl, EndU.step HOD.out HF1.out (EndU.set HD.out 12 (.int .u8 x) rfl rfl OK.out rfl)⟩

set_option maxRecDepth 100000 in
set_option maxHeartbeats 4000000 in
theorem write_9 (w : World) (b : Nat) (F : Nat → Prop) (t : US) (vi vo : Value) (h : HP w b F t vi vo) (htb : Tab w) (hnt : ¬ F 1) (off n v : Int) (ho : In64 off) (hv : In64 v) (hk : plK t off n = 9) :
    Calls Tryz.prog 129 #[.pointer (some ⟨b, 0, none⟩), .int .u64 off, .int .i64 n, .int .u64 v] w (TellU w b F (.bool true) (wrT t (v % 256) 9)) := by
  have HFIND := Lib.hid (find_at w b F t vi vo h off n ho 9 (by rw [hk]; rfl) (by decide))
  have hw : IntKind.u8.wrap v = v % 256 := wrap8 v hv.1
  have x0 : 0 ≤ v % 256 := by omega
  have x1 : v % 256 < 256 := by omega
  have hw' : IntKind.u8.wrap (v % 256) = v % 256 := by rw [wrap8 _ x0]; omega
  generalize v % 256 = x at *
  have hand := and8_255 x0 x1
  have OK := Lib.hid (wrT_ok h.ok x x0 x1 9)
  have HT := Lib.hid htb
  have HW := Lib.hid hw
  have H := Lib.hid h
  clear hk ho hv htb
  clear h hw
  have hw := HW.out
  have HO1 := Lib.hid (Only.refl F w)
  have HF1 : Hid (∀ i, F i → F i ∨ w.heap.size ≤ i) := Lib.hid fun i hi => .inl hi
  go_enter Tryz.func129, Tryz.ntmps129
  go_upto_region 14 with (go_at_call 150; refine (HFIND.out).mono ?_; rintro e w' ⟨rfl, rfl⟩)
  have HD := Lib.hid (H.out.keeps (T := fun _ => False) ((Only.refl _ w).drewN 1) fun _ _ => id)
  have HOD := Lib.hid ((HO1.out).drewN 1)
  have fk := HD.out.free 13
  have dk := HD.out.pregs
  have hand2 := hand
  have f1 := H.out.free 13
  have c1 := H.out.pregs
  have ck : w.cell? ⟨1, 9, none⟩ = some (.int .u8 255) := HT.out.cell 9 rfl
  obtain ⟨r4, r5, r6, r7, r8, r9, r10, r11, r12, r13⟩ := dk
  obtain ⟨q4, q5, q6, q7, q8, q9, q10, q11, q12, q13⟩ := c1
  go_still_tail 10, (by kernel_rfl)
  change wpList _ _ _ _ _ (World.drewN w 1)
  clear q4 q5 q6 q7 q8 q9 q10 q11 q12 q13 ck f1
  generalize World.drewN w 1 = w2 at *
  go_wp2
  go_ret
  exact ⟨rfl, EndU.step HOD.out HF1.out (EndU.set HD.out 13 (.int .u8 x) rfl rfl OK.out rfl)⟩

end Go.Proofs.YtbcnkhfpogglmaaGreatDoor.U6

namespace Go.Proofs.YtbcnkhfpogglmaaGreatDoor.U6
open Go.RowKit
set_option linter.unusedVariables false
set_option maxRecDepth 100000

theorem rdX_bd {t : US} (h : t.ok) (hb : Byt t.inn) (k : Nat) : 0 ≤ rdX t k ∧ rdX t k < 256 := by
  have e1 := h.ier
  have e2 := h.lcr
  have e3 := h.mcr
  have e4 := h.scr
  have e5 := h.dl
  have e6 := h.dm
  unfold rdX
  split
  · by_cases hn : 0 < t.inn.length
    · exact hb.get hn
    · have : t.inn.getD 0 0 = 0 := by simp [List.getD, show t.inn = [] from List.eq_nil_of_length_eq_zero (by omega)]
      omega
  · omega
  · rcases rsn_vals t with hr | hr | hr <;> (rw [hr]; split <;> omega)
  · omega
  · omega
  · split <;> split <;> omega
  · omega
  · omega
  · omega
  · omega
  · omega

set_option maxRecDepth 100000 in
set_option maxHeartbeats 4000000 in
theorem read_0 (w : World) (b : Nat) (F : Nat → Prop) (t : US) (vi vo : Value) (h : HP w b F t vi vo) (off n : Int) (ho : In64 off) (hk : plK t off n = 0) :
    Calls Tryz.prog 128 #[.pointer (some ⟨b, 0, none⟩), .int .u64 off, .int .i64 n] w (TellU w b F (.tuple #[.int .u64 (rdX t 0), .bool true]) (rdT t 0)) := by
  have HFIND := Lib.hid (find_at w b F t vi vo h off n ho 0 (by rw [hk]; rfl) (by decide))
  obtain ⟨c4, c5, c6, c7, c8, c9, c10, c11, c12, c13⟩ := h.pregs
  obtain ⟨x0, x1⟩ := rdX_bd h.ok h.ri.byt 0
  have H := Lib.hid h
  have HN : Hid (Calls Tryz.prog 151 #[.pointer (some ⟨b, 0, none⟩)] w fun e w' => e = .returned (.int .u8 (rdX t 0)) ∧ EndU cellsP 131 w b F (rdT t 0) w') := Lib.hid (next_any w b F t vi vo h)
  generalize rdX t 0 = X at *
  generalize rdT t 0 = T at *
  clear h hk ho
  go_enter Tryz.func128, Tryz.ntmps128
  go_wp2_with (first
    | (go_at_call 150; refine (HFIND.out).mono ?_; rintro e w' ⟨rfl, rfl⟩)
    | (go_at_call 151; refine (HN.out).mono ?_; rintro e w' ⟨rfl, hE⟩; have HE := Lib.hid hE; clear hE))
  go_ret2
  exact ⟨rfl, HE.out⟩

set_option maxRecDepth 100000 in
set_option maxHeartbeats 4000000 in
theorem read_1 (w : World) (b : Nat) (F : Nat → Prop) (t : US) (vi vo : Value) (h : HP w b F t vi vo) (off n : Int) (ho : In64 off) (hk : plK t off n = 1) :
    Calls Tryz.prog 128 #[.pointer (some ⟨b, 0, none⟩), .int .u64 off, .int .i64 n] w (TellU w b F (.tuple #[.int .u64 (rdX t 1), .bool true]) (rdT t 1)) := by
  have HFIND := Lib.hid (find_at w b F t vi vo h off n ho 1 (by rw [hk]; rfl) (by decide))
  obtain ⟨c4, c5, c6, c7, c8, c9, c10, c11, c12, c13⟩ := h.pregs
  obtain ⟨x0, x1⟩ := rdX_bd h.ok h.ri.byt 1
  have H := Lib.hid h
  change Calls _ _ _ _ (TellU w b F (.tuple #[.int .u64 t.ier, .bool true]) t)
  change 0 ≤ t.ier at x0
  change t.ier < 256 at x1
  generalize t.ier = X at *
  clear h hk ho
  go_enter Tryz.func128, Tryz.ntmps128
  go_wp2_with (first
    | (go_at_call 150; refine (HFIND.out).mono ?_; rintro e w' ⟨rfl, rfl⟩))
  go_ret2
  exact ⟨rfl, EndU.refl H.out⟩

set_option maxRecDepth 100000 in
set_option maxHeartbeats 4000000 in
theorem read_2 (w : World) (b : Nat) (F : Nat → Prop) (t : US) (vi vo : Value) (h : HP w b F t vi vo) (off n : Int) (ho : In64 off) (hk : plK t off n = 2) :
    Calls Tryz.prog 128 #[.pointer (some ⟨b, 0, none⟩), .int .u64 off, .int .i64 n] w (TellU w b F (.tuple #[.int .u64 (rdX t 2), .bool true]) (rdT t 2)) := by
  have HFIND := Lib.hid (find_at w b F t vi vo h off n ho 2 (by rw [hk]; rfl) (by decide))
  obtain ⟨c4, c5, c6, c7, c8, c9, c10, c11, c12, c13⟩ := h.pregs
  obtain ⟨x0, x1⟩ := rdX_bd h.ok h.ri.byt 2
  have H := Lib.hid h
  have HN : Hid (Calls Tryz.prog 152 #[.pointer (some ⟨b, 0, none⟩)] w fun e w' => e = .returned (.int .u8 (rdX t 2)) ∧ EndU cellsP 131 w b F (rdT t 2) w') := Lib.hid (tellReason_any w b F t vi vo h)
  generalize rdX t 2 = X at *
  generalize rdT t 2 = T at *
  clear h hk ho
  go_enter Tryz.func128, Tryz.ntmps128
  go_wp2_with (first
    | (go_at_call 150; refine (HFIND.out).mono ?_; rintro e w' ⟨rfl, rfl⟩)
    | (go_at_call 152; refine (HN.out).mono ?_; rintro e w' ⟨rfl, hE⟩; have HE := Lib.hid hE; clear hE))
  go_ret2
  exact ⟨rfl, HE.out⟩

set_option maxRecDepth 100000 in
set_option maxHeartbeats 4000000 in
theorem read_3 (w : World) (b : Nat) (F : Nat → Prop) (t : US) (vi vo : Value) (h : HP w b F t vi vo) (off n : Int) (ho : In64 off) (hk : plK t off n = 3) :
    Calls Tryz.prog 128 #[.pointer (some ⟨b, 0, none⟩), .int .u64 off, .int .i64 n] w (TellU w b F (.tuple #[.int .u64 (rdX t 3), .bool true]) (rdT t 3)) := by
  have HFIND := Lib.hid (find_at w b F t vi vo h off n ho 3 (by rw [hk]; rfl) (by decide))
  obtain ⟨c4, c5, c6, c7, c8, c9, c10, c11, c12, c13⟩ := h.pregs
  obtain ⟨x0, x1⟩ := rdX_bd h.ok h.ri.byt 3
  have H := Lib.hid h
  change Calls _ _ _ _ (TellU w b F (.tuple #[.int .u64 t.lcr, .bool true]) t)
  change 0 ≤ t.lcr at x0
  change t.lcr < 256 at x1
  generalize t.lcr = X at *
  clear h hk ho
  go_enter Tryz.func128, Tryz.ntmps128
  go_wp2_with (first
    | (go_at_call 150; refine (HFIND.out).mono ?_; rintro e w' ⟨rfl, rfl⟩))
  go_ret2
  exact ⟨rfl, EndU.refl H.out⟩

set_option maxRecDepth 100000 in
set_option maxHeartbeats 4000000 in
theorem read_4 (w : World) (b : Nat) (F : Nat → Prop) (t : US) (vi vo : Value) (h : HP w b F t vi vo) (off n : Int) (ho : In64 off) (hk : plK t off n = 4) :
    Calls Tryz.prog 128 #[.pointer (some ⟨b, 0, none⟩), .int .u64 off, .int .i64 n] w (TellU w b F (.tuple #[.int .u64 (rdX t 4), .bool true]) (rdT t 4)) := by
  have HFIND := Lib.hid (find_at w b F t vi vo h off n ho 4 (by rw [hk]; rfl) (by decide))
  obtain ⟨c4, c5, c6, c7, c8, c9, c10, c11, c12, c13⟩ := h.pregs
  obtain ⟨x0, x1⟩ := rdX_bd h.ok h.ri.byt 4
  have H := Lib.hid h
  change Calls _ _ _ _ (TellU w b F (.tuple #[.int .u64 t.mcr, .bool true]) t)
  change 0 ≤ t.mcr at x0
  change t.mcr < 256 at x1
  generalize t.mcr = X at *
  clear h hk ho
  go_enter Tryz.func128, Tryz.ntmps128
  go_wp2_with (first
    | (go_at_call 150; refine (HFIND.out).mono ?_; rintro e w' ⟨rfl, rfl⟩))
  go_ret2
  exact ⟨rfl, EndU.refl H.out⟩

set_option maxRecDepth 100000 in
set_option maxHeartbeats 4000000 in
theorem read_5 (w : World) (b : Nat) (F : Nat → Prop) (t : US) (vi vo : Value) (h : HP w b F t vi vo) (off n : Int) (ho : In64 off) (hk : plK t off n = 5) :
    Calls Tryz.prog 128 #[.pointer (some ⟨b, 0, none⟩), .int .u64 off, .int .i64 n] w (TellU w b F (.tuple #[.int .u64 (rdX t 5), .bool true]) (rdT t 5)) := by
  have HFIND := Lib.hid (find_at w b F t vi vo h off n ho 5 (by rw [hk]; rfl) (by decide))
  obtain ⟨c4, c5, c6, c7, c8, c9, c10, c11, c12, c13⟩ := h.pregs
  obtain ⟨x0, x1⟩ := rdX_bd h.ok h.ri.byt 5
  have H := Lib.hid h
  have HN : Hid (Calls Tryz.prog 153 #[.pointer (some ⟨b, 0, none⟩)] w fun e w' => e = .returned (.int .u8 (rdX t 5)) ∧ EndU cellsP 131 w b F (rdT t 5) w') := Lib.hid (tellStatus_any w b F t vi vo h)
  generalize rdX t 5 = X at *
  generalize rdT t 5 = T at *
  clear h hk ho
  go_enter Tryz.func128, Tryz.ntmps128
  go_wp2_with (first
    | (go_at_call 150; refine (HFIND.out).mono ?_; rintro e w' ⟨rfl, rfl⟩)
    | (go_at_call 153; refine (HN.out).mono ?_; rintro e w' ⟨rfl, hE⟩; have HE := Lib.hid hE; clear hE))
  go_ret2
  exact ⟨rfl, HE.out⟩

set_option maxRecDepth 100000 in
set_option maxHeartbeats 4000000 in
theorem read_6 (w : World) (b : Nat) (F : Nat → Prop) (t : US) (vi vo : Value) (h : HP w b F t vi vo) (off n : Int) (ho : In64 off) (hk : plK t off n = 6) :
    Calls Tryz.prog 128 #[.pointer (some ⟨b, 0, none⟩), .int .u64 off, .int .i64 n] w (TellU w b F (.tuple #[.int .u64 (rdX t 6), .bool true]) (rdT t 6)) := by
  have HFIND := Lib.hid (find_at w b F t vi vo h off n ho 6 (by rw [hk]; rfl) (by decide))
  obtain ⟨c4, c5, c6, c7, c8, c9, c10, c11, c12, c13⟩ := h.pregs
  obtain ⟨x0, x1⟩ := rdX_bd h.ok h.ri.byt 6
  have H := Lib.hid h
  change Calls _ _ _ _ (TellU w b F (.tuple #[.int .u64 176, .bool true]) t)
  clear h hk ho
  go_enter Tryz.func128, Tryz.ntmps128
  go_wp2_with (first
    | (go_at_call 150; refine (HFIND.out).mono ?_; rintro e w' ⟨rfl, rfl⟩))
  go_ret2
  exact ⟨rfl, EndU.refl H.out⟩

set_option maxRecDepth 100000 in
set_option maxHeartbeats 4000000 in
theorem read_7 (w : World) (b : Nat) (F : Nat → Prop) (t : US) (vi vo : Value) (h : HP w b F t vi vo) (off n : Int) (ho : In64 off) (hk : plK t off n = 7) :
    Calls Tryz.prog 128 #[.pointer (some ⟨b, 0, none⟩), .int .u64 off, .int .i64 n] w (TellU w b F (.tuple #[.int .u64 (rdX t 7), .bool true]) (rdT t 7)) := by
  have HFIND := Lib.hid (find_at w b F t vi vo h off n ho 7 (by rw [hk]; rfl) (by decide))
  obtain ⟨c4, c5, c6, c7, c8, c9, c10, c11, c12, c13⟩ := h.pregs
  obtain ⟨x0, x1⟩ := rdX_bd h.ok h.ri.byt 7
  have H := Lib.hid h
  change Calls _ _ _ _ (TellU w b F (.tuple #[.int .u64 t.scr, .bool true]) t)
  change 0 ≤ t.scr at x0
  change t.scr < 256 at x1
  generalize t.scr = X at *
  clear h hk ho
  go_enter Tryz.func128, Tryz.ntmps128
  go_wp2_with (first
    | (go_at_call 150; refine (HFIND.out).mono ?_; rintro e w' ⟨rfl, rfl⟩))
  go_ret2
  exact ⟨rfl, EndU.refl H.out⟩

set_option maxRecDepth 100000 in
set_option maxHeartbeats 4000000 in
theorem read_8 (w : World) (b : Nat) (F : Nat → Prop) (t : US) (vi vo : Value) (h : HP w b F t vi vo) (off n : Int) (ho : In64 off) (hk : plK t off n = 8) :
    Calls Tryz.prog 128 #[.pointer (some ⟨b, 0, none⟩), .int .u64 off, .int .i64 n] w (TellU w b F (.tuple #[.int .u64 (rdX t 8), .bool true]) (rdT t 8)) := by
  have HFIND := Lib.hid (find_at w b F t vi vo h off n ho 8 (by rw [hk]; rfl) (by decide))
  obtain ⟨c4, c5, c6, c7, c8, c9, c10, c11, c12, c13⟩ := h.pregs
  obtain ⟨x0, x1⟩ := rdX_bd h.ok h.ri.byt 8
  have H := Lib.hid h
  change Calls _ _ _ _ (TellU w b F (.tuple #[.int .u64 t.dl, .bool true]) t)
  change 0 ≤ t.dl at x0
  change t.dl < 256 at x1
  generalize t.dl = X at *
  clear h hk ho
  go_enter Tryz.func128, Tryz.ntmps128
  go_wp2_with (first
    | (go_at_call 150; refine (HFIND.out).mono ?_; rintro e w' ⟨rfl, rfl⟩))
  go_ret2
  exact ⟨rfl, EndU.refl H.out⟩

set_option maxRecDepth 100000 in
set_option maxHeartbeats 4000000 in
theorem read_9 (w : World) (b : Nat) (F : Nat → Prop) (t : US) (vi vo : Value) (h : HP w b F t vi vo) (off n : Int) (ho : In64 off) (hk : plK t off n = 9) :
    Calls Tryz.prog 128 #[.pointer (some ⟨b, 0, none⟩), .int .u64 off, .int .i64 n] w (TellU w b F (.tuple #[.int .u64 (rdX t 9), .bool true]) (rdT t 9)) := by
  have HFIND := Lib.hid (find_at w b F t vi vo h off n ho 9 (by rw [hk]; rfl) (by decide))
  obtain ⟨c4, c5, c6, c7, c8, c9, c10, c11, c12, c13⟩ := h.pregs
  obtain ⟨x0, x1⟩ := rdX_bd h.ok h.ri.byt 9
  have H := Lib.hid h
  change Calls _ _ _ _ (TellU w b F (.tuple #[.int .u64 t.dm, .bool true]) t)
  change 0 ≤ t.dm at x0
  change t.dm < 256 at x1
  generalize t.dm = X at *
  clear h hk ho
  go_enter Tryz.func128, Tryz.ntmps128
  go_wp2_with (first
    | (go_at_call 150; refine (HFIND.out).mono ?_; rintro e w' ⟨rfl, rfl⟩))
  go_ret2
  exact ⟨rfl, EndU.refl H.out⟩

theorem read_out (w : World) (b : Nat) (F : Nat → Prop) (t : US) (vi vo : Value) (h : HP w b F t vi vo) (off n : Int) (ho : In64 off) (hk : plK t off n = 10) :
    Calls Tryz.prog 128 #[.pointer (some ⟨b, 0, none⟩), .int .u64 off, .int .i64 n] w (TellU w b F (.tuple #[.int .u64 0, .bool false]) t) := by
  have HFIND := Lib.hid (find_out w b F t vi vo h off n ho hk)
  have H := Lib.hid h
  clear h hk ho
  go_enter Tryz.func128, Tryz.ntmps128
  go_wp2_with (go_at_call 150; refine (HFIND.out).mono ?_; rintro e w' ⟨rfl, rfl⟩)
  go_ret2
  exact ⟨rfl, EndU.refl H.out⟩
theorem write_out (w : World) (b : Nat) (F : Nat → Prop) (t : US) (vi vo : Value) (h : HP w b F t vi vo) (off n v : Int) (ho : In64 off) (hk : plK t off n = 10) :
    Calls Tryz.prog 129 #[.pointer (some ⟨b, 0, none⟩), .int .u64 off, .int .i64 n, .int .u64 v] w (TellU w b F (.bool false) t) := by
  have HFIND := Lib.hid (find_out w b F t vi vo h off n ho hk)
  have H := Lib.hid h
  clear h hk ho
  go_enter Tryz.func129, Tryz.ntmps129
  go_wp2_with (go_at_call 150; refine (HFIND.out).mono ?_; rintro e w' ⟨rfl, rfl⟩)
  go_ret
  exact ⟨rfl, EndU.refl H.out⟩
theorem plK_le (t : US) (off n : Int) : plK t off n ≤ 10 := by
  unfold plK
  split
  · split <;> omega
  · omega
theorem ten {k : Nat} (h : k ≤ 10) : k = 0 ∨ k = 1 ∨ k = 2 ∨ k = 3 ∨ k = 4 ∨ k = 5 ∨ k = 6 ∨ k = 7 ∨ k = 8 ∨ k = 9 ∨ k = 10 := by omega
theorem read_any (w : World) (b : Nat) (F : Nat → Prop) (t : US) (h : UP w b F t) (off n : Int) (ho : In64 off) :
    Calls Tryz.prog 128 #[.pointer (some ⟨b, 0, none⟩), .int .u64 off, .int .i64 n] w (TellU w b F (.tuple #[.int .u64 (rdX t (plK t off n)), .bool (okK (plK t off n))]) (rdT t (plK t off n))) := by
  obtain ⟨vi, vo, h⟩ := h
  rcases ten (plK_le t off n) with hk | hk | hk | hk | hk | hk | hk | hk | hk | hk | hk
  · rw [hk]; exact read_0 w b F t vi vo h off n ho hk
  · rw [hk]; exact read_1 w b F t vi vo h off n ho hk
  · rw [hk]; exact read_2 w b F t vi vo h off n ho hk
  · rw [hk]; exact read_3 w b F t vi vo h off n ho hk
  · rw [hk]; exact read_4 w b F t vi vo h off n ho hk
  · rw [hk]; exact read_5 w b F t vi vo h off n ho hk
  · rw [hk]; exact read_6 w b F t vi vo h off n ho hk
  · rw [hk]; exact read_7 w b F t vi vo h off n ho hk
  · rw [hk]; exact read_8 w b F t vi vo h off n ho hk
  · rw [hk]; exact read_9 w b F t vi vo h off n ho hk
  · rw [hk]; exact read_out w b F t vi vo h off n ho hk
theorem write_any (w : World) (b : Nat) (F : Nat → Prop) (t : US) (h : UP w b F t) (htb : Tab w) (hnt : ¬ F 1) (off n v : Int) (ho : In64 off) (hv : In64 v) :
    Calls Tryz.prog 129 #[.pointer (some ⟨b, 0, none⟩), .int .u64 off, .int .i64 n, .int .u64 v] w (TellU w b F (.bool (okK (plK t off n))) (wrT t (v % 256) (plK t off n))) := by
  obtain ⟨vi, vo, h⟩ := h
  rcases ten (plK_le t off n) with hk | hk | hk | hk | hk | hk | hk | hk | hk | hk | hk
  · rw [hk]; exact write_0 w b F t vi vo h htb hnt off n v ho hv hk
  · rw [hk]; exact write_1 w b F t vi vo h htb hnt off n v ho hv hk
  · rw [hk]; exact write_2 w b F t vi vo h htb hnt off n v ho hv hk
  · rw [hk]; exact write_3 w b F t vi vo h htb hnt off n v ho hv hk
  · rw [hk]; exact write_4 w b F t vi vo h htb hnt off n v ho hv hk
  · rw [hk]; exact write_5 w b F t vi vo h htb hnt off n v ho hv hk
  · rw [hk]; exact write_6 w b F t vi vo h htb hnt off n v ho hv hk
  · rw [hk]; exact write_7 w b F t vi vo h htb hnt off n v ho hv hk
  · rw [hk]; exact write_8 w b F t vi vo h htb hnt off n v ho hv hk
  · rw [hk]; exact write_9 w b F t vi vo h htb hnt off n v ho hv hk
  · rw [hk]; exact write_out w b F t vi vo h off n v ho hk

end Go.Proofs.YtbcnkhfpogglmaaGreatDoor.U6

namespace Go.Proofs.YtbcnkhfpogglmaaGreatDoor.U6
open Go.RowKit
set_option linter.unusedVariables false
set_option maxRecDepth 100000

/-- What a copy of a row is. -/
def CloneE (w : World) (xs : List Int) (e : Ending) (w' : World) : Prop := ∃ a c, e = .returned (.slice a xs.length c) ∧ Below w.heap.size w w' ∧ RowB w' (.slice a xs.length c) xs ∧ w'.ownsRow w.heap.size 5 1 (.slice a xs.length c) xs.length (u8s xs)
set_option maxHeartbeats 1000000 in
theorem clone_any (w : World) (v : Value) (xs : List Int) (h : RowB w v xs) (hl : xs.length ≤ 70000) : Calls Tryz.prog 92 #[v] w (CloneE w xs) := by
  have H := Lib.hid h
  obtain ⟨a, c, rfl, hnc, hcm, hr⟩ := h.reads hl
  have HL := Lib.hid hl
  rcases hr with ⟨rfl, rfl, rfl⟩ | ⟨g, off, rfl, hg, hc⟩
  · clear h hl
    have hq := Lib.run_eql_slice_nil (P := Tryz.prog) w 40 5 none 0 0 0 0 Tryz.underlying40
    simp only [Option.isNone_none] at hq
    go_enter Tryz.func92, Tryz.ntmps92
    go_wp2
    go_ret
    exact ⟨none, 0, rfl, Below.refl _ _, RowB.nil w, World.ownsRow_nil _ _ _ _⟩
  · have h2 := h.below (below_alloc w (.cells #[] 5))
    obtain ⟨v', w', hrun, hO, hR, hOn, hv⟩ := run_pour (w.alloc (.cells #[] 5)) _ xs h2 hl (by simp) w.heap.size (.slice (some ⟨w.heap.size, 0, none⟩) 0 0) (World.ownsRow_made w #[] 0 (Nat.le_refl _) (Nat.zero_le _) rfl) (by rw [World.size_alloc]; omega) 40
    obtain ⟨a2, c2, hv2, _, _, _⟩ := hR.reads hl
    subst hv2
    have hB : Below w.heap.size w w' := (below_alloc w (.cells #[] 5)).trans (hOn.below (fun k hk => by simp [Value.ownBlock] at hk; omega) (by rw [World.size_alloc]; omega))
    have HRUN := Lib.hid hrun
    have HE : Hid (CloneE w xs (.returned (.slice a2 xs.length c2)) w') := Lib.hid ⟨a2, c2, rfl, hB, hR, hO⟩
    clear h h2 hrun hO hR hOn hv hB hc hl hnc hcm
    generalize xs.length = n at *
    have hq := Lib.run_eql_slice_nil (P := Tryz.prog) w 40 5 (some ⟨g, off, none⟩) n c 0 0 Tryz.underlying40
    simp only [Option.isNone_some] at hq
    go_enter Tryz.func92, Tryz.ntmps92
    go_wp2_with ((at_builtin; refine wpList_append_run rfl _ _ _ rfl (.slice (some ⟨w.heap.size, 0, none⟩) 0 0) (.slice (some ⟨g, off, none⟩) n c) (.slice a2 n c2) w' rfl rfl HRUN.out ?_))
    go_ret
    exact HE.out

/-- What Out answers. -/
theorem out_any (w : World) (b : Nat) (F : Nat → Prop) (t : US) (h : UP w b F t) : Calls Tryz.prog 46 #[.pointer (some ⟨b, 0, none⟩)] w (CloneE w t.out) := by
  obtain ⟨vi, vo, h⟩ := h
  have hlo := h.ok.lo
  have HC := Lib.hid (clone_any w vo t.out h.ro (by omega))
  obtain ⟨_, c1, _, _⟩ := h.pcells
  obtain ⟨a, c, rfl, _, _, _⟩ := h.ro.reads (by omega)
  clear h hlo
  go_enter Tryz.func46, Tryz.ntmps46
  go_wp2_with (go_at_call 92; refine (HC.out).mono ?_; rintro e w' ⟨a2, c2, rfl, hE⟩; have HE := Lib.hid hE; clear hE)
  go_ret
  exact ⟨_, _, rfl, HE.out⟩
/-- A new object that holds t. -/
def MadeU (mk : Value → Value → US → Array Value) (ty : TypeId) (w : World) (t : US) (e : Ending) (w' : World) : Prop :=
  ∃ b F vi vo, e = .returned (.pointer (some ⟨b, 0, none⟩)) ∧ Below w.heap.size w w' ∧ (∀ i, F i → w.heap.size ≤ i) ∧ Holds mk ty w' b F t vi vo
theorem made_of (mk : Value → Value → US → Array Value) (ty : TypeId) (w : World) : Holds mk ty (w.alloc (.cells (mk (.slice none 0 0) (.slice none 0 0) u0) ty)) w.heap.size (fun i => i = w.heap.size) u0 (.slice none 0 0) (.slice none 0 0) :=
  ⟨heap_alloc_new w _, RowB.nil _, RowB.nil _, rfl, fun g hg => by simp [Value.ownBlock] at hg, fun g hg => by simp [Value.ownBlock] at hg, fun g hg => by simp [Value.ownBlock] at hg, fun i hi => by rw [World.size_alloc]; omega, u0_ok⟩
theorem new_any (w : World) : Calls Tryz.prog 32 #[] w (MadeU cellsP 131 w u0) := by
  have HM := Lib.hid (made_of cellsP 131 w)
  go_enter Tryz.func32, Tryz.ntmps32
  go_wp2
  go_ret
  exact ⟨_, _, _, _, rfl, below_alloc w _, fun i hi => by omega, HM.out⟩

end Go.Proofs.YtbcnkhfpogglmaaGreatDoor.U6

namespace Go.Proofs.YtbcnkhfpogglmaaGreatDoor.U6
open Go.RowKit
set_option linter.unusedVariables false
set_option maxRecDepth 100000

theorem twin_made (mk : Value → Value → US → Array Value) (ty : TypeId) {w w3 w4 : World} {t : US} {v1 v2 : Value} (h3 : w.heap.size ≤ w3.heap.size) (hB : Below w.heap.size w w4) (r1 : RowB w3 v1 t.inn) (o1 : ∀ g, v1.ownBlock = some g → w.heap.size ≤ g) (h34 : Below w3.heap.size w3 w4)
    (r2 : RowB w4 v2 t.out) (o2 : ∀ g, v2.ownBlock = some g → w3.heap.size ≤ g) (ok : t.ok) : MadeU mk ty w t (.returned (.pointer (some ⟨w4.heap.size, 0, none⟩))) (w4.alloc (.cells (mk v1 v2 t) ty)) := by
  have r1' := r1.below h34
  have s34 := h34.size
  refine ⟨w4.heap.size, fun i => i = w4.heap.size ∨ v1.ownBlock = some i ∨ v2.ownBlock = some i, v1, v2, rfl, hB.alloc hB.size _, ?_, ⟨heap_alloc_new w4 _, r1'.below (below_alloc w4 _), r2.below (below_alloc w4 _), .inl rfl, ?_, ?_, ?_, ?_, ok⟩⟩
  · rintro i (rfl | hi | hi)
    · exact hB.size
    · exact o1 i hi
    · exact Nat.le_trans h3 (o2 i hi)
  · intro g hg
    have := r1'.lt g hg
    exact ⟨.inr (.inl hg), by omega⟩
  · intro g hg
    have := r2.lt g hg
    exact ⟨.inr (.inr hg), by omega⟩
  · intro g hg e
    have := r1.lt g hg
    have := o2 g e
    omega
  · rw [World.size_alloc]
    rintro i (rfl | hi | hi)
    · omega
    · have := r1'.lt i hi; omega
    · have := r2.lt i hi; omega

set_option maxRecDepth 100000 in
set_option maxHeartbeats 8000000 in
theorem twin_any (w : World) (b : Nat) (F : Nat → Prop) (t : US) (h : UP w b F t) : Calls Tryz.prog 48 #[.pointer (some ⟨b, 0, none⟩)] w (MadeU cellsP 131 w t) := by
  obtain ⟨vi, vo, h⟩ := h
  have hli := h.ok.li
  have hlo := h.ok.lo
  have H := Lib.hid h
  have HC1 : Hid (∀ wx, Below w.heap.size w wx → Calls Tryz.prog 92 #[vi] wx (CloneE wx t.inn)) := Lib.hid fun wx hx => clone_any wx vi t.inn (h.below hx).ri (by omega)
  have HC2 : Hid (∀ wx, Below w.heap.size w wx → Calls Tryz.prog 92 #[vo] wx (CloneE wx t.out)) := Lib.hid fun wx hx => clone_any wx vo t.out (h.below hx).ro (by omega)
  obtain ⟨ai, ci, hvi, _, _, _⟩ := h.ri.reads (by omega)
  obtain ⟨ao, co, hvo, _, _, _⟩ := h.ro.reads (by omega)
  subst hvi hvo
  have OK := Lib.hid h.ok
  clear h hli hlo
  go_enter Tryz.func48, Tryz.ntmps48
  go_wp2_with fail
  refine wp_region_held_drew (S := fun wx => Below w.heap.size w wx) (by kernel_rfl) ((Below.refl _ _).drew) (fun hHeld0 => ?_)
  have HS := Lib.hid hHeld0
  clear hHeld0
  refine takeD (i := 0) (some 5) (v := ?_) rfl rfl (by kernel_rfl) (by kernel_rfl) (by kernel_rfl) (fun _ _ _ h => h) (by rfl) HS.out ?_ ?_
  rotate_left
  · intro wx hSx
    clear hSx
    go_simp
    try (with_reducible rfl)
  simp only [Act.put, List.setIfInBounds_toArray, List.set_cons_zero, List.set_cons_succ]
  refine takeD (i := 1) (some 6) (v := ?_) rfl rfl (by kernel_rfl) (by kernel_rfl) (by kernel_rfl) (fun _ _ _ h => h) (by rfl) HS.out ?_ ?_
  rotate_left
  · intro wx hSx
    clear hSx
    go_simp
    try (with_reducible rfl)
  simp only [Act.put, List.setIfInBounds_toArray, List.set_cons_zero, List.set_cons_succ]
  refine takeD (i := 2) (some 7) (v := ?_) rfl rfl (by kernel_rfl) (by kernel_rfl) (by kernel_rfl) (fun _ _ _ h => h) (by rfl) HS.out ?_ ?_
  rotate_left
  · intro wx hSx
    clear hSx
    go_simp
    try (with_reducible rfl)
  simp only [Act.put, List.setIfInBounds_toArray, List.set_cons_zero, List.set_cons_succ]
  refine takeD (i := 3) (some 8) (v := ?_) rfl rfl (by kernel_rfl) (by kernel_rfl) (by kernel_rfl) (fun _ _ _ h => h) (by rfl) HS.out ?_ ?_
  rotate_left
  · intro wx hSx
    have kx := H.out.below hSx
    obtain ⟨c0, c1, c2, c3⟩ := kx.pcells
    obtain ⟨c4, c5, c6, c7, c8, c9, c10, c11, c12, c13⟩ := kx.pregs
    clear kx
    clear hSx
    go_simp
    try (with_reducible rfl)
  simp only [Act.put, List.setIfInBounds_toArray, List.set_cons_zero, List.set_cons_succ]
  refine takeD (i := 5) (some 10) (v := ?_) rfl rfl (by kernel_rfl) (by kernel_rfl) (by kernel_rfl) (fun _ _ _ h => h) (by rfl) HS.out ?_ ?_
  rotate_left
  · intro wx hSx
    clear hSx
    go_simp
    try (with_reducible rfl)
  simp only [Act.put, List.setIfInBounds_toArray, List.set_cons_zero, List.set_cons_succ]
  refine takeD (i := 6) (some 11) (v := ?_) rfl rfl (by kernel_rfl) (by kernel_rfl) (by kernel_rfl) (fun _ _ _ h => h) (by rfl) HS.out ?_ ?_
  rotate_left
  · intro wx hSx
    clear hSx
    go_simp
    try (with_reducible rfl)
  simp only [Act.put, List.setIfInBounds_toArray, List.set_cons_zero, List.set_cons_succ]
  refine takeD (i := 7) (some 12) (v := ?_) rfl rfl (by kernel_rfl) (by kernel_rfl) (by kernel_rfl) (fun _ _ _ h => h) (by rfl) HS.out ?_ ?_
  rotate_left
  · intro wx hSx
    clear hSx
    go_simp
    try (with_reducible rfl)
  simp only [Act.put, List.setIfInBounds_toArray, List.set_cons_zero, List.set_cons_succ]
  refine takeD (i := 8) (some 13) (v := ?_) rfl rfl (by kernel_rfl) (by kernel_rfl) (by kernel_rfl) (fun _ _ _ h => h) (by rfl) HS.out ?_ ?_
  rotate_left
  · intro wx hSx
    have kx := H.out.below hSx
    obtain ⟨c0, c1, c2, c3⟩ := kx.pcells
    obtain ⟨c4, c5, c6, c7, c8, c9, c10, c11, c12, c13⟩ := kx.pregs
    clear kx
    clear hSx
    go_simp
    try (with_reducible rfl)
  simp only [Act.put, List.setIfInBounds_toArray, List.set_cons_zero, List.set_cons_succ]
  refine takeD (i := 10) (some 15) (v := ?_) rfl rfl (by kernel_rfl) (by kernel_rfl) (by kernel_rfl) (fun _ _ _ h => h) (by rfl) HS.out ?_ ?_
  rotate_left
  · intro wx hSx
    clear hSx
    go_simp
    try (with_reducible rfl)
  simp only [Act.put, List.setIfInBounds_toArray, List.set_cons_zero, List.set_cons_succ]
  refine takeD (i := 11) (some 16) (v := ?_) rfl rfl (by kernel_rfl) (by kernel_rfl) (by kernel_rfl) (fun _ _ _ h => h) (by rfl) HS.out ?_ ?_
  rotate_left
  · intro wx hSx
    clear hSx
    go_simp
    try (with_reducible rfl)
  simp only [Act.put, List.setIfInBounds_toArray, List.set_cons_zero, List.set_cons_succ]
  refine takeD (i := 12) (some 17) (v := ?_) rfl rfl (by kernel_rfl) (by kernel_rfl) (by kernel_rfl) (fun _ _ _ h => h) (by rfl) HS.out ?_ ?_
  rotate_left
  · intro wx hSx
    clear hSx
    go_simp
    try (with_reducible rfl)
  simp only [Act.put, List.setIfInBounds_toArray, List.set_cons_zero, List.set_cons_succ]
  refine takeD (i := 13) (some 18) (v := ?_) rfl rfl (by kernel_rfl) (by kernel_rfl) (by kernel_rfl) (fun _ _ _ h => h) (by rfl) HS.out ?_ ?_
  rotate_left
  · intro wx hSx
    have kx := H.out.below hSx
    obtain ⟨c0, c1, c2, c3⟩ := kx.pcells
    obtain ⟨c4, c5, c6, c7, c8, c9, c10, c11, c12, c13⟩ := kx.pregs
    clear kx
    clear hSx
    go_simp
    try (with_reducible rfl)
  simp only [Act.put, List.setIfInBounds_toArray, List.set_cons_zero, List.set_cons_succ]
  refine takeD (i := 14) (some 19) (v := ?_) rfl rfl (by kernel_rfl) (by kernel_rfl) (by kernel_rfl) (fun _ _ _ h => h) (by rfl) HS.out ?_ ?_
  rotate_left
  · intro wx hSx
    clear hSx
    go_simp
    try (with_reducible rfl)
  simp only [Act.put, List.setIfInBounds_toArray, List.set_cons_zero, List.set_cons_succ]
  refine takeD (i := 15) (some 20) (v := ?_) rfl rfl (by kernel_rfl) (by kernel_rfl) (by kernel_rfl) (fun _ _ _ h => h) (by rfl) HS.out ?_ ?_
  rotate_left
  · intro wx hSx
    clear hSx
    go_simp
    try (with_reducible rfl)
  simp only [Act.put, List.setIfInBounds_toArray, List.set_cons_zero, List.set_cons_succ]
  refine takeD (i := 16) (some 21) (v := ?_) rfl rfl (by kernel_rfl) (by kernel_rfl) (by kernel_rfl) (fun _ _ _ h => h) (by rfl) HS.out ?_ ?_
  rotate_left
  · intro wx hSx
    clear hSx
    go_simp
    try (with_reducible rfl)
  simp only [Act.put, List.setIfInBounds_toArray, List.set_cons_zero, List.set_cons_succ]
  refine takeD (i := 17) (some 22) (v := ?_) rfl rfl (by kernel_rfl) (by kernel_rfl) (by kernel_rfl) (fun _ _ _ h => h) (by rfl) HS.out ?_ ?_
  rotate_left
  · intro wx hSx
    have kx := H.out.below hSx
    obtain ⟨c0, c1, c2, c3⟩ := kx.pcells
    obtain ⟨c4, c5, c6, c7, c8, c9, c10, c11, c12, c13⟩ := kx.pregs
    clear kx
    clear hSx
    go_simp
    try (with_reducible rfl)
  simp only [Act.put, List.setIfInBounds_toArray, List.set_cons_zero, List.set_cons_succ]
  refine wpAnyH_ready (rs := [4]) (by kernel_rfl) (by simp) ?_
  refine AllReadyH.cons rfl (fun K hK => ?_) AllReadyH.nil
  go_simp
  (with_reducible refine (HC1.out _ HS.out).mono ?_)
  rintro e w3 ⟨a1, k1, rfl, hb1, hr1, ho1⟩
  have HS3 : Hid (Below w.heap.size w w3) := Lib.hid (HS.out.trans (hb1.mono HS.out.size))
  have HR1 := Lib.hid hr1
  have HO1 : Hid (∀ g, (Value.slice a1 t.inn.length k1).ownBlock = some g → w.heap.size ≤ g) := Lib.hid fun g hg => Nat.le_trans HS.out.size (ho1.lt g hg).1
  clear hb1 hr1 ho1
  go_simp
  refine hK.out _ _ ?_ (fun hHeld => ?_)
  · exact HS3.out
  clear hHeld hK K
  try simp only [Act.put, List.setIfInBounds_toArray, List.set_cons_zero, List.set_cons_succ]
  replace HS := HS3
  refine wpAnyH_ready (rs := [9]) (by kernel_rfl) (by simp) ?_
  refine AllReadyH.cons rfl (fun K hK => ?_) AllReadyH.nil
  go_simp
  (with_reducible refine (HC2.out _ HS.out).mono ?_)
  rintro e w4 ⟨a2, k2, rfl, hb2, hr2, ho2⟩
  have HS4 : Hid (Below w.heap.size w w4) := Lib.hid (HS.out.trans (hb2.mono HS.out.size))
  have HR2 := Lib.hid hr2
  have HO2 : Hid (∀ g, (Value.slice a2 t.out.length k2).ownBlock = some g → w3.heap.size ≤ g) := Lib.hid fun g hg => (ho2.lt g hg).1
  have HB34 := Lib.hid hb2
  clear hb2 hr2 ho2
  go_simp
  refine hK.out _ _ ?_ (fun hHeld => ?_)
  · exact HS4.out
  clear hHeld hK K
  try simp only [Act.put, List.setIfInBounds_toArray, List.set_cons_zero, List.set_cons_succ]
  replace HS := HS4
  refine takeD (i := 18) (some 23) (v := ?_) rfl rfl (by kernel_rfl) (by kernel_rfl) (by kernel_rfl) (fun _ _ _ h => h) (by rfl) HS.out ?_ ?_
  rotate_left
  · intro wx hSx
    clear hSx
    go_simp
    try (with_reducible rfl)
  simp only [Act.put, List.setIfInBounds_toArray, List.set_cons_zero, List.set_cons_succ]
  refine wpAnyH_ready (rs := [19]) (by kernel_rfl) (by simp) ?_
  refine AllReadyH.cons rfl (fun K hK => ?_) AllReadyH.nil
  go_simp
  refine hK.out _ _ ?_ (fun hHeld => ?_)
  · exact HS.out.alloc HS.out.size _
  replace HS : Hid (Below w.heap.size w _) := Lib.hid hHeld
  clear hHeld hK K
  try simp only [Act.put, List.setIfInBounds_toArray, List.set_cons_zero, List.set_cons_succ]
  refine takeD (i := 20) (some 2) (v := ?_) rfl rfl (by kernel_rfl) (by kernel_rfl) (by kernel_rfl) (fun _ _ _ h => h) (by rfl) HS.out ?_ ?_
  rotate_left
  · intro wx hSx
    clear hSx
    go_simp
    try (with_reducible rfl)
  simp only [Act.put, List.setIfInBounds_toArray, List.set_cons_zero, List.set_cons_succ]
  refine wpAnyH_done (by kernel_rfl) ?_ _
  go_wp2
  go_ret
  exact twin_made cellsP 131 HS3.out.size HS4.out HR1.out HO1.out HB34.out HR2.out HO2.out OK.out

end Go.Proofs.YtbcnkhfpogglmaaGreatDoor.U6

namespace Go.Proofs.YtbcnkhfpogglmaaGreatDoor.U6
open Go.RowKit
set_option linter.unusedVariables false
set_option maxRecDepth 100000

section
variable {P : Program} (w : World)
theorem run_part_one {e : TypeId} (ha : (isAgg e).run P w = .ok false w) {n : Nat} {f : Nat → Value} {i : Nat} (h : i < n) : (part e (varr n f) i).run P w = .ok (f i) w := by
  simp [part, ha, varr_get n f i h]
/-- '==' of two arrays, where the elements' is known. -/
theorem run_alls {d : Nat} {e : TypeId} {sz : Nat} (xs ys : Array Value) (q : Nat → Bool) (l : List Nat)
    (h : ∀ i ∈ l, ∃ x y, (part e xs (i * sz)).run P w = .ok x w ∧ (part e ys (i * sz)).run P w = .ok y w ∧ (Op.equalIn d e x y).run P w = .ok (q i) w) :
    ((forIn l ((none, ()) : Option Bool × Unit) fun i _ => do
        let x ← part e xs (i * sz)
        let y ← part e ys (i * sz)
        let r ← Op.equalIn d e x y
        if (!r) = true then pure (ForInStep.done (some false, ())) else pure (ForInStep.yield (none, ()))).run P w) =
      .ok (if l.all q = true then (none, ()) else (some false, ())) w := by
  induction l with
  | nil => simp
  | cons i l ih =>
    obtain ⟨x, y, h1, h2, h3⟩ := h i (by simp)
    have ih := ih fun j hj => h j (by simp [hj])
    rw [List.forIn_cons]
    simp only [Sem.run_bind, h1, h2, h3, Result.andThen_ok]
    cases hc : q i
    · simp [hc]
    · simp only [Bool.not_true, Bool.false_eq_true, if_false, Sem.run_pure, Result.andThen_ok, List.all_cons, hc, Bool.true_and]
      exact ih
theorem run_equalIn_arr {d : Nat} {t e : TypeId} {n sz : Nat} (ht : P.underlying t = some (.array n e)) (hs : (sizeOf e).run P w = .ok sz w) (xs ys : Array Value) (q : Nat → Bool)
    (h : ∀ i, i < n → ∃ x y, (part e xs (i * sz)).run P w = .ok x w ∧ (part e ys (i * sz)).run P w = .ok y w ∧ (Op.equalIn d e x y).run P w = .ok (q i) w) :
    (Op.equalIn (d + 1) t (.agg xs) (.agg ys)).run P w = .ok ((List.range n).all q) w := by
  rw [Op.equalIn]
  simp only [Sem.run_bind, run_underlying ht, Result.andThen_ok, hs]
  rw [Std.Legacy.Range.forIn_eq_forIn_range']
  simp only [Std.Legacy.Range.size]
  have e1 : (n - 0 + 1 - 1) / 1 = n := by simp
  rw [e1, ← List.range_eq_range', run_alls w xs ys q (List.range n) fun i hi => h i (List.mem_range.1 hi), Result.andThen_ok]
  cases (List.range n).all q <;> simp
/-- '==' of two structs, field by field. -/
theorem run_fields_nil (d : Nat) (xs ys : Array Value) : (Op.eqFields d xs ys []).run P w = .ok true w := rfl
theorem run_fields_cons {d : Nat} {xs ys : Array Value} {f : Field} {fs : List Field} {x y : Value} {r s : Bool} (hn : f.name ≠ "_") (h1 : (part f.type xs f.offset).run P w = .ok x w) (h2 : (part f.type ys f.offset).run P w = .ok y w)
    (h3 : (Op.equalIn d f.type x y).run P w = .ok r w) (h4 : (Op.eqFields d xs ys fs).run P w = .ok s w) : (Op.eqFields d xs ys (f :: fs)).run P w = .ok (r && s) w := by
  unfold Op.eqFields
  rw [if_pos hn]
  simp only [Sem.run_bind, h1, h2, h3, Result.andThen_ok]
  cases r
  · simp
  · simp [h4]
end

end Go.Proofs.YtbcnkhfpogglmaaGreatDoor.U6

namespace Go.Proofs.YtbcnkhfpogglmaaGreatDoor.U6
open Go.RowKit
set_option linter.unusedVariables false
set_option maxRecDepth 100000

theorem conv_row {w : World} {v : Value} {xs : List Int} (h : RowB w v xs) (hl : xs.length ≤ 70000) : (convert 40 9 v).run Tryz.prog w = .ok (.string (strOfNums xs)) w := by
  obtain ⟨a, c, rfl, _, _, h⟩ := h.reads hl
  rcases h with ⟨rfl, rfl, rfl⟩ | ⟨g, off, rfl, hlt, hc⟩
  · rw [run_convert_bytes_string w 40 9 5 none _ 0 Tryz.underlying40 Tryz.underlying5 Tryz.underlying9]
    simp [Conv.bytesToString]; rfl
  · exact run_convert_bytes_arg w 40 5 Tryz.underlying40 Tryz.underlying5 g off xs.length c xs rfl hc _ Tryz.underlying9
theorem strOf_inj {xs ys : List Int} (hx : Byt xs) (hy : Byt ys) (h : strOfNums xs = strOfNums ys) : xs = ys := by
  have h1 : xs.map (fun n => UInt8.ofNat n.toNat) = ys.map (fun n => UInt8.ofNat n.toNat) := by
    have := congrArg (fun s : ByteArray => s.data.toList) h
    simpa [strOfNums] using this
  have hl : xs.length = ys.length := by simpa using congrArg List.length h1
  apply List.ext_getElem hl
  intro i hi hj
  have h2 : UInt8.ofNat (xs[i]).toNat = UInt8.ofNat (ys[i]).toNat := by
    have := congrArg (fun l : List UInt8 => l[i]?) h1
    simpa [hi, hj] using this
  have a := hx xs[i] (List.getElem_mem hi)
  have b := hy ys[i] (List.getElem_mem hj)
  have h3 := congrArg UInt8.toNat h2
  simp [UInt8.toNat_ofNat'] at h3
  omega
/-- Strings of bytes are the same just where the bytes are. -/
theorem strEq {xs ys : List Int} (hx : Byt xs) (hy : Byt ys) : ((strOfNums xs).toList == (strOfNums ys).toList) = decide (xs = ys) := by
  rw [Bool.eq_iff_iff, beq_iff_eq, decide_eq_true_eq]
  constructor
  · intro h
    apply strOf_inj hx hy
    have h2 : (strOfNums xs).data.toList = (strOfNums ys).data.toList := by
      have e : ∀ s : ByteArray, s.toList = s.data.toList := fun s => by exact ByteArray.toList_eq s
      rwa [e, e] at h
    apply ByteArray.ext
    exact Array.ext' h2
  · rintro rfl; rfl
theorem equal_any (w : World) (v u : Value) (xs ys : List Int) (hv : RowB w v xs) (hu : RowB w u ys) (hx : xs.length ≤ 70000) (hy : ys.length ≤ 70000) :
    Calls Tryz.prog 131 #[v, u] w fun e w' => e = .returned (.bool (decide (xs = ys))) ∧ w = w' := by
  have h1 := conv_row hv hx
  have h2 := conv_row hu hy
  have HI := Lib.hid (strEq hv.byt hu.byt)
  clear hv hu hx hy
  go_enter Tryz.func131, Tryz.ntmps131
  go_wp2
  go_ret
  exact ⟨by rw [← HI.out]; rfl, rfl⟩

end Go.Proofs.YtbcnkhfpogglmaaGreatDoor.U6

namespace Go.Proofs.YtbcnkhfpogglmaaGreatDoor.U6
open Go.RowKit
set_option linter.unusedVariables false
set_option maxRecDepth 100000

theorem belowD (w : World) (n : Nat) : Below w.heap.size w (w.drewN n) := ⟨rfl, rfl, rfl, Nat.le_refl _, fun _ _ => rfl⟩
def regEq (t u : US) : Bool := (t.ier == u.ier) && ((t.fcr == u.fcr) && ((t.lcr == u.lcr) && ((t.mcr == u.mcr) && ((t.scr == u.scr) && ((t.dl == u.dl) && (t.dm == u.dm))))))
/-- Whether two states are the same. -/
def sameU (t u : US) : Bool := decide (t.inn = u.inn) && (decide (t.out = u.out) && (((t.lost == u.lost) && (t.sent == u.sent)) && regEq t u))
def marksA (t : US) : Array Value := #[.bool t.lost, .bool t.sent]
def regsA (t : US) : Array Value := #[.int .u8 0, .int .u8 t.ier, .int .u8 t.fcr, .int .u8 t.lcr, .int .u8 t.mcr, .int .u8 0, .int .u8 0, .int .u8 t.scr, .int .u8 t.dl, .int .u8 t.dm]
theorem eql_marks (t u : US) (w : World) : (binOp .eql 128 (.agg (marksA t)) (.agg (marksA u))).run Tryz.prog w = .ok (.bool ((t.lost == u.lost) && (t.sent == u.sent))) w := by
  rw [run_eql_struct, run_equalIn_struct w 9999 128 _ _ (by kernel_rfl) (by kernel_rfl)]
  simp only [Program.fieldsOf, Tryz.underlying128]
  have e1 : (varr 2 fun i => (marksA t).getD i undef) = marksA t := rfl
  have e2 : (varr 2 fun i => (marksA u).getD i undef) = marksA u := rfl
  rw [← e1, ← e2]
  have a4 : ∀ w, (isAgg 4).run Tryz.prog w = .ok false w := fun _ => by kernel_rfl
  rw [run_fields_cons w (by decide) (run_part_one w (a4 w) (by decide)) (run_part_one w (a4 w) (by decide)) (run_equalIn_bool' w 9998 _ _ _ Tryz.underlying4)
    (run_fields_cons w (by decide) (run_part_one w (a4 w) (by decide)) (run_part_one w (a4 w) (by decide)) (run_equalIn_bool' w 9998 _ _ _ Tryz.underlying4) (run_fields_nil w _ _ _))]
  simp
def regsL (t : US) : List Int := [0, t.ier, t.fcr, t.lcr, t.mcr, 0, 0, t.scr, t.dl, t.dm]
theorem eql_regs (t u : US) (w : World) : (binOp .eql 129 (.agg (regsA t)) (.agg (regsA u))).run Tryz.prog w = .ok (.bool (regEq t u)) w := by
  have e1 : (varr 10 fun i => .int .u8 ((regsL t).getD i 0)) = regsA t := rfl
  have e2 : (varr 10 fun i => .int .u8 ((regsL u).getD i 0)) = regsA u := rfl
  have a5 : ∀ w, (isAgg 5).run Tryz.prog w = .ok false w := fun _ => by kernel_rfl
  have s5 : ∀ w, (sizeOf 5).run Tryz.prog w = .ok 1 w := fun _ => by kernel_rfl
  rw [run_eql_struct, ← e1, ← e2, run_equalIn_arr w Tryz.underlying129 (s5 w) _ _ (fun i => (regsL t).getD i 0 == (regsL u).getD i 0) fun i hi => ⟨.int .u8 ((regsL t).getD i 0), .int .u8 ((regsL u).getD i 0), by rw [Nat.mul_one, run_part_one w (a5 w) hi], by rw [Nat.mul_one, run_part_one w (a5 w) hi], run_equalIn_int w 9998 _ .u8 .u8 _ _ Tryz.underlying5⟩]
  simp [regsL, regEq, List.range, List.range.loop]

end Go.Proofs.YtbcnkhfpogglmaaGreatDoor.U6

namespace Go.Proofs.YtbcnkhfpogglmaaGreatDoor.U6
open Go.RowKit
set_option linter.unusedVariables false
set_option maxRecDepth 100000

/-- A call that tells a bool and turns nothing. -/
def SaysB (w : World) (r : Bool) (e : Ending) (w' : World) : Prop := e = .returned (.bool r) ∧ Below w.heap.size w w'
set_option maxRecDepth 100000 in
set_option maxHeartbeats 8000000 in
theorem same_any (w : World) (a b : Nat) (Fa Fb : Nat → Prop) (t u : US) (h : UP w a Fa t) (k : UP w b Fb u) :
    Calls Tryz.prog 95 #[.pointer (some ⟨a, 0, none⟩), .pointer (some ⟨b, 0, none⟩)] w (SaysB w (sameU t u)) := by
  obtain ⟨vi, vo, h⟩ := h
  obtain ⟨ui, uo, k⟩ := k
  have h1 := h.ok.li
  have h2 := h.ok.lo
  have k1 := k.ok.li
  have k2 := k.ok.lo
  have HE1 : Hid (∀ n, Calls Tryz.prog 131 #[vi, ui] (w.drewN n) fun e w' => e = .returned (.bool (decide (t.inn = u.inn))) ∧ w' = w.drewN n) := Lib.hid fun n => (equal_any (w.drewN n) vi ui t.inn u.inn (h.below (belowD w n)).ri (k.below (belowD w n)).ri (by omega) (by omega)).mono fun e w' h => ⟨h.1, h.2.symm⟩
  have HE2 : Hid (∀ n, Calls Tryz.prog 131 #[vo, uo] (w.drewN n) fun e w' => e = .returned (.bool (decide (t.out = u.out))) ∧ w' = w.drewN n) := Lib.hid fun n => (equal_any (w.drewN n) vo uo t.out u.out (h.below (belowD w n)).ro (k.below (belowD w n)).ro (by omega) (by omega)).mono fun e w' h => ⟨h.1, h.2.symm⟩
  obtain ⟨ai, ci, rfl, _, _, _⟩ := h.ri.reads (by omega)
  obtain ⟨ao, co, rfl, _, _, _⟩ := h.ro.reads (by omega)
  obtain ⟨bi, di, rfl, _, _, _⟩ := k.ri.reads (by omega)
  obtain ⟨bo, do_, rfl, _, _, _⟩ := k.ro.reads (by omega)
  obtain ⟨c0, c1, c2, c3⟩ := h.pcells
  obtain ⟨c4, c5, c6, c7, c8, c9, c10, c11, c12, c13⟩ := h.pregs
  obtain ⟨d0, d1, d2, d3⟩ := k.pcells
  obtain ⟨d4, d5, d6, d7, d8, d9, d10, d11, d12, d13⟩ := k.pregs
  have hm := fun wz => eql_marks t u wz
  have hg := fun wz => eql_regs t u wz
  unfold marksA at hm
  unfold regsA at hg
  have HU : Hid (sameU t u = (decide (t.inn = u.inn) && (decide (t.out = u.out) && (((t.lost == u.lost) && (t.sent == u.sent)) && regEq t u)))) := Lib.hid rfl
  clear h k h1 h2 k1 k2
  generalize sameU t u = R at *
  generalize regEq t u = rg at *
  generalize (t.lost == u.lost && t.sent == u.sent) = mk at *
  generalize decide (t.inn = u.inn) = r1 at *
  generalize decide (t.out = u.out) = r2 at *
  cases r1 with
  | false =>
    go_enter Tryz.func95, Tryz.ntmps95
    go_wp2
    go_quiet (((go_at_call 131; exact Calls.quiet_of_same (HE1.out _))))
    go_wp2
    go_ret
    exact ⟨by rw [HU.out]; rfl, belowD w _⟩
  | true =>
    cases r2 with
    | false =>
      go_enter Tryz.func95, Tryz.ntmps95
      go_wp2
      go_quiet ((first | (go_at_call 131; exact Calls.quiet_of_same (HE1.out _)) | (go_at_call 131; exact Calls.quiet_of_same (HE2.out _))))
      go_wp2
      go_ret
      exact ⟨by rw [HU.out]; rfl, belowD w _⟩
    | true =>
      cases mk with
      | false =>
        go_enter Tryz.func95, Tryz.ntmps95
        go_wp2
        go_quiet ((first | (go_at_call 131; exact Calls.quiet_of_same (HE1.out _)) | (go_at_call 131; exact Calls.quiet_of_same (HE2.out _))))
        go_wp2
        go_ret
        exact ⟨by rw [HU.out]; rfl, belowD w _⟩
      | true =>
        go_enter Tryz.func95, Tryz.ntmps95
        go_wp2
        go_quiet ((first | (go_at_call 131; exact Calls.quiet_of_same (HE1.out _)) | (go_at_call 131; exact Calls.quiet_of_same (HE2.out _))))
        go_wp2
        go_ret
        exact ⟨by rw [HU.out]; rfl, belowD w _⟩

end Go.Proofs.YtbcnkhfpogglmaaGreatDoor.U6

namespace Go.Proofs.YtbcnkhfpogglmaaGreatDoor.M3
open Go.RowKit
set_option linter.unusedVariables false
set_option maxRecDepth 100000

/-- The cells of a list of bytes at addresses. -/
def cellsOf (l : List (Int × Int)) : List Value := l.flatMap fun c => [.int .u64 c.1, .int .u8 c.2]
/-- What the list tells of an address. -/
def look (l : List (Int × Int)) (x : Int) : Int := ((l.find? fun c => c.1 == x).map (·.2)).getD 0
/-- The struct in block b holds base, size and that list, whose cells lie in block g. -/
def RefRam (w : World) (b g : Nat) (base size : Int) (l : List (Int × Int)) : Prop :=
  ∃ a c, w.heap[b]? = some (.cells #[.int .u64 base, .int .u64 size, .slice a l.length c] 144 (0, 0)) ∧ l.length ≤ 1000000 ∧ (l = [] ∨ a = some ⟨g, 0, none⟩ ∧ g ≠ b ∧ Lays w g (cellsOf l))

/-- The list behind a set. -/
def setL (l : List (Int × Int)) (x v : Int) : List (Int × Int) := l.filter (fun c => c.1 != x) ++ if v = 0 then [] else [(x, v)]
/-- What set leaves. -/
def SetEnd (w : World) (b : Nat) (base size : Int) (l : List (Int × Int)) (x v : Int) (e : Ending) (w' : World) : Prop :=
  (∃ u, e = .returned u) ∧ Only (fun i => i = b) w w' ∧ ∃ g', w.heap.size ≤ g' ∧ RefRam w' b g' base size (setL l x v)

theorem own_slice {w : World} {B : Nat} {e : TypeId} {size : Nat} {s : Value} {n : Nat} {vs : List Value} (h : w.ownsRow B e size s n vs) : ∃ A m C, s = .slice A m C := by
  rcases Lays.own h with ⟨rfl, _, _⟩ | ⟨g, cap, rfl, _, _⟩
  · exact ⟨_, _, _, rfl⟩
  · exact ⟨_, _, _, rfl⟩
end Go.Proofs.YtbcnkhfpogglmaaGreatDoor.M3

namespace Go.Proofs.YtbcnkhfpogglmaaGreatDoor.M3
open Go.RowKit
set_option linter.unusedVariables false
set_option maxRecDepth 100000

theorem ret_bool {a b : Bool} (h : a = b) : Ending.returned (.bool a) = .returned (.bool b) := by rw [h]
/-- A base and a size that a memory may have. -/
def Fits (base size : Int) : Prop := 0 ≤ base ∧ 4096 ≤ size ∧ size ≤ 67108864 ∧ base + size ≤ 9223372036854775808
/-- P3.2: the n bytes from x on lie in it. -/
def hasZ (base size x n : Int) : Bool := decide (0 ≤ n ∧ (n = 0 ∨ base ≤ x ∧ x + n ≤ base + size))
def liesZ (base size x : Int) : Bool := decide (base ≤ x ∧ x < base + size)

/-- The list's entries are bytes that are not 0, each address once. -/
def Fine (l : List (Int × Int)) : Prop := (∀ c ∈ l, In64 c.1 ∧ 1 ≤ c.2 ∧ c.2 ≤ 255) ∧ (l.map (·.1)).Nodup
theorem look_mem {l : List (Int × Int)} {x : Int} : look l x = 0 ∨ ∃ c ∈ l, c.1 = x ∧ look l x = c.2 := by
  unfold look
  cases h : l.find? (fun c => c.1 == x) with
  | none => exact .inl rfl
  | some c =>
    have h1 := List.mem_of_find?_eq_some h
    have h2 := List.find?_some h
    exact .inr ⟨c, h1, by simpa using h2, rfl⟩
theorem look_in {l : List (Int × Int)} (h : Fine l) (x : Int) : 0 ≤ look l x ∧ look l x ≤ 255 := by
  rcases look_mem (l := l) (x := x) with e | ⟨c, hc, _, e⟩
  · rw [e]; omega
  · have := h.1 c hc; rw [e]; omega

theorem RefRam.keeps {S : Nat → Prop} {w w' : World} {b g : Nat} {base size : Int} {l : List (Int × Int)} (h : RefRam w b g base size l) (k : Only S w w') (hb : ¬ S b) (hg : ¬ S g) : RefRam w' b g base size l := by
  obtain ⟨a, c, h1, h2, h3⟩ := h
  refine ⟨a, c, k.keeps hb h1, h2, ?_⟩
  rcases h3 with h3 | ⟨h4, h5, h6⟩
  · exact .inl h3
  · exact .inr ⟨h4, h5, h6.keeps k hg⟩
theorem RefRam.below {w w' : World} {b g : Nat} {base size : Int} {l : List (Int × Int)} (h : RefRam w b g base size l) (k : Below w.heap.size w w') : RefRam w' b g base size l :=
  h.keeps (Only.of_below (fun _ => False) k) id id
theorem RefRam.lt {w : World} {b g : Nat} {base size : Int} {l : List (Int × Int)} (h : RefRam w b g base size l) : b < w.heap.size := by
  obtain ⟨a, c, h1, _⟩ := h; exact (Array.getElem?_eq_some_iff.1 h1).1
theorem RefRam.size {w : World} {b g : Nat} {base size : Int} {l : List (Int × Int)} (h : RefRam w b g base size l) : w.cell? ⟨b, 1, none⟩ = some (.int .u64 size) := by
  obtain ⟨a, c, h1, _⟩ := h; rw [cell_of_row w b 1 _ _ _ h1]; rfl

end Go.Proofs.YtbcnkhfpogglmaaGreatDoor.M3

namespace Go.Proofs.YtbcnkhfpogglmaaGreatDoor.M3
open Go.RowKit
set_option linter.unusedVariables false
set_option maxRecDepth 100000

/-- The number of c bytes at x. -/
def rdN (m : Int → Int) (x : Int) : Nat → Int
  | 0 => 0
  | c + 1 => m x + 256 * rdN m (x + 1) c
/-- Memory behind a number of c bytes was written at x. -/
def wrN (m : Int → Int) (x v : Int) : Nat → Int → Int
  | 0, y => m y
  | c + 1, y => if y = x then v % 256 else wrN m (x + 1) (v / 256) c y
def Bytey (m : Int → Int) : Prop := ∀ y, 0 ≤ m y ∧ m y ≤ 255

theorem rdN_in {m : Int → Int} (h : Bytey m) (x : Int) (c : Nat) : 0 ≤ rdN m x c ∧ rdN m x c < 256 ^ c := by
  induction c generalizing x with
  | zero => simp [rdN]
  | succ c ih =>
    have h1 := ih (x + 1)
    have h2 := h x
    have e : (256 : Int) ^ (c + 1) = 256 * 256 ^ c := by rw [Int.pow_succ, Int.mul_comm]
    rw [e]; unfold rdN
    omega
theorem rdN_congr {m m' : Int → Int} {x : Int} {c : Nat} (h : ∀ y, x ≤ y → y < x + c → m y = m' y) : rdN m x c = rdN m' x c := by
  induction c generalizing x with
  | zero => rfl
  | succ c ih =>
    unfold rdN
    rw [h x (by omega) (by omega), ih fun y h1 h2 => h y (by omega) (by omega)]
theorem pow256_le {a b : Nat} (h : a ≤ b) : (256 : Int) ^ a ≤ 256 ^ b := by
  have h1 := Int.ofNat_le.2 (Nat.pow_le_pow_right (n := 256) (by omega) h)
  simpa [Int.natCast_pow] using h1
theorem rdN_8 {m : Int → Int} (h : Bytey m) (x : Int) {c : Nat} (hc : c ≤ 8) : 0 ≤ rdN m x c ∧ rdN m x c ≤ 18446744073709551615 := by
  have h1 := rdN_in h x c
  have h2 := pow256_le hc
  have e : (256 : Int) ^ 8 = 18446744073709551616 := by decide
  omega
theorem wrN_out {m : Int → Int} {x v : Int} {c : Nat} {y : Int} (h : y < x ∨ x + c ≤ y) : wrN m x v c y = m y := by
  induction c generalizing x v with
  | zero => rfl
  | succ c ih =>
    unfold wrN
    rw [if_neg (by omega), ih (by omega)]
theorem wrN_at {m : Int → Int} {x v : Int} {c : Nat} {i : Nat} (h : i < c) : wrN m x v c (x + i) = v / 256 ^ i % 256 := by
  induction c generalizing x v i with
  | zero => omega
  | succ c ih =>
    unfold wrN
    cases i with
    | zero => simp
    | succ i =>
      rw [if_neg (by omega), show x + ((i + 1 : Nat) : Int) = x + 1 + (i : Int) by omega, ih (by omega), Int.pow_succ, Int.mul_comm, ← Int.ediv_ediv_of_nonneg (by omega)]
end Go.Proofs.YtbcnkhfpogglmaaGreatDoor.M3

namespace Go.Proofs.YtbcnkhfpogglmaaGreatDoor.M3
open Go.RowKit
set_option linter.unusedVariables false
set_option maxRecDepth 100000

/-- The object in block b (its list in block g) is that memory, its list no longer than N. -/
def RefMem (w : World) (b g : Nat) (base size : Int) (N : Nat) (m : Int → Int) : Prop :=
  ∃ l, RefRam w b g base size l ∧ Fine l ∧ (∀ y, look l y = m y) ∧ l.length ≤ N
theorem RefMem.bytey {w : World} {b g : Nat} {base size : Int} {N : Nat} {m : Int → Int} (h : RefMem w b g base size N m) : Bytey m := by
  obtain ⟨l, _, hf, hm, _⟩ := h
  intro y; rw [← hm y]; exact look_in hf y
theorem RefMem.keeps {S : Nat → Prop} {w w' : World} {b g : Nat} {base size : Int} {N : Nat} {m : Int → Int} (h : RefMem w b g base size N m) (k : Only S w w') (hb : ¬ S b) (hg : ¬ S g) : RefMem w' b g base size N m := by
  obtain ⟨l, h1, h2, h3, h4⟩ := h; exact ⟨l, h1.keeps k hb hg, h2, h3, h4⟩
theorem RefMem.below {w w' : World} {b g : Nat} {base size : Int} {N : Nat} {m : Int → Int} (h : RefMem w b g base size N m) (k : Below w.heap.size w w') : RefMem w' b g base size N m :=
  h.keeps (Only.of_below (fun _ => False) k) id id
theorem RefMem.lt {w : World} {b g : Nat} {base size : Int} {N : Nat} {m : Int → Int} (h : RefMem w b g base size N m) : b < w.heap.size := by
  obtain ⟨l, h1, _⟩ := h; exact h1.lt

/-- What set leaves. -/
def MemSet (w : World) (b : Nat) (base size : Int) (N : Nat) (m : Int → Int) (e : Ending) (w' : World) : Prop :=
  (∃ u, e = .returned u) ∧ Only (fun i => i = b) w w' ∧ ∃ g', w.heap.size ≤ g' ∧ RefMem w' b g' base size N m
def okN (n : Int) : Bool := decide (n = 1 ∨ n = 2 ∨ n = 4 ∨ n = 8)
/-- P3.2: what Read tells. -/
def readV (base size : Int) (m : Int → Int) (x n : Int) : Int × Bool := if (okN n && hasZ base size x n) = true then (rdN m x n.toNat, true) else (0, false)

/-- What Read answers. -/
def ReadEnd (w : World) (p : Int × Bool) (e : Ending) (w' : World) : Prop := e = .returned (.tuple #[.int .u64 p.1, .bool p.2]) ∧ Below w.heap.size w w'

end Go.Proofs.YtbcnkhfpogglmaaGreatDoor.M3

namespace Go.Proofs.YtbcnkhfpogglmaaGreatDoor.M3
open Go.RowKit
set_option linter.unusedVariables false
set_option maxRecDepth 100000

theorem RefMem.congr {w : World} {b g : Nat} {base size : Int} {N N' : Nat} {m m' : Int → Int} (h : RefMem w b g base size N m) (e : ∀ y, m y = m' y) (hN : N ≤ N') : RefMem w b g base size N' m' := by
  obtain ⟨l, h1, h2, h3, h4⟩ := h; exact ⟨l, h1, h2, fun y => (h3 y).trans (e y), by omega⟩

/-- P3.2: memory behind a Write. -/
def writeM (base size : Int) (m : Int → Int) (x n v : Int) : Int → Int := if (okN n && hasZ base size x n) = true then wrN m x v n.toNat else m

/-- What a call leaves that may turn the object: another list, new or the old one. -/
def MemEnd (w : World) (b g : Nat) (base size : Int) (N : Nat) (m : Int → Int) (r : Bool) (e : Ending) (w' : World) : Prop :=
  e = .returned (.bool r) ∧ Only (fun i => i = b) w w' ∧ ∃ g', (g' = g ∨ w.heap.size ≤ g') ∧ RefMem w' b g' base size N m

/-- In the loop: what is still to be written. -/
def Writing (w wr : World) (b g : Nat) (base size : Int) (N : Nat) (m : Int → Int) (x v : Int) (n k : Nat) (vv : Int) : Prop :=
  In64 vv ∧ Only (fun i => i = b) w wr ∧ ∃ g' m', (g' = g ∨ w.heap.size ≤ g') ∧ RefMem wr b g' base size (N + k) m' ∧ ∀ y, wrN m' (x + k) vv (n - k) y = wrN m x v n y

end Go.Proofs.YtbcnkhfpogglmaaGreatDoor.M3
