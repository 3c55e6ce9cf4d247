/- Layer 5: the table of the program's places; find. -/
import Derived.Test.YtgimnkablodheaaDoorPlT
namespace Go.Proofs.YtgimnkablodheaaDoor
open Go.RowKit
set_option linter.unusedVariables false

def tabQ : Array Value := #[.int .i64 0, .int .u64 0, .int .u64 4, .int .u64 32, .int .i64 1, .int .u64 4096, .int .u64 4, .int .u64 1, .int .i64 2, .int .u64 8192, .int .u64 128, .int .u64 2, .int .i64 3, .int .u64 2097152, .int .u64 4096, .int .u64 2, .int .i64 4, .int .u64 2097156, .int .u64 4096, .int .u64 2]
/-- The program's table stands in memory. -/
def Tab (w : World) : Prop := ∃ t fr, w.heap[0]? = some (.cells tabQ t fr)
theorem Tab.lt {w : World} (h : Tab w) : 0 < w.heap.size := by obtain ⟨t, fr, h⟩ := h; exact (Array.getElem?_eq_some_iff.1 h).1
theorem Tab.below {w w' : World} (h : Tab w) (o : Below w.heap.size w w') : Tab w' := by
  have hl := h.lt
  obtain ⟨t, fr, h⟩ := h; exact ⟨t, fr, (o.block _ hl).trans h⟩
theorem Tab.keeps {w w' : World} {T : Nat → Prop} (h : Tab w) (o : Only T w w') (hT : ¬ T 0) : Tab w' := by obtain ⟨t, fr, h⟩ := h; exact ⟨t, fr, o.keeps hT h⟩
theorem size_tab : (Tryd.prog.info? 69).map (·.size) = some tabQ.size := by kernel_rfl
theorem tab_0 (w : World) : (Instr.index 69 (.agg tabQ) (.int .i64 0)).run Tryd.prog w = .ok (.agg #[.int .i64 0, .int .u64 0, .int .u64 4, .int .u64 32]) w := by kernel_rfl
theorem tab_1 (w : World) : (Instr.index 69 (.agg tabQ) (.int .i64 1)).run Tryd.prog w = .ok (.agg #[.int .i64 1, .int .u64 4096, .int .u64 4, .int .u64 1]) w := by kernel_rfl
theorem tab_2 (w : World) : (Instr.index 69 (.agg tabQ) (.int .i64 2)).run Tryd.prog w = .ok (.agg #[.int .i64 2, .int .u64 8192, .int .u64 128, .int .u64 2]) w := by kernel_rfl
theorem tab_3 (w : World) : (Instr.index 69 (.agg tabQ) (.int .i64 3)).run Tryd.prog w = .ok (.agg #[.int .i64 3, .int .u64 2097152, .int .u64 4096, .int .u64 2]) w := by kernel_rfl
theorem tab_4 (w : World) : (Instr.index 69 (.agg tabQ) (.int .i64 4)).run Tryd.prog w = .ok (.agg #[.int .i64 4, .int .u64 2097156, .int .u64 4096, .int .u64 2]) w := by kernel_rfl
/-- What find answers. -/
def FindP (w : World) (r : Int × Int × Bool) (e : Ending) (w' : World) : Prop := e = .returned (.tuple #[.int .i64 r.1, .int .i64 r.2.1, .bool r.2.2]) ∧ Below w.heap.size w w'
theorem find_len (w : World) (off n : Int) (hn : ¬ n = 4) : Calls Tryd.prog 22 #[.int .u64 off, .int .i64 n] w (FindP w (0, 0, false)) := by
  have e4 : (n != 4) = true := by simpa using hn
  clear hn
  go_enter Tryd.func22, Tryd.ntmps22
  go_wp2
  go_ret3
  exact ⟨rfl, Below.refl _ _⟩
def dvQ (off A : Int) : Int := (off - A) % 18446744073709551616
def hitQ (off A S C : Int) : Bool := (dvQ off A % S == 0) && decide (dvQ off A / S < C)
def findQ (off : Int) : Int × Int × Bool :=
  if hitQ off 0 4 32 = true then (0, dvQ off 0 / 4, true) else if hitQ off 4096 4 1 = true then (1, dvQ off 4096 / 4, true) else if hitQ off 8192 128 2 = true then (2, dvQ off 8192 / 128, true)
  else if hitQ off 2097152 4096 2 = true then (3, dvQ off 2097152 / 4096, true) else if hitQ off 2097156 4096 2 = true then (4, dvQ off 2097156 / 4096, true) else (0, 0, false)
def missTo (off : Int) (k : Nat) : Prop :=
  (1 ≤ k → hitQ off 0 4 32 = false) ∧ (2 ≤ k → hitQ off 4096 4 1 = false) ∧ (3 ≤ k → hitQ off 8192 128 2 = false) ∧ (4 ≤ k → hitQ off 2097152 4096 2 = false) ∧ (5 ≤ k → hitQ off 2097156 4096 2 = false)
theorem dv_in (off A : Int) : 0 ≤ dvQ off A ∧ dvQ off A < 18446744073709551616 := by unfold dvQ; omega
theorem dv_wrap (off A : Int) : IntKind.u64.wrap (off - A) = dvQ off A := by rw [IntKind.wrap_u64]; rfl
theorem dv_wrap0 (off : Int) : IntKind.u64.wrap off = dvQ off 0 := by rw [IntKind.wrap_u64]; unfold dvQ; rw [Int.sub_zero]
theorem div_wrap {d S : Int} (h0 : 0 ≤ d) (h1 : d < 18446744073709551616) (hS : 1 ≤ S) : IntKind.u64.wrap (d.tdiv S) = d / S := by
  have k0 : 0 ≤ d / S := Int.ediv_nonneg h0 (by omega)
  have k1 : d / S ≤ d := Int.ediv_le_self _ h0
  rw [Int.tdiv_eq_ediv_of_nonneg h0, IntKind.wrap_u64]; omega
set_option maxRecDepth 100000 in
set_option maxHeartbeats 8000000 in
theorem find_any (w : World) (off : Int) (ht : Tab w) : Calls Tryd.prog 22 #[.int .u64 off, .int .i64 4] w (FindP w (findQ off)) := by
  obtain ⟨tt, fr, hrow⟩ := ht
  have HROW := Lib.hid hrow
  clear hrow
  go_enter Tryd.func22, Tryd.ntmps22
  go_wp2_with (refine wpList_load_row rfl _ _ rfl 0 rfl _ _ _ _ HROW.out Tryd.underlying69 rfl size_tab ?_)
  go_loopw [13] (fun i wr => ∃ k : Nat, k ≤ 5 ∧ i = .int .i64 k ∧ Hid (missTo off k) ∧ Below w.heap.size w wr) (fun i wr => (5 - intOf i).toNat)
  case atStart => exact ⟨0, by omega, rfl, Lib.hid ⟨fun h => by omega, fun h => by omega, fun h => by omega, fun h => by omega, fun h => by omega⟩, Below.refl _ _⟩
  case round =>
    obtain ⟨k, hk, rfl, HM, hbr⟩ := hrel
    have HBR := Lib.hid hbr
    clear hbr
    have hkk : k = 0 ∨ k = 1 ∨ k = 2 ∨ k = 3 ∨ k = 4 ∨ k = 5 := by omega
    rcases hkk with rfl | rfl | rfl | rfl | rfl | rfl

    · have P := tab_0
      go_wp2_with fail
      clear P
      have hd := dv_in off 0
      rw [dv_wrap0]
      obtain ⟨d, hdd⟩ : ∃ d, dvQ off 0 = d := ⟨_, rfl⟩
      rw [hdd] at hd ⊢
      have HDV := Lib.hid hdd
      clear hdd
      have hd0 := hd.1
      have hm : d.tmod 4 = d % 4 := Int.tmod_eq_emod_of_nonneg hd0
      have hq : IntKind.u64.wrap (d.tdiv 4) = d / 4 := div_wrap hd0 hd.2 (by omega)
      have H0 := heap_alloc_new wr (.cells #[.int .i64 0, .int .u64 0, .int .u64 4, .int .u64 32] 68)
      have HB2 := Lib.hid (HBR.out.alloc HBR.out.size (.cells #[.int .i64 0, .int .u64 0, .int .u64 4, .int .u64 32] 68))
      generalize wr.alloc (.cells #[.int .i64 0, .int .u64 0, .int .u64 4, .int .u64 32] 68) = wa at *
      have c0 : wa.cell? ⟨wr.heap.size, 0, none⟩ = some (.int .i64 0) := by rw [cell_of_row wa _ _ _ _ _ H0]; rfl
      have c1 : wa.cell? ⟨wr.heap.size, 2, none⟩ = some (.int .u64 4) := by rw [cell_of_row wa _ _ _ _ _ H0]; rfl
      have c2 : wa.cell? ⟨wr.heap.size, 3, none⟩ = some (.int .u64 32) := by rw [cell_of_row wa _ _ _ _ _ H0]; rfl
      clear H0 hd
      by_cases h1 : d % 4 = 0
      · have e1 : (d % 4 == 0) = true := by rw [beq_iff_eq]; exact h1
        by_cases h2 : d / 4 < 32
        · have e2 : decide (d / 4 < 32) = true := decide_eq_true h2
          have hn0 : 0 ≤ d / 4 := Int.ediv_nonneg hd0 (by omega)
          have hw : IntKind.i64.wrap (d / 4) = d / 4 := IntWalk.i64_in _ (by omega)
          have HR : Hid (findQ off = (0, d / 4, true)) := Lib.hid (by
            unfold findQ; rw [if_pos (by unfold hitQ; rw [HDV.out, e1, e2]; rfl), HDV.out])
          clear h1 h2
          go_quiet (fail)
          go_wp2_with fail
          go_quiet (fail)
          go_wp2
          go_ret3
          exact ⟨by rw [HR.out]; rfl, HB2.out.os, HB2.out.tape, HB2.out.output, HB2.out.size, HB2.out.block⟩
        · have e2 : decide (d / 4 < 32) = false := decide_eq_false h2
          have HH : Hid (hitQ off 0 4 32 = false) := Lib.hid (by unfold hitQ; rw [HDV.out, e2, Bool.and_false])
          clear h1 h2
          go_quiet (fail)
          go_wp2
          exact ⟨⟨1, by omega, rfl, Lib.hid ⟨fun _ => HH.out, fun h => by omega, fun h => by omega, fun h => by omega, fun h => by omega⟩, HB2.out.os, HB2.out.tape, HB2.out.output, HB2.out.size, HB2.out.block⟩, by simp [intOf]⟩
      · have e1 : (d % 4 == 0) = false := by rw [beq_eq_false_iff_ne]; exact h1
        have HH : Hid (hitQ off 0 4 32 = false) := Lib.hid (by unfold hitQ; rw [HDV.out, e1, Bool.false_and])
        clear h1
        go_quiet (fail)
        go_wp2
        exact ⟨⟨1, by omega, rfl, Lib.hid ⟨fun _ => HH.out, fun h => by omega, fun h => by omega, fun h => by omega, fun h => by omega⟩, HB2.out.os, HB2.out.tape, HB2.out.output, HB2.out.size, HB2.out.block⟩, by simp [intOf]⟩

    · have P := tab_1
      go_wp2_with fail
      clear P
      have hd := dv_in off 4096
      rw [dv_wrap]
      obtain ⟨d, hdd⟩ : ∃ d, dvQ off 4096 = d := ⟨_, rfl⟩
      rw [hdd] at hd ⊢
      have HDV := Lib.hid hdd
      clear hdd
      have hd0 := hd.1
      have hm : d.tmod 4 = d % 4 := Int.tmod_eq_emod_of_nonneg hd0
      have hq : IntKind.u64.wrap (d.tdiv 4) = d / 4 := div_wrap hd0 hd.2 (by omega)
      have H0 := heap_alloc_new wr (.cells #[.int .i64 1, .int .u64 4096, .int .u64 4, .int .u64 1] 68)
      have HB2 := Lib.hid (HBR.out.alloc HBR.out.size (.cells #[.int .i64 1, .int .u64 4096, .int .u64 4, .int .u64 1] 68))
      generalize wr.alloc (.cells #[.int .i64 1, .int .u64 4096, .int .u64 4, .int .u64 1] 68) = wa at *
      have c0 : wa.cell? ⟨wr.heap.size, 0, none⟩ = some (.int .i64 1) := by rw [cell_of_row wa _ _ _ _ _ H0]; rfl
      have c1 : wa.cell? ⟨wr.heap.size, 2, none⟩ = some (.int .u64 4) := by rw [cell_of_row wa _ _ _ _ _ H0]; rfl
      have c2 : wa.cell? ⟨wr.heap.size, 3, none⟩ = some (.int .u64 1) := by rw [cell_of_row wa _ _ _ _ _ H0]; rfl
      clear H0 hd
      by_cases h1 : d % 4 = 0
      · have e1 : (d % 4 == 0) = true := by rw [beq_iff_eq]; exact h1
        by_cases h2 : d / 4 < 1
        · have e2 : decide (d / 4 < 1) = true := decide_eq_true h2
          have hn0 : 0 ≤ d / 4 := Int.ediv_nonneg hd0 (by omega)
          have hw : IntKind.i64.wrap (d / 4) = d / 4 := IntWalk.i64_in _ (by omega)
          have HR : Hid (findQ off = (1, d / 4, true)) := Lib.hid (by
            unfold findQ; rw [if_neg (by rw [HM.out.1 (by omega)]; simp)]; rw [if_pos (by unfold hitQ; rw [HDV.out, e1, e2]; rfl), HDV.out])
          clear h1 h2
          go_quiet (fail)
          go_wp2_with fail
          go_quiet (fail)
          go_wp2
          go_ret3
          exact ⟨by rw [HR.out]; rfl, HB2.out.os, HB2.out.tape, HB2.out.output, HB2.out.size, HB2.out.block⟩
        · have e2 : decide (d / 4 < 1) = false := decide_eq_false h2
          have HH : Hid (hitQ off 4096 4 1 = false) := Lib.hid (by unfold hitQ; rw [HDV.out, e2, Bool.and_false])
          clear h1 h2
          go_quiet (fail)
          go_wp2
          exact ⟨⟨2, by omega, rfl, Lib.hid ⟨fun _ => HM.out.1 (by omega), fun _ => HH.out, fun h => by omega, fun h => by omega, fun h => by omega⟩, HB2.out.os, HB2.out.tape, HB2.out.output, HB2.out.size, HB2.out.block⟩, by simp [intOf]⟩
      · have e1 : (d % 4 == 0) = false := by rw [beq_eq_false_iff_ne]; exact h1
        have HH : Hid (hitQ off 4096 4 1 = false) := Lib.hid (by unfold hitQ; rw [HDV.out, e1, Bool.false_and])
        clear h1
        go_quiet (fail)
        go_wp2
        exact ⟨⟨2, by omega, rfl, Lib.hid ⟨fun _ => HM.out.1 (by omega), fun _ => HH.out, fun h => by omega, fun h => by omega, fun h => by omega⟩, HB2.out.os, HB2.out.tape, HB2.out.output, HB2.out.size, HB2.out.block⟩, by simp [intOf]⟩

    · have P := tab_2
      go_wp2_with fail
      clear P
      have hd := dv_in off 8192
      rw [dv_wrap]
      obtain ⟨d, hdd⟩ : ∃ d, dvQ off 8192 = d := ⟨_, rfl⟩
      rw [hdd] at hd ⊢
      have HDV := Lib.hid hdd
      clear hdd
      have hd0 := hd.1
      have hm : d.tmod 128 = d % 128 := Int.tmod_eq_emod_of_nonneg hd0
      have hq : IntKind.u64.wrap (d.tdiv 128) = d / 128 := div_wrap hd0 hd.2 (by omega)
      have H0 := heap_alloc_new wr (.cells #[.int .i64 2, .int .u64 8192, .int .u64 128, .int .u64 2] 68)
      have HB2 := Lib.hid (HBR.out.alloc HBR.out.size (.cells #[.int .i64 2, .int .u64 8192, .int .u64 128, .int .u64 2] 68))
      generalize wr.alloc (.cells #[.int .i64 2, .int .u64 8192, .int .u64 128, .int .u64 2] 68) = wa at *
      have c0 : wa.cell? ⟨wr.heap.size, 0, none⟩ = some (.int .i64 2) := by rw [cell_of_row wa _ _ _ _ _ H0]; rfl
      have c1 : wa.cell? ⟨wr.heap.size, 2, none⟩ = some (.int .u64 128) := by rw [cell_of_row wa _ _ _ _ _ H0]; rfl
      have c2 : wa.cell? ⟨wr.heap.size, 3, none⟩ = some (.int .u64 2) := by rw [cell_of_row wa _ _ _ _ _ H0]; rfl
      clear H0 hd
      by_cases h1 : d % 128 = 0
      · have e1 : (d % 128 == 0) = true := by rw [beq_iff_eq]; exact h1
        by_cases h2 : d / 128 < 2
        · have e2 : decide (d / 128 < 2) = true := decide_eq_true h2
          have hn0 : 0 ≤ d / 128 := Int.ediv_nonneg hd0 (by omega)
          have hw : IntKind.i64.wrap (d / 128) = d / 128 := IntWalk.i64_in _ (by omega)
          have HR : Hid (findQ off = (2, d / 128, true)) := Lib.hid (by
            unfold findQ; rw [if_neg (by rw [HM.out.1 (by omega)]; simp)]; rw [if_neg (by rw [HM.out.2.1 (by omega)]; simp)]; rw [if_pos (by unfold hitQ; rw [HDV.out, e1, e2]; rfl), HDV.out])
          clear h1 h2
          go_quiet (fail)
          go_wp2_with fail
          go_quiet (fail)
          go_wp2
          go_ret3
          exact ⟨by rw [HR.out]; rfl, HB2.out.os, HB2.out.tape, HB2.out.output, HB2.out.size, HB2.out.block⟩
        · have e2 : decide (d / 128 < 2) = false := decide_eq_false h2
          have HH : Hid (hitQ off 8192 128 2 = false) := Lib.hid (by unfold hitQ; rw [HDV.out, e2, Bool.and_false])
          clear h1 h2
          go_quiet (fail)
          go_wp2
          exact ⟨⟨3, by omega, rfl, Lib.hid ⟨fun _ => HM.out.1 (by omega), fun _ => HM.out.2.1 (by omega), fun _ => HH.out, fun h => by omega, fun h => by omega⟩, HB2.out.os, HB2.out.tape, HB2.out.output, HB2.out.size, HB2.out.block⟩, by simp [intOf]⟩
      · have e1 : (d % 128 == 0) = false := by rw [beq_eq_false_iff_ne]; exact h1
        have HH : Hid (hitQ off 8192 128 2 = false) := Lib.hid (by unfold hitQ; rw [HDV.out, e1, Bool.false_and])
        clear h1
        go_quiet (fail)
        go_wp2
        exact ⟨⟨3, by omega, rfl, Lib.hid ⟨fun _ => HM.out.1 (by omega), fun _ => HM.out.2.1 (by omega), fun _ => HH.out, fun h => by omega, fun h => by omega⟩, HB2.out.os, HB2.out.tape, HB2.out.output, HB2.out.size, HB2.out.block⟩, by simp [intOf]⟩

    · have P := tab_3
      go_wp2_with fail
      clear P
      have hd := dv_in off 2097152
      rw [dv_wrap]
      obtain ⟨d, hdd⟩ : ∃ d, dvQ off 2097152 = d := ⟨_, rfl⟩
      rw [hdd] at hd ⊢
      have HDV := Lib.hid hdd
      clear hdd
      have hd0 := hd.1
      have hm : d.tmod 4096 = d % 4096 := Int.tmod_eq_emod_of_nonneg hd0
      have hq : IntKind.u64.wrap (d.tdiv 4096) = d / 4096 := div_wrap hd0 hd.2 (by omega)
      have H0 := heap_alloc_new wr (.cells #[.int .i64 3, .int .u64 2097152, .int .u64 4096, .int .u64 2] 68)
      have HB2 := Lib.hid (HBR.out.alloc HBR.out.size (.cells #[.int .i64 3, .int .u64 2097152, .int .u64 4096, .int .u64 2] 68))
      generalize wr.alloc (.cells #[.int .i64 3, .int .u64 2097152, .int .u64 4096, .int .u64 2] 68) = wa at *
      have c0 : wa.cell? ⟨wr.heap.size, 0, none⟩ = some (.int .i64 3) := by rw [cell_of_row wa _ _ _ _ _ H0]; rfl
      have c1 : wa.cell? ⟨wr.heap.size, 2, none⟩ = some (.int .u64 4096) := by rw [cell_of_row wa _ _ _ _ _ H0]; rfl
      have c2 : wa.cell? ⟨wr.heap.size, 3, none⟩ = some (.int .u64 2) := by rw [cell_of_row wa _ _ _ _ _ H0]; rfl
      clear H0 hd
      by_cases h1 : d % 4096 = 0
      · have e1 : (d % 4096 == 0) = true := by rw [beq_iff_eq]; exact h1
        by_cases h2 : d / 4096 < 2
        · have e2 : decide (d / 4096 < 2) = true := decide_eq_true h2
          have hn0 : 0 ≤ d / 4096 := Int.ediv_nonneg hd0 (by omega)
          have hw : IntKind.i64.wrap (d / 4096) = d / 4096 := IntWalk.i64_in _ (by omega)
          have HR : Hid (findQ off = (3, d / 4096, true)) := Lib.hid (by
            unfold findQ; rw [if_neg (by rw [HM.out.1 (by omega)]; simp)]; rw [if_neg (by rw [HM.out.2.1 (by omega)]; simp)]; rw [if_neg (by rw [HM.out.2.2.1 (by omega)]; simp)]; rw [if_pos (by unfold hitQ; rw [HDV.out, e1, e2]; rfl), HDV.out])
          clear h1 h2
          go_quiet (fail)
          go_wp2_with fail
          go_quiet (fail)
          go_wp2
          go_ret3
          exact ⟨by rw [HR.out]; rfl, HB2.out.os, HB2.out.tape, HB2.out.output, HB2.out.size, HB2.out.block⟩
        · have e2 : decide (d / 4096 < 2) = false := decide_eq_false h2
          have HH : Hid (hitQ off 2097152 4096 2 = false) := Lib.hid (by unfold hitQ; rw [HDV.out, e2, Bool.and_false])
          clear h1 h2
          go_quiet (fail)
          go_wp2
          exact ⟨⟨4, by omega, rfl, Lib.hid ⟨fun _ => HM.out.1 (by omega), fun _ => HM.out.2.1 (by omega), fun _ => HM.out.2.2.1 (by omega), fun _ => HH.out, fun h => by omega⟩, HB2.out.os, HB2.out.tape, HB2.out.output, HB2.out.size, HB2.out.block⟩, by simp [intOf]⟩
      · have e1 : (d % 4096 == 0) = false := by rw [beq_eq_false_iff_ne]; exact h1
        have HH : Hid (hitQ off 2097152 4096 2 = false) := Lib.hid (by unfold hitQ; rw [HDV.out, e1, Bool.false_and])
        clear h1
        go_quiet (fail)
        go_wp2
        exact ⟨⟨4, by omega, rfl, Lib.hid ⟨fun _ => HM.out.1 (by omega), fun _ => HM.out.2.1 (by omega), fun _ => HM.out.2.2.1 (by omega), fun _ => HH.out, fun h => by omega⟩, HB2.out.os, HB2.out.tape, HB2.out.output, HB2.out.size, HB2.out.block⟩, by simp [intOf]⟩

    · have P := tab_4
      go_wp2_with fail
      clear P
      have hd := dv_in off 2097156
      rw [dv_wrap]
      obtain ⟨d, hdd⟩ : ∃ d, dvQ off 2097156 = d := ⟨_, rfl⟩
      rw [hdd] at hd ⊢
      have HDV := Lib.hid hdd
      clear hdd
      have hd0 := hd.1
      have hm : d.tmod 4096 = d % 4096 := Int.tmod_eq_emod_of_nonneg hd0
      have hq : IntKind.u64.wrap (d.tdiv 4096) = d / 4096 := div_wrap hd0 hd.2 (by omega)
      have H0 := heap_alloc_new wr (.cells #[.int .i64 4, .int .u64 2097156, .int .u64 4096, .int .u64 2] 68)
      have HB2 := Lib.hid (HBR.out.alloc HBR.out.size (.cells #[.int .i64 4, .int .u64 2097156, .int .u64 4096, .int .u64 2] 68))
      generalize wr.alloc (.cells #[.int .i64 4, .int .u64 2097156, .int .u64 4096, .int .u64 2] 68) = wa at *
      have c0 : wa.cell? ⟨wr.heap.size, 0, none⟩ = some (.int .i64 4) := by rw [cell_of_row wa _ _ _ _ _ H0]; rfl
      have c1 : wa.cell? ⟨wr.heap.size, 2, none⟩ = some (.int .u64 4096) := by rw [cell_of_row wa _ _ _ _ _ H0]; rfl
      have c2 : wa.cell? ⟨wr.heap.size, 3, none⟩ = some (.int .u64 2) := by rw [cell_of_row wa _ _ _ _ _ H0]; rfl
      clear H0 hd
      by_cases h1 : d % 4096 = 0
      · have e1 : (d % 4096 == 0) = true := by rw [beq_iff_eq]; exact h1
        by_cases h2 : d / 4096 < 2
        · have e2 : decide (d / 4096 < 2) = true := decide_eq_true h2
          have hn0 : 0 ≤ d / 4096 := Int.ediv_nonneg hd0 (by omega)
          have hw : IntKind.i64.wrap (d / 4096) = d / 4096 := IntWalk.i64_in _ (by omega)
          have HR : Hid (findQ off = (4, d / 4096, true)) := Lib.hid (by
            unfold findQ; rw [if_neg (by rw [HM.out.1 (by omega)]; simp)]; rw [if_neg (by rw [HM.out.2.1 (by omega)]; simp)]; rw [if_neg (by rw [HM.out.2.2.1 (by omega)]; simp)]; rw [if_neg (by rw [HM.out.2.2.2.1 (by omega)]; simp)]; rw [if_pos (by unfold hitQ; rw [HDV.out, e1, e2]; rfl), HDV.out])
          clear h1 h2
          go_quiet (fail)
          go_wp2_with fail
          go_quiet (fail)
          go_wp2
          go_ret3
          exact ⟨by rw [HR.out]; rfl, HB2.out.os, HB2.out.tape, HB2.out.output, HB2.out.size, HB2.out.block⟩
        · have e2 : decide (d / 4096 < 2) = false := decide_eq_false h2
          have HH : Hid (hitQ off 2097156 4096 2 = false) := Lib.hid (by unfold hitQ; rw [HDV.out, e2, Bool.and_false])
          clear h1 h2
          go_quiet (fail)
          go_wp2
          exact ⟨⟨5, by omega, rfl, Lib.hid ⟨fun _ => HM.out.1 (by omega), fun _ => HM.out.2.1 (by omega), fun _ => HM.out.2.2.1 (by omega), fun _ => HM.out.2.2.2.1 (by omega), fun _ => HH.out⟩, HB2.out.os, HB2.out.tape, HB2.out.output, HB2.out.size, HB2.out.block⟩, by simp [intOf]⟩
      · have e1 : (d % 4096 == 0) = false := by rw [beq_eq_false_iff_ne]; exact h1
        have HH : Hid (hitQ off 2097156 4096 2 = false) := Lib.hid (by unfold hitQ; rw [HDV.out, e1, Bool.false_and])
        clear h1
        go_quiet (fail)
        go_wp2
        exact ⟨⟨5, by omega, rfl, Lib.hid ⟨fun _ => HM.out.1 (by omega), fun _ => HM.out.2.1 (by omega), fun _ => HM.out.2.2.1 (by omega), fun _ => HM.out.2.2.2.1 (by omega), fun _ => HH.out⟩, HB2.out.os, HB2.out.tape, HB2.out.output, HB2.out.size, HB2.out.block⟩, by simp [intOf]⟩

    · have HR : Hid (findQ off = (0, 0, false)) := Lib.hid (by
        unfold findQ
        rw [HM.out.1 (by omega), HM.out.2.1 (by omega), HM.out.2.2.1 (by omega), HM.out.2.2.2.1 (by omega), HM.out.2.2.2.2 (by omega)]; rfl)
      go_wp2
      go_ret3
      exact ⟨by rw [HR.out]; rfl, HBR.out⟩

end Go.Proofs.YtgimnkablodheaaDoor
