/- Layer 11: All, the program's and the document's. -/
import Derived.Test.YtcnalabhcalfnaaCnF
import Derived.Laws.AppendOwn
import Derived.Outline
namespace Go.Proofs.Ytcnalabhcalfnaa
open Go.RowKit
set_option linter.unusedVariables false
set_option maxRecDepth 100000

def allF (k : Nat) (j : Nat) : Value := if j < k then .int .i64 (noT j) else .int .i64 0
theorem allF_up {k : Nat} (hk : k < 56) : (varr 56 (allF k)).setIfInBounds k (.int .i64 (noT k)) = varr 56 (allF (k + 1)) := by
  rw [varr_set]
  refine varr_congr fun i _ => ?_
  unfold allF
  by_cases e : i = k
  · rw [if_pos e, if_pos (by omega), e]
  · rw [if_neg e]
    by_cases c : i < k
    · rw [if_pos c, if_pos (by omega)]
    · rw [if_neg c, if_neg (by omega)]
/-- The row that All makes, after k rounds. -/
def RowA (w : World) (g k : Nat) : Prop := w.heap[g]? = some (.cells (varr 56 (allF k)) 3 (0, 0))
theorem RowA.lt {w : World} {g k : Nat} (h : RowA w g k) : g < w.heap.size := (Array.getElem?_eq_some_iff.1 h).1
theorem RowA.below {w w' : World} {g k : Nat} (h : RowA w g k) (hb : Below w.heap.size w w') : RowA w' g k := (hb.block g h.lt).trans h
theorem RowA.cell {w : World} {g k : Nat} (h : RowA w g k) {j : Nat} (hj : j < 56) : w.cell? ⟨g, j, none⟩ = some (allF k j) := by
  rw [cell_of_row w g j _ _ _ h]; exact varr_get 56 _ j hj
theorem RowA.free {w : World} {g k : Nat} (h : RowA w g k) (j : Nat) : w.frozen? ⟨g, j, none⟩ = false := frozen_of_row w g j _ _ h
theorem RowA.set {w : World} {g k : Nat} {v : Value} (h : RowA w g k) (e : (varr 56 (allF k)).setIfInBounds k v = varr 56 (allF (k + 1))) : RowA (w.setCell ⟨g, k, none⟩ v) g (k + 1) := by
  unfold RowA; rw [heap_setCell_same w g k _ _ _ h, e]
theorem noL_getD : ∀ i, i < 56 → (noL.map Int.ofNat).getD i 0 = (noT i : Int) := by decide +kernel
theorem RowA.reads {w : World} {g : Nat} (h : RowA w g 56) : ReadsL .i64 w.heap.size w (.slice (some ⟨g, 0, none⟩) 56 56) (noL.map Int.ofNat) := by
  refine ⟨some ⟨g, 0, none⟩, 56, rfl, by decide, .inr ⟨g, 0, rfl, h.lt, fun i hi => ?_⟩⟩
  have hi2 : i < 56 := hi
  rw [Nat.zero_add, h.cell hi2, noL_getD i hi2]
  unfold allF; rw [if_pos hi2]
set_option maxHeartbeats 2000000 in
theorem all_any (w : World) :
    Calls Try.prog 15 #[] w fun e w' => ∃ v, e = .returned v ∧ ReadsL .i64 w'.heap.size w' v (noL.map Int.ofNat) ∧ Below w.heap.size w w' := by
  obtain ⟨g, w0, hmk, H0, hbl, hg⟩ : ∃ g w0, (Instr.makeSlice 27 (.int .i64 56) (.int .i64 56)).run Try.prog w = .ok (.slice (some ⟨g, 0, none⟩) 56 56) w0 ∧ RowA w0 g 0 ∧ Below w.heap.size w w0 ∧ w.heap.size ≤ g :=
    ⟨w.heap.size, w.alloc (.cells (varr 56 (allF 0)) 3), by kernel_rfl, heap_alloc_new w _, (Below.refl _ _).alloc (Nat.le_refl _) _, Nat.le_refl _⟩
  have HB0 := Lib.hid hbl
  have HR0 := Lib.hid H0
  clear hbl H0
  go_enter Try.func15, Try.ntmps15
  go_wp2
  go_loopw [6] (fun i wr => ∃ k : Nat, k ≤ 56 ∧ i = .int .i64 k ∧ RowA wr g k ∧ Below w.heap.size w wr) (fun i _ => 56 - (intOf i).toNat)
  case atStart => exact ⟨0, Nat.zero_le _, rfl, HR0.out, HB0.out⟩
  case round =>
    obtain ⟨k, hk, rfl, hr, hb⟩ := hrel
    have HB := Lib.hid hb
    have HR := Lib.hid hr
    clear hb hr hmk HB0 HR0
    by_cases hlt : k < 56
    · have HF := Lib.hid fun w => at_any k hlt w
      have hfl : ∀ (no : Int) (nm : ByteArray) w, (Instr.field 36 (.agg #[.int .i64 no, .string nm]) 0).run Try.prog w = .ok (.int .i64 no) w := fun _ _ _ => by kernel_rfl
      have HU := Lib.hid (allF_up hlt)
      have hlt2 : (k : Int) < 56 := by omega
      generalize nmT k = nm at *
      generalize (noT k : Int) = no at *
      go_wp2_with (fail)
      (with_reducible refine (HF.out _).mono ?_)
      rintro e1 w1 ⟨rfl, hb1⟩
      have HR1 := Lib.hid (HR.out.below hb1)
      have HB1 := Lib.hid (HB.out.trans (hb1.mono HB.out.size))
      have hc1 := HR1.out.cell hlt
      have hf1 := HR1.out.free k
      clear hb1
      go_wp2
      go_roundw
      case rel => exact ⟨k + 1, by omega, by go_num, HR1.out.set HU.out, HB1.out.setCell hg _⟩
      case measure => simp [intOf]; omega
    · have hkl : k = 56 := by omega
      subst hkl
      go_wp2
      go_ret
      exact ⟨_, rfl, HR.out.reads, HB.out⟩

theorem info_int : (Try.prog.info? 3).map (fun i => (i.zero, i.size, i.bytes)) = some (some (.int .i64 0), 1, 8) := by kernel_rfl
/-- The registers' numbers below n. -/
def numsTo (n : Nat) : List Int := (List.range n).filterMap fun j : Nat => if ixN (j : Int) < 56 then some (j : Int) else none
theorem numsTo_hit {n : Nat} (h : ixN (n : Int) < 56) : numsTo (n + 1) = numsTo n ++ [(n : Int)] := by
  unfold numsTo; rw [List.range_succ, List.filterMap_append]; simp [h]
theorem numsTo_miss {n : Nat} (h : ¬ ixN (n : Int) < 56) : numsTo (n + 1) = numsTo n := by
  unfold numsTo; rw [List.range_succ, List.filterMap_append]; simp [h]
theorem numsTo_le (n : Nat) : (numsTo n).length ≤ n := by
  have := List.length_filterMap_le (fun j : Nat => if ixN (j : Int) < 56 then some (j : Int) else none) (List.range n)
  rw [List.length_range] at this; exact this
set_option maxHeartbeats 2000000 in
theorem refAll_any (w : World) :
    Calls Try.prog 16 #[] w fun e w' => ∃ v, e = .returned v ∧ ReadsL .i64 w'.heap.size w' v (numsTo 4096) ∧ Below w.heap.size w w' := by
  obtain ⟨i0, hi, hz0, hz1, hz2⟩ := info_parts info_int
  go_enter Try.func16, Try.ntmps16
  go_wp2
  go_loopw [1, 2] (fun v i wr => ∃ k : Nat, k ≤ 4096 ∧ i = .int .i64 k ∧ wr.ownsRow w.heap.size 3 1 v (numsTo k).length ((numsTo k).map (Value.int .i64)) ∧ Below w.heap.size w wr)
    (fun _ i _ => 4096 - (intOf i).toNat)
  case atStart => exact ⟨0, Nat.zero_le _, rfl, World.ownsRow_nil _ _ _ _, Below.refl _ _⟩
  case round =>
    obtain ⟨k, hk, rfl, hown, hnx⟩ := hrel
    have hle := numsTo_le k
    have HF := Lib.hid fun w => refName_any (k : Int) w
    by_cases hlt : k < 4096
    · have hlt2 : (k : Int) < 4096 := by omega
      by_cases hb : ixN (k : Int) < 56
      · have hne : ¬ nameN (k : Int) = ⟨#[]⟩ := nmT_ne hb
        have hq3 : (nameN (k : Int)).toList.isEmpty = false := by
          cases e : (nameN (k : Int)).toList with
          | nil => exact absurd (data_inj (by rw [← ByteArray.toList_eq, e])) hne
          | cons _ _ => rfl
        have hq1 : ¬ (nameN (k : Int)).toList = [] := by intro e; rw [e] at hq3; cases hq3
        have hq2 : (!(nameN (k : Int)).toList.isEmpty) = true := by rw [hq3]; rfl
        have HB := Lib.hid (numsTo_hit hb)
        clear hb hne
        generalize nameN (k : Int) = nm at *
        go_wp2_with (first
          | (go_at_call 11; (with_reducible refine (HF.out _).mono ?_); rintro e1 w1 ⟨rfl, rfl⟩)
          | (at_builtin; refine wpList_append_own _ rfl _ _ 27 rfl w.heap.size 3 i0 (.int .i64 0) 1 8 Try.underlying27 hi hz0 hz1 hz2 rfl (by decide) _ _ _ rfl (hown.alloc _) ⟨wr.heap.size, 0, none⟩ 1 1 [.int .i64 k] rfl rfl ?c1 ?c2 ?c3 ?c4 ?c5 ?_))
        case c1 =>
          intro j u hj
          match j, hj with
          | 0, hj => simp at hj; subst hj; simp [Addr.add]
        case c2 => intro u hu; simp at hu; subst hu; rfl
        case c3 => unfold maxLen; omega
        case c4 => omega
        case c5 => have := hnx.size; simp; omega
        intro v' w1 hown' hgrow _
        have R : w1.ownsRow w.heap.size 3 1 v' (numsTo (k + 1)).length ((numsTo (k + 1)).map (Value.int .i64)) := by
          rw [HB.out]; simpa using hown'
        have R2 : Below w.heap.size w w1 := (hnx.alloc (by have := hnx.size; omega) _).grown hgrow (by have := hnx.size; simp; omega) (fun j hj => (hown.lt j hj).1)
        clear hown' hgrow hown hnx
        go_wp2
        go_roundw
        case rel => exact ⟨k + 1, by omega, by go_num, R, R2⟩
        case measure => simp [intOf]; omega
      · have hnm : nameN (k : Int) = ⟨#[]⟩ := by
          unfold nameN
          rcases ixN_cases (k : Int) with ⟨a, _⟩ | ⟨a, _⟩
          · exact absurd a hb
          · rw [a]; rfl
        have HB := Lib.hid (numsTo_miss hb)
        clear hb
        rw [hnm] at HF
        clear hnm
        go_wp2_with (go_at_call 11; (with_reducible refine (HF.out _).mono ?_); rintro e1 w1 ⟨rfl, rfl⟩)
        go_roundw
        case rel => exact ⟨k + 1, by omega, by go_num, by rw [HB.out]; exact hown, hnx⟩
        case measure => simp [intOf]; omega
    · have hkl : k = 4096 := by omega
      subst hkl
      go_wp2
      go_ret
      exact ⟨_, rfl, ReadsL.own hown, hnx⟩
end Go.Proofs.Ytcnalabhcalfnaa
