/- The contracts of the document's own answers for layer 1: lists of bits' numbers. -/
import Derived.Test.YtbhknchpiagciaaRefC
import Derived.Test.YtbhknchpiagciaaCounts
namespace Go.Proofs.Ytbhknchpiagciaa
open Go.RowKit
set_option linter.unusedVariables false

theorem ownsRow_mono {w : World} {b b' : Nat} {e : TypeId} {s : Nat} {v : Value} {n : Nat} {xs : List Value} (h : w.ownsRow b e s v n xs) (hb : b' ≤ b) : w.ownsRow b' e s v n xs := by
  obtain ⟨h1, h2⟩ := h
  refine ⟨h1, ?_⟩
  rcases h2 with h2 | ⟨g, cap, cur, a, c, d⟩
  · exact .inl h2
  · exact .inr ⟨g, cap, cur, a, Nat.le_trans hb c, d⟩

set_option maxHeartbeats 800000 in
set_option maxRecDepth 100000 in
theorem refOnes_any (x : Int) (hx : In64 x) (w : World) :
    Calls Try.prog 32 #[.int .u64 x] w fun e w' => ∃ v, e = .returned v ∧ w'.ownsRow w.heap.size 3 1 v (onesB (V x)).length ((onesB (V x)).map (Value.int .i64)) ∧ Below w.heap.size w w' := by
  obtain ⟨i0, hi, hz0, hz1, hz2⟩ := info_parts info_int
  go_enter Try.func32, Try.ntmps32
  go_wp2_with fail
  refine (split_any x hx _).mono ?_
  rintro e w1 ⟨rfl, hb1⟩
  go_wp2_with (refine wpList_store_row rfl _ _ _ rfl w1.heap.size _ rfl rfl 48 _ (heap_alloc_new w1 _) ?_ (by rw [barr_size]; rfl) (barr_one _ _) ?_; · exact size48.trans (by rw [barr_size]))
  simp only [zero64]
  obtain ⟨A1, A2, A3⟩ := one_array hb1 (V x).getLsbD
  generalize ((w1.alloc (.cells (barr 64 fun _ => false) 48)).setRow w1.heap.size (barr 64 (V x).getLsbD)) = wa at *
  have hne := hb1.size
  clear hb1
  go_loopw [4, 5] (fun v i wr => ∃ k : Nat, k ≤ 64 ∧ i = .int .i64 k ∧ HoldsB wr w1.heap.size 48 64 (V x).getLsbD ∧ wr.ownsRow (w1.heap.size + 1) 3 1 v (onesK (V x) k).length ((onesK (V x) k).map (Value.int .i64)) ∧ Below w.heap.size w wr)
    (fun _ i _ => 64 - (intOf i).toNat)
  case atStart => exact ⟨0, Nat.zero_le _, rfl, A1, World.ownsRow_nil _ _ _ _, A2⟩
  case round =>
    obtain ⟨k, hk, rfl, h2, hown, hnx⟩ := hrel
    have hle := ones_le (V x) k
    by_cases hlt : k < 64
    · have hc := h2.cell hlt
      cases hbit : (V x).getLsbD k
      · rw [hbit] at hc
        have HB := Lib.hid hbit
        clear hbit
        go_wp2
        refine ⟨⟨k + 1, by omega, by go_num, h2, by rw [ones_miss HB.out]; exact hown, hnx⟩, by simp [intOf]; omega⟩
      · rw [hbit] at hc
        have HB := Lib.hid hbit
        clear hbit
        have h2s := h2.lt
        go_wp2_with (at_builtin; refine wpList_append_own _ rfl _ _ 34 rfl (w1.heap.size + 1) 3 i0 (.int .i64 0) 1 8 Try.underlying34 hi hz0 hz1 hz2 rfl (by decide) _ _ _ rfl (hown.alloc _) ⟨wr.heap.size, 0, none⟩ 1 1 [.int .i64 k] rfl rfl ?c1 ?c2 ?c3 ?c4 ?c5 ?_)
        case c1 =>
          intro j u hj
          match j, hj with
          | 0, hj => simp at hj; subst hj; simp [Addr.add]
        case c2 => intro u hu; simp at hu; subst hu; rfl
        case c3 => unfold maxLen; omega
        case c4 => omega
        case c5 => simp; omega
        intro v' w2 hown' hgrow _
        have R : w2.ownsRow (w1.heap.size + 1) 3 1 v' (onesK (V x) (k + 1)).length ((onesK (V x) (k + 1)).map (Value.int .i64)) := by
          rw [ones_hit HB.out]; simpa using hown'
        have R2 : Below w.heap.size w w2 := (hnx.alloc (by have := hnx.size; omega) _).grown hgrow (by have := hnx.size; simp; omega) (fun j hj => by have := (hown.lt j hj).1; omega)
        have R3 : HoldsB w2 w1.heap.size 48 64 (V x).getLsbD :=
          (hgrow.block _ (by simp; omega) (fun e => by have := (hown.lt _ e.symm).1; omega)).trans (h2.alloc (.cells #[.int .i64 k] 3))
        clear hown' hgrow hown hnx h2 hc
        go_wp2
        go_roundw
        case rel => exact ⟨k + 1, by omega, by go_num, R3, R, R2⟩
        case measure => simp [intOf]; omega
    · obtain rfl : k = 64 := by omega
      go_wp2
      go_ret
      exact ⟨_, rfl, ownsRow_mono hown (by omega), hnx⟩

set_option maxHeartbeats 800000 in
set_option maxRecDepth 100000 in
theorem refOf_any (v : Value) (xs : List Int) (w : World) (hr : ReadsL .i64 w.heap.size w v xs) :
    Calls Try.prog 33 #[v] w fun e w' => e = .returned (.int .u64 (U (ofB xs))) ∧ Below w.heap.size w w' := by
  obtain ⟨a, c, rfl, hm, hx⟩ := hr
  unfold maxLen at hm
  go_enter Try.func33, Try.ntmps33
  go_wp2
  simp only [zero64]
  go_loopw [4] (fun i wr => ∃ k : Nat, k ≤ xs.length ∧ i = .int .i64 k ∧ HoldsB wr w.heap.size 48 64 (fun j => decide ((j : Int) ∈ xs.take k)) ∧ Below w.heap.size w wr) (fun i _ => xs.length - (intOf i).toNat)
  case atStart => exact ⟨0, Nat.zero_le _, rfl, (HoldsB.new w 48 64 _).congr fun i _ => by simp, (Below.refl _ _).alloc (Nat.le_refl _) _⟩
  case round =>
    obtain ⟨k, hk, rfl, h2, hb⟩ := hrel
    by_cases hlt : k < xs.length
    · rcases hx with rfl | ⟨b, off, rfl, hbb, hc⟩
      · simp at hlt
      have hcell := (hb.cell (p := ⟨b, off + k, none⟩) hbb).trans (hc k hlt)
      have HS := Lib.hid (take_snoc xs k hlt)
      clear hc
      generalize xs.getD k 0 = x at hcell HS
      by_cases h0 : 0 ≤ x
      · by_cases h1 : x < 64
        · obtain ⟨m, rfl⟩ := Int.eq_ofNat_of_zero_le h0
          have hm64 : m < 64 := by omega
          have hc2 := h2.cell hm64
          have hf := h2.frozen m
          go_wp2
          refine ⟨⟨k + 1, by omega, by go_num, (h2.set m true).congr fun i hi => ?_, hb.setCell (by simp) _⟩, by simp [intOf]; omega⟩
          rw [HS.out]
          by_cases e : i = m
          · subst e; simp
          · rw [if_neg e, decide_eq_decide, List.mem_append, List.mem_singleton]
            have e2 : ¬ (i : Int) = (m : Int) := by omega
            simp [e2]
        · go_wp2
          refine ⟨⟨k + 1, by omega, by go_num, h2.congr fun i hi => ?_, hb⟩, by simp [intOf]; omega⟩
          rw [HS.out, decide_eq_decide, List.mem_append, List.mem_singleton]
          have e2 : ¬ (i : Int) = x := by omega
          simp [e2]
      · go_wp2
        refine ⟨⟨k + 1, by omega, by go_num, h2.congr fun i hi => ?_, hb⟩, by simp [intOf]; omega⟩
        rw [HS.out, decide_eq_decide, List.mem_append, List.mem_singleton]
        have e2 : ¬ (i : Int) = x := by omega
        simp [e2]
    · have h3 : HoldsB wr w.heap.size 48 64 (fun j => decide ((j : Int) ∈ xs)) := h2.congr fun i hi => by rw [List.take_of_length_le (by omega)]
      clear h2
      go_wp2_with (first
        | (go_at_call 35; refine (join_any _ _).mono ?_; rintro e w' ⟨rfl, hj⟩)
        | (refine wpList_load_row rfl _ _ rfl w.heap.size rfl 48 _ _ _ h3 Try.underlying48 rfl ?_ ?_; · exact size48.trans (by rw [barr_size])))
      go_ret
      exact ⟨rfl, hb.trans (hj.mono hb.size)⟩

theorem getD_ext {xs ys : List Int} (hl : xs.length = ys.length) (h : ∀ j, j < xs.length → xs.getD j 0 = ys.getD j 0) : xs = ys := by
  apply List.ext_getElem hl
  intro i h1 h2
  have := h i h1
  simpa [List.getD, h1, h2] using this

set_option maxHeartbeats 800000 in
theorem same_any (v u : Value) (xs ys : List Int) (B : Nat) (w : World) (hr : ReadsL .i64 B w v xs) (hs : ReadsL .i64 B w u ys) (hB : B ≤ w.heap.size) :
    Calls Try.prog 20 #[v, u] w fun e w' => e = .returned (.bool (decide (xs = ys))) ∧ Below w.heap.size w w' := by
  obtain ⟨a, c, rfl, hm, hx⟩ := hr
  obtain ⟨a', c', rfl, hm', hy⟩ := hs
  unfold maxLen at hm hm'
  by_cases hl : xs.length = ys.length
  · have hl2 : ((xs.length : Int) != ys.length) = false := by simp [hl]
    have HL := Lib.hid hl
    have hle : (ys.length : Int) ≤ xs.length := by omega
    have hle2 : (xs.length : Int) ≤ ys.length := by omega
    have E := Lib.hid (getD_ext hl)
    clear hl
    go_enter Try.func20, Try.ntmps20
    go_wp2
    go_loopw [5] (fun i wr => ∃ k : Nat, k ≤ xs.length ∧ i = .int .i64 k ∧ Below w.heap.size w wr ∧ ∀ j : Nat, j < k → xs.getD j 0 = ys.getD j 0) (fun i _ => xs.length - (intOf i).toNat)
    case atStart => exact ⟨0, Nat.zero_le _, rfl, Below.refl _ _, fun j hj => by omega⟩
    case round =>
      obtain ⟨k, hk, rfl, hb, hall⟩ := hrel
      have HA := Lib.hid hall
      clear hall
      by_cases hlt : k < xs.length
      · rcases hx with rfl | ⟨b, off, rfl, hbb, hc⟩
        · simp at hlt
        have hL := HL.out
        rcases hy with rfl | ⟨b', off', rfl, hbb', hc'⟩
        · rw [hL] at hlt; simp at hlt
        have hcell := (hb.cell (p := ⟨b, off + k, none⟩) (by show b < _; omega)).trans (hc k hlt)
        have hcell' := (hb.cell (p := ⟨b', off' + k, none⟩) (by show b' < _; omega)).trans (hc' k (by omega))
        have i1 : (k : Int) < (xs.length : Int) := by omega
        have i2 : (k : Int) < (ys.length : Int) := by omega
        clear hc hc' hL
        have HX : Hid (∀ p q, xs.getD k 0 = p → ys.getD k 0 = q → (p = q ↔ xs.getD k 0 = ys.getD k 0)) := by intro p q h1 h2; rw [h1, h2]
        by_cases hq : xs.getD k 0 = ys.getD k 0
        · have HQ := Lib.hid hq
          rw [hq] at hcell
          clear hq
          generalize ys.getD k 0 = y at hcell hcell'
          go_wp2_with fail
          go_quiet (fail)
          go_wp2
          refine ⟨⟨k + 1, by omega, by go_num, below_drewN hb _, fun j hj => ?_⟩, by simp [intOf]; omega⟩
          by_cases e : j = k
          · subst e; exact HQ.out
          · exact HA.out j (by omega)
        · have HE : Hid (false = decide (xs = ys)) := by
            show false = decide (xs = ys)
            symm; rw [decide_eq_false_iff_not]; intro h; exact hq (by rw [h])
          have hne : (xs.getD k 0 != ys.getD k 0) = true := by simpa using hq
          clear hq
          generalize ys.getD k 0 = y at hcell' hne
          generalize xs.getD k 0 = x at hcell hne
          go_wp2_with fail
          go_quiet (fail)
          go_wp2
          go_ret
          exact ⟨ret_bool HE.out, below_drewN hb _⟩
      · go_wp2
        go_ret
        exact ⟨ret_bool (by symm; rw [decide_eq_true_eq]; exact E.out fun j hj => HA.out j (by omega)), hb⟩
  · have hl2 : ((xs.length : Int) != ys.length) = true := by simp; omega
    have HE : Hid (false = decide (xs = ys)) := by
      show false = decide (xs = ys)
      symm; rw [decide_eq_false_iff_not]; intro h; exact hl (by rw [h])
    clear hl
    go_enter Try.func20, Try.ntmps20
    go_wp2
    go_ret
    exact ⟨ret_bool HE.out, Below.refl _ _⟩

end Go.Proofs.Ytbhknchpiagciaa
