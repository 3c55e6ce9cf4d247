/- The document's memory of layer 3: a struct that holds a list of cells; the contracts of its calls. -/
import Derived.Test.YtoghdkhlliehoaaRows
import Derived.Test.YtoghdkhlliehoaaOnly
import Derived.Test.YtoghdkhlliehoaaBv
import Derived.WalkLawsBesides
import Derived.BigQuiet
import Derived.Deep.QuietTactic
import Derived.Lib.Hide
namespace Go.Proofs.Ytoghdkhlliehoaa
open Go.RowKit
set_option linter.unusedVariables false
set_option maxRecDepth 100000

/-- The cells of a list of bytes at addresses. -/
def cellsOf (l : List (Int × Int)) : List Value := l.flatMap fun c => [.int .u64 c.1, .int .u8 c.2]
theorem cellsOf_len (l : List (Int × Int)) : (cellsOf l).length = l.length * 2 := by
  unfold cellsOf; induction l with
  | nil => rfl
  | cons c l ih => simp [List.flatMap_cons, ih]; omega
theorem cellsOf_append (l m : List (Int × Int)) : cellsOf (l ++ m) = cellsOf l ++ cellsOf m := by unfold cellsOf; simp
theorem cellsOf_get (l : List (Int × Int)) (k : Nat) (h : k < l.length) : (cellsOf l)[k * 2]? = some (.int .u64 (l.getD k (0, 0)).1) ∧ (cellsOf l)[k * 2 + 1]? = some (.int .u8 (l.getD k (0, 0)).2) := by
  induction l generalizing k with
  | nil => simp at h
  | cons c l ih =>
    cases k with
    | zero => simp [cellsOf]
    | succ k =>
      have e : cellsOf (c :: l) = .int .u64 c.1 :: .int .u8 c.2 :: cellsOf l := by simp [cellsOf]
      have := ih k (by simpa using h)
      rw [e, show (k + 1) * 2 = k * 2 + 1 + 1 by omega]
      simpa using this

/-- What the list tells of an address. -/
def look (l : List (Int × Int)) (x : Int) : Int := ((l.find? fun c => c.1 == x).map (·.2)).getD 0
theorem look_nil (x : Int) : look [] x = 0 := rfl
theorem look_none {l : List (Int × Int)} {x : Int} (h : ∀ j, j < l.length → ¬ (l.getD j (0, 0)).1 = x) : look l x = 0 := by
  unfold look
  have : l.find? (fun c => c.1 == x) = none := by
    rw [List.find?_eq_none]
    intro c hc
    obtain ⟨j, hj, rfl⟩ := List.getElem_of_mem hc
    have := h j hj
    simpa [List.getD, hj] using this
  rw [this]; rfl
theorem look_some {l : List (Int × Int)} {x : Int} {k : Nat} (hk : k < l.length) (h : ∀ j, j < k → ¬ (l.getD j (0, 0)).1 = x) (e : (l.getD k (0, 0)).1 = x) : look l x = (l.getD k (0, 0)).2 := by
  unfold look
  have : l.find? (fun c => c.1 == x) = some (l.getD k (0, 0)) := by
    rw [List.find?_eq_some_iff_getElem]
    refine ⟨by simpa using e, k, hk, by simp [List.getD, hk], fun j hj => ?_⟩
    have := h j hj
    simpa [List.getD, show j < l.length by omega] using this
  rw [this]; rfl

/-- The struct in block b holds base, size and that list, whose cells lie in block g. -/
def RefRam (w : World) (b g : Nat) (base size : Int) (l : List (Int × Int)) : Prop :=
  ∃ a c, w.heap[b]? = some (.cells #[.int .u64 base, .int .u64 size, .slice a l.length c] 36 (0, 0)) ∧ l.length ≤ 1000000 ∧ (l = [] ∨ a = some ⟨g, 0, none⟩ ∧ g ≠ b ∧ Lays w g (cellsOf l))

theorem refAt_any (w : World) (b g : Nat) (base size : Int) (l : List (Int × Int)) (x : Int) (h : RefRam w b g base size l) :
    Calls Try.prog 36 #[.pointer (some ⟨b, 0, none⟩), .int .u64 x] w fun e w' => e = .returned (.int .u8 (look l x)) ∧ w = w' := by
  obtain ⟨a, c, hb, hm, hx⟩ := h
  have hc2 : w.cell? ⟨b, 2, none⟩ = some (.slice a l.length c) := by rw [cell_of_row w b 2 _ _ _ hb]; rfl
  go_enter Try.func36, Try.ntmps36
  go_wp2
  go_loop [5] (fun i => ∃ k : Nat, k ≤ l.length ∧ i = .int .i64 k ∧ ∀ j, j < k → ¬ (l.getD j (0, 0)).1 = x) (fun i => l.length - (intOf i).toNat)
  case atStart => exact ⟨0, Nat.zero_le _, rfl, fun j hj => absurd hj (by omega)⟩
  case round =>
    obtain ⟨k, hk, rfl, hno⟩ := hrel
    have HN := Lib.hid hno
    clear hno
    by_cases hlt : k < l.length
    · rcases hx with rfl | ⟨rfl, hne, hl⟩
      · simp at hlt
      have hA := hl.cell (cellsOf_get l k hlt).1
      have hB := hl.cell (cellsOf_get l k hlt).2
      by_cases e : (l.getD k (0, 0)).1 = x
      · have hr := Lib.hid (look_some hlt HN.out e)
        have ee : ((l.getD k (0, 0)).1 == x) = true := by simpa using e
        clear e hl
        generalize l.getD k (0, 0) = cc at *
        go_wp2
        go_ret
        exact ⟨by rw [hr.out]; rfl, rfl⟩
      · have ee : ((l.getD k (0, 0)).1 == x) = false := by simpa using e
        have HE := Lib.hid e
        clear e hl
        obtain ⟨cc, hcc⟩ : ∃ cc, l.getD k (0, 0) = cc := ⟨_, rfl⟩
        rw [hcc] at hA hB ee HE
        have HC := Lib.hid hcc
        clear hcc
        go_wp2
        go_round
        case rel => exact ⟨k + 1, by omega, by go_num, fun j hj => by
          by_cases hjk : j < k
          · exact HN.out j hjk
          · obtain rfl : j = k := by omega
            rw [HC.out]; exact HE.out⟩
        case measure => simp [intOf]; omega
    · have hr := Lib.hid (look_none (l := l) (x := x) fun j hj => HN.out j (by omega))
      go_wp2
      go_ret
      exact ⟨by rw [hr.out]; rfl, rfl⟩

/-- The list behind a set. -/
def setL (l : List (Int × Int)) (x v : Int) : List (Int × Int) := l.filter (fun c => c.1 != x) ++ if v = 0 then [] else [(x, v)]
theorem filter_take_hit {l : List (Int × Int)} {x : Int} {k : Nat} {c : Int × Int} (hk : k < l.length) (hc : l.getD k (0, 0) = c) (e : c.1 = x) : (l.take (k + 1)).filter (fun c => c.1 != x) = (l.take k).filter (fun c => c.1 != x) := by
  rw [List.take_succ_eq_append_getElem hk, List.filter_append]
  have : l[k] = c := by simpa [List.getD, hk] using hc
  rw [this]; simp [e]
theorem filter_take_miss {l : List (Int × Int)} {x : Int} {k : Nat} {c : Int × Int} (hk : k < l.length) (hc : l.getD k (0, 0) = c) (e : ¬ c.1 = x) : (l.take (k + 1)).filter (fun c => c.1 != x) = (l.take k).filter (fun c => c.1 != x) ++ [c] := by
  rw [List.take_succ_eq_append_getElem hk, List.filter_append]
  have : l[k] = c := by simpa [List.getD, hk] using hc
  rw [this]; simp [e]
theorem filter_take_le (l : List (Int × Int)) (x : Int) (k : Nat) : ((l.take k).filter (fun c => c.1 != x)).length ≤ l.length :=
  Nat.le_trans (List.length_filter_le _ _) (by rw [List.length_take]; omega)
theorem setL_len (l : List (Int × Int)) (x v : Int) : (setL l x v).length ≤ l.length + 1 := by
  have := List.length_filter_le (fun c : Int × Int => c.1 != x) l
  unfold setL; rw [List.length_append]; split <;> simp <;> omega

theorem info_cell : (Try.prog.info? 67).map (fun i => (i.zero, i.size, i.bytes)) = some (some (.agg #[.int .u64 0, .int .u8 0]), 2, 16) := by kernel_rfl

/-- What set leaves. -/
def SetEnd (w : World) (b : Nat) (base size : Int) (l : List (Int × Int)) (x v : Int) (e : Ending) (w' : World) : Prop :=
  (∃ u, e = .returned u) ∧ Only (fun i => i = b) w w' ∧ ∃ g', w.heap.size ≤ g' ∧ RefRam w' b g' base size (setL l x v)

theorem own_slice {w : World} {B : Nat} {e : TypeId} {size : Nat} {s : Value} {n : Nat} {vs : List Value} (h : w.ownsRow B e size s n vs) : ∃ A m C, s = .slice A m C := by
  rcases Lays.own h with ⟨rfl, _, _⟩ | ⟨g, cap, rfl, _, _⟩
  · exact ⟨_, _, _, rfl⟩
  · exact ⟨_, _, _, rfl⟩
theorem set_end {w w1 : World} {b c : Nat} {base size : Int} {a : Option Addr} {l : List (Int × Int)} {x v : Int} {s : Value} {n : Nat} {u : Value} (hbl : b < w.heap.size)
    (hbb : w1.heap[b]? = some (.cells #[.int .u64 base, .int .u64 size, .slice a n c] 36 (0, 0))) (R2 : Below w.heap.size w w1)
    (HO : w1.ownsRow w.heap.size 67 2 s (setL l x v).length (cellsOf (setL l x v))) (hn : (setL l x v).length ≤ l.length + 1) (hl : l.length < 1000000) :
    SetEnd w b base size l x v (.returned u) (w1.setCell ⟨b, 2, none⟩ s) := by
  have hO : Only (fun i => i = b) w (w1.setCell ⟨b, 2, none⟩ s) := (Only.of_below (fun i => i = b) R2).setCell (p := ⟨b, 2, none⟩) (.inl rfl) s
  have hB : (w1.setCell ⟨b, 2, none⟩ s).heap[b]? = some (.cells #[.int .u64 base, .int .u64 size, s] 36 (0, 0)) := by rw [heap_setCell_same w1 b 2 _ _ _ hbb]; rfl
  have hO2 : Only (fun i => i = b) w1 (w1.setCell ⟨b, 2, none⟩ s) := (Only.refl (fun i => i = b) w1).setCell (p := ⟨b, 2, none⟩) (.inl rfl) s
  rcases Lays.own HO with ⟨rfl, h0, hv⟩ | ⟨g, cap, rfl, hg, hl2⟩
  · exact ⟨⟨_, rfl⟩, hO, w.heap.size, Nat.le_refl _, _, _, by rw [List.length_eq_zero_iff.1 h0]; exact hB, by omega, .inl (List.length_eq_zero_iff.1 h0)⟩
  · exact ⟨⟨_, rfl⟩, hO, g, hg, _, _, hB, by omega, .inr ⟨rfl, by omega, hl2.keeps hO2 (by omega)⟩⟩

set_option maxHeartbeats 1000000 in
theorem refSet_any (w : World) (b g : Nat) (base size : Int) (l : List (Int × Int)) (x v : Int) (h : RefRam w b g base size l) (hl1 : l.length < 1000000) :
    Calls Try.prog 35 #[.pointer (some ⟨b, 0, none⟩), .int .u64 x, .int .u8 v] w (SetEnd w b base size l x v) := by
  obtain ⟨i0, hi, hz0, hz1, hz2⟩ := info_parts info_cell
  obtain ⟨a, c, hb, hm, hx⟩ := h
  have hbl : b < w.heap.size := (Array.getElem?_eq_some_iff.1 hb).1
  go_enter Try.func35, Try.ntmps35
  go_wp2
  go_loopw [6, 7] (fun s i wr => ∃ k : Nat, k ≤ l.length ∧ i = .int .i64 k ∧ wr.ownsRow w.heap.size 67 2 s ((l.take k).filter (fun c => c.1 != x)).length (cellsOf ((l.take k).filter (fun c => c.1 != x))) ∧ Below w.heap.size w wr)
    (fun _ i _ => l.length - (intOf i).toNat)
  case atStart => exact ⟨0, Nat.zero_le _, rfl, World.ownsRow_nil _ _ _ _, Below.refl _ _⟩
  case round =>
    obtain ⟨k, hk, rfl, hown, hbr⟩ := hrel
    have hbb := (hbr.block b hbl).trans hb
    have hc2 : wr.cell? ⟨b, 2, none⟩ = some (.slice a l.length c) := by rw [cell_of_row wr b 2 _ _ _ hbb]; rfl
    have HF := filter_take_le l x k
    by_cases hlt : k < l.length
    · rcases hx with rfl | ⟨rfl, hne, hl⟩
      · simp at hlt
      have hl2 := hl.keeps (Only.of_below (fun _ => False) hbr) id
      obtain ⟨cc, hcc⟩ : ∃ cc, l.getD k (0, 0) = cc := ⟨_, rfl⟩
      have hA := hl2.cell (cellsOf_get l k hlt).1
      have hB := hl2.cell (cellsOf_get l k hlt).2
      rw [hcc] at hA hB
      have HL := Lib.hid hl
      have HB0 := Lib.hid hb
      by_cases e : cc.1 = x
      · have ee : (cc.1 != x) = false := by simpa using e
        have HE := Lib.hid (filter_take_hit hlt hcc e)
        clear e hl hl2 hcc hb hbb
        go_wp2
        go_roundw
        case rel => exact ⟨k + 1, by omega, by go_num, by rw [HE.out]; exact hown, hbr⟩
        case measure => simp [intOf]; omega
      · have ee : (cc.1 != x) = true := by simpa using e
        have HE := Lib.hid (filter_take_miss hlt hcc e)
        clear e hl hl2 hcc hb hbb
        go_wp2_with (at_builtin; refine wpList_append_own _ rfl _ _ 34 rfl w.heap.size 67 i0 (.agg #[.int .u64 0, .int .u8 0]) 2 16 Try.underlying34 hi hz0 hz1 hz2 rfl (by decide) _ _ _ rfl (hown.alloc _) ⟨wr.heap.size, 0, none⟩ 1 1 [.int .u64 cc.1, .int .u8 cc.2] rfl rfl ?c1 ?c2 ?c3 ?c4 ?c5 ?_)
        case c1 =>
          intro j u hj
          match j, hj with
          | 0, hj => simp at hj; subst hj; simp [Addr.add]
          | 1, hj => simp at hj; subst hj; simp [Addr.add]
        case c2 => intro u hu; simp at hu; rcases hu with rfl | rfl <;> rfl
        case c3 => unfold maxLen; omega
        case c4 => omega
        case c5 => have := hbr.size; simp; omega
        intro v' w1 hown' hgrow _
        have R2 : Below w.heap.size w w1 := (hbr.alloc (by have := hbr.size; omega) _).grown hgrow (by have := hbr.size; simp; omega) (fun j hj => (hown.lt j hj).1)
        have R : w1.ownsRow w.heap.size 67 2 v' ((l.take (k + 1)).filter (fun c => c.1 != x)).length (cellsOf ((l.take (k + 1)).filter (fun c => c.1 != x))) := by
          rw [HE.out, cellsOf_append, List.length_append]; exact hown'
        clear hown' hgrow hown hbr
        go_wp2
        go_roundw
        case rel => exact ⟨k + 1, by omega, by go_num, R, R2⟩
        case measure => simp [intOf]; omega
    · obtain rfl : k = l.length := by omega
      rw [List.take_length] at hown HF
      generalize hf : l.filter (fun c => c.1 != x) = f at *
      have HFe := Lib.hid hf
      clear hf
      have hfz := frozen_of_row wr b 2 _ _ hbb
      have HB0 := Lib.hid hb
      by_cases hv : v = 0
      · have e : setL l x v = f := by unfold setL; rw [HFe.out, if_pos hv, List.append_nil]
        have HO : wr.ownsRow w.heap.size 67 2 u6 (setL l x v).length (cellsOf (setL l x v)) := by rw [e]; exact hown
        have HBB := Lib.hid hbb
        subst hv
        obtain ⟨A, n', C, rfl⟩ := own_slice HO
        clear hown hb hbb e
        go_wp2
        go_end0
        exact set_end hbl HBB.out hbr HO (setL_len l x 0) hl1
      · have hvv : (v != 0) = true := by simpa using hv
        have HV := Lib.hid hv
        clear hv
        go_wp2_with (at_builtin; refine wpList_append_own _ rfl _ _ 34 rfl w.heap.size 67 i0 (.agg #[.int .u64 0, .int .u8 0]) 2 16 Try.underlying34 hi hz0 hz1 hz2 rfl (by decide) _ _ _ rfl (hown.alloc _) ⟨wr.heap.size, 0, none⟩ 1 1 [.int .u64 x, .int .u8 v] rfl rfl ?c1 ?c2 ?c3 ?c4 ?c5 ?_)
        case c1 =>
          intro j u hj
          match j, hj with
          | 0, hj => simp at hj; subst hj; simp [Addr.add]
          | 1, hj => simp at hj; subst hj; simp [Addr.add]
        case c2 => intro u hu; simp at hu; rcases hu with rfl | rfl <;> rfl
        case c3 => unfold maxLen; omega
        case c4 => omega
        case c5 => have := hbr.size; simp; omega
        intro v' w1 hown' hgrow _
        have R2 : Below w.heap.size w w1 := (hbr.alloc (by have := hbr.size; omega) _).grown hgrow (by have := hbr.size; simp; omega) (fun j hj => (hown.lt j hj).1)
        have hbb2 := (R2.block b hbl).trans HB0.out
        have hc3 : w1.cell? ⟨b, 2, none⟩ = some (.slice a l.length c) := by rw [cell_of_row w1 b 2 _ _ _ hbb2]; rfl
        have hfz2 := frozen_of_row w1 b 2 _ _ hbb2
        have HBB := Lib.hid hbb2
        have HO : w1.ownsRow w.heap.size 67 2 v' (setL l x v).length (cellsOf (setL l x v)) := by
          have e : setL l x v = f ++ [(x, v)] := by unfold setL; rw [HFe.out, if_neg HV.out]
          rw [e, cellsOf_append, List.length_append]; exact hown'
        obtain ⟨A, n', C, rfl⟩ := own_slice HO
        clear hown' hgrow hown hbr hbb2 hb hbb
        go_wp2
        go_end0
        exact set_end hbl HBB.out R2 HO (setL_len l x v) hl1

end Go.Proofs.Ytoghdkhlliehoaa
