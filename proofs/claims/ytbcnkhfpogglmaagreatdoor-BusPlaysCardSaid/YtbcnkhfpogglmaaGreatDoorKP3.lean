/- Joined: R3 R3b RdN R3c R3d R3e R3f R3g R3h MemEnd ArrEq PgMap Pm Pm2 Byt Pm3 LawsG Pm4 Pm5 Pm6 Pm7 Pm8 Pm9 Pm10 Pm11 Pm12 Pm13 Pk1 Pk4 Pk5 -/
import Derived.Test.YtbcnkhfpogglmaaGreatDoorKP2
import Derived.Test.YtbcnkhfpogglmaaGreatDoorRows
import Derived.WalkLawsBesides
import Derived.BigQuiet
import Derived.Deep.QuietTactic
import Derived.Lib.Hide
import Derived.StillTailTactics
import Derived.Deep.AppendLies
import Derived.Deep.RegionLaw
import Derived.Laws.StructEq
import Derived.Maps.RangeWalk
import Derived.Maps.OwnSet
import Derived.Maps.Ext
import Derived.Laws.CopyOwn
import Derived.Shelf.Bytes.SlCountOne
import Derived.Laws.EntriesVeiled
import Derived.Outline
import Derived.Laws.MakeOwn
import Derived.Deep.RegionHeld3
import Derived.Deep.DrawnRows
import Derived.RangeFuncGives
import Derived.Shelf.AbstractIn
import Derived.Sort.MapsRangeIn
import Derived.Sort.KeysCollected
import Derived.WalkKit
import Derived.OwnWalkIn
import Derived.TacticsInMore
import Derived.RegionIn
import Derived.LoopNIn
import Derived.LoopIn
namespace Go.Proofs.YtbcnkhfpogglmaaGreatDoor.M3
open Go.RowKit
set_option linter.unusedVariables false
set_option maxRecDepth 100000

/-- The cells of a list of bytes at addresses. -/
def cellsOf (l : List (Int × Int)) : List Value := l.flatMap fun c => [.int .u64 c.1, .int .u8 c.2]
theorem cellsOf_append (l m : List (Int × Int)) : cellsOf (l ++ m) = cellsOf l ++ cellsOf m := by unfold cellsOf; simp
theorem cellsOf_get (l : List (Int × Int)) (k : Nat) (h : k < l.length) : (cellsOf l)[k * 2]? = some (.int .u64 (l.getD k (0, 0)).1) ∧ (cellsOf l)[k * 2 + 1]? = some (.int .u8 (l.getD k (0, 0)).2) := by
  induction l generalizing k with
  | nil => simp at h
  | cons c l ih =>
    cases k with
    | zero => simp [cellsOf]
    | succ k =>
      have e : cellsOf (c :: l) = .int .u64 c.1 :: .int .u8 c.2 :: cellsOf l := by simp [cellsOf]
      have := ih k (by simpa using h)
      rw [e, show (k + 1) * 2 = k * 2 + 1 + 1 by omega]
      simpa using this

/-- What the list tells of an address. -/
def look (l : List (Int × Int)) (x : Int) : Int := ((l.find? fun c => c.1 == x).map (·.2)).getD 0
theorem look_none {l : List (Int × Int)} {x : Int} (h : ∀ j, j < l.length → ¬ (l.getD j (0, 0)).1 = x) : look l x = 0 := by
  unfold look
  have : l.find? (fun c => c.1 == x) = none := by
    rw [List.find?_eq_none]
    intro c hc
    obtain ⟨j, hj, rfl⟩ := List.getElem_of_mem hc
    have := h j hj
    simpa [List.getD, hj] using this
  rw [this]; rfl
theorem look_some {l : List (Int × Int)} {x : Int} {k : Nat} (hk : k < l.length) (h : ∀ j, j < k → ¬ (l.getD j (0, 0)).1 = x) (e : (l.getD k (0, 0)).1 = x) : look l x = (l.getD k (0, 0)).2 := by
  unfold look
  have : l.find? (fun c => c.1 == x) = some (l.getD k (0, 0)) := by
    rw [List.find?_eq_some_iff_getElem]
    refine ⟨by simpa using e, k, hk, by simp [List.getD, hk], fun j hj => ?_⟩
    have := h j hj
    simpa [List.getD, show j < l.length by omega] using this
  rw [this]; rfl

/-- The struct in block b holds base, size and that list, whose cells lie in block g. -/
def RefRam (w : World) (b g : Nat) (base size : Int) (l : List (Int × Int)) : Prop :=
  ∃ a c, w.heap[b]? = some (.cells #[.int .u64 base, .int .u64 size, .slice a l.length c] 144 (0, 0)) ∧ l.length ≤ 1000000 ∧ (l = [] ∨ a = some ⟨g, 0, none⟩ ∧ g ≠ b ∧ Lays w g (cellsOf l))

theorem refAt_any (w : World) (b g : Nat) (base size : Int) (l : List (Int × Int)) (x : Int) (h : RefRam w b g base size l) :
    Calls Tryz.prog 114 #[.pointer (some ⟨b, 0, none⟩), .int .u64 x] w fun e w' => e = .returned (.int .u8 (look l x)) ∧ w = w' := by
  obtain ⟨a, c, hb, hm, hx⟩ := h
  have hc2 : w.cell? ⟨b, 2, none⟩ = some (.slice a l.length c) := by rw [cell_of_row w b 2 _ _ _ hb]; rfl
  go_enter Tryz.func114, Tryz.ntmps114
  go_wp2
  go_loop [5] (fun i => ∃ k : Nat, k ≤ l.length ∧ i = .int .i64 k ∧ ∀ j, j < k → ¬ (l.getD j (0, 0)).1 = x) (fun i => l.length - (intOf i).toNat)
  case atStart => exact ⟨0, Nat.zero_le _, rfl, fun j hj => absurd hj (by omega)⟩
  case round =>
    obtain ⟨k, hk, rfl, hno⟩ := hrel
    have HN := Lib.hid hno
    clear hno
    by_cases hlt : k < l.length
    · rcases hx with rfl | ⟨rfl, hne, hl⟩
      · simp at hlt
      have hA := hl.cell (cellsOf_get l k hlt).1
      have hB := hl.cell (cellsOf_get l k hlt).2
      by_cases e : (l.getD k (0, 0)).1 = x
      · have hr := Lib.hid (look_some hlt HN.out e)
        have ee : ((l.getD k (0, 0)).1 == x) = true := by simpa using e
        clear e hl
        generalize l.getD k (0, 0) = cc at *
        go_wp2
        go_ret
        exact ⟨by rw [hr.out]; rfl, rfl⟩
      · have ee : ((l.getD k (0, 0)).1 == x) = false := by simpa using e
        have HE := Lib.hid e
        clear e hl
        obtain ⟨cc, hcc⟩ : ∃ cc, l.getD k (0, 0) = cc := ⟨_, rfl⟩
        rw [hcc] at hA hB ee HE
        have HC := Lib.hid hcc
        clear hcc
        go_wp2
        go_round
        case rel => exact ⟨k + 1, by omega, by go_num, fun j hj => by
          by_cases hjk : j < k
          · exact HN.out j hjk
          · obtain rfl : j = k := by omega
            rw [HC.out]; exact HE.out⟩
        case measure => simp [intOf]; omega
    · have hr := Lib.hid (look_none (l := l) (x := x) fun j hj => HN.out j (by omega))
      go_wp2
      go_ret
      exact ⟨by rw [hr.out]; rfl, rfl⟩

/-- The list behind a set. -/
def setL (l : List (Int × Int)) (x v : Int) : List (Int × Int) := l.filter (fun c => c.1 != x) ++ if v = 0 then [] else [(x, v)]
theorem filter_take_hit {l : List (Int × Int)} {x : Int} {k : Nat} {c : Int × Int} (hk : k < l.length) (hc : l.getD k (0, 0) = c) (e : c.1 = x) : (l.take (k + 1)).filter (fun c => c.1 != x) = (l.take k).filter (fun c => c.1 != x) := by
  rw [List.take_succ_eq_append_getElem hk, List.filter_append]
  have : l[k] = c := by simpa [List.getD, hk] using hc
  rw [this]; simp [e]
theorem filter_take_miss {l : List (Int × Int)} {x : Int} {k : Nat} {c : Int × Int} (hk : k < l.length) (hc : l.getD k (0, 0) = c) (e : ¬ c.1 = x) : (l.take (k + 1)).filter (fun c => c.1 != x) = (l.take k).filter (fun c => c.1 != x) ++ [c] := by
  rw [List.take_succ_eq_append_getElem hk, List.filter_append]
  have : l[k] = c := by simpa [List.getD, hk] using hc
  rw [this]; simp [e]
theorem filter_take_le (l : List (Int × Int)) (x : Int) (k : Nat) : ((l.take k).filter (fun c => c.1 != x)).length ≤ l.length :=
  Nat.le_trans (List.length_filter_le _ _) (by rw [List.length_take]; omega)
theorem setL_len (l : List (Int × Int)) (x v : Int) : (setL l x v).length ≤ l.length + 1 := by
  have := List.length_filter_le (fun c : Int × Int => c.1 != x) l
  unfold setL; rw [List.length_append]; split <;> simp <;> omega

theorem info_cell : (Tryz.prog.info? 150).map (fun i => (i.zero, i.size, i.bytes)) = some (some (.agg #[.int .u64 0, .int .u8 0]), 2, 16) := by kernel_rfl

/-- What set leaves. -/
def SetEnd (w : World) (b : Nat) (base size : Int) (l : List (Int × Int)) (x v : Int) (e : Ending) (w' : World) : Prop :=
  (∃ u, e = .returned u) ∧ Only (fun i => i = b) w w' ∧ ∃ g', w.heap.size ≤ g' ∧ RefRam w' b g' base size (setL l x v)

theorem own_slice {w : World} {B : Nat} {e : TypeId} {size : Nat} {s : Value} {n : Nat} {vs : List Value} (h : w.ownsRow B e size s n vs) : ∃ A m C, s = .slice A m C := by
  rcases Lays.own h with ⟨rfl, _, _⟩ | ⟨g, cap, rfl, _, _⟩
  · exact ⟨_, _, _, rfl⟩
  · exact ⟨_, _, _, rfl⟩
theorem set_end {w w1 : World} {b c : Nat} {base size : Int} {a : Option Addr} {l : List (Int × Int)} {x v : Int} {s : Value} {n : Nat} {u : Value} (hbl : b < w.heap.size)
    (hbb : w1.heap[b]? = some (.cells #[.int .u64 base, .int .u64 size, .slice a n c] 144 (0, 0))) (R2 : Below w.heap.size w w1)
    (HO : w1.ownsRow w.heap.size 150 2 s (setL l x v).length (cellsOf (setL l x v))) (hn : (setL l x v).length ≤ l.length + 1) (hl : l.length < 1000000) :
    SetEnd w b base size l x v (.returned u) (w1.setCell ⟨b, 2, none⟩ s) := by
  have hO : Only (fun i => i = b) w (w1.setCell ⟨b, 2, none⟩ s) := (Only.of_below (fun i => i = b) R2).setCell (p := ⟨b, 2, none⟩) (.inl rfl) s
  have hB : (w1.setCell ⟨b, 2, none⟩ s).heap[b]? = some (.cells #[.int .u64 base, .int .u64 size, s] 144 (0, 0)) := by rw [heap_setCell_same w1 b 2 _ _ _ hbb]; rfl
  have hO2 : Only (fun i => i = b) w1 (w1.setCell ⟨b, 2, none⟩ s) := (Only.refl (fun i => i = b) w1).setCell (p := ⟨b, 2, none⟩) (.inl rfl) s
  rcases Lays.own HO with ⟨rfl, h0, hv⟩ | ⟨g, cap, rfl, hg, hl2⟩
  · exact ⟨⟨_, rfl⟩, hO, w.heap.size, Nat.le_refl _, _, _, by rw [List.length_eq_zero_iff.1 h0]; exact hB, by omega, .inl (List.length_eq_zero_iff.1 h0)⟩
  · exact ⟨⟨_, rfl⟩, hO, g, hg, _, _, hB, by omega, .inr ⟨rfl, by omega, hl2.keeps hO2 (by omega)⟩⟩

set_option maxHeartbeats 1000000 in
theorem refSet_any (w : World) (b g : Nat) (base size : Int) (l : List (Int × Int)) (x v : Int) (h : RefRam w b g base size l) (hl1 : l.length < 1000000) :
    Calls Tryz.prog 111 #[.pointer (some ⟨b, 0, none⟩), .int .u64 x, .int .u8 v] w (SetEnd w b base size l x v) := by
  obtain ⟨i0, hi, hz0, hz1, hz2⟩ := info_parts info_cell
  obtain ⟨a, c, hb, hm, hx⟩ := h
  have hbl : b < w.heap.size := (Array.getElem?_eq_some_iff.1 hb).1
  go_enter Tryz.func111, Tryz.ntmps111
  go_wp2
  go_loopw [6, 7] (fun s i wr => ∃ k : Nat, k ≤ l.length ∧ i = .int .i64 k ∧ wr.ownsRow w.heap.size 150 2 s ((l.take k).filter (fun c => c.1 != x)).length (cellsOf ((l.take k).filter (fun c => c.1 != x))) ∧ Below w.heap.size w wr)
    (fun _ i _ => l.length - (intOf i).toNat)
  case atStart => exact ⟨0, Nat.zero_le _, rfl, World.ownsRow_nil _ _ _ _, Below.refl _ _⟩
  case round =>
    obtain ⟨k, hk, rfl, hown, hbr⟩ := hrel
    have hbb := (hbr.block b hbl).trans hb
    have hc2 : wr.cell? ⟨b, 2, none⟩ = some (.slice a l.length c) := by rw [cell_of_row wr b 2 _ _ _ hbb]; rfl
    have HF := filter_take_le l x k
    by_cases hlt : k < l.length
    · rcases hx with rfl | ⟨rfl, hne, hl⟩
      · simp at hlt
      have hl2 := hl.keeps (Only.of_below (fun _ => False) hbr) id
      obtain ⟨cc, hcc⟩ : ∃ cc, l.getD k (0, 0) = cc := ⟨_, rfl⟩
      have hA := hl2.cell (cellsOf_get l k hlt).1
      have hB := hl2.cell (cellsOf_get l k hlt).2
      rw [hcc] at hA hB
      have HL := Lib.hid hl
      have HB0 := Lib.hid hb
      by_cases e : cc.1 = x
      · have ee : (cc.1 != x) = false := by simpa using e
        have HE := Lib.hid (filter_take_hit hlt hcc e)
        clear e hl hl2 hcc hb hbb
        go_wp2
        go_roundw
        case rel => exact ⟨k + 1, by omega, by go_num, by rw [HE.out]; exact hown, hbr⟩
        case measure => simp [intOf]; omega
      · have ee : (cc.1 != x) = true := by simpa using e
        have HE := Lib.hid (filter_take_miss hlt hcc e)
        clear e hl hl2 hcc hb hbb
        go_wp2_with (at_builtin; refine wpList_append_own _ rfl _ _ 142 rfl w.heap.size 150 i0 (.agg #[.int .u64 0, .int .u8 0]) 2 16 Tryz.underlying142 hi hz0 hz1 hz2 rfl (by decide) _ _ _ rfl (hown.alloc _) ⟨wr.heap.size, 0, none⟩ 1 1 [.int .u64 cc.1, .int .u8 cc.2] rfl rfl ?c1 ?c2 ?c3 ?c4 ?c5 ?_)
        case c1 =>
          intro j u hj
          match j, hj with
          | 0, hj => simp at hj; subst hj; simp [Addr.add]
          | 1, hj => simp at hj; subst hj; simp [Addr.add]
        case c2 => intro u hu; simp at hu; rcases hu with rfl | rfl <;> rfl
        case c3 => unfold maxLen; omega
        case c4 => omega
        case c5 => have := hbr.size; simp; omega
        intro v' w1 hown' hgrow _
        have R2 : Below w.heap.size w w1 := (hbr.alloc (by have := hbr.size; omega) _).grown hgrow (by have := hbr.size; simp; omega) (fun j hj => (hown.lt j hj).1)
        have R : w1.ownsRow w.heap.size 150 2 v' ((l.take (k + 1)).filter (fun c => c.1 != x)).length (cellsOf ((l.take (k + 1)).filter (fun c => c.1 != x))) := by
          rw [HE.out, cellsOf_append, List.length_append]; exact hown'
        clear hown' hgrow hown hbr
        go_wp2
        go_roundw
        case rel => exact ⟨k + 1, by omega, by go_num, R, R2⟩
        case measure => simp [intOf]; omega
    · obtain rfl : k = l.length := by omega
      rw [List.take_length] at hown HF
      generalize hf : l.filter (fun c => c.1 != x) = f at *
      have HFe := Lib.hid hf
      clear hf
      have hfz := frozen_of_row wr b 2 _ _ hbb
      have HB0 := Lib.hid hb
      by_cases hv : v = 0
      · have e : setL l x v = f := by unfold setL; rw [HFe.out, if_pos hv, List.append_nil]
        have HO : wr.ownsRow w.heap.size 150 2 u6 (setL l x v).length (cellsOf (setL l x v)) := by rw [e]; exact hown
        have HBB := Lib.hid hbb
        subst hv
        obtain ⟨A, n', C, rfl⟩ := own_slice HO
        clear hown hb hbb e
        go_wp2
        go_end0
        exact set_end hbl HBB.out hbr HO (setL_len l x 0) hl1
      · have hvv : (v != 0) = true := by simpa using hv
        have HV := Lib.hid hv
        clear hv
        go_wp2_with (at_builtin; refine wpList_append_own _ rfl _ _ 142 rfl w.heap.size 150 i0 (.agg #[.int .u64 0, .int .u8 0]) 2 16 Tryz.underlying142 hi hz0 hz1 hz2 rfl (by decide) _ _ _ rfl (hown.alloc _) ⟨wr.heap.size, 0, none⟩ 1 1 [.int .u64 x, .int .u8 v] rfl rfl ?c1 ?c2 ?c3 ?c4 ?c5 ?_)
        case c1 =>
          intro j u hj
          match j, hj with
          | 0, hj => simp at hj; subst hj; simp [Addr.add]
          | 1, hj => simp at hj; subst hj; simp [Addr.add]
        case c2 => intro u hu; simp at hu; rcases hu with rfl | rfl <;> rfl
        case c3 => unfold maxLen; omega
        case c4 => omega
        case c5 => have := hbr.size; simp; omega
        intro v' w1 hown' hgrow _
        have R2 : Below w.heap.size w w1 := (hbr.alloc (by have := hbr.size; omega) _).grown hgrow (by have := hbr.size; simp; omega) (fun j hj => (hown.lt j hj).1)
        have hbb2 := (R2.block b hbl).trans HB0.out
        have hc3 : w1.cell? ⟨b, 2, none⟩ = some (.slice a l.length c) := by rw [cell_of_row w1 b 2 _ _ _ hbb2]; rfl
        have hfz2 := frozen_of_row w1 b 2 _ _ hbb2
        have HBB := Lib.hid hbb2
        have HO : w1.ownsRow w.heap.size 150 2 v' (setL l x v).length (cellsOf (setL l x v)) := by
          have e : setL l x v = f ++ [(x, v)] := by unfold setL; rw [HFe.out, if_neg HV.out]
          rw [e, cellsOf_append, List.length_append]; exact hown'
        obtain ⟨A, n', C, rfl⟩ := own_slice HO
        clear hown' hgrow hown hbr hbb2 hb hbb
        go_wp2
        go_end0
        exact set_end hbl HBB.out R2 HO (setL_len l x v) hl1

end Go.Proofs.YtbcnkhfpogglmaaGreatDoor.M3

namespace Go.Proofs.YtbcnkhfpogglmaaGreatDoor.M3
open Go.RowKit
set_option linter.unusedVariables false
set_option maxRecDepth 100000

theorem ret_bool {a b : Bool} (h : a = b) : Ending.returned (.bool a) = .returned (.bool b) := by rw [h]
theorem ret_two {k : IntKind} {a b : Int} {v u : Value} (h : a = b) (h2 : v = u) : Ending.returned (.tuple #[.int k a, v]) = .returned (.tuple #[.int k b, u]) := by rw [h, h2]

/-- A base and a size that a memory may have. -/
def Fits (base size : Int) : Prop := 0 ≤ base ∧ 4096 ≤ size ∧ size ≤ 67108864 ∧ base + size ≤ 9223372036854775808
/-- P3.2: the n bytes from x on lie in it. -/
def hasZ (base size x n : Int) : Bool := decide (0 ≤ n ∧ (n = 0 ∨ base ≤ x ∧ x + n ≤ base + size))
def liesZ (base size x : Int) : Bool := decide (base ≤ x ∧ x < base + size)

/-- The list's entries are bytes that are not 0, each address once. -/
def Fine (l : List (Int × Int)) : Prop := (∀ c ∈ l, In64 c.1 ∧ 1 ≤ c.2 ∧ c.2 ≤ 255) ∧ (l.map (·.1)).Nodup
theorem look_mem {l : List (Int × Int)} {x : Int} : look l x = 0 ∨ ∃ c ∈ l, c.1 = x ∧ look l x = c.2 := by
  unfold look
  cases h : l.find? (fun c => c.1 == x) with
  | none => exact .inl rfl
  | some c =>
    have h1 := List.mem_of_find?_eq_some h
    have h2 := List.find?_some h
    exact .inr ⟨c, h1, by simpa using h2, rfl⟩
theorem look_in {l : List (Int × Int)} (h : Fine l) (x : Int) : 0 ≤ look l x ∧ look l x ≤ 255 := by
  rcases look_mem (l := l) (x := x) with e | ⟨c, hc, _, e⟩
  · rw [e]; omega
  · have := h.1 c hc; rw [e]; omega

theorem RefRam.keeps {S : Nat → Prop} {w w' : World} {b g : Nat} {base size : Int} {l : List (Int × Int)} (h : RefRam w b g base size l) (k : Only S w w') (hb : ¬ S b) (hg : ¬ S g) : RefRam w' b g base size l := by
  obtain ⟨a, c, h1, h2, h3⟩ := h
  refine ⟨a, c, k.keeps hb h1, h2, ?_⟩
  rcases h3 with h3 | ⟨h4, h5, h6⟩
  · exact .inl h3
  · exact .inr ⟨h4, h5, h6.keeps k hg⟩
theorem RefRam.below {w w' : World} {b g : Nat} {base size : Int} {l : List (Int × Int)} (h : RefRam w b g base size l) (k : Below w.heap.size w w') : RefRam w' b g base size l :=
  h.keeps (Only.of_below (fun _ => False) k) id id
theorem RefRam.lt {w : World} {b g : Nat} {base size : Int} {l : List (Int × Int)} (h : RefRam w b g base size l) : b < w.heap.size := by
  obtain ⟨a, c, h1, _⟩ := h; exact (Array.getElem?_eq_some_iff.1 h1).1
theorem RefRam.base {w : World} {b g : Nat} {base size : Int} {l : List (Int × Int)} (h : RefRam w b g base size l) : w.cell? ⟨b, 0, none⟩ = some (.int .u64 base) := by
  obtain ⟨a, c, h1, _⟩ := h; rw [cell_of_row w b 0 _ _ _ h1]; rfl
theorem RefRam.size {w : World} {b g : Nat} {base size : Int} {l : List (Int × Int)} (h : RefRam w b g base size l) : w.cell? ⟨b, 1, none⟩ = some (.int .u64 size) := by
  obtain ⟨a, c, h1, _⟩ := h; rw [cell_of_row w b 1 _ _ _ h1]; rfl

theorem refLies_q (w : World) (b g : Nat) (base size : Int) (l : List (Int × Int)) (x : Int) (h : RefRam w b g base size l) (hf : Fits base size) (hx : In64 x) :
    Calls Tryz.prog 137 #[.pointer (some ⟨b, 0, none⟩), .int .u64 x] w fun e w' => e = .returned (.bool (liesZ base size x)) ∧ ∃ k, w' = w.drewN k := by
  have h0 := h.base
  have h1 := h.size
  obtain ⟨f1, f2, f3, f4⟩ := hf
  obtain ⟨x1, x2⟩ := hx
  clear h
  by_cases c : base ≤ x
  · have E : Hid (decide (x - base < size) = liesZ base size x) := by
      refine Lib.hid ?_
      unfold liesZ; rw [decide_eq_decide]; omega
    have hd : decide (base ≤ x) = true := decide_eq_true c
    have hw : IntKind.u64.wrap (x - base) = x - base := by rw [IntKind.wrap_u64]; omega
    go_enter Tryz.func137, Tryz.ntmps137
    go_wp2
    go_quiet (fail)
    go_wp2
    go_ret
    exact ⟨ret_bool E.out, nq, rfl⟩
  · have E : Hid (false = liesZ base size x) := by
      refine Lib.hid ?_
      unfold liesZ; rw [decide_eq_false]; omega
    have hd : decide (base ≤ x) = false := decide_eq_false c
    go_enter Tryz.func137, Tryz.ntmps137
    go_wp2
    go_quiet (fail)
    go_wp2
    go_ret
    exact ⟨ret_bool E.out, nq, rfl⟩

theorem hasZ_no {base size x n : Int} (h : n < 0) : hasZ base size x n = false := by unfold hasZ; rw [decide_eq_false]; omega
theorem hasZ_none {base size x : Int} : hasZ base size x 0 = true := by unfold hasZ; rw [decide_eq_true]; omega
theorem hasZ_great {base size x n : Int} (hf : Fits base size) (h : 67108864 < n) : hasZ base size x n = false := by
  obtain ⟨f1, f2, f3, f4⟩ := hf; unfold hasZ; rw [decide_eq_false]; omega

theorem refHas_q (w : World) (b g : Nat) (base size : Int) (l : List (Int × Int)) (x n : Int) (h : RefRam w b g base size l) (hf : Fits base size) (hx : In64 x) :
    Calls Tryz.prog 110 #[.pointer (some ⟨b, 0, none⟩), .int .u64 x, .int .i64 n] w fun e w' => e = .returned (.bool (hasZ base size x n)) ∧ ∃ k, w' = w.drewN k := by
  by_cases c0 : n < 0
  · rw [hasZ_no c0]
    go_enter Tryz.func110, Tryz.ntmps110
    go_wp2
    go_ret
    exact ⟨rfl, 0, rfl⟩
  by_cases c1 : n = 0
  · subst c1
    rw [hasZ_none]
    go_enter Tryz.func110, Tryz.ntmps110
    go_wp2
    go_ret
    exact ⟨rfl, 0, rfl⟩
  have c1b : (n == 0) = false := by simpa using c1
  by_cases c2 : 67108864 < n
  · rw [hasZ_great hf c2]
    clear c1
    go_enter Tryz.func110, Tryz.ntmps110
    go_wp2
    go_ret
    exact ⟨rfl, 0, rfl⟩
  obtain ⟨y, hy⟩ : ∃ y, IntKind.u64.wrap (x + (n - 1)) = y := ⟨_, rfl⟩
  have iy : In64 y := by rw [← hy, wrap_eq]; exact U_in _
  have n1 : 1 ≤ n := by omega
  have n2 : IntKind.u64.wrap (n - 1) = n - 1 := by rw [IntKind.wrap_u64]; omega
  have R : hasZ base size x n = (liesZ base size x && (decide (x ≤ y) && liesZ base size y)) := by
    obtain ⟨f1, f2, f3, f4⟩ := hf
    obtain ⟨x1, x2⟩ := hx
    rw [IntKind.wrap_u64] at hy
    unfold hasZ liesZ
    rw [Bool.eq_iff_iff]
    simp only [Bool.and_eq_true, decide_eq_true_eq]
    constructor
    · intro ⟨_, hh⟩; omega
    · intro ⟨h1, h2, h3⟩; omega
  rw [R]
  have HH := Lib.hid h
  have HFi := Lib.hid hf
  have HX := Lib.hid hx
  have HY := Lib.hid iy
  clear R c1 h hf hx iy
  cases d1 : liesZ base size x
  · go_enter Tryz.func110, Tryz.ntmps110
    go_wp2_with fail
    refine (refLies_q _ b g base size l _ HH.out HFi.out HX.out).mono ?_
    rintro e w1 ⟨rfl, q1, rfl⟩
    go_wp2
    go_ret
    exact ⟨rfl, q1, rfl⟩
  · cases d2 : decide (x ≤ y)
    · go_enter Tryz.func110, Tryz.ntmps110
      go_wp2_with fail
      refine (refLies_q _ b g base size l _ HH.out HFi.out HX.out).mono ?_
      rintro e w1 ⟨rfl, q1, rfl⟩
      have d3 : ¬ x ≤ y := by simpa using d2
      go_wp2
      go_ret
      exact ⟨rfl, q1, rfl⟩
    · have d3 : x ≤ y := by simpa using d2
      go_enter Tryz.func110, Tryz.ntmps110
      go_wp2_with fail
      refine (refLies_q _ b g base size l _ HH.out HFi.out HX.out).mono ?_
      rintro e w1 ⟨rfl, q1, rfl⟩
      go_wp2_with fail
      refine (refLies_q _ b g base size l _ (HH.out.below (below_drewN (Below.refl _ _) q1)) HFi.out HY.out).mono ?_
      rintro e w2 ⟨rfl, q2, rfl⟩
      go_wp2
      go_ret
      exact ⟨rfl, q1 + q2, by simp⟩

theorem refHas_any (w : World) (b g : Nat) (base size : Int) (l : List (Int × Int)) (x n : Int) (h : RefRam w b g base size l) (hf : Fits base size) (hx : In64 x) :
    Calls Tryz.prog 110 #[.pointer (some ⟨b, 0, none⟩), .int .u64 x, .int .i64 n] w fun e w' => e = .returned (.bool (hasZ base size x n)) ∧ Below w.heap.size w w' :=
  (refHas_q w b g base size l x n h hf hx).mono fun e w' ⟨he, k, hk⟩ => ⟨he, by rw [hk]; exact below_drewN (Below.refl _ _) k⟩

end Go.Proofs.YtbcnkhfpogglmaaGreatDoor.M3

namespace Go.Proofs.YtbcnkhfpogglmaaGreatDoor.M3
open Go.RowKit
set_option linter.unusedVariables false
set_option maxRecDepth 100000

/-- The number of c bytes at x. -/
def rdN (m : Int → Int) (x : Int) : Nat → Int
  | 0 => 0
  | c + 1 => m x + 256 * rdN m (x + 1) c
/-- Memory behind a number of c bytes was written at x. -/
def wrN (m : Int → Int) (x v : Int) : Nat → Int → Int
  | 0, y => m y
  | c + 1, y => if y = x then v % 256 else wrN m (x + 1) (v / 256) c y
def Bytey (m : Int → Int) : Prop := ∀ y, 0 ≤ m y ∧ m y ≤ 255

theorem rdN_in {m : Int → Int} (h : Bytey m) (x : Int) (c : Nat) : 0 ≤ rdN m x c ∧ rdN m x c < 256 ^ c := by
  induction c generalizing x with
  | zero => simp [rdN]
  | succ c ih =>
    have h1 := ih (x + 1)
    have h2 := h x
    have e : (256 : Int) ^ (c + 1) = 256 * 256 ^ c := by rw [Int.pow_succ, Int.mul_comm]
    rw [e]; unfold rdN
    omega
theorem rdN_congr {m m' : Int → Int} {x : Int} {c : Nat} (h : ∀ y, x ≤ y → y < x + c → m y = m' y) : rdN m x c = rdN m' x c := by
  induction c generalizing x with
  | zero => rfl
  | succ c ih =>
    unfold rdN
    rw [h x (by omega) (by omega), ih fun y h1 h2 => h y (by omega) (by omega)]
theorem pow256_le {a b : Nat} (h : a ≤ b) : (256 : Int) ^ a ≤ 256 ^ b := by
  have h1 := Int.ofNat_le.2 (Nat.pow_le_pow_right (n := 256) (by omega) h)
  simpa [Int.natCast_pow] using h1
theorem rdN_8 {m : Int → Int} (h : Bytey m) (x : Int) {c : Nat} (hc : c ≤ 8) : 0 ≤ rdN m x c ∧ rdN m x c ≤ 18446744073709551615 := by
  have h1 := rdN_in h x c
  have h2 := pow256_le hc
  have e : (256 : Int) ^ 8 = 18446744073709551616 := by decide
  omega
theorem rdN_7 {m : Int → Int} (h : Bytey m) (x : Int) {c : Nat} (hc : c ≤ 7) : 0 ≤ rdN m x c ∧ rdN m x c ≤ 72057594037927935 := by
  have h1 := rdN_in h x c
  have h2 := pow256_le hc
  have e : (256 : Int) ^ 7 = 72057594037927936 := by decide
  omega

theorem wrN_out {m : Int → Int} {x v : Int} {c : Nat} {y : Int} (h : y < x ∨ x + c ≤ y) : wrN m x v c y = m y := by
  induction c generalizing x v with
  | zero => rfl
  | succ c ih =>
    unfold wrN
    rw [if_neg (by omega), ih (by omega)]
theorem wrN_at {m : Int → Int} {x v : Int} {c : Nat} {i : Nat} (h : i < c) : wrN m x v c (x + i) = v / 256 ^ i % 256 := by
  induction c generalizing x v i with
  | zero => omega
  | succ c ih =>
    unfold wrN
    cases i with
    | zero => simp
    | succ i =>
      rw [if_neg (by omega), show x + ((i + 1 : Nat) : Int) = x + 1 + (i : Int) by omega, ih (by omega), Int.pow_succ, Int.mul_comm, ← Int.ediv_ediv_of_nonneg (by omega)]
/-- One byte written ahead of the others. -/
theorem wrN_step (m : Int → Int) (x v : Int) (c : Nat) (y : Int) : wrN (fun z => if z = x then v % 256 else m z) (x + 1) (v / 256) c y = wrN m x v (c + 1) y := by
  show _ = if y = x then v % 256 else wrN m (x + 1) (v / 256) c y
  by_cases e : y = x
  · rw [if_pos e, wrN_out (by omega), if_pos e]
  · rw [if_neg e]
    generalize v / 256 = u
    have : ∀ (c : Nat) (x' u : Int), x < x' → wrN (fun z => if z = x then v % 256 else m z) x' u c y = wrN m x' u c y := by
      intro c
      induction c with
      | zero => intro x' u _; show (if y = x then v % 256 else m y) = m y; rw [if_neg e]
      | succ c ih =>
        intro x' u hx
        unfold wrN
        rw [ih _ _ (by omega)]
    exact this c (x + 1) u (by omega)
end Go.Proofs.YtbcnkhfpogglmaaGreatDoor.M3

namespace Go.Proofs.YtbcnkhfpogglmaaGreatDoor.M3
open Go.RowKit
set_option linter.unusedVariables false
set_option maxRecDepth 100000

theorem look_set {l : List (Int × Int)} {x v y : Int} : look (setL l x v) y = if y = x then v else look l y := by
  unfold look setL
  rw [List.find?_append, List.find?_filter]
  by_cases e : y = x
  · subst e
    rw [if_pos rfl]
    have h : l.find? (fun a => decide ((a.1 != y) = true ∧ (a.1 == y) = true)) = none := by
      rw [List.find?_eq_none]; intro a _; simp
    rw [h]
    by_cases hv : v = 0
    · rw [if_pos hv, hv]; rfl
    · rw [if_neg hv]; simp
  · rw [if_neg e]
    have h : (fun a : Int × Int => decide ((a.1 != x) = true ∧ (a.1 == y) = true)) = fun a => a.1 == y := by
      funext a
      by_cases c : a.1 = y
      · simp [c, e]
      · simp [c]
    rw [h]
    cases l.find? (fun a => a.1 == y) with
    | some c => rfl
    | none =>
      by_cases hv : v = 0
      · rw [if_pos hv]; rfl
      · rw [if_neg hv]
        have : ¬ x = y := fun h => e h.symm
        simp [this]
theorem fine_set {l : List (Int × Int)} {x v : Int} (h : Fine l) (hx : In64 x) (h0 : 0 ≤ v) (h1 : v ≤ 255) : Fine (setL l x v) := by
  have hn : ((l.filter fun c => c.1 != x).map (·.1)).Nodup := List.Nodup.sublist (List.Sublist.map _ List.filter_sublist) h.2
  unfold setL
  by_cases hv : v = 0
  · rw [if_pos hv, List.append_nil]
    exact ⟨fun c hc => h.1 c (List.mem_filter.1 hc).1, hn⟩
  · rw [if_neg hv]
    constructor
    · intro c hc
      rcases List.mem_append.1 hc with hc | hc
      · exact h.1 c (List.mem_filter.1 hc).1
      · simp at hc; subst hc; exact ⟨hx, by omega, h1⟩
    · rw [List.map_append, List.nodup_append]
      refine ⟨hn, by simp, ?_⟩
      intro a ha b hb
      simp at hb; subst hb
      intro e; subst e
      obtain ⟨c, hc, rfl⟩ := List.mem_map.1 ha
      have := (List.mem_filter.1 hc).2
      simp at this

/-- The object in block b (its list in block g) is that memory, its list no longer than N. -/
def RefMem (w : World) (b g : Nat) (base size : Int) (N : Nat) (m : Int → Int) : Prop :=
  ∃ l, RefRam w b g base size l ∧ Fine l ∧ (∀ y, look l y = m y) ∧ l.length ≤ N
theorem RefMem.bytey {w : World} {b g : Nat} {base size : Int} {N : Nat} {m : Int → Int} (h : RefMem w b g base size N m) : Bytey m := by
  obtain ⟨l, _, hf, hm, _⟩ := h
  intro y; rw [← hm y]; exact look_in hf y
theorem RefMem.keeps {S : Nat → Prop} {w w' : World} {b g : Nat} {base size : Int} {N : Nat} {m : Int → Int} (h : RefMem w b g base size N m) (k : Only S w w') (hb : ¬ S b) (hg : ¬ S g) : RefMem w' b g base size N m := by
  obtain ⟨l, h1, h2, h3, h4⟩ := h; exact ⟨l, h1.keeps k hb hg, h2, h3, h4⟩
theorem RefMem.below {w w' : World} {b g : Nat} {base size : Int} {N : Nat} {m : Int → Int} (h : RefMem w b g base size N m) (k : Below w.heap.size w w') : RefMem w' b g base size N m :=
  h.keeps (Only.of_below (fun _ => False) k) id id
theorem RefMem.lt {w : World} {b g : Nat} {base size : Int} {N : Nat} {m : Int → Int} (h : RefMem w b g base size N m) : b < w.heap.size := by
  obtain ⟨l, h1, _⟩ := h; exact h1.lt

theorem mem_at (w : World) (b g : Nat) (base size : Int) (N : Nat) (m : Int → Int) (x : Int) (h : RefMem w b g base size N m) :
    Calls Tryz.prog 114 #[.pointer (some ⟨b, 0, none⟩), .int .u64 x] w fun e w' => e = .returned (.int .u8 (m x)) ∧ w = w' := by
  obtain ⟨l, h1, h2, h3, h4⟩ := h
  rw [← h3 x]; exact refAt_any w b g base size l x h1
theorem mem_has (w : World) (b g : Nat) (base size : Int) (N : Nat) (m : Int → Int) (x n : Int) (h : RefMem w b g base size N m) (hf : Fits base size) (hx : In64 x) :
    Calls Tryz.prog 110 #[.pointer (some ⟨b, 0, none⟩), .int .u64 x, .int .i64 n] w fun e w' => e = .returned (.bool (hasZ base size x n)) ∧ Below w.heap.size w w' := by
  obtain ⟨l, h1, h2, h3, h4⟩ := h
  exact refHas_any w b g base size l x n h1 hf hx

/-- What set leaves. -/
def MemSet (w : World) (b : Nat) (base size : Int) (N : Nat) (m : Int → Int) (e : Ending) (w' : World) : Prop :=
  (∃ u, e = .returned u) ∧ Only (fun i => i = b) w w' ∧ ∃ g', w.heap.size ≤ g' ∧ RefMem w' b g' base size N m
theorem mem_set (w : World) (b g : Nat) (base size : Int) (N : Nat) (m : Int → Int) (x v : Int) (h : RefMem w b g base size N m) (hN : N < 1000000) (hx : In64 x) (h0 : 0 ≤ v) (h1 : v ≤ 255) :
    Calls Tryz.prog 111 #[.pointer (some ⟨b, 0, none⟩), .int .u64 x, .int .u8 v] w (MemSet w b base size (N + 1) fun y => if y = x then v else m y) := by
  obtain ⟨l, k1, k2, k3, k4⟩ := h
  refine (refSet_any w b g base size l x v k1 (by omega)).mono ?_
  rintro e w' ⟨hu, ho, g', hg, hr⟩
  exact ⟨hu, ho, g', hg, _, hr, fine_set k2 hx h0 h1, fun y => by rw [look_set, k3 y], by have := setL_len l x v; omega⟩

def okN (n : Int) : Bool := decide (n = 1 ∨ n = 2 ∨ n = 4 ∨ n = 8)
/-- P3.2: what Read tells. -/
def readV (base size : Int) (m : Int → Int) (x n : Int) : Int × Bool := if (okN n && hasZ base size x n) = true then (rdN m x n.toNat, true) else (0, false)

/-- What Read answers. -/
def ReadEnd (w : World) (p : Int × Bool) (e : Ending) (w' : World) : Prop := e = .returned (.tuple #[.int .u64 p.1, .bool p.2]) ∧ Below w.heap.size w w'

set_option maxHeartbeats 4000000 in
theorem mem_read (w : World) (b g : Nat) (base size : Int) (N : Nat) (m : Int → Int) (x n : Int) (h : RefMem w b g base size N m) (hf : Fits base size) (hx : In64 x) :
    Calls Tryz.prog 105 #[.pointer (some ⟨b, 0, none⟩), .int .u64 x, .int .i64 n] w (ReadEnd w (readV base size m x n)) := by
  have hm := h.bytey
  have HH := Lib.hid h
  have HX := Lib.hid hx
  have HF := Lib.hid hf
  have HM := Lib.hid hm
  by_cases ok : n = 1 ∨ n = 2 ∨ n = 4 ∨ n = 8
  · by_cases hh : hasZ base size x n = true
    · have hb := hh
      unfold hasZ at hb
      rw [decide_eq_true_eq] at hb
      have R : Hid (readV base size m x n = (rdN m x n.toNat, true)) := by
        refine Lib.hid ?_
        unfold readV okN; rw [decide_eq_true ok, hh]; rfl
      have xb : x + n ≤ 9223372036854775808 := by
        obtain ⟨f1, f2, f3, f4⟩ := hf; omega
      have x0 := hx.1
      clear h hm hf hx hb
      rcases ok with rfl | rfl | rfl | rfl
      · go_enter Tryz.func105, Tryz.ntmps105
        go_wp2_with fail
        refine (mem_has _ b g base size N m _ _ HH.out HF.out HX.out).mono ?_
        rintro e w1 ⟨rfl, hb1⟩
        have hr := HH.out.below hb1
        have HR := Lib.hid hr
        clear hr
        go_wp2_with fail
        go_loop [8, 9] (fun v i => ∃ k : Nat, k ≤ 1 ∧ i = .int .i64 ((k : Int) - 1) ∧ v = .int .u64 (rdN m (x + k) (1 - k))) (fun _ i => (intOf i + 1).toNat)
        case atStart => exact ⟨1, by omega, rfl, rfl⟩
        case round =>
          obtain ⟨k, hk, rfl, rfl⟩ := hrel
          cases k with
          | succ j =>
            have hv := rdN_7 HM.out (x + ((j + 1 : Nat) : Int)) (c := 1 - (j + 1)) (by omega)
            have hv1 := hv.1
            have hv2 := hv.2
            have hby := HM.out (x + j)
            have hby1 := hby.1
            have hby2 := hby.2
            have E : Hid (256 * rdN m (x + ((j + 1 : Nat) : Int)) (1 - (j + 1)) + m (x + j) = rdN m (x + j) (1 - j)) := by
              refine Lib.hid ?_
              rw [show 1 - j = (1 - (j + 1)) + 1 by omega]
              show _ = m (x + j) + 256 * rdN m (x + j + 1) (1 - (j + 1))
              rw [show x + ((j + 1 : Nat) : Int) = x + j + 1 by omega]; omega
            generalize rdN m (x + ((j + 1 : Nat) : Int)) (1 - (j + 1)) = y at *
            rw [show ((j + 1 : Nat) : Int) - 1 = (j : Int) by omega]
            clear hv hby hb1
            go_wp2_with (go_at_call 114; refine (mem_at _ b g base size N m _ HR.out).mono ?_; rintro e w' ⟨rfl, rfl⟩)
            go_round
            case rel => exact ⟨j, by omega, rfl, by rw [← E.out]⟩
            case measure => simp [intOf]
          | zero =>
            go_wp2
            go_ret2
            exact ⟨by rw [R.out]; exact ret_two (by simp) rfl, hb1⟩
      · go_enter Tryz.func105, Tryz.ntmps105
        go_wp2_with fail
        refine (mem_has _ b g base size N m _ _ HH.out HF.out HX.out).mono ?_
        rintro e w1 ⟨rfl, hb1⟩
        have hr := HH.out.below hb1
        have HR := Lib.hid hr
        clear hr
        go_wp2_with fail
        go_loop [8, 9] (fun v i => ∃ k : Nat, k ≤ 2 ∧ i = .int .i64 ((k : Int) - 1) ∧ v = .int .u64 (rdN m (x + k) (2 - k))) (fun _ i => (intOf i + 1).toNat)
        case atStart => exact ⟨2, by omega, rfl, rfl⟩
        case round =>
          obtain ⟨k, hk, rfl, rfl⟩ := hrel
          cases k with
          | succ j =>
            have hv := rdN_7 HM.out (x + ((j + 1 : Nat) : Int)) (c := 2 - (j + 1)) (by omega)
            have hv1 := hv.1
            have hv2 := hv.2
            have hby := HM.out (x + j)
            have hby1 := hby.1
            have hby2 := hby.2
            have E : Hid (256 * rdN m (x + ((j + 1 : Nat) : Int)) (2 - (j + 1)) + m (x + j) = rdN m (x + j) (2 - j)) := by
              refine Lib.hid ?_
              rw [show 2 - j = (2 - (j + 1)) + 1 by omega]
              show _ = m (x + j) + 256 * rdN m (x + j + 1) (2 - (j + 1))
              rw [show x + ((j + 1 : Nat) : Int) = x + j + 1 by omega]; omega
            generalize rdN m (x + ((j + 1 : Nat) : Int)) (2 - (j + 1)) = y at *
            rw [show ((j + 1 : Nat) : Int) - 1 = (j : Int) by omega]
            clear hv hby hb1
            go_wp2_with (go_at_call 114; refine (mem_at _ b g base size N m _ HR.out).mono ?_; rintro e w' ⟨rfl, rfl⟩)
            go_round
            case rel => exact ⟨j, by omega, rfl, by rw [← E.out]⟩
            case measure => simp [intOf]
          | zero =>
            go_wp2
            go_ret2
            exact ⟨by rw [R.out]; exact ret_two (by simp) rfl, hb1⟩
      · go_enter Tryz.func105, Tryz.ntmps105
        go_wp2_with fail
        refine (mem_has _ b g base size N m _ _ HH.out HF.out HX.out).mono ?_
        rintro e w1 ⟨rfl, hb1⟩
        have hr := HH.out.below hb1
        have HR := Lib.hid hr
        clear hr
        go_wp2_with fail
        go_loop [8, 9] (fun v i => ∃ k : Nat, k ≤ 4 ∧ i = .int .i64 ((k : Int) - 1) ∧ v = .int .u64 (rdN m (x + k) (4 - k))) (fun _ i => (intOf i + 1).toNat)
        case atStart => exact ⟨4, by omega, rfl, rfl⟩
        case round =>
          obtain ⟨k, hk, rfl, rfl⟩ := hrel
          cases k with
          | succ j =>
            have hv := rdN_7 HM.out (x + ((j + 1 : Nat) : Int)) (c := 4 - (j + 1)) (by omega)
            have hv1 := hv.1
            have hv2 := hv.2
            have hby := HM.out (x + j)
            have hby1 := hby.1
            have hby2 := hby.2
            have E : Hid (256 * rdN m (x + ((j + 1 : Nat) : Int)) (4 - (j + 1)) + m (x + j) = rdN m (x + j) (4 - j)) := by
              refine Lib.hid ?_
              rw [show 4 - j = (4 - (j + 1)) + 1 by omega]
              show _ = m (x + j) + 256 * rdN m (x + j + 1) (4 - (j + 1))
              rw [show x + ((j + 1 : Nat) : Int) = x + j + 1 by omega]; omega
            generalize rdN m (x + ((j + 1 : Nat) : Int)) (4 - (j + 1)) = y at *
            rw [show ((j + 1 : Nat) : Int) - 1 = (j : Int) by omega]
            clear hv hby hb1
            go_wp2_with (go_at_call 114; refine (mem_at _ b g base size N m _ HR.out).mono ?_; rintro e w' ⟨rfl, rfl⟩)
            go_round
            case rel => exact ⟨j, by omega, rfl, by rw [← E.out]⟩
            case measure => simp [intOf]
          | zero =>
            go_wp2
            go_ret2
            exact ⟨by rw [R.out]; exact ret_two (by simp) rfl, hb1⟩
      · go_enter Tryz.func105, Tryz.ntmps105
        go_wp2_with fail
        refine (mem_has _ b g base size N m _ _ HH.out HF.out HX.out).mono ?_
        rintro e w1 ⟨rfl, hb1⟩
        have hr := HH.out.below hb1
        have HR := Lib.hid hr
        clear hr
        go_wp2_with fail
        go_loop [8, 9] (fun v i => ∃ k : Nat, k ≤ 8 ∧ i = .int .i64 ((k : Int) - 1) ∧ v = .int .u64 (rdN m (x + k) (8 - k))) (fun _ i => (intOf i + 1).toNat)
        case atStart => exact ⟨8, by omega, rfl, rfl⟩
        case round =>
          obtain ⟨k, hk, rfl, rfl⟩ := hrel
          cases k with
          | succ j =>
            have hv := rdN_7 HM.out (x + ((j + 1 : Nat) : Int)) (c := 8 - (j + 1)) (by omega)
            have hv1 := hv.1
            have hv2 := hv.2
            have hby := HM.out (x + j)
            have hby1 := hby.1
            have hby2 := hby.2
            have E : Hid (256 * rdN m (x + ((j + 1 : Nat) : Int)) (8 - (j + 1)) + m (x + j) = rdN m (x + j) (8 - j)) := by
              refine Lib.hid ?_
              rw [show 8 - j = (8 - (j + 1)) + 1 by omega]
              show _ = m (x + j) + 256 * rdN m (x + j + 1) (8 - (j + 1))
              rw [show x + ((j + 1 : Nat) : Int) = x + j + 1 by omega]; omega
            generalize rdN m (x + ((j + 1 : Nat) : Int)) (8 - (j + 1)) = y at *
            rw [show ((j + 1 : Nat) : Int) - 1 = (j : Int) by omega]
            clear hv hby hb1
            go_wp2_with (go_at_call 114; refine (mem_at _ b g base size N m _ HR.out).mono ?_; rintro e w' ⟨rfl, rfl⟩)
            go_round
            case rel => exact ⟨j, by omega, rfl, by rw [← E.out]⟩
            case measure => simp [intOf]
          | zero =>
            go_wp2
            go_ret2
            exact ⟨by rw [R.out]; exact ret_two (by simp) rfl, hb1⟩
    · have hh2 : hasZ base size x n = false := by simpa using hh
      have R : Hid (readV base size m x n = (0, false)) := by
        refine Lib.hid ?_
        unfold readV; rw [hh2, Bool.and_false]; rfl
      clear h hm hf hx hh
      rcases ok with rfl | rfl | rfl | rfl
      all_goals
        go_enter Tryz.func105, Tryz.ntmps105
        go_wp2_with fail
        refine (mem_has _ b g base size N m _ _ HH.out HF.out HX.out).mono ?_
        rintro e w1 ⟨rfl, hb1⟩
        go_wp2
        go_ret2
        exact ⟨by rw [R.out]; rfl, hb1⟩
  · have R : Hid (readV base size m x n = (0, false)) := by
      refine Lib.hid ?_
      unfold readV okN; rw [decide_eq_false ok]; rfl
    have n1 : (n != 1) = true := by simp; omega
    have n2 : (n != 2) = true := by simp; omega
    have n4 : (n != 4) = true := by simp; omega
    have n8 : (n != 8) = true := by simp; omega
    clear h hm hf hx ok
    go_enter Tryz.func105, Tryz.ntmps105
    go_wp2
    go_ret2
    exact ⟨by rw [R.out]; rfl, Below.refl _ _⟩

end Go.Proofs.YtbcnkhfpogglmaaGreatDoor.M3

namespace Go.Proofs.YtbcnkhfpogglmaaGreatDoor.M3
open Go.RowKit
set_option linter.unusedVariables false
set_option maxRecDepth 100000

theorem RefMem.congr {w : World} {b g : Nat} {base size : Int} {N N' : Nat} {m m' : Int → Int} (h : RefMem w b g base size N m) (e : ∀ y, m y = m' y) (hN : N ≤ N') : RefMem w b g base size N' m' := by
  obtain ⟨l, h1, h2, h3, h4⟩ := h; exact ⟨l, h1, h2, fun y => (h3 y).trans (e y), by omega⟩

/-- P3.2: memory behind a Write. -/
def writeM (base size : Int) (m : Int → Int) (x n v : Int) : Int → Int := if (okN n && hasZ base size x n) = true then wrN m x v n.toNat else m

/-- What a call leaves that may turn the object: another list, new or the old one. -/
def MemEnd (w : World) (b g : Nat) (base size : Int) (N : Nat) (m : Int → Int) (r : Bool) (e : Ending) (w' : World) : Prop :=
  e = .returned (.bool r) ∧ Only (fun i => i = b) w w' ∧ ∃ g', (g' = g ∨ w.heap.size ≤ g') ∧ RefMem w' b g' base size N m

/-- In the loop: what is still to be written. -/
def Writing (w wr : World) (b g : Nat) (base size : Int) (N : Nat) (m : Int → Int) (x v : Int) (n k : Nat) (vv : Int) : Prop :=
  In64 vv ∧ Only (fun i => i = b) w wr ∧ ∃ g' m', (g' = g ∨ w.heap.size ≤ g') ∧ RefMem wr b g' base size (N + k) m' ∧ ∀ y, wrN m' (x + k) vv (n - k) y = wrN m x v n y

theorem Writing.next {e : Ending} {w wr w' : World} {b g : Nat} {base size : Int} {N : Nat} {m m1 : Int → Int} {x v : Int} {n k : Nat} {vv : Int} (h : In64 vv) (ho : Only (fun i => i = b) w wr) (hk : k < n)
    (hy : ∀ y, wrN m1 (x + k) vv (n - k) y = wrN m x v n y) (hs : MemSet wr b base size (N + k + 1) (fun y => if y = x + k then vv % 256 else m1 y) e w') : Writing w w' b g base size N m x v n (k + 1) (vv / 256) := by
  obtain ⟨_, ho2, g', hg, hr⟩ := hs
  refine ⟨by unfold In64 at *; omega, ho.trans ho2, g', _, .inr (Nat.le_trans ho.size hg), hr, fun y => ?_⟩
  rw [← hy y, show x + ((k + 1 : Nat) : Int) = x + k + 1 by omega, wrN_step, show n - (k + 1) + 1 = n - k by omega]

set_option maxHeartbeats 4000000 in
theorem mem_write (w : World) (b g : Nat) (base size : Int) (N : Nat) (m : Int → Int) (x n v : Int) (h : RefMem w b g base size N m) (hf : Fits base size) (hx : In64 x) (hv : In64 v) (hN : N < 900000) :
    Calls Tryz.prog 61 #[.pointer (some ⟨b, 0, none⟩), .int .u64 x, .int .i64 n, .int .u64 v] w (MemEnd w b g base size (N + 8) (writeM base size m x n v) (okN n && hasZ base size x n)) := by
  have HH := Lib.hid h
  have HX := Lib.hid hx
  have HF := Lib.hid hf
  have HV := Lib.hid hv
  by_cases ok : n = 1 ∨ n = 2 ∨ n = 4 ∨ n = 8
  · by_cases hh : hasZ base size x n = true
    · have hb := hh
      unfold hasZ at hb
      rw [decide_eq_true_eq] at hb
      have R : Hid (writeM base size m x n v = wrN m x v n.toNat ∧ (okN n && hasZ base size x n) = true) := by
        refine Lib.hid ?_
        have : (okN n && hasZ base size x n) = true := by unfold okN; rw [decide_eq_true ok, hh]; rfl
        exact ⟨by unfold writeM; rw [if_pos this], this⟩
      have xb : x + n ≤ 9223372036854775808 := by
        obtain ⟨f1, f2, f3, f4⟩ := hf; omega
      have x0 := hx.1
      clear h hf hx hb hv
      rcases ok with rfl | rfl | rfl | rfl
      · go_enter Tryz.func61, Tryz.ntmps61
        go_wp2_with fail
        refine (mem_has _ b g base size N m _ _ HH.out HF.out HX.out).mono ?_
        rintro e w1 ⟨rfl, hb1⟩
        have W0 : Writing w w1 b g base size N m x v 1 0 v := ⟨HV.out, Only.of_below _ hb1, g, m, .inl rfl, HH.out.below hb1, fun y => by rw [show x + ((0 : Nat) : Int) = x by omega]⟩
        go_wp2_with fail
        go_loopw [3, 9] (fun u i wr => ∃ (k : Nat) (vv : Int), k ≤ 1 ∧ i = .int .i64 k ∧ u = .int .u64 vv ∧ Writing w wr b g base size N m x v 1 k vv) (fun _ i _ => 1 - (intOf i).toNat)
        case atStart => exact ⟨0, v, by omega, rfl, rfl, W0⟩
        case round =>
          clear W0 hb1
          obtain ⟨k, vv, hk, rfl, rfl, hW⟩ := hrel
          by_cases hlt : k < 1
          · obtain ⟨hvv, ho, g1, m1, hg1, hr1, hy⟩ := hW
            have v0 := hvv.1
            have HR := Lib.hid hr1
            have HVV := Lib.hid hvv
            have HY := Lib.hid hy
            have HO := Lib.hid ho
            have HL := Lib.hid hlt
            have m1b : 0 ≤ vv % 256 := by omega
            have m2b : vv % 256 ≤ 255 := by omega
            have mw : IntKind.u8.wrap (vv % 256) = vv % 256 := by simp [IntKind.wrap, IntKind.bits, IntKind.signed]
            have IX := Lib.hid (show In64 (x + k) from ⟨by omega, by omega⟩)
            have QE : Hid (IntKind.u64.wrap (vv.tdiv 256) = vv / 256) := by
              refine Lib.hid ?_
              have := hvv.2
              rw [IntKind.wrap_u64, Int.tdiv_eq_ediv_of_nonneg v0]; omega
            clear hr1 hvv hy ho hg1
            go_wp2_with fail
            refine (mem_set _ b g1 base size (N + k) m1 _ _ HR.out (by omega) IX.out (by omega) (by omega)).mono ?_
            rintro e w2 hs
            have HS := Lib.hid (Writing.next (g := g) HVV.out HO.out HL.out HY.out hs)
            obtain ⟨⟨u, rfl⟩, _⟩ := hs
            go_wp2
            go_roundw
            case rel => exact ⟨k + 1, _, by omega, by go_num, rfl, by rw [QE.out]; exact HS.out⟩
            case measure => simp [intOf]; omega
          · obtain rfl : k = 1 := by omega
            obtain ⟨_, ho, g1, m1, hg1, hr1, hy⟩ := hW
            have HE := Lib.hid hy
            have HR := Lib.hid hr1
            clear hy hr1
            go_wp2
            go_ret
            exact ⟨by rw [R.out.2]; rfl, ho, g1, hg1, HR.out.congr (fun y => by rw [R.out.1]; exact HE.out y) (by omega)⟩
      · go_enter Tryz.func61, Tryz.ntmps61
        go_wp2_with fail
        refine (mem_has _ b g base size N m _ _ HH.out HF.out HX.out).mono ?_
        rintro e w1 ⟨rfl, hb1⟩
        have W0 : Writing w w1 b g base size N m x v 2 0 v := ⟨HV.out, Only.of_below _ hb1, g, m, .inl rfl, HH.out.below hb1, fun y => by rw [show x + ((0 : Nat) : Int) = x by omega]⟩
        go_wp2_with fail
        go_loopw [3, 9] (fun u i wr => ∃ (k : Nat) (vv : Int), k ≤ 2 ∧ i = .int .i64 k ∧ u = .int .u64 vv ∧ Writing w wr b g base size N m x v 2 k vv) (fun _ i _ => 2 - (intOf i).toNat)
        case atStart => exact ⟨0, v, by omega, rfl, rfl, W0⟩
        case round =>
          clear W0 hb1
          obtain ⟨k, vv, hk, rfl, rfl, hW⟩ := hrel
          by_cases hlt : k < 2
          · obtain ⟨hvv, ho, g1, m1, hg1, hr1, hy⟩ := hW
            have v0 := hvv.1
            have HR := Lib.hid hr1
            have HVV := Lib.hid hvv
            have HY := Lib.hid hy
            have HO := Lib.hid ho
            have HL := Lib.hid hlt
            have m1b : 0 ≤ vv % 256 := by omega
            have m2b : vv % 256 ≤ 255 := by omega
            have mw : IntKind.u8.wrap (vv % 256) = vv % 256 := by simp [IntKind.wrap, IntKind.bits, IntKind.signed]
            have IX := Lib.hid (show In64 (x + k) from ⟨by omega, by omega⟩)
            have QE : Hid (IntKind.u64.wrap (vv.tdiv 256) = vv / 256) := by
              refine Lib.hid ?_
              have := hvv.2
              rw [IntKind.wrap_u64, Int.tdiv_eq_ediv_of_nonneg v0]; omega
            clear hr1 hvv hy ho hg1
            go_wp2_with fail
            refine (mem_set _ b g1 base size (N + k) m1 _ _ HR.out (by omega) IX.out (by omega) (by omega)).mono ?_
            rintro e w2 hs
            have HS := Lib.hid (Writing.next (g := g) HVV.out HO.out HL.out HY.out hs)
            obtain ⟨⟨u, rfl⟩, _⟩ := hs
            go_wp2
            go_roundw
            case rel => exact ⟨k + 1, _, by omega, by go_num, rfl, by rw [QE.out]; exact HS.out⟩
            case measure => simp [intOf]; omega
          · obtain rfl : k = 2 := by omega
            obtain ⟨_, ho, g1, m1, hg1, hr1, hy⟩ := hW
            have HE := Lib.hid hy
            have HR := Lib.hid hr1
            clear hy hr1
            go_wp2
            go_ret
            exact ⟨by rw [R.out.2]; rfl, ho, g1, hg1, HR.out.congr (fun y => by rw [R.out.1]; exact HE.out y) (by omega)⟩
      · go_enter Tryz.func61, Tryz.ntmps61
        go_wp2_with fail
        refine (mem_has _ b g base size N m _ _ HH.out HF.out HX.out).mono ?_
        rintro e w1 ⟨rfl, hb1⟩
        have W0 : Writing w w1 b g base size N m x v 4 0 v := ⟨HV.out, Only.of_below _ hb1, g, m, .inl rfl, HH.out.below hb1, fun y => by rw [show x + ((0 : Nat) : Int) = x by omega]⟩
        go_wp2_with fail
        go_loopw [3, 9] (fun u i wr => ∃ (k : Nat) (vv : Int), k ≤ 4 ∧ i = .int .i64 k ∧ u = .int .u64 vv ∧ Writing w wr b g base size N m x v 4 k vv) (fun _ i _ => 4 - (intOf i).toNat)
        case atStart => exact ⟨0, v, by omega, rfl, rfl, W0⟩
        case round =>
          clear W0 hb1
          obtain ⟨k, vv, hk, rfl, rfl, hW⟩ := hrel
          by_cases hlt : k < 4
          · obtain ⟨hvv, ho, g1, m1, hg1, hr1, hy⟩ := hW
            have v0 := hvv.1
            have HR := Lib.hid hr1
            have HVV := Lib.hid hvv
            have HY := Lib.hid hy
            have HO := Lib.hid ho
            have HL := Lib.hid hlt
            have m1b : 0 ≤ vv % 256 := by omega
            have m2b : vv % 256 ≤ 255 := by omega
            have mw : IntKind.u8.wrap (vv % 256) = vv % 256 := by simp [IntKind.wrap, IntKind.bits, IntKind.signed]
            have IX := Lib.hid (show In64 (x + k) from ⟨by omega, by omega⟩)
            have QE : Hid (IntKind.u64.wrap (vv.tdiv 256) = vv / 256) := by
              refine Lib.hid ?_
              have := hvv.2
              rw [IntKind.wrap_u64, Int.tdiv_eq_ediv_of_nonneg v0]; omega
            clear hr1 hvv hy ho hg1
            go_wp2_with fail
            refine (mem_set _ b g1 base size (N + k) m1 _ _ HR.out (by omega) IX.out (by omega) (by omega)).mono ?_
            rintro e w2 hs
            have HS := Lib.hid (Writing.next (g := g) HVV.out HO.out HL.out HY.out hs)
            obtain ⟨⟨u, rfl⟩, _⟩ := hs
            go_wp2
            go_roundw
            case rel => exact ⟨k + 1, _, by omega, by go_num, rfl, by rw [QE.out]; exact HS.out⟩
            case measure => simp [intOf]; omega
          · obtain rfl : k = 4 := by omega
            obtain ⟨_, ho, g1, m1, hg1, hr1, hy⟩ := hW
            have HE := Lib.hid hy
            have HR := Lib.hid hr1
            clear hy hr1
            go_wp2
            go_ret
            exact ⟨by rw [R.out.2]; rfl, ho, g1, hg1, HR.out.congr (fun y => by rw [R.out.1]; exact HE.out y) (by omega)⟩
      · go_enter Tryz.func61, Tryz.ntmps61
        go_wp2_with fail
        refine (mem_has _ b g base size N m _ _ HH.out HF.out HX.out).mono ?_
        rintro e w1 ⟨rfl, hb1⟩
        have W0 : Writing w w1 b g base size N m x v 8 0 v := ⟨HV.out, Only.of_below _ hb1, g, m, .inl rfl, HH.out.below hb1, fun y => by rw [show x + ((0 : Nat) : Int) = x by omega]⟩
        go_wp2_with fail
        go_loopw [3, 9] (fun u i wr => ∃ (k : Nat) (vv : Int), k ≤ 8 ∧ i = .int .i64 k ∧ u = .int .u64 vv ∧ Writing w wr b g base size N m x v 8 k vv) (fun _ i _ => 8 - (intOf i).toNat)
        case atStart => exact ⟨0, v, by omega, rfl, rfl, W0⟩
        case round =>
          clear W0 hb1
          obtain ⟨k, vv, hk, rfl, rfl, hW⟩ := hrel
          by_cases hlt : k < 8
          · obtain ⟨hvv, ho, g1, m1, hg1, hr1, hy⟩ := hW
            have v0 := hvv.1
            have HR := Lib.hid hr1
            have HVV := Lib.hid hvv
            have HY := Lib.hid hy
            have HO := Lib.hid ho
            have HL := Lib.hid hlt
            have m1b : 0 ≤ vv % 256 := by omega
            have m2b : vv % 256 ≤ 255 := by omega
            have mw : IntKind.u8.wrap (vv % 256) = vv % 256 := by simp [IntKind.wrap, IntKind.bits, IntKind.signed]
            have IX := Lib.hid (show In64 (x + k) from ⟨by omega, by omega⟩)
            have QE : Hid (IntKind.u64.wrap (vv.tdiv 256) = vv / 256) := by
              refine Lib.hid ?_
              have := hvv.2
              rw [IntKind.wrap_u64, Int.tdiv_eq_ediv_of_nonneg v0]; omega
            clear hr1 hvv hy ho hg1
            go_wp2_with fail
            refine (mem_set _ b g1 base size (N + k) m1 _ _ HR.out (by omega) IX.out (by omega) (by omega)).mono ?_
            rintro e w2 hs
            have HS := Lib.hid (Writing.next (g := g) HVV.out HO.out HL.out HY.out hs)
            obtain ⟨⟨u, rfl⟩, _⟩ := hs
            go_wp2
            go_roundw
            case rel => exact ⟨k + 1, _, by omega, by go_num, rfl, by rw [QE.out]; exact HS.out⟩
            case measure => simp [intOf]; omega
          · obtain rfl : k = 8 := by omega
            obtain ⟨_, ho, g1, m1, hg1, hr1, hy⟩ := hW
            have HE := Lib.hid hy
            have HR := Lib.hid hr1
            clear hy hr1
            go_wp2
            go_ret
            exact ⟨by rw [R.out.2]; rfl, ho, g1, hg1, HR.out.congr (fun y => by rw [R.out.1]; exact HE.out y) (by omega)⟩
    · have hh2 : hasZ base size x n = false := by simpa using hh
      have R : Hid (writeM base size m x n v = m ∧ (okN n && hasZ base size x n) = false) := by
        refine Lib.hid ?_
        have : (okN n && hasZ base size x n) = false := by rw [hh2, Bool.and_false]
        exact ⟨by unfold writeM; rw [this]; rfl, this⟩
      clear h hf hx hh hv
      rcases ok with rfl | rfl | rfl | rfl
      all_goals
        go_enter Tryz.func61, Tryz.ntmps61
        go_wp2_with fail
        refine (mem_has _ b g base size N m _ _ HH.out HF.out HX.out).mono ?_
        rintro e w1 ⟨rfl, hb1⟩
        go_wp2
        go_ret
        exact ⟨by rw [R.out.2]; rfl, Only.of_below _ hb1, g, .inl rfl, (HH.out.below hb1).congr (fun y => by rw [R.out.1]) (by omega)⟩
  · have R : Hid (writeM base size m x n v = m ∧ (okN n && hasZ base size x n) = false) := by
      refine Lib.hid ?_
      have : (okN n && hasZ base size x n) = false := by unfold okN; rw [decide_eq_false ok, Bool.false_and]
      exact ⟨by unfold writeM; rw [this]; rfl, this⟩
    have n1 : (n != 1) = true := by simp; omega
    have n2 : (n != 2) = true := by simp; omega
    have n4 : (n != 4) = true := by simp; omega
    have n8 : (n != 8) = true := by simp; omega
    clear h hf hx ok hv
    go_enter Tryz.func61, Tryz.ntmps61
    go_wp2
    go_ret
    exact ⟨by rw [R.out.2]; rfl, Only.refl _ _, g, .inl rfl, HH.out.congr (fun y => by rw [R.out.1]) (by omega)⟩

end Go.Proofs.YtbcnkhfpogglmaaGreatDoor.M3

namespace Go.Proofs.YtbcnkhfpogglmaaGreatDoor.M3
open Go.RowKit
set_option linter.unusedVariables false
set_option maxRecDepth 100000

/-- The slice value reads as xs, out of block g. -/
def ReadsIn (k : IntKind) (g : Nat) (w : World) (v : Value) (xs : List Int) : Prop :=
  ∃ a c, v = .slice a xs.length c ∧ xs.length ≤ maxLen ∧ (xs = [] ∨ ∃ off, a = some ⟨g, off, none⟩ ∧ g < w.heap.size ∧ ∀ i, i < xs.length → w.cell? ⟨g, off + i, none⟩ = some (.int k (xs.getD i 0)))
theorem ReadsIn.keeps {S : Nat → Prop} {k : IntKind} {g : Nat} {w w' : World} {v : Value} {xs : List Int} (h : ReadsIn k g w v xs) (o : Only S w w') (hg : ¬ S g) : ReadsIn k g w' v xs := by
  obtain ⟨a, c, hv, hm, h⟩ := h
  refine ⟨a, c, hv, hm, ?_⟩
  rcases h with h | ⟨off, ha, hlt, hc⟩
  · exact .inl h
  · exact .inr ⟨off, ha, Nat.lt_of_lt_of_le hlt o.size, fun i hi => (World.cell?_of_block (w := w) (o.block g hlt hg)).trans (hc i hi)⟩
theorem ReadsIn.below {k : IntKind} {g : Nat} {w w' : World} {v : Value} {xs : List Int} (h : ReadsIn k g w v xs) (o : Below w.heap.size w w') : ReadsIn k g w' v xs :=
  h.keeps (Only.of_below (fun _ => False) o) id
theorem ReadsIn.own {k : IntKind} {base : Nat} {e : TypeId} {w : World} {v : Value} {xs : List Int} (h : w.ownsRow base e 1 v xs.length (xs.map (Value.int k))) : ∃ g, (base ≤ g ∨ xs = []) ∧ ReadsIn k g w v xs := by
  rcases h.2 with ⟨hv, h0⟩ | ⟨g, cap, cur, hv, hb, hg, hn, hc, _, _⟩
  · have : xs = [] := List.eq_nil_of_length_eq_zero h0
    subst this
    exact ⟨0, .inr rfl, none, 0, hv, Nat.zero_le _, .inl rfl⟩
  · subst hv
    refine ⟨g, .inl hb, _, cap, rfl, by omega, .inr ⟨0, rfl, (Array.getElem?_eq_some_iff.1 hg).1, fun i hi => ?_⟩⟩
    have := h.cells (g := g) rfl i (.int k (xs.getD i 0)) (by simp [List.getD, hi])
    rwa [add_none] at this

/-- Memory behind bytes were put at x. -/
def putF (m : Int → Int) (x : Int) : List Int → Int → Int
  | [], y => m y
  | v :: vs, y => putF (fun z => if z = x then v else m z) (x + 1) vs y
def putM (base size : Int) (m : Int → Int) (x : Int) (xs : List Int) : Int → Int := if hasZ base size x xs.length = true then putF m x xs else m
theorem putF_out {m : Int → Int} {x : Int} {xs : List Int} {y : Int} (h : y < x ∨ x + xs.length ≤ y) : putF m x xs y = m y := by
  induction xs generalizing m x with
  | nil => rfl
  | cons v vs ih =>
    simp only [List.length_cons] at h
    unfold putF
    rw [ih (by omega)]
    show (if y = x then v else m y) = m y
    rw [if_neg (by omega)]
theorem putF_at {m : Int → Int} {x : Int} {xs : List Int} {i : Nat} (h : i < xs.length) : putF m x xs (x + i) = xs.getD i 0 := by
  induction xs generalizing m x i with
  | nil => simp at h
  | cons v vs ih =>
    unfold putF
    cases i with
    | zero => rw [putF_out (by omega)]; simp
    | succ i =>
      rw [show x + ((i + 1 : Nat) : Int) = x + 1 + i by omega, ih (by simpa using h)]; simp
def Bytes255 (xs : List Int) : Prop := ∀ i, i < xs.length → 0 ≤ xs.getD i 0 ∧ xs.getD i 0 ≤ 255
/-- In the loop: what is still to be put. -/
def Putting (w wr : World) (b g : Nat) (base size : Int) (N : Nat) (m : Int → Int) (x : Int) (xs : List Int) (k : Nat) : Prop :=
  Only (fun i => i = b) w wr ∧ ∃ g' m', (g' = g ∨ w.heap.size ≤ g') ∧ RefMem wr b g' base size (N + k) m' ∧ ∀ y, putF m' (x + k) (xs.drop k) y = putF m x xs y
end Go.Proofs.YtbcnkhfpogglmaaGreatDoor.M3

namespace Go.Proofs.YtbcnkhfpogglmaaGreatDoor.M3
open Go.RowKit
set_option linter.unusedVariables false
set_option maxRecDepth 100000

/-- The n bytes from x on. -/
def bytesL (m : Int → Int) (x : Int) (n : Nat) : List Int := (List.range n).map fun i : Nat => m (x + (i : Int))
theorem bytesL_len (m : Int → Int) (x : Int) (n : Nat) : (bytesL m x n).length = n := by unfold bytesL; simp
theorem bytesL_get (m : Int → Int) (x : Int) (n i : Nat) (h : i < n) : (bytesL m x n).getD i 0 = m (x + i) := by unfold bytesL; simp [List.getD, h]
def bytesV (base size : Int) (m : Int → Int) (x n : Int) : List Int := if hasZ base size x n = true then bytesL m x n.toNat else []

/-- What Bytes answers. -/
def BytesEnd (w : World) (xs : List Int) (r : Bool) (e : Ending) (w' : World) : Prop :=
  Below w.heap.size w w' ∧ ∃ a n c, e = .returned (.tuple #[.slice a n c, .bool r]) ∧ w'.ownsRow w.heap.size 5 1 (.slice a n c) xs.length (xs.map (Value.int .u8))

end Go.Proofs.YtbcnkhfpogglmaaGreatDoor.M3

namespace Go.Proofs.YtbcnkhfpogglmaaGreatDoor.M3
open Go.RowKit
set_option linter.unusedVariables false
set_option maxRecDepth 100000

/-- P3.1: which memories there are. -/
def newOk (base size : Int) : Bool := decide (base % 4096 = 0 ∧ size % 4096 = 0 ∧ 4096 ≤ size ∧ size ≤ 67108864 ∧ base ≤ 9223372036854775808 - size)
theorem newOk_fits {base size : Int} (hb : In64 base) (h : newOk base size = true) : Fits base size := by
  unfold newOk at h; rw [decide_eq_true_eq] at h
  have := hb.1
  exact ⟨this, by omega, by omega, by omega⟩

/-- What New answers. -/
def NewEnd (w : World) (base size : Int) (ok : Bool) (e : Ending) (w' : World) : Prop :=
  (ok = false ∧ e = .returned (.tuple #[.pointer none, .int .i64 1]) ∧ w = w') ∨
  (ok = true ∧ e = .returned (.tuple #[.pointer (some ⟨w.heap.size, 0, none⟩), .int .i64 0]) ∧ Below w.heap.size w w' ∧ RefMem w' w.heap.size (w.heap.size + 1) base size 0 fun _ => 0)

set_option maxHeartbeats 1000000 in
theorem refNew_any (base size : Int) (hb : In64 base) (hs : In64 size) (w : World) :
    Calls Tryz.prog 52 #[.int .u64 base, .int .u64 size] w (NewEnd w base size (newOk base size)) := by
  have b0 := hb.1
  have s0 := hs.1
  by_cases h : newOk base size = true
  · have h' := h
    unfold newOk at h'; rw [decide_eq_true_eq] at h'
    obtain ⟨h1, h2, h3, h4, h5⟩ := h'
    have k1 : (base % 4096 != 0) = false := by simpa using h1
    have k2 : (size % 4096 != 0) = false := by simpa using h2
    have HE : Hid (RefMem (w.alloc (.cells #[.int .u64 base, .int .u64 size, .slice none 0 0] 144)) w.heap.size (w.heap.size + 1) base size 0 fun _ => 0) :=
      ⟨[], ⟨none, 0, heap_alloc_new w _, by simp, .inl rfl⟩, ⟨by simp, by simp⟩, fun _ => rfl, by simp⟩
    have HH := Lib.hid h
    clear h1 h2 h hb hs
    go_enter Tryz.func52, Tryz.ntmps52
    go_wp2
    go_ret2
    exact .inr ⟨HH.out, rfl, (Below.refl _ _).alloc (Nat.le_refl _) _, HE.out⟩
  · have hh : newOk base size = false := by simpa using h
    have HH := Lib.hid hh
    unfold newOk at hh; rw [decide_eq_false_iff_not] at hh
    by_cases h1 : base % 4096 = 0
    · have k1 : (base % 4096 != 0) = false := by simpa using h1
      by_cases h2 : size % 4096 = 0
      · have k2 : (size % 4096 != 0) = false := by simpa using h2
        by_cases h3 : size < 4096
        · clear hh h h1 h2 hb hs
          go_enter Tryz.func52, Tryz.ntmps52
          go_wp2
          go_ret2
          exact .inl ⟨HH.out, rfl, rfl⟩
        · by_cases h4 : 67108864 < size
          · clear hh h h1 h2 hb hs
            go_enter Tryz.func52, Tryz.ntmps52
            go_wp2
            go_ret2
            exact .inl ⟨HH.out, rfl, rfl⟩
          · have h5 : 9223372036854775808 - size < base := by omega
            clear hh h h1 h2 hb hs
            go_enter Tryz.func52, Tryz.ntmps52
            go_wp2
            go_ret2
            exact .inl ⟨HH.out, rfl, rfl⟩
      · have k2 : (size % 4096 != 0) = true := by simpa using h2
        clear hh h h1 h2 hb hs
        go_enter Tryz.func52, Tryz.ntmps52
        go_wp2
        go_ret2
        exact .inl ⟨HH.out, rfl, rfl⟩
    · have k1 : (base % 4096 != 0) = true := by simpa using h1
      clear hh h h1 hb hs
      go_enter Tryz.func52, Tryz.ntmps52
      go_wp2
      go_ret2
      exact .inl ⟨HH.out, rfl, rfl⟩

end Go.Proofs.YtbcnkhfpogglmaaGreatDoor.M3

namespace Go.Proofs.YtbcnkhfpogglmaaGreatDoor.M3
open Go.RowKit
set_option linter.unusedVariables false
set_option maxRecDepth 100000

/-- An append whose run is known, at a step of a region that draws. -/
theorem step_append_run {P : Program} {w : World} {ops : Array Oper} {o : Oper} {a : Act} {K : Act → World → Prop} {Q : Exit → Act → World → Prop} {E : Prop} (hgd : o.guard = none) (s x : Operand) (t : TypeId)
    (ho : o.op = .call { callee := .builtin .append, args := #[s, x], argTypes := #[t, t] }) (v v2 v' : Value) (w' : World) (hs : a.eval s = v) (hx : a.eval x = v2)
    (hr : (Builtin.append_ #[t, t] o.type #[v, v2]).run P w = .ok v' w') (h : K (a.put o.dst v') w') :
    if Region.wanted o (yielded ops a.tmps) = true then Oper.wp P o a w K Q else E := by
  have hw : Region.wanted o (yielded ops a.tmps) = true := by simp [Region.wanted, hgd]
  rw [if_pos hw]
  exact wp_append_run s x t ho v v2 v' w' hs hx hr h

/-- What Twin answers. -/
def TwinEnd (w : World) (base size : Int) (N : Nat) (m : Int → Int) (e : Ending) (w' : World) : Prop :=
  Below w.heap.size w w' ∧ ∃ b g, e = .returned (.pointer (some ⟨b, 0, none⟩)) ∧ w.heap.size ≤ b ∧ w.heap.size ≤ g ∧ RefMem w' b g base size N m

end Go.Proofs.YtbcnkhfpogglmaaGreatDoor.M3

namespace Go.Proofs.YtbcnkhfpogglmaaGreatDoor.M3
open Go.RowKit
set_option linter.unusedVariables false
set_option maxRecDepth 100000

/-- Numbers that rise. -/
def Rises (ps : List Int) : Prop := ps.Pairwise (· < ·)
def pageOf (x : Int) : Int := x / 4096 * 4096
/-- The pages of the first k entries. -/
def PagesTo (l : List (Int × Int)) (k : Nat) (ps : List Int) : Prop := Rises ps ∧ ps.length ≤ k ∧ (∀ p ∈ ps, In64 p) ∧ ∀ p, p ∈ ps ↔ ∃ j, j < k ∧ pageOf (l.getD j (0, 0)).1 = p
/-- What Pages answers. -/
def PagesEnd (w : World) (m : Int → Int) (e : Ending) (w' : World) : Prop :=
  Below w.heap.size w w' ∧ ∃ a n c ps, e = .returned (.slice a n c) ∧ w'.ownsRow w.heap.size 26 1 (.slice a n c) ps.length (ps.map (Value.int .u64)) ∧ Rises ps ∧ ∀ p, p ∈ ps ↔ ∃ y, ¬ m y = 0 ∧ pageOf y = p

/-- What a call leaves that may turn the object: its own blocks are the old ones, or new. -/
def ProgEnd (M : World → Nat → (Nat → Prop) → Int → Int → (Int → Int) → Prop) (w : World) (b : Nat) (S : Nat → Prop) (base size : Int) (m : Int → Int) (r : Bool) (e : Ending) (w' : World) : Prop :=
  e = .returned (.bool r) ∧ Only S w w' ∧ ∃ S', (∀ i, S' i → S i ∨ w.heap.size ≤ i) ∧ M w' b S' base size m

theorem RefMem.norm {w : World} {b g : Nat} {base size : Int} {N : Nat} {m : Int → Int} (h : RefMem w b g base size N m) : ∃ g', (g' = g ∨ g' = b) ∧ g' < w.heap.size ∧ RefMem w b g' base size N m := by
  have hlt := h.lt
  obtain ⟨l, ⟨a, c, h1, h2, h3⟩, h4⟩ := h
  rcases h3 with h3 | ⟨h5, h6, h7⟩
  · exact ⟨b, .inr rfl, hlt, l, ⟨a, c, h1, h2, .inl h3⟩, h4⟩
  · exact ⟨g, .inl rfl, h7.lt, l, ⟨a, c, h1, h2, .inr ⟨h5, h6, h7⟩⟩, h4⟩

/-- What the program's New answers. -/
def ProgNew (M : World → Nat → (Nat → Prop) → Int → Int → (Int → Int) → Prop) (w : World) (base size : Int) (ok : Bool) (e : Ending) (w' : World) : Prop :=
  Below w.heap.size w w' ∧ ((ok = false ∧ e = .returned (.tuple #[.pointer none, .int .i64 1])) ∨
    (ok = true ∧ ∃ b S, e = .returned (.tuple #[.pointer (some ⟨b, 0, none⟩), .int .i64 0]) ∧ (∀ i, S i → w.heap.size ≤ i) ∧ M w' b S base size fun _ => 0))

end Go.Proofs.YtbcnkhfpogglmaaGreatDoor.M3

namespace Go.Proofs.YtbcnkhfpogglmaaGreatDoor.M3
open Go.RowKit
set_option linter.unusedVariables false
set_option maxRecDepth 100000

/-- The array of n bytes. -/
def uarr (n : Nat) (f : Nat → Int) : Array Value := varr n fun i => .int .u8 (f i)
theorem uarr_size (n : Nat) (f : Nat → Int) : (uarr n f).size = n := varr_size n _
theorem uarr_get (n : Nat) (f : Nat → Int) (j : Nat) (h : j < n) : (uarr n f)[j]? = some (.int .u8 (f j)) := varr_get n _ j h
theorem uarr_one (n : Nat) (f : Nat → Int) : (uarr n f).all (·.oneCell') = true := varr_one fun _ => rfl
theorem uarr_congr {n : Nat} {f g : Nat → Int} (h : ∀ i, i < n → f i = g i) : uarr n f = uarr n g := varr_congr fun i hi => by rw [h i hi]

/-- All the bytes are alike. -/
def alike (n : Nat) (f g : Nat → Int) : Bool := (List.range n).all fun i => f i == g i
theorem alike_iff {n : Nat} {f g : Nat → Int} : alike n f g = true ↔ ∀ i, i < n → f i = g i := by
  unfold alike; simp [List.all_eq_true]

section
variable {P : Program} (w : World)
theorem run_part_u8 {e : TypeId} (ha : (isAgg e).run P w = .ok false w) {n : Nat} {f : Nat → Int} {i : Nat} (h : i < n) : (part e (uarr n f) i).run P w = .ok (.int .u8 (f i)) w := by
  simp [part, ha, uarr_get n f i h]

theorem run_alike {d : Nat} {e : TypeId} (ha : (isAgg e).run P w = .ok false w) (he : P.underlying e = some (.int .u8)) {n : Nat} (f g : Nat → Int) (l : List Nat) (hl : ∀ i ∈ l, i < n) :
    ((forIn l ((none, ()) : Option Bool × Unit) fun i _ => do
        let x ← part e (uarr n f) i
        let y ← part e (uarr n g) i
        let r ← Op.equalIn (d + 1) e x y
        if (!r) = true then pure (ForInStep.done (some false, ())) else pure (ForInStep.yield (none, ()))).run P w) =
      .ok (if (l.all fun i => f i == g i) = true then (none, ()) else (some false, ())) w := by
  induction l with
  | nil => simp
  | cons i l ih =>
    have hi := hl i (by simp)
    have ih := ih fun j hj => hl j (by simp [hj])
    rw [List.forIn_cons]
    simp only [Sem.run_bind, run_part_u8 w ha hi, Result.andThen_ok, run_equalIn_int w d e .u8 .u8 _ _ he]
    cases hc : (f i == g i)
    · simp [hc]
    · simp only [Bool.not_true, Bool.false_eq_true, if_false, Sem.run_pure, Result.andThen_ok, List.all_cons, hc, Bool.true_and]
      exact ih

theorem run_equalIn_bytes {d : Nat} {t e : TypeId} {n : Nat} (ht : P.underlying t = some (.array n e)) (hs : (sizeOf e).run P w = .ok 1 w) (ha : (isAgg e).run P w = .ok false w) (he : P.underlying e = some (.int .u8)) (f g : Nat → Int) :
    (Op.equalIn (d + 1 + 1) t (.agg (uarr n f)) (.agg (uarr n g))).run P w = .ok (alike n f g) w := by
  rw [Op.equalIn]
  simp only [Sem.run_bind, run_underlying ht, Result.andThen_ok, hs, Nat.mul_one]
  rw [Std.Legacy.Range.forIn_eq_forIn_range']
  simp only [Std.Legacy.Range.size]
  have e1 : (n - 0 + 1 - 1) / 1 = n := by simp
  rw [e1, ← List.range_eq_range', run_alike w ha he f g (List.range n) fun i hi => List.mem_range.1 hi, Result.andThen_ok]
  unfold alike
  cases (List.range n).all fun i => f i == g i <;> simp

theorem run_eql_bytes {t e : TypeId} {n : Nat} (ht : P.underlying t = some (.array n e)) (hs : (sizeOf e).run P w = .ok 1 w) (ha : (isAgg e).run P w = .ok false w) (he : P.underlying e = some (.int .u8)) (f g : Nat → Int) :
    (binOp .eql t (.agg (uarr n f)) (.agg (uarr n g))).run P w = .ok (.bool (alike n f g)) w := by
  rw [run_eql_struct, run_equalIn_bytes (d := 9998) w ht hs ha he]
  rfl
end

end Go.Proofs.YtbcnkhfpogglmaaGreatDoor.M3

namespace Go.Proofs.YtbcnkhfpogglmaaGreatDoor.M3
open Go.RowKit Go.Maps
set_option linter.unusedVariables false
set_option maxRecDepth 100000

/-- How a pointer reads as a number: its block's, or -1. -/
def ptrElem (v : Value) : Option (DataW Unit × List MemPlace) :=
  match v with
  | .pointer none => some (.lit (.int .i64 (-1)), [])
  | .pointer (some ⟨g, 0, none⟩) => some (.lit (.int .i64 g), [])
  | _ => none
def encP : Option Nat → DataW Unit
  | none => .lit (.int .i64 (-1))
  | some g => .lit (.int .i64 g)
def ptrTo : Option Nat → Value
  | none => .pointer none
  | some g => .pointer (some ⟨g, 0, none⟩)
theorem ptrElem_to (o : Option Nat) : ptrElem (ptrTo o) = some (encP o, []) := by cases o <;> rfl
theorem ptrElem_inv {v : Value} {z : DataW Unit × List MemPlace} (h : ptrElem v = some z) : ∃ o, v = ptrTo o ∧ z = (encP o, []) := by
  unfold ptrElem at h
  split at h
  · cases h; exact ⟨none, rfl, rfl⟩
  · cases h; exact ⟨some _, rfl, rfl⟩
  · cases h
theorem encP_inj {o o' : Option Nat} (h : encP o = encP o') : o = o' := by
  cases o <;> cases o' <;> simp [encP] at h ⊢
  · omega
theorem wf_u64 {q : Int} (h : In64 q) : (Lit.int .u64 q).wf = true := by
  unfold In64 at h
  simp [Lit.wf, IntKind.min, IntKind.max, IntKind.signed, IntKind.bits]; omega
theorem wf_u64_in {q : Int} (h : (Lit.int .u64 q).wf = true) : In64 q := by
  unfold In64
  simp [Lit.wf, IntKind.min, IntKind.max, IntKind.signed, IntKind.bits] at h; omega

theorem nodup_le (N : Nat) (lo : Int) (l : List Int) (hn : l.Nodup) (h : ∀ x ∈ l, lo ≤ x ∧ x < lo + N) : l.length ≤ N := by
  induction N generalizing l with
  | zero =>
    cases l with
    | nil => simp
    | cons a l => have := h a (by simp); omega
  | succ N ih =>
    by_cases c : lo + N ∈ l
    · have h1 := List.length_erase_of_mem c
      have h2 := ih (l.erase (lo + N)) (hn.erase _) fun x hx => by
        have h3 := (hn.mem_erase_iff).1 hx
        have h4 := h x h3.2
        have := h3.1
        omega
      omega
    · have := ih l hn fun x hx => by
        have h4 := h x hx
        have : x ≠ lo + N := fun e => c (e ▸ hx)
        omega
      omega

/-- The types' facts. -/
structure PgT (P : Program) (t k e : TypeId) : Prop where
  hk : P.underlying k = some (.int .u64)
  ht : P.underlying t = some (.map k e)
  hz : ∀ w, (zeroValue e).run P w = .ok (.pointer none) w

/-- Block mb of the world is a map whose entry at q leads to block pg q. -/
def PgMap (P : Program) (k : TypeId) (w : World) (mb : Nat) (pg : Int → Option Nat) : Prop :=
  ∃ n D, w.ownsMap P k ptrElem mb n D ∧ (∀ q, D.atKey (.int .u64 q) (encP none) = encP (pg q)) ∧ ∀ kl, Maps.has D kl = true → ∃ q, In64 q ∧ kl = .int .u64 q ∧ pg q ≠ none

section
variable {P : Program} {t k e : TypeId} {w w' : World} {mb : Nat} {pg : Int → Option Nat}

theorem PgMap.lt (h : PgMap P k w mb pg) : mb < w.heap.size := by obtain ⟨n, D, h, _⟩ := h; exact h.lt
theorem PgMap.keeps {S : Nat → Prop} (h : PgMap P k w mb pg) (o : Only S w w') (hs : ¬ S mb) : PgMap P k w' mb pg := by
  obtain ⟨n, D, h1, h2⟩ := h
  have hlt := h1.lt
  obtain ⟨es, clock, hb, r⟩ := h1
  exact ⟨n, D, ⟨es, clock, (o.block mb hlt hs).trans hb, r⟩, h2⟩
theorem PgMap.congr (h : PgMap P k w mb pg) {pg' : Int → Option Nat} (e : ∀ q, pg q = pg' q) : PgMap P k w mb pg' := by
  obtain rfl : pg = pg' := funext e; exact h
theorem PgMap.made (P : Program) (k : TypeId) (w : World) : PgMap P k (w.alloc (.map #[] 0)) w.heap.size fun _ => none :=
  ⟨0, _, World.ownsMap_made w P k ptrElem, fun q => rfl, fun kl h => by simp [Maps.has] at h⟩

theorem PgMap.look (h : PgMap P k w mb pg) (T : PgT P t k e) {q : Int} (hq : In64 q) :
    (Instr.lookup t (.map (some mb)) (.int .u64 q) false).run P w = .ok (ptrTo (pg q)) w := by
  obtain ⟨n, D, h1, h2, h3⟩ := h
  obtain ⟨v, ps, hr, hv⟩ := h1.lookup (int_keyed T.hk) T.ht (T.hz w) (ptrElem_to none) (keyOf_int_mk T.hk (wf_u64 hq))
  obtain ⟨o, rfl, ho⟩ := ptrElem_inv hv
  injection ho with ho _
  rw [h2 q] at ho
  rw [hr, encP_inj ho]

theorem PgMap.size_le (h : PgMap P k w mb pg) (hk : P.underlying k = some (.int .u64)) {lo : Int} {N : Nat} (hN : ∀ q, pg q ≠ none → lo ≤ q ∧ q < lo + N) : ∃ n D, n ≤ N ∧ Maps.size D = n ∧ w.ownsMap P k ptrElem mb n D ∧ (∀ q, D.atKey (.int .u64 q) (encP none) = encP (pg q)) ∧ ∀ kl, Maps.has D kl = true → ∃ q, In64 q ∧ kl = .int .u64 q ∧ pg q ≠ none := by
  obtain ⟨n, D, ⟨es, clock, hb, F, hs, hD⟩, h2, h3⟩ := h
  have hsz : Maps.size D = es.size := by rw [hD]; simp [Maps.size, Go.length_read]
  refine ⟨es.size, D, ?_, hsz, ⟨es, clock, hb, F, Nat.le_refl _, hD⟩, h2, h3⟩
  rw [← hsz]
  have ht := World.ownsMap.tidy (⟨es, clock, hb, F, hs, hD⟩ : w.ownsMap P k ptrElem mb n D) (int_keyed hk)
  obtain ⟨l, rfl, hp⟩ := ht
  have hkey : ∀ p ∈ l, ∃ q, p.1 = .int .u64 q ∧ pg q ≠ none := fun p hpm => by
    obtain ⟨q, _, e1, e2⟩ := h3 p.1 (by
      show (l.any fun r => r.1.sameKey p.1) = true
      rw [List.any_eq_true]
      refine ⟨p, hpm, ?_⟩
      have hent := World.ownsMap.entries (⟨es, clock, hb, F, hs, hD⟩ : w.ownsMap P k ptrElem mb n _) (int_keyed hk)
      obtain ⟨es2, e3, _, e4⟩ := hent
      injection e3 with e3
      subst e3
      exact WideAt.sameKey_self (e4 p hpm))
    exact ⟨q, e1, e2⟩
  let f : Lit × DataW Unit → Int := fun p => match p.1 with | .int _ q => q | _ => 0
  have hnd : (l.map f).Nodup := by
    rw [List.Nodup, List.pairwise_map]
    refine List.Pairwise.imp_of_mem ?_ hp
    intro a b ha hb hne he
    obtain ⟨q1, e1, _⟩ := hkey a ha
    obtain ⟨q2, e2, _⟩ := hkey b hb
    apply hne
    simp only [f, e1, e2] at he
    rw [e1, e2, he]
  have := nodup_le N lo (l.map f) hnd fun x hx => by
    obtain ⟨p, hp1, rfl⟩ := List.mem_map.1 hx
    obtain ⟨q, e1, e2⟩ := hkey p hp1
    simp only [f, e1]
    exact hN q e2
  simpa [Maps.size] using this

theorem PgMap.put (h : PgMap P k w mb pg) (T : PgT P t k e) {lo : Int} {N : Nat} (hN : ∀ q, pg q ≠ none → lo ≤ q ∧ q < lo + N) (hM : N < maxLen) {q : Int} (hq : In64 q) (g : Nat) :
    ∃ w', (Instr.mapUpdate t (.map (some mb)) (.int .u64 q) (.pointer (some ⟨g, 0, none⟩))).run P w = .ok () w' ∧ PgMap P k w' mb (fun y => if y = q then some g else pg y) ∧ w.mapTurned w' mb := by
  obtain ⟨n, D, hn, _, h1, h2, h3⟩ := h.size_le T.hk hN
  have K := int_keyed T.hk
  have hkey := keyOf_int_mk T.hk (wf_u64 hq)
  obtain ⟨w', hr, ho, hg⟩ := h1.store K T.ht (by omega) hkey (ptrElem_to (some g))
  refine ⟨w', hr, ⟨_, _, ho, fun y => ?_, fun kl hkl => ?_⟩, hg⟩
  · show _ = encP (if y = q then some g else pg y)
    by_cases e : y = q
    · subst e; rw [if_pos rfl]; exact Maps.atKey_put_same h1.isMap (K.key hkey) _ _
    · rw [if_neg e, Maps.atKey_put_other (by intro h; injection h with _ h; exact e h)]; exact h2 y
  · by_cases e : kl = .int .u64 q
    · subst e; exact ⟨q, hq, rfl, by simp⟩
    · rw [Maps.has_put_other e] at hkl
      obtain ⟨y, h4, rfl, h5⟩ := h3 kl hkl
      exact ⟨y, h4, rfl, by show (if y = q then some g else pg y) ≠ none; rw [if_neg (by intro h; exact e (by rw [h]))]; exact h5⟩
theorem PgMap.drop (h : PgMap P k w mb pg) (T : PgT P t k e) {q : Int} (hq : In64 q) (ty : TypeId) :
    ∃ w', (Builtin.delete_ #[t, k] ty #[.map (some mb), .int .u64 q]).run P w = .ok (.tuple #[]) w' ∧ PgMap P k w' mb (fun y => if y = q then none else pg y) ∧ w.mapTurned w' mb := by
  obtain ⟨n, D, h1, h2, h3⟩ := h
  have hkey := keyOf_int_mk T.hk (wf_u64 hq)
  obtain ⟨w', hr, ho, hg⟩ := h1.drop (int_keyed T.hk) T.ht hkey ty
  refine ⟨w', hr, ⟨_, _, ho, fun y => ?_, fun kl hkl => ?_⟩, hg⟩
  · show _ = encP (if y = q then none else pg y)
    by_cases e : y = q
    · subst e; rw [if_pos rfl]; exact Maps.atKey_del_same _
    · rw [if_neg e, Maps.atKey_del_other (by intro h; injection h with _ h; exact e h)]; exact h2 y
  · by_cases e : kl = .int .u64 q
    · subst e; rw [Maps.has_del_same] at hkl; cases hkl
    · rw [Maps.has_del_other e] at hkl
      obtain ⟨y, h4, rfl, h5⟩ := h3 kl hkl
      exact ⟨y, h4, rfl, by show (if y = q then none else pg y) ≠ none; rw [if_neg (by intro h; exact e (by rw [h]))]; exact h5⟩

theorem mapTurned_only {S : Nat → Prop} (h : w.mapTurned w' mb) (hs : S mb) : Only S w w' := by
  have g := h.grown
  exact ⟨g.os, g.tape, g.output, g.size, fun i hi hn => g.block i hi (by intro e; cases e; exact hn hs)⟩
theorem mapTurned_size (h : w.mapTurned w' mb) : w'.heap.size = w.heap.size := by
  obtain ⟨es, clock, es', clock', hb, rfl⟩ := h
  show (Array.setIfInBounds _ _ _).size = _
  simp
end

end Go.Proofs.YtbcnkhfpogglmaaGreatDoor.M3

namespace Go.Proofs.YtbcnkhfpogglmaaGreatDoor.M3
open Go.RowKit Go.Maps
set_option linter.unusedVariables false
set_option maxRecDepth 100000

theorem pgT : PgT Tryz.prog 122 26 123 := ⟨Tryz.underlying26, Tryz.underlying122, fun w => Tryz.zeroValue123 w⟩

/-- Block g holds the 4096 bytes of m from 4096 q on. -/
def PageAt (w : World) (g : Nat) (m : Int → Int) (q : Int) : Prop := w.heap[g]? = some (.cells (uarr 4096 fun i => m (q * 4096 + i)) 138 (0, 0))

/-- What the map and the pages hold. -/
structure PgOk (w : World) (b mb : Nat) (S : Nat → Prop) (m : Int → Int) (pg : Int → Option Nat) : Prop where
  map : PgMap Tryz.prog 26 w mb pg
  page : ∀ q g, pg q = some g → PageAt w g m q ∧ S g ∧ g ≠ b ∧ g ≠ mb ∧ ∃ i : Nat, i < 4096 ∧ ¬ m (q * 4096 + i) = 0
  gone : ∀ q, pg q = none → ∀ i : Nat, i < 4096 → m (q * 4096 + i) = 0
  inj : ∀ q q' g, pg q = some g → pg q' = some g → q = q'
  sb : S b
  smb : S mb
  ne : mb ≠ b
  lt : ∀ i, S i → i < w.heap.size

/-- The object in block b, whose own blocks are those of S, is the memory m. -/
def ProgMem (w : World) (b : Nat) (S : Nat → Prop) (base size : Int) (m : Int → Int) : Prop :=
  ∃ mb pg, w.heap[b]? = some (.cells #[.int .u64 base, .int .u64 size, .map (some mb)] 125 (0, 0)) ∧ PgOk w b mb S m pg ∧ Bytey m ∧ (∀ y, ¬ m y = 0 → base ≤ y ∧ y < base + size) ∧ base % 4096 = 0 ∧ size % 4096 = 0

theorem ProgMem.keeps {w w' : World} {b : Nat} {S : Nat → Prop} {base size : Int} {m : Int → Int} {T : Nat → Prop} (h : ProgMem w b S base size m) (o : Only T w w') (hs : ∀ i, S i → ¬ T i) : ProgMem w' b S base size m := by
  obtain ⟨mb, pg, h1, h2, h3⟩ := h
  refine ⟨mb, pg, o.keeps (hs _ h2.sb) h1, ⟨h2.map.keeps o (hs _ h2.smb), fun q g e => ?_, h2.gone, h2.inj, h2.sb, h2.smb, h2.ne, fun i hi => Nat.lt_of_lt_of_le (h2.lt i hi) o.size⟩, h3⟩
  obtain ⟨k1, k2, k3⟩ := h2.page q g e
  exact ⟨o.keeps (hs _ k2) k1, k2, k3⟩

theorem pages_in {w : World} {b mb : Nat} {S : Nat → Prop} {m : Int → Int} {pg : Int → Option Nat} {base size : Int} (h : PgOk w b mb S m pg) (hf : Fits base size) (hm : ∀ y, ¬ m y = 0 → base ≤ y ∧ y < base + size) (h1 : base % 4096 = 0) (h2 : size % 4096 = 0) :
    ∀ q, pg q ≠ none → base / 4096 ≤ q ∧ q < base / 4096 + (16384 : Nat) := by
  intro q hq
  cases e : pg q with
  | none => exact absurd e hq
  | some g =>
    obtain ⟨_, _, _, _, i, hi, hne⟩ := h.page q g e
    have := hm _ hne
    unfold Fits at hf
    omega

theorem isWhole_any (n : Int) (hn : In64 n) (w : World) :
    Calls Tryz.prog 75 #[.int .u64 n] w fun e w' => e = .returned (.bool (n % 4096 == 0)) ∧ w = w' := by
  have h1 := hn.1
  have h2 := hn.2
  go_enter Tryz.func75, Tryz.ntmps75
  go_wp2
  go_ret
  exact ⟨rfl, rfl⟩

theorem isLength_any (n : Int) (w : World) :
    Calls Tryz.prog 68 #[.int .i64 n] w fun e w' => e = .returned (.bool (okN n)) ∧ w = w' := by
  by_cases h1 : n = 1
  · subst h1
    go_enter Tryz.func68, Tryz.ntmps68
    go_wp2
    go_ret
    exact ⟨rfl, rfl⟩
  by_cases h2 : n = 2
  · subst h2
    go_enter Tryz.func68, Tryz.ntmps68
    go_wp2
    go_ret
    exact ⟨rfl, rfl⟩
  by_cases h3 : n = 4
  · subst h3
    go_enter Tryz.func68, Tryz.ntmps68
    go_wp2
    go_ret
    exact ⟨rfl, rfl⟩
  by_cases h4 : n = 8
  · subst h4
    go_enter Tryz.func68, Tryz.ntmps68
    go_wp2
    go_ret
    exact ⟨rfl, rfl⟩
  have e : okN n = false := by unfold okN; rw [decide_eq_false]; omega
  rw [e]
  have e1 : (n == 1) = false := by simpa using h1
  have e2 : (n == 2) = false := by simpa using h2
  have e3 : (n == 4) = false := by simpa using h3
  have e4 : (n == 8) = false := by simpa using h4
  clear h1 h2 h3 h4 e
  go_enter Tryz.func68, Tryz.ntmps68
  go_wp2
  go_ret
  exact ⟨rfl, rfl⟩

theorem place_any (x : Int) (hx : In64 x) (w : World) :
    Calls Tryz.prog 115 #[.int .u64 x] w fun e w' => e = .returned (.tuple #[.int .u64 (x / 4096), .int .i64 (x % 4096)]) ∧ w = w' := by
  have h1 := hx.1
  have h2 := hx.2
  go_enter Tryz.func115, Tryz.ntmps115
  go_wp2
  go_ret2
  exact ⟨rfl, rfl⟩

end Go.Proofs.YtbcnkhfpogglmaaGreatDoor.M3

namespace Go.Proofs.YtbcnkhfpogglmaaGreatDoor.M3
open Go.RowKit Go.Maps
set_option linter.unusedVariables false
set_option maxRecDepth 100000

/-- The struct's three cells. -/
theorem ram_cells {w : World} {b mb : Nat} {base size : Int} (h : w.heap[b]? = some (.cells #[.int .u64 base, .int .u64 size, .map (some mb)] 125 (0, 0))) :
    w.cell? ⟨b, 0, none⟩ = some (.int .u64 base) ∧ w.cell? ⟨b, 1, none⟩ = some (.int .u64 size) ∧ w.cell? ⟨b, 2, none⟩ = some (.map (some mb)) := by
  refine ⟨?_, ?_, ?_⟩
  · rw [cell_of_row w b 0 _ _ _ h]; rfl
  · rw [cell_of_row w b 1 _ _ _ h]; rfl
  · rw [cell_of_row w b 2 _ _ _ h]; rfl

theorem progBase_any {w : World} {b : Nat} {S : Nat → Prop} {base size : Int} {m : Int → Int} (h : ProgMem w b S base size m) :
    Calls Tryz.prog 76 #[.pointer (some ⟨b, 0, none⟩)] w fun e w' => e = .returned (.int .u64 base) ∧ w = w' := by
  obtain ⟨mb, pg, hb, _⟩ := h
  obtain ⟨c0, c1, c2⟩ := ram_cells hb
  clear hb
  go_enter Tryz.func76, Tryz.ntmps76
  go_wp2
  go_ret
  exact ⟨rfl, rfl⟩

theorem progSize_any {w : World} {b : Nat} {S : Nat → Prop} {base size : Int} {m : Int → Int} (h : ProgMem w b S base size m) :
    Calls Tryz.prog 77 #[.pointer (some ⟨b, 0, none⟩)] w fun e w' => e = .returned (.int .u64 size) ∧ w = w' := by
  obtain ⟨mb, pg, hb, _⟩ := h
  obtain ⟨c0, c1, c2⟩ := ram_cells hb
  clear hb
  go_enter Tryz.func77, Tryz.ntmps77
  go_wp2
  go_ret
  exact ⟨rfl, rfl⟩

theorem progHas_nil (x n : Int) (w : World) :
    Calls Tryz.prog 36 #[.pointer none, .int .u64 x, .int .i64 n] w fun e w' => e = .returned (.bool false) ∧ w = w' := by
  go_enter Tryz.func36, Tryz.ntmps36
  go_wp2
  go_ret
  exact ⟨rfl, rfl⟩

set_option maxHeartbeats 1000000 in
theorem progHas_any {w : World} {b : Nat} {S : Nat → Prop} {base size : Int} {m : Int → Int} (x n : Int) (h : ProgMem w b S base size m) (hf : Fits base size) (hx : In64 x) (hn : In63 n) :
    Calls Tryz.prog 36 #[.pointer (some ⟨b, 0, none⟩), .int .u64 x, .int .i64 n] w fun e w' => e = .returned (.bool (hasZ base size x n)) ∧ w = w' := by
  obtain ⟨mb, pg, hb, _⟩ := h
  obtain ⟨c0, c1, c2⟩ := ram_cells hb
  clear hb
  obtain ⟨f1, f2, f3, f4⟩ := hf
  have x1 := hx.1
  have x2 := hx.2
  have n1 := hn.1
  have n2 := hn.2
  by_cases a : n < 0
  · rw [show hasZ base size x n = false by unfold hasZ; rw [decide_eq_false]; omega]
    go_enter Tryz.func36, Tryz.ntmps36
    go_wp2
    go_ret
    exact ⟨rfl, rfl⟩
  by_cases z : n = 0
  · subst z
    rw [show hasZ base size x 0 = true by unfold hasZ; rw [decide_eq_true]; omega]
    go_enter Tryz.func36, Tryz.ntmps36
    go_wp2
    go_ret
    exact ⟨rfl, rfl⟩
  have zz : (n == 0) = false := by simpa using z
  have zp : 0 < n := by omega
  clear z
  by_cases c : base ≤ x
  · have d1 : 0 ≤ x - base := by omega
    have d2 : x - base ≤ 18446744073709551615 := by omega
    by_cases e : x - base < size
    · have d3 : 0 ≤ size - (x - base) := by omega
      have d4 : size - (x - base) ≤ 18446744073709551615 := by omega
      by_cases k : n ≤ size - (x - base)
      · rw [show hasZ base size x n = true by unfold hasZ; rw [decide_eq_true]; omega]
        go_enter Tryz.func36, Tryz.ntmps36
        go_wp2
        go_ret
        exact ⟨rfl, rfl⟩
      · rw [show hasZ base size x n = false by unfold hasZ; rw [decide_eq_false]; omega]
        go_enter Tryz.func36, Tryz.ntmps36
        go_wp2
        go_ret
        exact ⟨rfl, rfl⟩
    · rw [show hasZ base size x n = false by unfold hasZ; rw [decide_eq_false]; omega]
      go_enter Tryz.func36, Tryz.ntmps36
      go_wp2
      go_ret
      exact ⟨rfl, rfl⟩
  · rw [show hasZ base size x n = false by unfold hasZ; rw [decide_eq_false]; omega]
    go_enter Tryz.func36, Tryz.ntmps36
    go_wp2
    go_ret
    exact ⟨rfl, rfl⟩

end Go.Proofs.YtbcnkhfpogglmaaGreatDoor.M3

namespace Go.Proofs.YtbcnkhfpogglmaaGreatDoor.M3
open Go.RowKit
set_option linter.unusedVariables false
set_option maxRecDepth 100000

theorem bit_V {x : Nat} (h : x < 2 ^ 64) (i : Nat) : (V (x : Int)).getLsbD i = x.testBit i := by
  have e : (V (x : Int)).toNat = x := by
    have := toNat_V (x := (x : Int)) (by unfold In64; omega)
    omega
  rw [BitVec.getLsbD, e]

/-- Byte k of a word. -/
theorem field_byte {v : Int} (hv : In64 v) {k : Nat} (hk : k < 8) : U (fieldB (V v) (8 * k) 8) = v / 256 ^ k % 256 := by
  obtain ⟨n, rfl⟩ : ∃ n : Nat, v = n := ⟨v.toNat, by have := hv.1; omega⟩
  have hn : n < 2 ^ 64 := by have := hv.2; omega
  have e : fieldB (V n) (8 * k) 8 = V ((n / 2 ^ (8 * k) % 2 ^ 8 : Nat) : Int) := ext64 fun i hi => by
    rw [field_bit (V n) 8 (by omega), bit_V hn, bit_V (by have := Nat.mod_lt (n / 2 ^ (8 * k)) (show 0 < 2 ^ 8 by omega); omega), Nat.testBit_mod_two_pow, Nat.testBit_div_two_pow, decide_eq_true hi, Bool.true_and]
    have e1 : (8 * (k : Int)).toNat = 8 * k := by omega
    rw [e1, Nat.add_comm]
    congr 1
    rw [decide_eq_decide]; omega
  rw [e, U_V (by have := Nat.mod_lt (n / 2 ^ (8 * k)) (show 0 < 2 ^ 8 by omega); unfold In64; omega)]
  have e2 : (2 : Nat) ^ (8 * k) = 256 ^ k := by rw [Nat.pow_mul]
  rw [e2, Int.natCast_emod, Int.natCast_ediv, Int.natCast_pow]
  rfl

/-- A byte put above a number. -/
theorem put_byte {v y : Int} {k : Nat} (hk : k < 8) (h0 : 0 ≤ v) (h1 : v < 256 ^ k) (y0 : 0 ≤ y) (y1 : y ≤ 255) : U (putB (V v) (8 * k) 8 (V y)) = v + 256 ^ k * y := by
  obtain ⟨n, rfl⟩ : ∃ n : Nat, v = n := ⟨v.toNat, by omega⟩
  obtain ⟨z, rfl⟩ : ∃ z : Nat, y = z := ⟨y.toNat, by omega⟩
  have hp : (256 : Nat) ^ k = 2 ^ (8 * k) := by rw [Nat.pow_mul]
  have hn : n < 2 ^ (8 * k) := by
    rw [← hp]
    have h2 : ((n : Nat) : Int) < ((256 ^ k : Nat) : Int) := by rw [Int.natCast_pow]; exact h1
    exact Int.ofNat_lt.1 h2
  have hz : z < 2 ^ 8 := by omega
  have hle : (2 : Nat) ^ (8 * k) * 2 ^ 8 ≤ 2 ^ 64 := by rw [← Nat.pow_add]; exact Nat.pow_le_pow_right (by omega) (by omega)
  have hs : z * 2 ^ (8 * k) + n < 2 ^ 64 := by
    have : (z + 1) * 2 ^ (8 * k) ≤ 2 ^ 8 * 2 ^ (8 * k) := Nat.mul_le_mul_right _ (by omega)
    rw [Nat.mul_comm (2 ^ 8)] at this
    rw [Nat.add_mul] at this
    omega
  have hn64 : n < 2 ^ 64 := by
    have : 2 ^ (8 * k) ≤ 2 ^ (8 * k) * 2 ^ 8 := Nat.le_mul_of_pos_right _ (by omega)
    omega
  have e : putB (V n) (8 * k) 8 (V z) = V ((z * 2 ^ (8 * k) + n : Nat) : Int) := ext64 fun i hi => by
    rw [put_bit (V n) 8 (V z) (by omega), bit_V hs, bit_V hn64, bit_V (by omega), decide_eq_true hi, Bool.true_and]
    have e1 : (8 * (k : Int)).toNat = 8 * k := by omega
    rw [e1, ← Nat.shiftLeft_eq, Nat.shiftLeft_add_eq_or_of_lt hn, Nat.testBit_or, Nat.testBit_shiftLeft]
    by_cases a : 8 * k ≤ i
    · have b : n.testBit i = false := Nat.testBit_lt_two_pow (Nat.lt_of_lt_of_le hn (Nat.pow_le_pow_right (by omega) a))
      by_cases c : (i : Int) - 8 * k < 8
      · rw [if_pos ⟨a, c⟩, b, decide_eq_true a]; simp
      · rw [if_neg (fun h => c h.2), b]
        have : z.testBit (i - 8 * k) = false := Nat.testBit_lt_two_pow (Nat.lt_of_lt_of_le hz (Nat.pow_le_pow_right (by omega) (by omega)))
        rw [this]; simp
    · rw [if_neg (fun h => a h.1), decide_eq_false a]; simp
  rw [e, U_V (by unfold In64; omega), ← hp]
  rw [Int.natCast_add, Int.natCast_mul, Int.natCast_pow, Int.mul_comm, Int.add_comm]
  rfl

theorem rdN_snoc (m : Int → Int) (x : Int) (k : Nat) : rdN m x (k + 1) = rdN m x k + 256 ^ k * m (x + k) := by
  induction k generalizing x with
  | zero => simp [rdN]
  | succ k ih =>
    show m x + 256 * rdN m (x + 1) (k + 1) = (m x + 256 * rdN m (x + 1) k) + 256 ^ (k + 1) * m (x + ((k + 1 : Nat) : Int))
    rw [ih (x + 1), show x + 1 + (k : Int) = x + ((k + 1 : Nat) : Int) by omega, Int.mul_add, Int.pow_succ, Int.mul_comm (256 ^ k) 256, Int.mul_assoc, Int.add_assoc]
/-- Bytes that are 0 behind the first ones add nothing. -/
theorem rdN_zeros {m : Int → Int} {x : Int} {c d : Nat} (h : ∀ i : Nat, c ≤ i → i < c + d → m (x + i) = 0) : rdN m x (c + d) = rdN m x c := by
  induction d with
  | zero => rfl
  | succ d ih => rw [← Nat.add_assoc, rdN_snoc, ih fun i h1 h2 => h i h1 (by omega), h (c + d) (by omega) (by omega), Int.mul_zero, Int.add_zero]

end Go.Proofs.YtbcnkhfpogglmaaGreatDoor.M3

namespace Go.Proofs.YtbcnkhfpogglmaaGreatDoor.M3
open Go.RowKit Go.Maps
set_option linter.unusedVariables false
set_option maxRecDepth 100000

/-- Block g of the world holds these bytes, and may be written. -/
def HoldsU (w : World) (g : Nat) (t : TypeId) (n : Nat) (f : Nat → Int) : Prop := w.heap[g]? = some (.cells (uarr n f) t (0, 0))
theorem HoldsU.cell {w : World} {g : Nat} {t : TypeId} {n : Nat} {f : Nat → Int} (h : HoldsU w g t n f) {j : Nat} (hj : j < n) : w.cell? ⟨g, j, none⟩ = some (.int .u8 (f j)) := by
  rw [cell_of_row w g j _ t _ h]; exact uarr_get n _ j hj
theorem HoldsU.frozen {w : World} {g : Nat} {t : TypeId} {n : Nat} {f : Nat → Int} (h : HoldsU w g t n f) (j : Nat) : w.frozen? ⟨g, j, none⟩ = false := frozen_of_row w g j _ t h
theorem uarr_set (n : Nat) (f : Nat → Int) (k : Nat) (v : Int) : (uarr n f).setIfInBounds k (.int .u8 v) = uarr n fun j => if j = k then v else f j := by
  unfold uarr; rw [varr_set]
  exact varr_congr fun i _ => by by_cases e : i = k <;> simp [e]
theorem HoldsU.set {w : World} {g : Nat} {t : TypeId} {n : Nat} {f : Nat → Int} (h : HoldsU w g t n f) (k : Nat) (v : Int) : HoldsU (w.setCell ⟨g, k, none⟩ (.int .u8 v)) g t n fun j => if j = k then v else f j := by
  unfold HoldsU; rw [heap_setCell_same w g k _ t _ h, uarr_set]
theorem HoldsU.other {w : World} {g : Nat} {t : TypeId} {n : Nat} {f : Nat → Int} (h : HoldsU w g t n f) {a : Addr} (ha : g ≠ a.block) (v : Value) : HoldsU (w.setCell a v) g t n f := by
  unfold HoldsU; rw [heap_setCell_other w a g v ha]; exact h
theorem HoldsU.congr {w : World} {g : Nat} {t : TypeId} {n : Nat} {f k : Nat → Int} (h : HoldsU w g t n f) (e : ∀ i, i < n → f i = k i) : HoldsU w g t n k := by
  unfold HoldsU at *; rw [h, uarr_congr e]
theorem HoldsU.lt {w : World} {g : Nat} {t : TypeId} {n : Nat} {f : Nat → Int} (h : HoldsU w g t n f) : g < w.heap.size := (Array.getElem?_eq_some_iff.1 h).1
theorem HoldsU.setRow {w : World} {g : Nat} {t : TypeId} {n : Nat} {f : Nat → Int} (h : HoldsU w g t n f) (k : Nat → Int) : HoldsU (w.setRow g (uarr n k)) g t n k := setRow_heap w g _ _ t _ h
theorem HoldsU.keeps {S : Nat → Prop} {w w' : World} {g : Nat} {t : TypeId} {n : Nat} {f : Nat → Int} (h : HoldsU w g t n f) (o : Only S w w') (hs : ¬ S g) : HoldsU w' g t n f := o.keeps hs h

theorem below_drewN {B : Nat} {a w : World} (h : Below B a w) (n : Nat) : Below B a (w.drewN n) := ⟨h.os, h.tape, h.output, h.size, h.block⟩
theorem HoldsU.drewN {w : World} {g : Nat} {t : TypeId} {n : Nat} {f : Nat → Int} (h : HoldsU w g t n f) (k : Nat) : HoldsU (w.drewN k) g t n f := h

theorem zero8 : (#[.int .u8 0, .int .u8 0, .int .u8 0, .int .u8 0, .int .u8 0, .int .u8 0, .int .u8 0, .int .u8 0] : Array Value) = uarr 8 fun _ => 0 := rfl
theorem size8 : (Tryz.prog.info? 114).map (·.size) = some 8 := by kernel_rfl
theorem sizeU8 (w : World) : (sizeOf 5).run Tryz.prog w = .ok 1 w := Tryz.sizeOf5 w

theorem index_uarr8 (f : Nat → Int) (k : Nat) (hk : k < 8) (w : World) : (Instr.index 114 (.agg (uarr 8 f)) (.int .i64 k)).run Tryz.prog w = .ok (.int .u8 (f k)) w := by
  have hg : (uarr 8 f)[k]? = some (.int .u8 (f k)) := uarr_get 8 _ k hk
  have h1 : (0 : Int) ≤ k ∧ (k : Int) < ((8 : Nat) : Int) := by omega
  simp only [Instr.index, Sem.run_bind, asIntOf, Sem.run_pure, Result.andThen_ok, run_underlying Tryz.underlying114 w]
  rw [if_pos h1]
  simp [Sem.run_bind, sizeU8 w, part, hg]

set_option maxHeartbeats 1000000 in
set_option maxRecDepth 100000 in
theorem number_any (m : Int → Int) (x : Int) (hm : Bytey m) (w : World) :
    Calls Tryz.prog 70 #[.agg (uarr 8 fun i => m (x + i))] w fun e w' => e = .returned (.int .u64 (rdN m x 8)) ∧ Below w.heap.size w w' := by
  have h1 : HoldsU (w.alloc (.cells (uarr 8 fun i => m (x + i)) 114)) w.heap.size 114 8 (fun i => m (x + i)) := heap_alloc_new w _
  have HM := Lib.hid hm
  have HB : Hid (Below w.heap.size w (w.alloc (.cells (uarr 8 fun i => m (x + i)) 114))) := Lib.hid ((Below.refl _ _).alloc (Nat.le_refl _) _)
  have H1 := Lib.hid h1
  clear hm h1
  go_enter Tryz.func70, Tryz.ntmps70
  go_wp2_with (refine wpList_load_row rfl _ _ rfl w.heap.size rfl 114 _ _ _ H1.out Tryz.underlying114 rfl ?_ ?_; · exact size8.trans (by rw [uarr_size]))
  generalize (w.alloc (.cells (uarr 8 fun i => m (x + i)) 114)) = w1 at *
  go_loop [3, 7] (fun v i => ∃ k : Nat, k ≤ 8 ∧ i = .int .i64 k ∧ v = .int .u64 (rdN m x k)) (fun _ i => 8 - (intOf i).toNat)
  case atStart => exact ⟨0, Nat.zero_le _, rfl, rfl⟩
  case round =>
    obtain ⟨k, hk, rfl, rfl⟩ := hrel
    by_cases hlt : k < 8
    · have HI := index_uarr8 (fun i => m (x + i)) k hlt w1
      have y0 := (HM.out (x + k)).1
      have y1 := (HM.out (x + k)).2
      have r := rdN_in HM.out x k
      have HP := Lib.hid (put_byte hlt r.1 r.2 y0 y1)
      have HS := Lib.hid (rdN_snoc m x k)
      have HV := (rdN_8 HM.out x (c := k) (by omega))
      have HV2 : Hid (In64 (rdN m x k)) := Lib.hid (by unfold In64; omega)
      clear r HV
      go_wp2_with (go_at_call 116; refine (put_any _ _ _ _ HV2.out _).mono ?_; rintro e w2 ⟨rfl, rfl⟩)
      go_round
      case rel => exact ⟨k + 1, by omega, by go_num, by rw [HS.out, ← HP.out]⟩
      case measure => simp [intOf]; omega
    · obtain rfl : k = 8 := by omega
      go_wp2
      go_ret
      exact ⟨rfl, HB.out⟩

/-- The eight bytes of a word. -/
def leB (v : Int) (i : Nat) : Int := v / 256 ^ i % 256
theorem leB_in (v : Int) (i : Nat) : 0 ≤ leB v i ∧ leB v i ≤ 255 := by unfold leB; omega

set_option maxHeartbeats 1000000 in
set_option maxRecDepth 100000 in
theorem littleEnd_any (v : Int) (hv : In64 v) (w : World) :
    Calls Tryz.prog 71 #[.int .u64 v] w fun e w' => e = .returned (.agg (uarr 8 (leB v))) ∧ Below w.heap.size w w' := by
  have HV := Lib.hid hv
  clear hv
  go_enter Tryz.func71, Tryz.ntmps71
  go_wp2
  simp only [zero8]
  go_loopw [5] (fun i wr => ∃ k : Nat, k ≤ 8 ∧ i = .int .i64 k ∧ HoldsU wr w.heap.size 114 8 (fun _ => 0) ∧ HoldsU wr (w.heap.size + 1) 114 8 (fun j => if j < k then leB v j else 0) ∧ Below w.heap.size w wr)
    (fun i _ => 8 - (intOf i).toNat)
  case atStart =>
    refine ⟨0, Nat.zero_le _, rfl, heap_alloc2_old w _ _, (heap_alloc2_new w _ _).trans ?_, ((Below.refl _ _).alloc (Nat.le_refl _) _).alloc (by simp) _⟩
    simp
  case round =>
    obtain ⟨k, hk, rfl, h1, h2, hb⟩ := hrel
    by_cases hlt : k < 8
    · have hc := h2.cell hlt
      have hf := h2.frozen k
      have HL := Lib.hid (field_byte HV.out hlt)
      have l0 := (leB_in v k).1
      have l1 := (leB_in v k).2
      have HW : Hid (IntKind.u8.wrap (leB v k) = leB v k) := Lib.hid (by rw [IntKind.wrap_u8]; omega)
      have H1 := Lib.hid h1
      have H2 := Lib.hid h2
      have HB := Lib.hid hb
      clear h1 h2 hb
      go_wp2_with (go_at_call 117; refine (field_any _ _ _ HV.out _).mono ?_; rintro e w2 ⟨rfl, n, rfl⟩; rw [HL.out])
      refine ⟨⟨k + 1, by omega, by go_num, (H1.out.drewN n).other (by simp) _, ((H2.out.drewN n).set k _).congr fun i hi => ?_, (below_drewN HB.out n).setCell (by simp) _⟩, by simp [intOf]; omega⟩
      by_cases e : i = k
      · subst e; rw [if_pos rfl, if_pos (by omega)]; rfl
      · simp only [e, if_false]
        by_cases c : i < k
        · rw [if_pos c, if_pos (by omega)]
        · rw [if_neg c, if_neg (by omega)]
    · obtain rfl : k = 8 := by omega
      have h3 : HoldsU wr (w.heap.size + 1) 114 8 (leB v) := h2.congr fun i hi => by rw [if_pos hi]
      have HB := Lib.hid hb
      have H1 := Lib.hid h1
      have H3 := Lib.hid h3
      clear h2 h1 hb h3
      go_wp2_with (first
        | (refine wpList_load_row rfl _ _ rfl (w.heap.size + 1) rfl 114 _ _ _ H3.out Tryz.underlying114 rfl ?_ ?_; · exact size8.trans (by rw [uarr_size]))
        | (refine wpList_store_row rfl _ _ _ rfl w.heap.size _ rfl rfl 114 _ H1.out ?_ (by rw [uarr_size, uarr_size]) (uarr_one _ _) ?_; · exact size8.trans (by rw [uarr_size])))
      refine bodyPost_ret (v := .agg (uarr 8 (leB v))) (results_cell_row (show Tryz.f71.results = #[.cell 2 114] by kernel_rfl) _ _ w.heap.size 114 _ _ _ rfl (H1.out.setRow _) Tryz.underlying114 rfl (size8.trans (by rw [uarr_size]))) rfl ⟨rfl, below_setRow HB.out (Nat.le_refl _) _⟩

/-- All of them are 0. -/
def noughts (xs : List Int) : Bool := xs.all fun x => x == 0
theorem noughts_iff {xs : List Int} : noughts xs = true ↔ ∀ i, i < xs.length → xs.getD i 0 = 0 := by
  unfold noughts
  rw [List.all_eq_true]
  constructor
  · intro h i hi
    have := h xs[i] (List.getElem_mem hi)
    simpa [List.getD, hi] using this
  · intro h x hx
    obtain ⟨i, hi, rfl⟩ := List.getElem_of_mem hx
    have := h i hi
    simpa [List.getD, hi] using this
theorem countZero (xs : List Int) (h : Bytes255 xs) : (((Lib.countByte (Lib.bytesOf xs) (0 : Int).toNat.toUInt8 : Nat) : Int) == (xs.length : Int)) = noughts xs := by
  rw [Bool.eq_iff_iff, noughts_iff, beq_iff_eq]
  unfold Lib.countByte Lib.bytesOf
  have e : (xs.map fun n => UInt8.ofNat n.toNat).length = xs.length := by simp
  rw [← e, Int.natCast_inj, List.count_eq_length]
  constructor
  · intro hh i hi0
    have hi : i < xs.length := by simpa using hi0
    have h1 := h i hi
    have h2 := hh (UInt8.ofNat xs[i].toNat) (List.mem_map.2 ⟨xs[i], List.getElem_mem hi, rfl⟩)
    have e2 : xs.getD i 0 = xs[i] := by simp [List.getD, hi]
    rw [e2] at h1 ⊢
    have h3 := congrArg UInt8.toNat h2
    simp at h3
    omega
  · intro hh b hb
    obtain ⟨x, hx, rfl⟩ := List.mem_map.1 hb
    obtain ⟨i, hi, rfl⟩ := List.getElem_of_mem hx
    have := hh i (by simpa using hi)
    have e2 : xs.getD i 0 = xs[i] := by simp [List.getD, hi]
    rw [e2] at this
    rw [this]
    try rfl

set_option maxHeartbeats 2000000 in
set_option maxRecDepth 1000000 in
theorem count_any (xs : List Int) (a : Addr) (c b2 : Nat) (d : Nat) (w : World) (hc : ∀ i, i < xs.length → w.cell? (a.add i) = some (.int .u8 (xs.getD i 0))) (hc2 : w.cell? ⟨b2, 0, none⟩ = some (.int .u8 0)) :
    Calls Tryz.prog 158 #[.slice (some a) xs.length c, .slice (some ⟨b2, 0, none⟩) 1 d] w fun e w' => e = .returned (.int .i64 (Lib.countByte (Lib.bytesOf xs) (0 : Int).toNat.toUInt8)) ∧ w = w' := by
  go_enter Tryz.func158, Tryz.ntmps158
  go_wp2
  rw [run_callFunc_extern Tryz.func172 (by kernel_rfl) (by kernel_rfl) (by kernel_rfl) (e := Extern.BytealgCount.count) (by kernel_rfl), Lib.run_countAt w a xs.length c xs rfl hc 0]
  simp only [Result.andThen]
  rw [Oper.upon_value]
  go_wp2
  go_ret
  exact ⟨rfl, rfl⟩

theorem isNought_any (g : Nat) (v : Value) (xs : List Int) (w : World) (h : ReadsIn .u8 g w v xs) (hb : Bytes255 xs) (h0 : xs ≠ []) :
    Calls Tryz.prog 140 #[v] w fun e w' => e = .returned (.bool (noughts xs)) ∧ Below w.heap.size w w' := by
  obtain ⟨a, c, rfl, hl, h⟩ := h
  obtain ⟨off, rfl, hg, hc⟩ := h.resolve_left h0
  have hc1 : ∀ i, i < xs.length → (w.alloc (.cells #[.int .u8 0] 5)).cell? ((⟨g, off, none⟩ : Addr).add i) = some (.int .u8 (xs.getD i 0)) := fun i hi => by
    rw [add_none]
    exact (((Below.refl w.heap.size w).alloc (Nat.le_refl _) (.cells #[.int .u8 0] 5)).cell (p := ⟨g, off + i, none⟩) hg).trans (hc i hi)
  have HC := Lib.hid hc1
  have HZ := Lib.hid (countZero xs hb)
  have HL := Lib.hid hl
  clear hc hc1 hl h0 hb h
  go_enter Tryz.func140, Tryz.ntmps140
  go_wp2_with (go_at_call 158; refine (count_any xs _ c _ _ _ HC.out ?_).mono ?_; · simp [go_sem])
  rintro e w' ⟨rfl, rfl⟩
  go_wp2
  go_ret
  exact ⟨ret_bool HZ.out, (Below.refl _ _).alloc (Nat.le_refl _) _⟩

end Go.Proofs.YtbcnkhfpogglmaaGreatDoor.M3

namespace Go.Proofs.YtbcnkhfpogglmaaGreatDoor.M3
open Go.RowKit
set_option linter.unusedVariables false
set_option maxRecDepth 100000

section
variable {P : Program} {ops : Array Oper} {rest : List Oper} {o : Oper} {a : Act} {w : World} {Q : Exit → Act → World → Prop}

theorem wpList_want (hw : Region.wanted o (yielded ops a.tmps) = true) (h : o.wp P a w (wpList P ops Q rest) Q) : wpList P ops Q (o :: rest) a w := by
  simp only [wpList, hw, if_true]
  exact .inl h

theorem wpList_load_u (hw : Region.wanted o (yielded ops a.tmps) = true) (ty : TypeId) (x : Operand) (ho : o.op = .load ty x)
    (g : Nat) (hx : a.eval x = .pointer (some ⟨g, 0, none⟩)) (t : TypeId) (n : Nat) (f : Nat → Int) (e : TypeId) (hg : w.heap[g]? = some (.cells (uarr n f) t (0, 0)))
    (hu : P.underlying ty = some (.array n e)) (hi : (P.info? ty).map (·.size) = some n)
    (h : wpList P ops Q rest (a.put o.dst (.agg (uarr n f))) w) : wpList P ops Q (o :: rest) a w :=
  wpList_want hw (wp_load_row ty x ho g hx t _ _ _ hg hu rfl (by rw [uarr_size]; exact hi) h)

theorem wpList_build_u (hw : Region.wanted o (yielded ops a.tmps) = true) (t : TypeId) (ho : o.op = .build t #[]) (n : Nat) (f : Nat → Int) (hb : P.built t [] = some (uarr n f))
    (h : wpList P ops Q rest (a.put o.dst (.agg (uarr n f))) w) : wpList P ops Q (o :: rest) a w :=
  wpList_want hw (wp_build t #[] ho (by simp [hb]) (by simpa [hb] using h))

theorem wpList_eql_u (hw : Region.wanted o (yielded ops a.tmps) = true) (t ty : TypeId) (x y : Operand) (ho : o.op = .binOp .eql t x y ty) (e : TypeId) (n : Nat) (f g : Nat → Int)
    (hx : a.eval x = .agg (uarr n f)) (hy : a.eval y = .agg (uarr n g)) (ht : P.underlying t = some (.array n e)) (hs : (sizeOf e).run P w = .ok 1 w) (ha : (isAgg e).run P w = .ok false w) (he : P.underlying e = some (.int .u8))
    (hm : P.eqGuardType P.depth t = false)
    (h : wpList P ops Q rest (a.put o.dst (.bool (alike n f g))) w) : wpList P ops Q (o :: rest) a w := by
  refine wpList_want hw ?_
  unfold Oper.wp execOp
  simp only [ho, hx, hy, Sem.run_bind, run_eqGuard_agg w .eql t x y _ _ hm, run_eql_bytes w ht hs ha he f g, Result.andThen_ok, Sem.run_pure]
  exact h

/-- xs laid over f from off on. -/
def overU (f : Nat → Int) (off : Nat) (xs : List Int) (k : Nat) : Int := if off ≤ k ∧ k < off + xs.length then xs.getD (k - off) 0 else f k

theorem uarr_splice (n : Nat) (f : Nat → Int) (off : Nat) (xs : List Int) (h : off + xs.length ≤ n) :
    ((uarr n f).toList.take off ++ (xs.map (Value.int .u8) ++ (uarr n f).toList.drop (off + (xs.map (Value.int .u8)).length))).toArray = uarr n (overU f off xs) := by
  have hl : (uarr n f).toList = (List.range n).map fun i => Value.int .u8 (f i) := by unfold uarr varr; rfl
  have hr : uarr n (overU f off xs) = ((List.range n).map fun i => Value.int .u8 (overU f off xs i)).toArray := rfl
  rw [hl, hr, List.length_map]
  congr 1
  apply List.ext_getElem?
  intro k
  by_cases c : k < off
  · rw [List.getElem?_append_left (by simp; omega), List.getElem?_take, if_pos c]
    unfold overU
    simp only [List.getElem?_map]
    cases hk : (List.range n)[k]? with
    | none => rfl
    | some j =>
      have : j = k := by
        have := List.getElem?_eq_some_iff.1 hk
        obtain ⟨_, h2⟩ := this
        simpa using h2.symm
      subst this
      simp only [Option.map_some]
      rw [if_neg (by omega)]
  · rw [List.getElem?_append_right (by simp; omega)]
    simp only [List.length_take, List.length_map, List.length_range]
    rw [show min off n = off by omega]
    by_cases d : k < off + xs.length
    · rw [List.getElem?_append_left (by simp; omega)]
      have hk : k < n := by omega
      simp only [List.getElem?_map, List.getElem?_range hk, Option.map_some]
      unfold overU
      rw [if_pos ⟨by omega, d⟩]
      have : k - off < xs.length := by omega
      simp [List.getElem?_eq_getElem this, List.getD]
    · rw [List.getElem?_append_right (by simp; omega)]
      simp only [List.length_map, List.getElem?_drop]
      rw [show off + xs.length + (k - off - xs.length) = k by omega]
      simp only [List.getElem?_map]
      cases hk : (List.range n)[k]? with
      | none => rfl
      | some j =>
        have : j = k := by
          obtain ⟨_, h2⟩ := List.getElem?_eq_some_iff.1 hk
          simpa using h2.symm
        subst this
        simp only [Option.map_some]
        unfold overU
        rw [if_neg (by omega)]

theorem wpList_copy_u (hgd : o.guard = none) (d s : Operand) (dT sT : TypeId)
    (ho : o.op = .call { callee := .builtin .copy, args := #[d, s], argTypes := #[dT, sT] }) (elem : TypeId) (hu : P.underlying dT = some (.slice elem)) (hsz : (P.info? elem).map (·.size) = some 1)
    (g off dLen dCap : Nat) (ad : Addr) (sLen sCap : Nat) (hd : a.eval d = .slice (some ⟨g, off, none⟩) dLen dCap) (hs : a.eval s = .slice (some ad) sLen sCap)
    (n : Nat) (f : Nat → Int) (t : TypeId) (hg : w.heap[g]? = some (.cells (uarr n f) t (0, 0))) (xs : List Int) (hn : xs.length = Nat.min sLen dLen)
    (hsrc : ∀ j, j < xs.length → w.cell? (ad.add j) = some (.int .u8 (xs.getD j 0))) (hfit : off + xs.length ≤ n)
    (h : wpList P ops Q rest (a.put o.dst (goInt xs.length)) (w.setRow g (uarr n (overU f off xs)))) : wpList P ops Q (o :: rest) a w := by
  refine wpList_copy_own hgd d s dT sT ho elem hu hsz g off dLen dCap ad sLen sCap hd hs (uarr n f) t hg (xs.map (Value.int .u8)) (by simpa using hn) ?_ (by rw [uarr_size]; simpa using hfit) ?_ ?_
  · intro j v hj
    rw [List.getElem?_map, Option.map_eq_some_iff] at hj
    obtain ⟨x, hx, rfl⟩ := hj
    have hl := (List.getElem?_eq_some_iff.1 hx).1
    rw [hsrc j hl]
    simp [List.getD, hx]
  · intro v hv
    obtain ⟨x, _, rfl⟩ := List.mem_map.1 hv
    rfl
  · rw [uarr_splice n f off xs hfit, List.length_map]
    exact h

/-- 'p[l:]' of a pointer to an array. -/
theorem run_slice_from {t e : TypeId} {n : Nat} (ht : P.underlying t = some (.array n e)) (hs : (sizeOf e).run P w = .ok 1 w) (g l : Nat) (hl : l < n) :
    (Instr.sliceAt t (.pointer (some ⟨g, 0, none⟩)) (some (.int .i64 l)) none none).run P w = .ok (.slice (some ⟨g, l, none⟩) (n - l) (n - l)) w := by
  have e1 : ¬ n = l := by omega
  have e2 : (⟨g, 0, none⟩ : Addr).add l = ⟨g, l, none⟩ := by
    unfold Addr.add; simp
    intro h; omega
  have e3 : l ≤ n := by omega
  simp [Instr.sliceAt, run_underlying ht, Instr.sureAddr, Instr.sliceBounds, Instr.sliceBound, asIntOf, hs, e1, e2, e3, Result.andThen]
/-- 'a[:h]' of an array. -/
theorem run_slice_upto {t e : TypeId} {n : Nat} (ht : P.underlying t = some (.array n e)) (hs : (sizeOf e).run P w = .ok 1 w) (g h : Nat) (hh : h ≤ n) (hn : 0 < n) :
    (Instr.sliceAt t (.pointer (some ⟨g, 0, none⟩)) none (some (.int .i64 h)) none).run P w = .ok (.slice (some ⟨g, 0, none⟩) h n) w := by
  have e1 : ¬ n = 0 := by omega
  have e2 : (⟨g, 0, none⟩ : Addr).add 0 = ⟨g, 0, none⟩ := by unfold Addr.add; simp
  simp [Instr.sliceAt, run_underlying ht, Instr.sureAddr, Instr.sliceBounds, Instr.sliceBound, asIntOf, hs, e1, e2, hh, Result.andThen]
end

end Go.Proofs.YtbcnkhfpogglmaaGreatDoor.M3

namespace Go.Proofs.YtbcnkhfpogglmaaGreatDoor.M3
open Go.RowKit Go.Maps
set_option linter.unusedVariables false
set_option maxRecDepth 100000

theorem zero4096 : Tryz.zeroCells138 = uarr 4096 fun _ => 0 := by kernel_rfl
theorem size4096 : (Tryz.prog.info? 138).map (·.size) = some 4096 := by kernel_rfl
theorem built4096 : Tryz.prog.built 138 [] = some (uarr 4096 fun _ => 0) := by kernel_rfl
theorem guard4096 : Tryz.prog.eqGuardType Tryz.prog.depth 138 = false := by kernel_rfl
theorem size_u8 : (Tryz.prog.info? 5).map (·.size) = some 1 := by kernel_rfl

theorem putF_eq (m : Int → Int) (x : Int) (xs : List Int) (y : Int) : putF m x xs y = if x ≤ y ∧ y < x + xs.length then xs.getD (y - x).toNat 0 else m y := by
  by_cases h : x ≤ y ∧ y < x + xs.length
  · rw [if_pos h]
    have := putF_at (m := m) (x := x) (xs := xs) (i := (y - x).toNat) (by omega)
    rw [show x + ((y - x).toNat : Int) = y by omega] at this
    exact this
  · rw [if_neg h]; exact putF_out (by omega)
theorem putF_bytey {m : Int → Int} (hm : Bytey m) (x : Int) {xs : List Int} (hx : Bytes255 xs) : Bytey (putF m x xs) := by
  intro y
  rw [putF_eq]
  split
  · exact hx _ (by omega)
  · exact hm y

section
variable {w w' : World} {b mb g : Nat} {S : Nat → Prop} {m m' : Int → Int} {pg : Int → Option Nat} {i : Int}

theorem PageAt.congr (h : PageAt w g m i) (e : ∀ k : Nat, k < 4096 → m (i * 4096 + k) = m' (i * 4096 + k)) : PageAt w g m' i := by
  unfold PageAt at *; rw [h, uarr_congr e]
theorem PgOk.wrote (h : PgOk w b mb S m pg) (e : pg i = some g) (o : Only (fun k => k = g) w w') (hp : PageAt w' g m' i) (hne : ∃ k : Nat, k < 4096 ∧ ¬ m' (i * 4096 + k) = 0)
    (hout : ∀ y, y < i * 4096 ∨ i * 4096 + 4096 ≤ y → m' y = m y) : PgOk w' b mb S m' pg := by
  obtain ⟨_, k2, k3, k4, _⟩ := h.page i g e
  refine ⟨h.map.keeps o (fun h => k4 h.symm), fun q g' e' => ?_, fun q e' k hk => ?_, h.inj, h.sb, h.smb, h.ne, fun k hk => Nat.lt_of_lt_of_le (h.lt k hk) o.size⟩
  · by_cases c : q = i
    · subst c
      rw [e] at e'; cases e'
      exact ⟨hp, k2, k3, k4, hne⟩
    · obtain ⟨j1, j2, j3, j4, k, hk, j5⟩ := h.page q g' e'
      have hg : g' ≠ g := fun hh => c (h.inj q i g (hh ▸ e') e)
      refine ⟨PageAt.congr (show PageAt w' g' m q from o.keeps hg j1) fun k hk => (hout _ (by omega)).symm, j2, j3, j4, k, hk, ?_⟩
      rw [hout _ (by omega)]; exact j5
  · have c : q ≠ i := fun hh => by rw [hh, e] at e'; cases e'
    rw [hout _ (by omega)]; exact h.gone q e' k hk
theorem PgOk.laid (h : PgOk w b mb S m pg) (e : pg i = none) (o : Only (fun k => k = mb) w w') (hg : w.heap.size ≤ g) (hmap : PgMap Tryz.prog 26 w' mb fun y => if y = i then some g else pg y) (hp : PageAt w' g m' i)
    (hne : ∃ k : Nat, k < 4096 ∧ ¬ m' (i * 4096 + k) = 0) (hout : ∀ y, y < i * 4096 ∨ i * 4096 + 4096 ≤ y → m' y = m y) : PgOk w' b mb (fun k => S k ∨ k = g) m' fun y => if y = i then some g else pg y := by
  have hgl : g < w'.heap.size := (Array.getElem?_eq_some_iff.1 hp).1
  have hb := h.lt b h.sb
  have hm := h.lt mb h.smb
  refine ⟨hmap, fun q g' e' => ?_, fun q e' k hk => ?_, fun q q' g' e1 e2 => ?_, .inl h.sb, .inl h.smb, h.ne, fun k hk => ?_⟩
  · by_cases c : q = i
    · subst c
      simp only [if_true] at e'
      cases e'
      exact ⟨hp, .inr rfl, by omega, by omega, hne⟩
    · simp only [if_neg c] at e'
      obtain ⟨j1, j2, j3, j4, k, hk, j5⟩ := h.page q g' e'
      refine ⟨PageAt.congr (show PageAt w' g' m q from o.keeps j4 j1) fun k hk => (hout _ (by omega)).symm, .inl j2, j3, j4, k, hk, ?_⟩
      rw [hout _ (by omega)]; exact j5
  · have c : q ≠ i := fun hh => by simp only [hh, if_true] at e'; cases e'
    simp only [if_neg c] at e'
    rw [hout _ (by omega)]; exact h.gone q e' k hk
  · by_cases c : q = i
    · by_cases d : q' = i
      · rw [c, d]
      · simp only [if_pos c] at e1
        simp only [if_neg d] at e2
        cases e1
        have := h.lt _ (h.page q' g e2).2.1; omega
    · by_cases d : q' = i
      · simp only [if_pos d] at e2
        simp only [if_neg c] at e1
        cases e2
        have := h.lt _ (h.page q g e1).2.1; omega
      · simp only [if_neg c] at e1
        simp only [if_neg d] at e2
        exact h.inj q q' g' e1 e2
  · rcases hk with hk | rfl
    · exact Nat.lt_of_lt_of_le (h.lt k hk) o.size
    · exact hgl
theorem PgOk.struck (h : PgOk w b mb S m pg) (e : pg i = some g) (o : Only (fun k => k = g ∨ k = mb) w w') (hmap : PgMap Tryz.prog 26 w' mb fun y => if y = i then none else pg y)
    (hz : ∀ k : Nat, k < 4096 → m' (i * 4096 + k) = 0) (hout : ∀ y, y < i * 4096 ∨ i * 4096 + 4096 ≤ y → m' y = m y) : PgOk w' b mb S m' fun y => if y = i then none else pg y := by
  refine ⟨hmap, fun q g' e' => ?_, fun q e' k hk => ?_, fun q q' g' e1 e2 => ?_, h.sb, h.smb, h.ne, fun k hk => Nat.lt_of_lt_of_le (h.lt k hk) o.size⟩
  · have c : q ≠ i := fun hh => by simp only [hh, if_true] at e'; cases e'
    simp only [if_neg c] at e'
    obtain ⟨j1, j2, j3, j4, k, hk, j5⟩ := h.page q g' e'
    have hg : g' ≠ g := fun hh => c (h.inj q i g (hh ▸ e') e)
    refine ⟨PageAt.congr (show PageAt w' g' m q from o.keeps (fun hh => by rcases hh with hh | hh; exact hg hh; exact j4 hh) j1) fun k hk => (hout _ (by omega)).symm, j2, j3, j4, k, hk, ?_⟩
    rw [hout _ (by omega)]; exact j5
  · by_cases c : q = i
    · subst c; exact hz k hk
    · simp only [if_neg c] at e'
      rw [hout _ (by omega)]; exact h.gone q e' k hk
  · have c : q ≠ i := fun hh => by simp only [hh, if_true] at e1; cases e1
    have d : q' ≠ i := fun hh => by simp only [hh, if_true] at e2; cases e2
    simp only [if_neg c] at e1
    simp only [if_neg d] at e2
    exact h.inj q q' g' e1 e2
theorem PgOk.congr (h : PgOk w b mb S m pg) (e : ∀ y, m y = m' y) : PgOk w b mb S m' pg := by
  obtain rfl : m = m' := funext e; exact h
end

/-- What a call leaves that tells nothing. -/
def StoreEnd (w : World) (b : Nat) (S : Nat → Prop) (base size : Int) (m : Int → Int) (e : Ending) (w' : World) : Prop :=
  (∃ u, e = .returned u) ∧ Only S w w' ∧ ∃ S', (∀ k, S' k → S k ∨ w.heap.size ≤ k) ∧ ProgMem w' b S' base size m

/-- What is asked of the bytes and their place. -/
structure InPage (base size : Int) (i : Int) (at_ : Nat) (xs : List Int) : Prop where
  lo : base ≤ i * 4096 + at_
  hi : i * 4096 + at_ + xs.length ≤ base + size
  page : at_ + xs.length ≤ 4096
  bytes : Bytes255 xs
  ne : xs ≠ []

theorem InPage.out {base size i : Int} {at_ : Nat} {xs : List Int} (h : InPage base size i at_ xs) (m : Int → Int) : ∀ y, y < i * 4096 ∨ i * 4096 + 4096 ≤ y → putF m (i * 4096 + at_) xs y = m y := by
  intro y hy
  have := h.page
  exact putF_out (by omega)
theorem InPage.over {base size i : Int} {at_ : Nat} {xs : List Int} (h : InPage base size i at_ xs) (m : Int → Int) (k : Nat) (hk : k < 4096) : overU (fun k => m (i * 4096 + k)) at_ xs k = putF m (i * 4096 + at_) xs (i * 4096 + k) := by
  rw [putF_eq]
  unfold overU
  by_cases c : at_ ≤ k ∧ k < at_ + xs.length
  · rw [if_pos c, if_pos (by omega)]; congr 1; omega
  · rw [if_neg c, if_neg (by omega)]
theorem InPage.support {base size i : Int} {at_ : Nat} {xs : List Int} (h : InPage base size i at_ xs) {m : Int → Int} (hm : ∀ y, ¬ m y = 0 → base ≤ y ∧ y < base + size) : ∀ y, ¬ putF m (i * 4096 + at_) xs y = 0 → base ≤ y ∧ y < base + size := by
  intro y hy
  have h1 := h.lo
  have h2 := h.hi
  rw [putF_eq] at hy
  split at hy
  · omega
  · exact hm y hy
/-- Bytes that are not all 0 leave no page of noughts. -/
theorem InPage.left {base size i : Int} {at_ : Nat} {xs : List Int} (h : InPage base size i at_ xs) (m : Int → Int) (hn : noughts xs = false) : ∃ k : Nat, k < 4096 ∧ ¬ putF m (i * 4096 + at_) xs (i * 4096 + k) = 0 := by
  have h1 := h.page
  have : ¬ ∀ j, j < xs.length → xs.getD j 0 = 0 := fun hh => by rw [noughts_iff.2 hh] at hn; cases hn
  obtain ⟨j, hj⟩ := Classical.not_forall.1 this
  obtain ⟨hj, hne⟩ := Classical.not_imp.1 hj
  refine ⟨at_ + j, by omega, ?_⟩
  have := putF_at (m := m) (x := i * 4096 + at_) hj
  rw [show i * 4096 + ((at_ + j : Nat) : Int) = i * 4096 + at_ + j by omega, this]
  exact hne

end Go.Proofs.YtbcnkhfpogglmaaGreatDoor.M3

namespace Go.Proofs.YtbcnkhfpogglmaaGreatDoor.M3
open Go.RowKit Go.Maps
set_option linter.unusedVariables false
set_option maxRecDepth 100000

/-- The memory's parts, as they stand in a world. -/
structure Parts (w : World) (b mb : Nat) (S : Nat → Prop) (base size : Int) (m : Int → Int) (pg : Int → Option Nat) : Prop where
  row : w.heap[b]? = some (.cells #[.int .u64 base, .int .u64 size, .map (some mb)] 125 (0, 0))
  ok : PgOk w b mb S m pg
  bytey : Bytey m
  sup : ∀ y, ¬ m y = 0 → base ≤ y ∧ y < base + size
  al1 : base % 4096 = 0
  al2 : size % 4096 = 0
theorem Parts.mem {w : World} {b mb : Nat} {S : Nat → Prop} {base size : Int} {m : Int → Int} {pg : Int → Option Nat} (h : Parts w b mb S base size m pg) : ProgMem w b S base size m := ⟨mb, pg, h.row, h.ok, h.bytey, h.sup, h.al1, h.al2⟩
theorem ProgMem.parts {w : World} {b : Nat} {S : Nat → Prop} {base size : Int} {m : Int → Int} (h : ProgMem w b S base size m) : ∃ mb pg, Parts w b mb S base size m pg := by
  obtain ⟨mb, pg, h1, h2, h3, h4, h5, h6⟩ := h; exact ⟨mb, pg, h1, h2, h3, h4, h5, h6⟩
theorem Parts.keeps {w w' : World} {b mb : Nat} {S T : Nat → Prop} {base size : Int} {m : Int → Int} {pg : Int → Option Nat} (h : Parts w b mb S base size m pg) (o : Only T w w') (hs : ∀ i, S i → ¬ T i) : Parts w' b mb S base size m pg :=
  ⟨o.keeps (hs _ h.ok.sb) h.row, ⟨h.ok.map.keeps o (hs _ h.ok.smb), fun q g e => by
    obtain ⟨k1, k2, k3⟩ := h.ok.page q g e
    exact ⟨o.keeps (hs _ k2) k1, k2, k3⟩, h.ok.gone, h.ok.inj, h.ok.sb, h.ok.smb, h.ok.ne, fun i hi => Nat.lt_of_lt_of_le (h.ok.lt i hi) o.size⟩, h.bytey, h.sup, h.al1, h.al2⟩
theorem Parts.below {w w' : World} {b mb : Nat} {S : Nat → Prop} {base size : Int} {m : Int → Int} {pg : Int → Option Nat} (h : Parts w b mb S base size m pg) (o : Below w.heap.size w w') : Parts w' b mb S base size m pg :=
  h.keeps (Only.of_below (fun _ => False) o) (fun _ _ => id)

section
variable {w : World} {b mb gs off c : Nat} {S : Nat → Prop} {base size : Int} {m : Int → Int} {pg : Int → Option Nat} (i : Int) (at_ : Nat) (xs : List Int)

set_option maxHeartbeats 1000000 in
theorem storeIn_a (h : Parts w b mb S base size m pg) (hi : In64 i) (hv : ReadsIn .u8 gs w (.slice (some ⟨gs, off, none⟩) xs.length c) xs) (hx : InPage base size i at_ xs) (e : pg i = none) (hn : noughts xs = true) :
    Calls Tryz.prog 118 #[.pointer (some ⟨b, 0, none⟩), .int .u64 i, .int .i64 at_, .slice (some ⟨gs, off, none⟩) xs.length c] w (StoreEnd w b S base size (putF m (i * 4096 + at_) xs)) := by
  have HP := Lib.hid h
  have HV := Lib.hid hv
  have HX := Lib.hid hx
  have HN := Lib.hid hn
  have HE := Lib.hid e
  clear h hv hx hn e
  go_enter Tryz.func118, Tryz.ntmps118
  go_wp2_with fail
  refine (isNought_any gs _ xs _ HV.out HX.out.bytes HX.out.ne).mono ?_
  rintro ee w1 ⟨rfl, hb1⟩
  rw [HN.out]
  have hp := HP.out.below hb1
  obtain ⟨c0, c1, c2⟩ := ram_cells hp.row
  have hl := hp.ok.map.look pgT hi
  rw [HE.out] at hl
  simp only [ptrTo] at hl
  have HB := Lib.hid hb1
  have HQ := Lib.hid hp
  clear hb1 hp
  go_wp2
  go_end0
  refine ⟨⟨_, rfl⟩, Only.of_below _ HB.out, S, fun k hk => .inl hk, HQ.out.row |> fun r => ?_⟩
  have hm : ∀ y, putF m (i * 4096 + at_) xs y = m y := fun y => by
    rw [putF_eq]
    split
    · have h0 := noughts_iff.1 HN.out (y - (i * 4096 + at_)).toNat (by omega)
      have h1 := HQ.out.ok.gone i HE.out (y - i * 4096).toNat (by have := HX.out.page; omega)
      rw [show i * 4096 + ((y - i * 4096).toNat : Int) = y by omega] at h1
      rw [h0, h1]
    · rfl
  have : putF m (i * 4096 + at_) xs = m := funext hm
  rw [this]
  exact HQ.out.mem

/-- The source's bytes, in a later world. -/
theorem src_keeps {w w' : World} {gs off c : Nat} {xs : List Int} (hv : ReadsIn .u8 gs w (.slice (some ⟨gs, off, none⟩) xs.length c) xs) {T : Nat → Prop} (o : Only T w w') (hs : ¬ T gs) : ∀ j, j < xs.length → w'.cell? ((⟨gs, off, none⟩ : Addr).add j) = some (.int .u8 (xs.getD j 0)) := by
  intro j hj
  obtain ⟨a, cc, h1, h2, h3⟩ := hv.keeps o hs
  injection h1 with h1 _ _
  subst h1
  rcases h3 with h3 | ⟨off', h4, _, h5⟩
  · rw [h3] at hj; simp at hj
  · injection h4 with h4; injection h4 with _ h4
    subst h4
    rw [add_none]; exact h5 j hj

theorem pages_16384 (h : Parts w b mb S base size m pg) (hf : Fits base size) : ∀ q, pg q ≠ none → base / 4096 ≤ q ∧ q < base / 4096 + (16384 : Nat) := pages_in h.ok hf h.sup h.al1 h.al2

set_option maxRecDepth 100000 in
set_option maxHeartbeats 2000000 in
theorem storeIn_b (h : Parts w b mb S base size m pg) (hf : Fits base size) (hi : In64 i) (hv : ReadsIn .u8 gs w (.slice (some ⟨gs, off, none⟩) xs.length c) xs) (hs : ¬ S gs) (hx : InPage base size i at_ xs) (e : pg i = none) (hn : noughts xs = false) :
    Calls Tryz.prog 118 #[.pointer (some ⟨b, 0, none⟩), .int .u64 i, .int .i64 at_, .slice (some ⟨gs, off, none⟩) xs.length c] w (StoreEnd w b S base size (putF m (i * 4096 + at_) xs)) := by
  have HP := Lib.hid h
  have HG := Lib.hid hs
  have HV := Lib.hid hv
  have HX := Lib.hid hx
  have HN := Lib.hid hn
  have HE := Lib.hid e
  have HF := Lib.hid (pages_16384 h hf)
  have hpage := hx.page
  have hlen : 0 < xs.length := List.length_pos_iff.2 hx.ne
  clear h hv hx hn e hf hs
  go_enter Tryz.func118, Tryz.ntmps118
  go_wp2_with fail
  refine (isNought_any gs _ xs _ HV.out HX.out.bytes HX.out.ne).mono ?_
  rintro ee w1 ⟨rfl, hb1⟩
  rw [HN.out]
  have hp := HP.out.below hb1
  obtain ⟨c0, c1, c2⟩ := ram_cells hp.row
  have hl := hp.ok.map.look pgT hi
  rw [HE.out] at hl
  simp only [ptrTo] at hl
  have hb2 : Below w1.heap.size w1 (w1.alloc (.cells Tryz.zeroCells138 138)) := (Below.refl _ _).alloc (Nat.le_refl _) _
  have hp2 := hp.below hb2
  obtain ⟨d0, d1, d2⟩ := ram_cells hp2.row
  obtain ⟨w2, hput, hmap, hturn⟩ := hp2.ok.map.put pgT HF.out (by unfold maxLen; omega) hi w1.heap.size
  have ho2 := mapTurned_only (S := fun k => k = mb) hturn rfl
  have hbz : w1.heap.size < (w1.alloc (.cells Tryz.zeroCells138 138)).heap.size := by simp
  have hnew : HoldsU w2 w1.heap.size 138 4096 (fun _ => 0) := by
    refine HoldsU.keeps (S := fun k => k = mb) (w := w1.alloc (.cells Tryz.zeroCells138 138)) ?_ ho2 (by have := hp.ok.lt mb hp.ok.smb; omega)
    show _ = _
    rw [heap_alloc_new, zero4096]
  have hbel : Only (fun k => k = mb) w1 w2 := (Only.of_below _ hb2).trans ho2
  have hsrc : ∀ j, j < xs.length → w2.cell? ((⟨gs, off, none⟩ : Addr).add j) = some (.int .u8 (xs.getD j 0)) := by
    exact src_keeps HV.out ((Only.of_below (fun k => k = mb) hb1).trans hbel) (fun e => HG.out (e ▸ HP.out.ok.smb))
  have HSL := fun w => run_slice_from (w := w) Tryz.underlying138 (Tryz.sizeOf5 w) w1.heap.size at_ (by omega)
  have HB1 := Lib.hid hb1
  have HP1 := Lib.hid hp
  have HO := Lib.hid hbel
  have HMAP := Lib.hid hmap
  have HNEW := Lib.hid hnew
  have HSRC := Lib.hid hsrc
  have HS2 := Lib.hid (mapTurned_size hturn)
  clear hb1 hp hbel hmap hnew hsrc hp2 hb2 ho2 hturn hbz
  go_wp2_with (refine wpList_copy_u rfl (.tmp 31) (.tmp 32) 40 40 rfl 5 Tryz.underlying40 size_u8 w1.heap.size at_ _ _ ⟨gs, off, none⟩ _ _ rfl rfl 4096 (fun _ => 0) 138 HNEW.out xs ?_ HSRC.out (by omega) ?_)
  · show xs.length = min xs.length (4096 - at_)
    omega
  have h3 := HoldsU.setRow HNEW.out (overU (fun _ => 0) at_ xs)
  have ho3 : Only (fun k => k = w1.heap.size) w2 (w2.setRow w1.heap.size (uarr 4096 (overU (fun _ => 0) at_ xs))) := (Only.refl (fun k => k = w1.heap.size) w2).setRow (.inl rfl) _
  have HEND : Hid (StoreEnd w b S base size (putF m (i * 4096 + at_) xs) (.returned (.tuple #[])) (w2.setRow w1.heap.size (uarr 4096 (overU (fun _ => 0) at_ xs)))) := by
    refine Lib.hid ⟨⟨_, rfl⟩, ?_, fun k => S k ∨ k = w1.heap.size, fun k hk => ?_, ?_⟩
    · refine (((Only.of_below S HB1.out).step HO.out ?_).step ho3 ?_)
      · rintro k rfl; exact .inl HP.out.ok.smb
      · rintro k rfl; exact .inr HB1.out.size
    · rcases hk with hk | rfl
      · exact .inl hk
      · exact .inr HB1.out.size
    · have hpg : PageAt (w2.setRow w1.heap.size (uarr 4096 (overU (fun _ => 0) at_ xs))) w1.heap.size (putF m (i * 4096 + at_) xs) i := by
        refine HoldsU.congr h3 fun k hk => ?_
        rw [← HX.out.over m k hk]
        unfold overU
        split
        · rfl
        · exact (HP1.out.ok.gone i HE.out k hk).symm
      have hne : w1.heap.size ≠ mb := by have := HP1.out.ok.lt mb HP1.out.ok.smb; omega
      have hneb : w1.heap.size ≠ b := by have := HP1.out.ok.lt b HP1.out.ok.sb; omega
      have o4 : Only (fun k => k = mb) w1 (w2.setRow w1.heap.size (uarr 4096 (overU (fun _ => 0) at_ xs))) := HO.out.step ho3 (by rintro k rfl; exact .inr (Nat.le_refl _))
      have := PgOk.laid HP1.out.ok HE.out o4 (Nat.le_refl _) (HMAP.out.keeps ho3 (fun h => hne h.symm)) hpg (HX.out.left m HN.out) (HX.out.out m)
      exact ⟨mb, _, o4.keeps (fun h => HP1.out.ok.ne h.symm) HP1.out.row, this, putF_bytey HP1.out.bytey _ HX.out.bytes, HX.out.support HP1.out.sup, HP1.out.al1, HP1.out.al2⟩
  clear h3 ho3
  go_wp2
  go_end0
  exact HEND.out

end
end Go.Proofs.YtbcnkhfpogglmaaGreatDoor.M3

namespace Go.Proofs.YtbcnkhfpogglmaaGreatDoor.M3
open Go.RowKit Go.Maps
set_option linter.unusedVariables false
set_option maxRecDepth 100000

section
variable {w : World} {b mb gs off c : Nat} {S : Nat → Prop} {base size : Int} {m : Int → Int} {pg : Int → Option Nat} (i : Int) (at_ : Nat) (xs : List Int)

theorem Parts.row_keeps {w w' : World} {T : Nat → Prop} (h : Parts w b mb S base size m pg) (o : Only T w w') (hb : ¬ T b) : w'.heap[b]? = some (.cells #[.int .u64 base, .int .u64 size, .map (some mb)] 125 (0, 0)) := o.keeps hb h.row

theorem wrote_end {w w1 w3 : World} {g : Nat} {i : Int} {at_ : Nat} {xs : List Int} (hb1 : Below w.heap.size w w1) (hp : Parts w1 b mb S base size m pg) (e : pg i = some g) (hx : InPage base size i at_ xs)
    (h3 : HoldsU w3 g 138 4096 (overU (fun k => m (i * 4096 + k)) at_ xs)) (o3 : Only (fun k => k = g) w1 w3) (hne : ∃ k : Nat, k < 4096 ∧ ¬ putF m (i * 4096 + at_) xs (i * 4096 + k) = 0) :
    StoreEnd w b S base size (putF m (i * 4096 + at_) xs) (.returned (.tuple #[])) w3 := by
  obtain ⟨_, k2, k3, k4, _⟩ := hp.ok.page i g e
  refine ⟨⟨_, rfl⟩, (Only.of_below S hb1).step o3 (by rintro k rfl; exact .inl k2), S, fun k hk => .inl hk, ?_⟩
  have hpg : PageAt w3 g (putF m (i * 4096 + at_) xs) i := HoldsU.congr h3 fun k hk => hx.over m k hk
  exact ⟨mb, pg, hp.row_keeps o3 (fun h => k3 h.symm), PgOk.wrote hp.ok e o3 hpg hne (hx.out m), putF_bytey hp.bytey _ hx.bytes, hx.support hp.sup, hp.al1, hp.al2⟩

set_option maxRecDepth 100000 in
set_option maxHeartbeats 2000000 in
theorem storeIn_c {g : Nat} (h : Parts w b mb S base size m pg) (hi : In64 i) (hv : ReadsIn .u8 gs w (.slice (some ⟨gs, off, none⟩) xs.length c) xs) (hs : ¬ S gs) (hx : InPage base size i at_ xs) (e : pg i = some g) (hn : noughts xs = false) :
    Calls Tryz.prog 118 #[.pointer (some ⟨b, 0, none⟩), .int .u64 i, .int .i64 at_, .slice (some ⟨gs, off, none⟩) xs.length c] w (StoreEnd w b S base size (putF m (i * 4096 + at_) xs)) := by
  have HP := Lib.hid h
  have HG := Lib.hid hs
  have HV := Lib.hid hv
  have HX := Lib.hid hx
  have HN := Lib.hid hn
  have HE := Lib.hid e
  have hpage := hx.page
  have hlen : 0 < xs.length := List.length_pos_iff.2 hx.ne
  clear h hv hx hn e hs
  go_enter Tryz.func118, Tryz.ntmps118
  go_wp2_with fail
  refine (isNought_any gs _ xs _ HV.out HX.out.bytes HX.out.ne).mono ?_
  rintro ee w1 ⟨rfl, hb1⟩
  rw [HN.out]
  have hp := HP.out.below hb1
  obtain ⟨c0, c1, c2⟩ := ram_cells hp.row
  have hl := hp.ok.map.look pgT hi
  rw [HE.out] at hl
  simp only [ptrTo] at hl
  have hnew : HoldsU w1 g 138 4096 (fun k => m (i * 4096 + k)) := (hp.ok.page i g HE.out).1
  have hsrc : ∀ j, j < xs.length → w1.cell? ((⟨gs, off, none⟩ : Addr).add j) = some (.int .u8 (xs.getD j 0)) := src_keeps HV.out (Only.of_below (fun _ => False) hb1) id
  have HSL := fun w => run_slice_from (w := w) Tryz.underlying138 (Tryz.sizeOf5 w) g at_ (by omega)
  have HB1 := Lib.hid hb1
  have HP1 := Lib.hid hp
  have HNEW := Lib.hid hnew
  have HSRC := Lib.hid hsrc
  clear hb1 hp hnew hsrc
  have h3 := HoldsU.setRow HNEW.out (overU (fun k => m (i * 4096 + k)) at_ xs)
  have ho3 : Only (fun k => k = g) w1 (w1.setRow g (uarr 4096 (overU (fun k => m (i * 4096 + k)) at_ xs))) := (Only.refl (fun k => k = g) w1).setRow (.inl rfl) _
  have H3 := Lib.hid h3
  have HO3 := Lib.hid ho3
  clear h3 ho3
  go_wp2_with (refine wpList_copy_u rfl (.tmp 31) (.tmp 32) 40 40 rfl 5 Tryz.underlying40 size_u8 g at_ _ _ ⟨gs, off, none⟩ _ _ rfl rfl 4096 (fun k => m (i * 4096 + k)) 138 HNEW.out xs ?_ HSRC.out (by omega) ?_)
  · show xs.length = min xs.length (4096 - at_)
    omega
  have HEND : Hid (StoreEnd w b S base size (putF m (i * 4096 + at_) xs) (.returned (.tuple #[])) (w1.setRow g (uarr 4096 (overU (fun k => m (i * 4096 + k)) at_ xs)))) :=
    Lib.hid (wrote_end HB1.out HP1.out HE.out HX.out H3.out HO3.out (HX.out.left m HN.out))
  go_wp2
  go_end0
  exact HEND.out

end
end Go.Proofs.YtbcnkhfpogglmaaGreatDoor.M3

namespace Go.Proofs.YtbcnkhfpogglmaaGreatDoor.M3
open Go.RowKit Go.Maps
set_option linter.unusedVariables false
set_option maxRecDepth 100000

section
variable {w : World} {b mb gs off c : Nat} {S : Nat → Prop} {base size : Int} {m : Int → Int} {pg : Int → Option Nat} (i : Int) (at_ : Nat) (xs : List Int)

set_option maxRecDepth 100000 in
set_option maxHeartbeats 2000000 in
theorem storeIn_d {g : Nat} (h : Parts w b mb S base size m pg) (hi : In64 i) (hv : ReadsIn .u8 gs w (.slice (some ⟨gs, off, none⟩) xs.length c) xs) (hs : ¬ S gs) (hx : InPage base size i at_ xs) (e : pg i = some g) (hn : noughts xs = true) (hz : alike 4096 (overU (fun k => m (i * 4096 + k)) at_ xs) (fun _ => 0) = false) :
    Calls Tryz.prog 118 #[.pointer (some ⟨b, 0, none⟩), .int .u64 i, .int .i64 at_, .slice (some ⟨gs, off, none⟩) xs.length c] w (StoreEnd w b S base size (putF m (i * 4096 + at_) xs)) := by
  have HP := Lib.hid h
  have HG := Lib.hid hs
  have HV := Lib.hid hv
  have HX := Lib.hid hx
  have HN := Lib.hid hn
  have HE := Lib.hid e
  have hpage := hx.page
  have hlen : 0 < xs.length := List.length_pos_iff.2 hx.ne
  clear h hv hx hn e hs
  go_enter Tryz.func118, Tryz.ntmps118
  go_wp2_with fail
  refine (isNought_any gs _ xs _ HV.out HX.out.bytes HX.out.ne).mono ?_
  rintro ee w1 ⟨rfl, hb1⟩
  rw [HN.out]
  have hp := HP.out.below hb1
  obtain ⟨c0, c1, c2⟩ := ram_cells hp.row
  have hl := hp.ok.map.look pgT hi
  rw [HE.out] at hl
  simp only [ptrTo] at hl
  have hnew : HoldsU w1 g 138 4096 (fun k => m (i * 4096 + k)) := (hp.ok.page i g HE.out).1
  have hsrc : ∀ j, j < xs.length → w1.cell? ((⟨gs, off, none⟩ : Addr).add j) = some (.int .u8 (xs.getD j 0)) := src_keeps HV.out (Only.of_below (fun _ => False) hb1) id
  have HSL := fun w => run_slice_from (w := w) Tryz.underlying138 (Tryz.sizeOf5 w) g at_ (by omega)
  have HB1 := Lib.hid hb1
  have HP1 := Lib.hid hp
  have HNEW := Lib.hid hnew
  have HSRC := Lib.hid hsrc
  clear hb1 hp hnew hsrc
  have h3 := HoldsU.setRow HNEW.out (overU (fun k => m (i * 4096 + k)) at_ xs)
  have ho3 : Only (fun k => k = g) w1 (w1.setRow g (uarr 4096 (overU (fun k => m (i * 4096 + k)) at_ xs))) := (Only.refl (fun k => k = g) w1).setRow (.inl rfl) _
  have H3 := Lib.hid h3
  have HO3 := Lib.hid ho3
  clear h3 ho3
  have HQ : Hid (alike 4096 (overU (fun k => m (i * 4096 + k)) at_ xs) (fun _ => 0) = false) := Lib.hid hz
  have HMIN : Hid (xs.length = Nat.min xs.length (4096 - at_)) := Lib.hid (by show xs.length = min xs.length (4096 - at_); omega)
  have HFIT : Hid (at_ + xs.length ≤ 4096) := Lib.hid hpage
  clear hz
  have HEND : Hid (StoreEnd w b S base size (putF m (i * 4096 + at_) xs) (.returned (.tuple #[])) (w1.setRow g (uarr 4096 (overU (fun k => m (i * 4096 + k)) at_ xs)))) :=
    Lib.hid (wrote_end HB1.out HP1.out HE.out HX.out H3.out HO3.out (by
      have : ¬ ∀ k, k < 4096 → overU (fun k => m (i * 4096 + k)) at_ xs k = 0 := fun hh => by
        rw [alike_iff.2 hh] at HQ; exact absurd HQ.out (by simp)
      obtain ⟨k, hk⟩ := Classical.not_forall.1 this
      obtain ⟨hk, hne⟩ := Classical.not_imp.1 hk
      exact ⟨k, hk, by rw [← HX.out.over m k hk]; exact hne⟩))
  go_wp2_with (first
    | (refine wpList_copy_u rfl (.tmp 31) (.tmp 32) 40 40 rfl 5 Tryz.underlying40 size_u8 g at_ _ _ ⟨gs, off, none⟩ _ _ rfl rfl 4096 (fun k => m (i * 4096 + k)) 138 HNEW.out xs HMIN.out HSRC.out HFIT.out ?_)
    | (refine wpList_load_u rfl _ _ rfl g rfl 138 4096 (overU (fun k => m (i * 4096 + k)) at_ xs) 5 H3.out Tryz.underlying138 size4096 ?_)
    | (refine wpList_build_u rfl _ rfl 4096 (fun _ => 0) built4096 ?_)
    | (refine wpList_eql_u rfl 138 _ _ _ rfl 5 4096 (overU (fun k => m (i * 4096 + k)) at_ xs) (fun _ => 0) rfl rfl Tryz.underlying138 (Tryz.sizeOf5 _) (Tryz.isAgg5 _) Tryz.underlying5 guard4096 ?_; rw [HQ.out]))
  go_end0
  exact HEND.out

set_option maxRecDepth 100000 in
set_option maxHeartbeats 2000000 in
theorem storeIn_e {g : Nat} (h : Parts w b mb S base size m pg) (hi : In64 i) (hv : ReadsIn .u8 gs w (.slice (some ⟨gs, off, none⟩) xs.length c) xs) (hs : ¬ S gs) (hx : InPage base size i at_ xs) (e : pg i = some g) (hn : noughts xs = true) (hz : alike 4096 (overU (fun k => m (i * 4096 + k)) at_ xs) (fun _ => 0) = true) :
    Calls Tryz.prog 118 #[.pointer (some ⟨b, 0, none⟩), .int .u64 i, .int .i64 at_, .slice (some ⟨gs, off, none⟩) xs.length c] w (StoreEnd w b S base size (putF m (i * 4096 + at_) xs)) := by
  have HP := Lib.hid h
  have HG := Lib.hid hs
  have HV := Lib.hid hv
  have HX := Lib.hid hx
  have HN := Lib.hid hn
  have HE := Lib.hid e
  have hpage := hx.page
  have hlen : 0 < xs.length := List.length_pos_iff.2 hx.ne
  clear h hv hx hn e hs
  go_enter Tryz.func118, Tryz.ntmps118
  go_wp2_with fail
  refine (isNought_any gs _ xs _ HV.out HX.out.bytes HX.out.ne).mono ?_
  rintro ee w1 ⟨rfl, hb1⟩
  rw [HN.out]
  have hp := HP.out.below hb1
  obtain ⟨c0, c1, c2⟩ := ram_cells hp.row
  have hl := hp.ok.map.look pgT hi
  rw [HE.out] at hl
  simp only [ptrTo] at hl
  have hnew : HoldsU w1 g 138 4096 (fun k => m (i * 4096 + k)) := (hp.ok.page i g HE.out).1
  have hsrc : ∀ j, j < xs.length → w1.cell? ((⟨gs, off, none⟩ : Addr).add j) = some (.int .u8 (xs.getD j 0)) := src_keeps HV.out (Only.of_below (fun _ => False) hb1) id
  have HSL := fun w => run_slice_from (w := w) Tryz.underlying138 (Tryz.sizeOf5 w) g at_ (by omega)
  have HB1 := Lib.hid hb1
  have HP1 := Lib.hid hp
  have HNEW := Lib.hid hnew
  have HSRC := Lib.hid hsrc
  clear hb1 hp hnew hsrc
  have h3 := HoldsU.setRow HNEW.out (overU (fun k => m (i * 4096 + k)) at_ xs)
  have ho3 : Only (fun k => k = g) w1 (w1.setRow g (uarr 4096 (overU (fun k => m (i * 4096 + k)) at_ xs))) := (Only.refl (fun k => k = g) w1).setRow (.inl rfl) _
  have H3 := Lib.hid h3
  have HO3 := Lib.hid ho3
  clear h3 ho3
  have HQ : Hid (alike 4096 (overU (fun k => m (i * 4096 + k)) at_ xs) (fun _ => 0) = true) := Lib.hid hz
  have HMIN : Hid (xs.length = Nat.min xs.length (4096 - at_)) := Lib.hid (by show xs.length = min xs.length (4096 - at_); omega)
  have HFIT : Hid (at_ + xs.length ≤ 4096) := Lib.hid hpage
  clear hz
  have hp3 := HP1.out.row_keeps HO3.out (fun h => (HP1.out.ok.page i g HE.out).2.2.1 h.symm)
  obtain ⟨d0, d1, d2⟩ := ram_cells hp3
  have hm3 := HP1.out.ok.map.keeps HO3.out (fun h => (HP1.out.ok.page i g HE.out).2.2.2.1 h.symm)
  obtain ⟨w4, hdel, hmap, hturn⟩ := hm3.drop pgT hi 0
  have HEND : Hid (StoreEnd w b S base size (putF m (i * 4096 + at_) xs) (.returned (.tuple #[])) w4) := by
    have o4 := mapTurned_only (S := fun k => k = mb) hturn rfl
    obtain ⟨_, k2, k3, k4, _⟩ := HP1.out.ok.page i g HE.out
    have o5 : Only (fun k => k = g ∨ k = mb) w1 w4 := (HO3.out.mono (fun k hk => .inl (.inl hk))).step o4 (fun k hk => .inl (.inr hk))
    refine Lib.hid ⟨⟨_, rfl⟩, (Only.of_below S HB1.out).step o5 ?_, S, fun k hk => .inl hk, mb, _, o5.keeps ?_ HP1.out.row, PgOk.struck HP1.out.ok HE.out o5 hmap ?_ (HX.out.out m), putF_bytey HP1.out.bytey _ HX.out.bytes, HX.out.support HP1.out.sup, HP1.out.al1, HP1.out.al2⟩
    · rintro k (rfl | rfl)
      · exact .inl k2
      · exact .inl HP1.out.ok.smb
    · rintro (h | h)
      · exact k3 h.symm
      · exact HP1.out.ok.ne h.symm
    · intro k hk
      rw [← HX.out.over m k hk]
      exact alike_iff.1 HQ.out k hk
  have HD := Lib.hid hp3
  clear hp3 hm3 hmap hturn
  go_wp2_with (first
    | (refine wpList_copy_u rfl (.tmp 31) (.tmp 32) 40 40 rfl 5 Tryz.underlying40 size_u8 g at_ _ _ ⟨gs, off, none⟩ _ _ rfl rfl 4096 (fun k => m (i * 4096 + k)) 138 HNEW.out xs HMIN.out HSRC.out HFIT.out ?_)
    | (refine wpList_load_u rfl _ _ rfl g rfl 138 4096 (overU (fun k => m (i * 4096 + k)) at_ xs) 5 H3.out Tryz.underlying138 size4096 ?_)
    | (refine wpList_build_u rfl _ rfl 4096 (fun _ => 0) built4096 ?_)
    | (refine wpList_eql_u rfl 138 _ _ _ rfl 5 4096 (overU (fun k => m (i * 4096 + k)) at_ xs) (fun _ => 0) rfl rfl Tryz.underlying138 (Tryz.sizeOf5 _) (Tryz.isAgg5 _) Tryz.underlying5 guard4096 ?_; rw [HQ.out]))
  go_end0
  exact HEND.out

end
end Go.Proofs.YtbcnkhfpogglmaaGreatDoor.M3

namespace Go.Proofs.YtbcnkhfpogglmaaGreatDoor.M3
open Go.RowKit Go.Maps
set_option linter.unusedVariables false
set_option maxRecDepth 100000

theorem storeIn_any {w : World} {b gs : Nat} {S : Nat → Prop} {base size : Int} {m : Int → Int} (i : Int) (at_ : Nat) (xs : List Int) (v : Value) (h : ProgMem w b S base size m) (hf : Fits base size) (hi : In64 i) (hv : ReadsIn .u8 gs w v xs) (hs : ¬ S gs) (hx : InPage base size i at_ xs) :
    Calls Tryz.prog 118 #[.pointer (some ⟨b, 0, none⟩), .int .u64 i, .int .i64 at_, v] w (StoreEnd w b S base size (putF m (i * 4096 + at_) xs)) := by
  obtain ⟨mb, pg, hp⟩ := h.parts
  have hv2 := hv
  obtain ⟨a, c, rfl, _, h3⟩ := hv2
  obtain ⟨off, rfl, _⟩ := h3.resolve_left hx.ne
  cases hn : noughts xs
  · cases e : pg i with
    | none => exact storeIn_b i at_ xs hp hf hi hv hs hx e hn
    | some g => exact storeIn_c i at_ xs hp hi hv hs hx e hn
  · cases e : pg i with
    | none => exact storeIn_a i at_ xs hp hi hv hx e hn
    | some g =>
      cases hz : alike 4096 (overU (fun k => m (i * 4096 + k)) at_ xs) (fun _ => 0)
      · exact storeIn_d i at_ xs hp hi hv hs hx e hn hz
      · exact storeIn_e i at_ xs hp hi hv hs hx e hn hz

theorem place_at (y q : Int) (r : Nat) (h : y = q * 4096 + r) (hr : r < 4096) (hy : In64 y) (w : World) :
    Calls Tryz.prog 115 #[.int .u64 y] w fun e w' => e = .returned (.tuple #[.int .u64 q, .int .i64 r]) ∧ w = w' := by
  have h1 : y / 4096 = q := by omega
  have h2 : y % 4096 = r := by omega
  have := place_any y hy w
  rw [h1, h2] at this
  exact this

theorem putF_take (m : Int → Int) (x : Int) (xs : List Int) (k n : Nat) (h : k + n ≤ xs.length) : putF (putF m x (xs.take k)) (x + k) ((xs.drop k).take n) = putF m x (xs.take (k + n)) := by
  funext y
  rw [putF_eq, putF_eq, putF_eq]
  have e1 : ((xs.drop k).take n).length = n := by simp; omega
  have e2 : (xs.take k).length = k := by simp; omega
  have e3 : (xs.take (k + n)).length = k + n := by simp; omega
  rw [e1, e2, e3]
  by_cases a : x + k ≤ y ∧ y < x + k + n
  · rw [if_pos a, if_pos (by omega)]
    have f1 : (y - (x + k)).toNat < n := by omega
    have f2 : (y - x).toNat = k + (y - (x + k)).toNat := by omega
    rw [f2]
    simp [List.getD, List.getElem?_take, f1]
  · rw [if_neg a]
    by_cases c : x ≤ y ∧ y < x + k
    · rw [if_pos c, if_pos (by omega)]
      have f1 : (y - x).toNat < k := by omega
      simp [List.getD, List.getElem?_take, f1, show (y - x).toNat < k + n by omega]
    · rw [if_neg c, if_neg (by omega)]

/-- In the loop: the first k bytes are written. -/
def Storing (w wr : World) (b : Nat) (S : Nat → Prop) (base size : Int) (m : Int → Int) (x : Int) (xs : List Int) (k : Nat) : Prop :=
  Only S w wr ∧ ∃ S', (∀ j, S' j → S j ∨ w.heap.size ≤ j) ∧ ProgMem wr b S' base size (putF m x (xs.take k))
theorem Storing.next {e : Ending} {w wr w' : World} {b : Nat} {S S' : Nat → Prop} {base size : Int} {m : Int → Int} {x : Int} {xs : List Int} {k n : Nat} (h : k + n ≤ xs.length) (ho : Only S w wr) (hS : ∀ j, S' j → S j ∨ w.heap.size ≤ j)
    (hs : StoreEnd wr b S' base size (putF (putF m x (xs.take k)) (x + k) ((xs.drop k).take n)) e w') : Storing w w' b S base size m x xs (k + n) := by
  obtain ⟨_, o2, S2, hS2, hM⟩ := hs
  rw [putF_take m x xs k n h] at hM
  refine ⟨ho.step o2 hS, S2, fun j hj => ?_, hM⟩
  rcases hS2 j hj with hj | hj
  · exact hS j hj
  · exact .inr (Nat.le_trans ho.size hj)

/-- A piece of a slice. -/
theorem ReadsIn.piece {w : World} {gs off c c' : Nat} {xs : List Int} (h : ReadsIn .u8 gs w (.slice (some ⟨gs, off, none⟩) xs.length c) xs) (k n : Nat) (hk : k + n ≤ xs.length) (hn : 0 < n) :
    ReadsIn .u8 gs w (.slice (some ⟨gs, off + k, none⟩) n c') ((xs.drop k).take n) := by
  obtain ⟨a, cc, h1, h2, h3⟩ := h
  injection h1 with h1 _ _
  subst h1
  have e1 : ((xs.drop k).take n).length = n := by simp; omega
  refine ⟨_, c', by rw [e1], by omega, .inr ⟨off + k, rfl, ?_, fun j hj => ?_⟩⟩
  · rcases h3 with h3 | ⟨o, _, h4, _⟩
    · rw [h3] at hk; simp at hk; omega
    · exact h4
  · rcases h3 with h3 | ⟨o, h5, _, h4⟩
    · rw [h3] at hk; simp at hk; omega
    · injection h5 with h5; injection h5 with _ h5
      subst h5
      rw [e1] at hj
      have := h4 (k + j) (by omega)
      rw [show off + k + j = off + (k + j) by omega, this]
      simp [List.getD, List.getElem?_take, hj]

set_option maxRecDepth 100000 in
set_option maxHeartbeats 2000000 in
theorem store_some {w : World} {b gs off c : Nat} {S : Nat → Prop} {base size : Int} {m : Int → Int} (x : Int) (xs : List Int) (h : ProgMem w b S base size m) (hf : Fits base size) (hx0 : base ≤ x) (hx1 : x + xs.length ≤ base + size)
    (hv : ReadsIn .u8 gs w (.slice (some ⟨gs, off, none⟩) xs.length c) xs) (hc : xs.length ≤ c) (hb : Bytes255 xs) (hs : ¬ S gs) :
    Calls Tryz.prog 72 #[.pointer (some ⟨b, 0, none⟩), .int .u64 x, .slice (some ⟨gs, off, none⟩) xs.length c] w (StoreEnd w b S base size (putF m x xs)) := by
  obtain ⟨f1, f2, f3, f4⟩ := hf
  have HF : Hid (Fits base size) := Lib.hid ⟨f1, f2, f3, f4⟩
  have hml : xs.length ≤ maxLen := by obtain ⟨_, _, h1, h2, _⟩ := hv; exact h2
  unfold maxLen at hml
  have hgs : xs = [] ∨ gs < w.heap.size := by
    obtain ⟨_, _, _, _, h3⟩ := hv
    rcases h3 with h3 | ⟨_, _, h3, _⟩
    · exact .inl h3
    · exact .inr h3
  have HV := Lib.hid hv
  have HB := Lib.hid hb
  have HG := Lib.hid hs
  have HGS := Lib.hid hgs
  have HP : Hid (Storing w w b S base size m x xs 0) := Lib.hid ⟨Only.refl _ _, S, fun j hj => .inl hj, by simpa [putF] using h⟩
  clear hv hb hs h hgs
  go_enter Tryz.func72, Tryz.ntmps72
  go_wp2
  go_loopw [1, 2] (fun u v wr => ∃ (k L C : Nat) (A : Option Addr), k + L = xs.length ∧ L ≤ C ∧ u = .int .u64 (x + k) ∧ v = .slice A L C ∧ (0 < L → A = some ⟨gs, off + k, none⟩) ∧ Storing w wr b S base size m x xs k)
    (fun _ v _ => match v with | .slice _ n _ => n | _ => 0)
  case atStart => exact ⟨0, xs.length, c, _, by omega, hc, by rw [Int.natCast_zero, Int.add_zero], rfl, fun _ => rfl, HP.out⟩
  case round =>
    obtain ⟨k, L, C, A, hkL, hLC, rfl, rfl, hA, hst⟩ := hrel
    by_cases h0 : 0 < L
    · obtain rfl := hA h0
      obtain ⟨ho, S', hS', hM⟩ := hst
      obtain ⟨q, r, hqr, hr⟩ : ∃ (q : Int) (r : Nat), x + k = q * 4096 + r ∧ r < 4096 := ⟨(x + k) / 4096, ((x + k) % 4096).toNat, by omega, by omega⟩
      have hgs2 : gs < w.heap.size := by
        rcases HGS.out with h1 | h1
        · rw [h1] at hkL; simp at hkL; omega
        · exact h1
      have hsg : ¬ S' gs := fun hh => by
        rcases hS' gs hh with h1 | h1
        · exact HG.out h1
        · omega
      have hvr := HV.out.keeps ho HG.out
      have HO := Lib.hid ho
      have HS := Lib.hid hS'
      have HM := Lib.hid hM
      have HSG := Lib.hid hsg
      have HVR := Lib.hid hvr
      have HQR := Lib.hid hqr
      have hx64 : x + k ≤ 9223372036854775808 := by omega
      have hxp : 0 ≤ x + k := by omega
      have hqi : Hid (In64 q) := Lib.hid (by unfold In64; omega)
      have hxi : Hid (In64 (x + k)) := Lib.hid (by unfold In64; omega)
      clear ho hS' hM hsg hvr hqr hA
      obtain ⟨n4, hn4⟩ : ∃ n4 : Nat, r + n4 = 4096 := ⟨4096 - r, by omega⟩
      have e4 : (4096 : Int) - r = n4 := by omega
      by_cases hlt : n4 < L
      · have hcap : ¬ C = n4 := by omega
        have hle : n4 ≤ C := by omega
        have hpos : 0 < n4 := by omega
        have emin : min (L : Int) (n4 : Int) = n4 := by omega
        have HIN : Hid (InPage base size q r ((xs.drop k).take n4)) := by
          have e1 : ((xs.drop k).take n4).length = n4 := by simp; omega
          refine Lib.hid ⟨by rw [← HQR.out]; omega, by rw [← HQR.out, e1]; omega, by rw [e1]; omega, fun i hi => ?_, fun hh => by rw [hh] at e1; simp at e1; omega⟩
          rw [e1] at hi
          have := HB.out (k + i) (by omega)
          simpa [List.getD, List.getElem?_take, hi] using this
        have HPC : ∀ c', Hid (ReadsIn .u8 gs wr (.slice (some ⟨gs, off + k, none⟩) n4 c') ((xs.drop k).take n4)) := fun c' => Lib.hid (HVR.out.piece k n4 (by omega) hpos)
        go_wp2_with (first
          | (go_at_call 115; refine (place_at (x + k) q r HQR.out hr hxi.out _).mono ?_; rintro e w2 ⟨rfl, rfl⟩))
        refine (storeIn_any q r ((xs.drop k).take n4) _ HM.out HF.out hqi.out (HPC _).out HSG.out HIN.out).mono ?_
        rintro e w2 hE
        rw [← HQR.out] at hE
        obtain ⟨u, rfl⟩ := hE.1
        have HN := Lib.hid (Storing.next (by omega) HO.out HS.out hE)
        have ex : x + k + n4 ≤ 9223372036854775808 := by omega
        clear hE
        go_wp2
        go_roundw
        case rel => exact ⟨k + n4, L - n4, C - n4, _, by omega, by omega, by rw [Int.natCast_add, Int.add_assoc], rfl, fun _ => by rw [Nat.add_assoc], HN.out⟩
        case measure => simp; omega
      · have hle : L ≤ C := hLC
        have emin : min (L : Int) (n4 : Int) = L := by omega
        have HIN : Hid (InPage base size q r ((xs.drop k).take L)) := by
          have e1 : ((xs.drop k).take L).length = L := by simp; omega
          refine Lib.hid ⟨by rw [← HQR.out]; omega, by rw [← HQR.out, e1]; omega, by rw [e1]; omega, fun i hi => ?_, fun hh => by rw [hh] at e1; simp at e1; omega⟩
          rw [e1] at hi
          have := HB.out (k + i) (by omega)
          simpa [List.getD, List.getElem?_take, hi] using this
        have HPC : ∀ c', Hid (ReadsIn .u8 gs wr (.slice (some ⟨gs, off + k, none⟩) L c') ((xs.drop k).take L)) := fun c' => Lib.hid (HVR.out.piece k L (by omega) h0)
        go_wp2_with (first
          | (go_at_call 115; refine (place_at (x + k) q r HQR.out hr hxi.out _).mono ?_; rintro e w2 ⟨rfl, rfl⟩))
        refine (storeIn_any q r ((xs.drop k).take L) _ HM.out HF.out hqi.out (HPC _).out HSG.out HIN.out).mono ?_
        rintro e w2 hE
        rw [← HQR.out] at hE
        obtain ⟨u, rfl⟩ := hE.1
        have HN := Lib.hid (Storing.next (by omega) HO.out HS.out hE)
        have ex : x + k + L ≤ 9223372036854775808 := by omega
        clear hE
        by_cases hcap : C = L
        · subst hcap
          go_wp2
          go_roundw
          case rel => exact ⟨k + C, 0, 0, some ⟨gs, off + k, none⟩, by omega, by omega, by rw [Int.natCast_add, Int.add_assoc], by simp, fun h => absurd h (by omega), HN.out⟩
          case measure => simp; omega
        · go_wp2
          go_roundw
          case rel => exact ⟨k + L, 0, C - L, some ⟨gs, off + k + L, none⟩, by omega, by omega, by rw [Int.natCast_add, Int.add_assoc], by simp, fun h => absurd h (by omega), HN.out⟩
          case measure => simp; omega
    · obtain rfl : L = 0 := by omega
      obtain rfl : k = xs.length := by omega
      rw [Storing, List.take_length] at hst
      have HST := Lib.hid hst
      clear hst
      go_wp2
      go_end0
      exact ⟨⟨_, rfl⟩, HST.out⟩

end Go.Proofs.YtbcnkhfpogglmaaGreatDoor.M3

namespace Go.Proofs.YtbcnkhfpogglmaaGreatDoor.M3
open Go.RowKit Go.Maps
set_option linter.unusedVariables false
set_option maxRecDepth 100000

/-- The bytes of m from x on, laid over f from off on, k of them. -/
def readU (f : Nat → Int) (off : Nat) (m : Int → Int) (x : Int) (k : Nat) (j : Nat) : Int := if off ≤ j ∧ j < off + k then m (x + ((j - off : Nat) : Int)) else f j
theorem readU_zero (f : Nat → Int) (off : Nat) (m : Int → Int) (x : Int) : readU f off m x 0 = f := by
  funext j; unfold readU; rw [if_neg (by omega)]
theorem readU_step (f : Nat → Int) (off : Nat) (m : Int → Int) (x : Int) (k n : Nat) : overU (readU f off m x k) (off + k) (bytesL m (x + k) n) = readU f off m x (k + n) := by
  funext j
  unfold overU
  rw [bytesL_len]
  by_cases c : off + k ≤ j ∧ j < off + k + n
  · rw [if_pos c, bytesL_get _ _ _ _ (by omega)]
    unfold readU
    rw [if_pos (by omega)]
    congr 1; omega
  · rw [if_neg c]
    unfold readU
    by_cases d : off ≤ j ∧ j < off + k
    · rw [if_pos d, if_pos (by omega)]
    · rw [if_neg d, if_neg (by omega)]
/-- Where the bytes are 0 nothing need be laid. -/
theorem readU_skip {f : Nat → Int} {off : Nat} {m : Int → Int} {x : Int} {k n : Nat} (hf : ∀ j, off ≤ j → j < off + k + n → f j = 0) (hm : ∀ j : Nat, j < n → m (x + k + j) = 0) : readU f off m x (k + n) = readU f off m x k := by
  funext j
  unfold readU
  by_cases d : off ≤ j ∧ j < off + k
  · rw [if_pos d, if_pos (by omega)]
  · rw [if_neg d]
    by_cases c : off ≤ j ∧ j < off + (k + n)
    · rw [if_pos c, hf j (by omega) (by omega)]
      have := hm (j - off - k) (by omega)
      rw [show x + ((j - off : Nat) : Int) = x + k + ((j - off - k : Nat) : Int) by omega, this]
    · rw [if_neg c]

/-- What a call leaves that turns block gd alone. -/
def LoadEnd (w : World) (gd : Nat) (t : TypeId) (n : Nat) (f : Nat → Int) (e : Ending) (w' : World) : Prop :=
  (∃ u, e = .returned u) ∧ Only (fun i => i = gd) w w' ∧ HoldsU w' gd t n f

set_option maxRecDepth 100000 in
set_option maxHeartbeats 4000000 in
theorem load_some {w : World} {b gd off L0 c n : Nat} {t : TypeId} {S : Nat → Prop} {base size : Int} {m : Int → Int} {f : Nat → Int} {a0 : Option Addr} (x : Int) (h : ProgMem w b S base size m) (hf : Fits base size) (hx0 : 0 < L0 → base ≤ x) (hx1 : 0 < L0 → x + L0 ≤ base + size) (hx : In64 x)
    (hd : HoldsU w gd t n f) (ha : 0 < L0 → a0 = some ⟨gd, off, none⟩) (hn : off + L0 ≤ n) (hc : L0 ≤ c) (hL : L0 ≤ 9223372036854775807) (hz : ∀ j, off ≤ j → j < off + L0 → f j = 0) (hs : ¬ S gd) :
    Calls Tryz.prog 69 #[.pointer (some ⟨b, 0, none⟩), .int .u64 x, .slice a0 L0 c] w (LoadEnd w gd t n (readU f off m x L0)) := by
  obtain ⟨f1, f2, f3, f4⟩ := hf
  obtain ⟨mb, pg, hp⟩ := h.parts
  have HP := Lib.hid hp
  have HG := Lib.hid hs
  have HZ := Lib.hid hz
  have HX0 := Lib.hid hx0
  have HX1 := Lib.hid hx1
  have HD := Lib.hid hd
  have xl := hx.1
  have xh := hx.2
  clear h hp hs hz hd hx hx0 hx1
  go_enter Tryz.func69, Tryz.ntmps69
  go_wp2
  go_loopw [1, 2] (fun u v wr => ∃ (k L C : Nat) (A : Option Addr), k + L = L0 ∧ L ≤ C ∧ u = .int .u64 (x + k) ∧ v = .slice A L C ∧ (0 < L → A = some ⟨gd, off + k, none⟩) ∧ Only (fun i => i = gd) w wr ∧ HoldsU wr gd t n (readU f off m x k))
    (fun _ v _ => match v with | .slice _ n _ => n | _ => 0)
  case atStart => exact ⟨0, L0, c, _, by omega, hc, by rw [Int.natCast_zero, Int.add_zero], rfl, ha, Only.refl _ _, by rw [readU_zero]; exact HD.out⟩
  case round =>
    obtain ⟨k, L, C, A, hkL, hLC, rfl, rfl, hA, ho, hr⟩ := hrel
    by_cases h0 : 0 < L
    · obtain rfl := hA h0
      have x0 := HX0.out (by omega)
      have x1 := HX1.out (by omega)
      obtain ⟨q, r, hqr, hr4⟩ : ∃ (q : Int) (r : Nat), x + k = q * 4096 + r ∧ r < 4096 := ⟨(x + k) / 4096, ((x + k) % 4096).toNat, by omega, by omega⟩
      have hp := HP.out.keeps ho (fun i hi e => HG.out (e ▸ hi))
      obtain ⟨c0, c1, c2⟩ := ram_cells hp.row
      have HO := Lib.hid ho
      have HQR := Lib.hid hqr
      have HR := Lib.hid hr
      have HQ := Lib.hid hp
      have hx64 : x + k ≤ 9223372036854775808 := by omega
      have hxp : 0 ≤ x + k := by omega
      have hqi : In64 q := by unfold In64; omega
      have hxi : Hid (In64 (x + k)) := Lib.hid (by unfold In64; omega)
      have hl := hp.ok.map.look pgT hqi
      clear ho hqr hr hp hA hqi
      obtain ⟨n4, hn4⟩ : ∃ n4 : Nat, r + n4 = 4096 := ⟨4096 - r, by omega⟩
      have e4 : (4096 : Int) - r = n4 := by omega
      obtain ⟨d, hd1, hd2, hd3, emin⟩ : ∃ d : Nat, 0 < d ∧ d ≤ L ∧ d ≤ n4 ∧ min (L : Int) (n4 : Int) = d := by
        by_cases hlt : n4 < L
        · exact ⟨n4, by omega, by omega, by omega, by omega⟩
        · exact ⟨L, by omega, by omega, by omega, by omega⟩
      have hdC : d ≤ C := by omega
      have ex : x + k + d ≤ 9223372036854775808 := by omega
      cases hpg : pg q with
      | none =>
        rw [hpg] at hl
        simp only [ptrTo] at hl
        have HN : Hid (HoldsU wr gd t n (readU f off m x (k + d))) := by
          rw [readU_skip (fun j h1 h2 => HZ.out j h1 (by omega)) (fun j hj => by
            have := HQ.out.ok.gone q hpg (r + j) (by omega)
            rw [HQR.out, show q * 4096 + (r : Int) + (j : Int) = q * 4096 + ((r + j : Nat) : Int) by omega]
            exact this)]
          exact Lib.hid HR.out
        clear hpg
        by_cases hcap : C = d
        · go_wp2_with (first
            | (go_at_call 115; refine (place_at (x + k) q r HQR.out hr4 hxi.out _).mono ?_; rintro e w2 ⟨rfl, rfl⟩))
          go_roundw
          case rel => exact ⟨k + d, L - d, C - d, some ⟨gd, off + k, none⟩, by omega, by omega, by rw [Int.natCast_add, Int.add_assoc], by rw [hcap, Nat.sub_self], fun h => absurd h (by omega), HO.out, HN.out⟩
          case measure => simp; omega
        · go_wp2_with (first
            | (go_at_call 115; refine (place_at (x + k) q r HQR.out hr4 hxi.out _).mono ?_; rintro e w2 ⟨rfl, rfl⟩))
          go_roundw
          case rel => exact ⟨k + d, L - d, C - d, some ⟨gd, off + k + d, none⟩, by omega, by omega, by rw [Int.natCast_add, Int.add_assoc], rfl, fun h => by rw [Nat.add_assoc], HO.out, HN.out⟩
          case measure => simp; omega
      | some g =>
        rw [hpg] at hl
        simp only [ptrTo] at hl
        have HPG := Lib.hid (HQ.out.ok.page q g hpg).1
        have HSL := fun w => run_slice_from (w := w) Tryz.underlying138 (Tryz.sizeOf5 w) g r hr4
        clear hpg
        have HXL : Hid ((bytesL m (x + k) d).length = Nat.min (4096 - r) d) := Lib.hid (by rw [bytesL_len]; show d = min (4096 - r) d; omega)
        have HSRC : Hid (∀ j, j < (bytesL m (x + k) d).length → wr.drew.cell? ((⟨g, r, none⟩ : Addr).add j) = some (.int .u8 ((bytesL m (x + k) d).getD j 0))) := by
          refine Lib.hid fun j hj => ?_
          rw [bytesL_len] at hj
          rw [add_none, bytesL_get _ _ _ _ hj, HQR.out]
          have := HoldsU.cell (show HoldsU wr.drew g 138 4096 (fun i => m (q * 4096 + i)) from HPG.out) (j := r + j) (by omega)
          rw [show q * 4096 + (r : Int) + (j : Int) = q * 4096 + ((r + j : Nat) : Int) by omega]
          exact this
        have HRD : Hid (HoldsU wr.drew gd t n (readU f off m x k)) := Lib.hid HR.out
        have HFIT : Hid (off + k + (bytesL m (x + k) d).length ≤ n) := Lib.hid (by rw [bytesL_len]; omega)
        have HN : Hid (HoldsU (wr.drew.setRow gd (uarr n (overU (readU f off m x k) (off + k) (bytesL m (x + k) d)))) gd t n (readU f off m x (k + d))) := by
          have := HoldsU.setRow HRD.out (overU (readU f off m x k) (off + k) (bytesL m (x + k) d))
          rw [readU_step] at this ⊢
          exact Lib.hid this
        have HO2 : Hid (Only (fun i => i = gd) w (wr.drew.setRow gd (uarr n (overU (readU f off m x k) (off + k) (bytesL m (x + k) d))))) := Lib.hid ((HO.out.drewN 1).setRow (.inl rfl) _)
        go_wp2_with (first
          | (go_at_call 115; refine (place_at (x + k) q r HQR.out hr4 hxi.out _).mono ?_; rintro e w2 ⟨rfl, rfl⟩))
        go_still_tail 7, (by kernel_rfl)
        change wpList _ _ _ _ _ wr.drew
        refine wpList_copy_u rfl (.tmp 33) (.tmp 37) 40 40 rfl 5 Tryz.underlying40 size_u8 gd (off + k) d C ⟨g, r, none⟩ (4096 - r) (4096 - r) rfl rfl n (readU f off m x k) t HRD.out (bytesL m (x + k) d) HXL.out HSRC.out HFIT.out ?_
        clear HSRC HRD HXL HFIT
        generalize wr.drew.setRow gd (uarr n (overU (readU f off m x k) (off + k) (bytesL m (x + k) d))) = w9 at *
        generalize (bytesL m (x + k) d).length = nl
        by_cases hcap : C = d
        · go_wp2
          go_roundw
          case rel => exact ⟨k + d, L - d, C - d, some ⟨gd, off + k, none⟩, by omega, by omega, by rw [Int.natCast_add, Int.add_assoc], by rw [hcap, Nat.sub_self], fun h => absurd h (by omega), HO2.out, HN.out⟩
          case measure => simp; omega
        · go_wp2
          go_roundw
          case rel => exact ⟨k + d, L - d, C - d, some ⟨gd, off + k + d, none⟩, by omega, by omega, by rw [Int.natCast_add, Int.add_assoc], rfl, fun h => by rw [Nat.add_assoc], HO2.out, HN.out⟩
          case measure => simp; omega
    · obtain rfl : L = 0 := by omega
      obtain rfl : k = L0 := by omega
      have HO := Lib.hid ho
      have HR := Lib.hid hr
      clear ho hr
      go_wp2
      go_end0
      exact ⟨⟨_, rfl⟩, HO.out, HR.out⟩

end Go.Proofs.YtbcnkhfpogglmaaGreatDoor.M3

namespace Go.Proofs.YtbcnkhfpogglmaaGreatDoor.M3
open Go.RowKit Go.Maps
set_option linter.unusedVariables false
set_option maxRecDepth 100000

theorem okN_cases {n : Int} (h : okN n = true) : ∃ N : Nat, n = N ∧ 0 < N ∧ N ≤ 8 := by
  unfold okN at h
  rw [decide_eq_true_eq] at h
  exact ⟨n.toNat, by omega, by omega, by omega⟩
theorem hasZ_in {base size x : Int} {N : Nat} (h : hasZ base size x N = true) (hN : 0 < N) : base ≤ x ∧ x + N ≤ base + size := by
  unfold hasZ at h
  rw [decide_eq_true_eq] at h
  omega

/-- m between x and x + N, 0 elsewhere. -/
def cutM (m : Int → Int) (x : Int) (N : Nat) (y : Int) : Int := if x ≤ y ∧ y < x + N then m y else 0
theorem cutM_bytey {m : Int → Int} (h : Bytey m) (x : Int) (N : Nat) : Bytey (cutM m x N) := by
  intro y; unfold cutM; split
  · exact h y
  · omega
theorem cutM_read (m : Int → Int) (x : Int) {N : Nat} (h : N ≤ 8) : rdN (cutM m x N) x 8 = rdN m x N := by
  obtain ⟨d, hd⟩ : ∃ d, 8 = N + d := ⟨8 - N, by omega⟩
  rw [hd, rdN_zeros fun i h1 h2 => by unfold cutM; rw [if_neg (by omega)]]
  exact rdN_congr fun y h1 h2 => by unfold cutM; rw [if_pos ⟨h1, h2⟩]
theorem cutM_readU (m : Int → Int) (x : Int) (N : Nat) : readU (fun _ => 0) 0 m x N = fun i : Nat => cutM m x N (x + (i : Int)) := by
  funext j
  unfold readU cutM
  by_cases c : j < N
  · rw [if_pos ⟨by omega, by omega⟩, if_pos (by omega)]; congr 1
  · rw [if_neg (by omega), if_neg (by omega)]

set_option maxRecDepth 100000 in
set_option maxHeartbeats 2000000 in
theorem progRead_any {w : World} {b : Nat} {S : Nat → Prop} {base size : Int} {m : Int → Int} (x n : Int) (h : ProgMem w b S base size m) (hf : Fits base size) (hx : In64 x) (hn : In63 n) :
    Calls Tryz.prog 25 #[.pointer (some ⟨b, 0, none⟩), .int .u64 x, .int .i64 n] w (ReadEnd w (readV base size m x n)) := by
  have HP := Lib.hid h
  have HF := Lib.hid hf
  have HX := Lib.hid hx
  have HN := Lib.hid hn
  clear h hf hx hn
  cases hk : okN n
  · have H := Lib.hid hk
    have HE : Hid (readV base size m x n = (0, false)) := Lib.hid (by unfold readV; rw [hk]; rfl)
    clear hk
    rw [HE.out]
    go_enter Tryz.func25, Tryz.ntmps25
    go_wp2_with (go_at_call 68; refine (isLength_any _ _).mono ?_; rintro e w' ⟨rfl, rfl⟩; rw [H.out])
    go_ret2
    exact ⟨rfl, Below.refl _ _⟩
  · cases hz : hasZ base size x n
    · have H := Lib.hid hk
      have HZ := Lib.hid hz
      have HE : Hid (readV base size m x n = (0, false)) := Lib.hid (by unfold readV; rw [hk, hz]; rfl)
      clear hk hz
      rw [HE.out]
      go_enter Tryz.func25, Tryz.ntmps25
      go_wp2_with (first
        | (go_at_call 68; refine (isLength_any _ _).mono ?_; rintro e w' ⟨rfl, rfl⟩; rw [H.out])
        | (go_at_call 36; refine (progHas_any _ _ HP.out HF.out HX.out HN.out).mono ?_; rintro e w' ⟨rfl, rfl⟩; rw [HZ.out]))
      go_ret2
      exact ⟨rfl, Below.refl _ _⟩
    · obtain ⟨N, rfl, hN0, hN8⟩ := okN_cases hk
      have HI := Lib.hid (hasZ_in hz hN0)
      have H := Lib.hid hk
      have HZ := Lib.hid hz
      have HE : Hid (readV base size m x N = (rdN m x N, true)) := Lib.hid (by unfold readV; rw [hk, hz]; rfl)
      clear hk hz
      rw [HE.out]
      have HSL := fun w' => run_slice_upto (w := w') Tryz.underlying114 (Tryz.sizeOf5 w') w.heap.size N hN8 (by omega)
      have hb1 : Below w.heap.size w (w.alloc (.cells #[.int .u8 0, .int .u8 0, .int .u8 0, .int .u8 0, .int .u8 0, .int .u8 0, .int .u8 0, .int .u8 0] 114)) := (Below.refl _ _).alloc (Nat.le_refl _) _
      have hu : HoldsU (w.alloc (.cells #[.int .u8 0, .int .u8 0, .int .u8 0, .int .u8 0, .int .u8 0, .int .u8 0, .int .u8 0, .int .u8 0] 114)) w.heap.size 114 8 (fun _ => 0) := heap_alloc_new w _
      have HU := Lib.hid hu
      have HB1 := Lib.hid hb1
      have HP1 := Lib.hid (HP.out.keeps (Only.of_below (fun _ => False) hb1) (fun _ _ => id))
      have HG : Hid (¬ S w.heap.size) := Lib.hid (fun hs => by obtain ⟨mb, pg, hp⟩ := HP.out.parts; have := hp.ok.lt _ hs; omega)
      clear hu hb1
      go_enter Tryz.func25, Tryz.ntmps25
      go_wp2_with (first
        | (go_at_call 68; refine (isLength_any _ _).mono ?_; rintro e w' ⟨rfl, rfl⟩; rw [H.out])
        | (go_at_call 36; refine (progHas_any _ _ HP.out HF.out HX.out HN.out).mono ?_; rintro e w' ⟨rfl, rfl⟩; rw [HZ.out]))
      refine (load_some (off := 0) x HP1.out HF.out (fun _ => HI.out.1) (fun _ => HI.out.2) HX.out HU.out (fun _ => rfl) (by omega) (by omega) (by omega) (fun _ _ _ => rfl) HG.out).mono ?_
      rintro e w2 ⟨⟨u, rfl⟩, ho, hr⟩
      rw [cutM_readU] at hr
      have HR := Lib.hid hr
      have HO := Lib.hid (HB1.out.trans (ho.below (B := w.heap.size) (by rintro k rfl; exact Nat.le_refl _) HB1.out.size))
      have HBY : Hid (Bytey (cutM m x N)) := Lib.hid (cutM_bytey (by obtain ⟨mb, pg, hp⟩ := HP.out.parts; exact hp.bytey) x N)
      have HRD := Lib.hid (cutM_read m x hN8)
      clear ho hr
      go_wp2_with (first
        | (refine wpList_load_u rfl _ _ rfl w.heap.size rfl 114 8 (fun i : Nat => cutM m x N (x + (i : Int))) 5 HR.out Tryz.underlying114 size8 ?_)
        | (go_at_call 70; refine (number_any (cutM m x N) x HBY.out _).mono ?_; rintro e w3 ⟨rfl, hb3⟩; rw [HRD.out]))
      go_ret2
      exact ⟨rfl, HO.out.trans (hb3.mono HO.out.size)⟩

end Go.Proofs.YtbcnkhfpogglmaaGreatDoor.M3

namespace Go.Proofs.YtbcnkhfpogglmaaGreatDoor.M3
open Go.RowKit Go.Maps
set_option linter.unusedVariables false
set_option maxRecDepth 100000

/-- The first N bytes of a word. -/
def leL (v : Int) (N : Nat) : List Int := (List.range N).map (leB v)
theorem leL_len (v : Int) (N : Nat) : (leL v N).length = N := by unfold leL; simp
theorem leL_get (v : Int) {N i : Nat} (h : i < N) : (leL v N).getD i 0 = leB v i := by unfold leL; simp [List.getD, h]
theorem leL_bytes (v : Int) (N : Nat) : Bytes255 (leL v N) := fun i hi => by
  rw [leL_len] at hi; rw [leL_get v hi]; exact leB_in v i
theorem putF_leL (m : Int → Int) (x v : Int) (N : Nat) : putF m x (leL v N) = wrN m x v N := by
  funext y
  rw [putF_eq, leL_len]
  by_cases c : x ≤ y ∧ y < x + N
  · rw [if_pos c, leL_get v (by omega)]
    have := wrN_at (m := m) (x := x) (v := v) (c := N) (i := (y - x).toNat) (by omega)
    rw [show x + ((y - x).toNat : Int) = y by omega] at this
    rw [this]; rfl
  · rw [if_neg c, wrN_out (by omega)]

/-- What Write and Put leave, out of what store leaves. -/
theorem prog_end {w w1 w2 : World} {b : Nat} {S : Nat → Prop} {base size : Int} {m : Int → Int} {e : Ending} (hb : Below w.heap.size w w1) (h : StoreEnd w1 b S base size m e w2) : ProgEnd ProgMem w b S base size m true (.returned (.bool true)) w2 := by
  obtain ⟨_, ho, S', hS, hM⟩ := h
  refine ⟨rfl, (Only.of_below S hb).trans ho, S', fun k hk => ?_, hM⟩
  rcases hS k hk with h1 | h1
  · exact .inl h1
  · exact .inr (Nat.le_trans hb.size h1)
theorem prog_no {w w1 : World} {b : Nat} {S : Nat → Prop} {base size : Int} {m : Int → Int} (h : ProgMem w b S base size m) (hb : Below w.heap.size w w1) : ProgEnd ProgMem w b S base size m false (.returned (.bool false)) w1 :=
  ⟨rfl, Only.of_below S hb, S, fun k hk => .inl hk, h.keeps (Only.of_below (fun _ => False) hb) (fun _ _ => id)⟩

set_option maxRecDepth 100000 in
set_option maxHeartbeats 2000000 in
theorem progWrite_any {w : World} {b : Nat} {S : Nat → Prop} {base size : Int} {m : Int → Int} (x n v : Int) (h : ProgMem w b S base size m) (hf : Fits base size) (hx : In64 x) (hn : In63 n) (hv : In64 v) :
    Calls Tryz.prog 26 #[.pointer (some ⟨b, 0, none⟩), .int .u64 x, .int .i64 n, .int .u64 v] w (ProgEnd ProgMem w b S base size (writeM base size m x n v) (okN n && hasZ base size x n)) := by
  have HP := Lib.hid h
  have HF := Lib.hid hf
  have HX := Lib.hid hx
  have HN := Lib.hid hn
  have HV := Lib.hid hv
  clear h hf hx hn hv
  cases hk : okN n
  · have H := Lib.hid hk
    have HE : Hid (writeM base size m x n v = m) := Lib.hid (by unfold writeM; rw [hk]; rfl)
    clear hk
    rw [HE.out, Bool.false_and]
    go_enter Tryz.func26, Tryz.ntmps26
    go_wp2_with (go_at_call 68; refine (isLength_any _ _).mono ?_; rintro e w' ⟨rfl, rfl⟩; rw [H.out])
    go_ret
    exact prog_no HP.out (Below.refl _ _)
  · rw [Bool.true_and]
    cases hz : hasZ base size x n
    · have H := Lib.hid hk
      have HZ := Lib.hid hz
      have HE : Hid (writeM base size m x n v = m) := Lib.hid (by unfold writeM; rw [hk, hz]; rfl)
      clear hk hz
      rw [HE.out]
      go_enter Tryz.func26, Tryz.ntmps26
      go_wp2_with (first
        | (go_at_call 68; refine (isLength_any _ _).mono ?_; rintro e w' ⟨rfl, rfl⟩; rw [H.out])
        | (go_at_call 36; refine (progHas_any _ _ HP.out HF.out HX.out HN.out).mono ?_; rintro e w' ⟨rfl, rfl⟩; rw [HZ.out]))
      go_ret
      exact prog_no HP.out (Below.refl _ _)
    · obtain ⟨N, rfl, hN0, hN8⟩ := okN_cases hk
      have HI := Lib.hid (hasZ_in hz hN0)
      have H := Lib.hid hk
      have HZ := Lib.hid hz
      have HE : Hid (writeM base size m x N v = wrN m x v N) := Lib.hid (by unfold writeM; rw [hk, hz]; rfl)
      clear hk hz
      rw [HE.out, ← putF_leL]
      go_enter Tryz.func26, Tryz.ntmps26
      go_wp2_with (first
        | (go_at_call 68; refine (isLength_any _ _).mono ?_; rintro e w' ⟨rfl, rfl⟩; rw [H.out])
        | (go_at_call 36; refine (progHas_any _ _ HP.out HF.out HX.out HN.out).mono ?_; rintro e w' ⟨rfl, rfl⟩; rw [HZ.out]))
      refine (littleEnd_any v HV.out _).mono ?_
      rintro e w1 ⟨rfl, hb1⟩
      have hb2 : Below w.heap.size w (w1.alloc (.cells #[.int .u8 0, .int .u8 0, .int .u8 0, .int .u8 0, .int .u8 0, .int .u8 0, .int .u8 0, .int .u8 0] 114)) := hb1.alloc hb1.size _
      have hu : HoldsU (w1.alloc (.cells #[.int .u8 0, .int .u8 0, .int .u8 0, .int .u8 0, .int .u8 0, .int .u8 0, .int .u8 0, .int .u8 0] 114)) w1.heap.size 114 8 (fun _ => 0) := heap_alloc_new w1 _
      have hsl := fun w' => run_slice_upto (w := w') Tryz.underlying114 (Tryz.sizeOf5 w') w1.heap.size N hN8 (by omega)
      have HU := Lib.hid hu
      have HU2 := Lib.hid (hu.setRow (leB v))
      have HB2 := Lib.hid (below_setRow hb2 hb1.size (uarr 8 (leB v)))
      have HSZ := Lib.hid hb1.size
      clear hu hb2 hb1
      go_wp2_with (refine wpList_store_row rfl _ _ _ rfl w1.heap.size _ rfl rfl 114 _ HU.out ?_ (by rw [uarr_size, uarr_size]) (uarr_one _ _) ?_; · exact size8.trans (by rw [uarr_size]))
      generalize ((w1.alloc (.cells #[.int .u8 0, .int .u8 0, .int .u8 0, .int .u8 0, .int .u8 0, .int .u8 0, .int .u8 0, .int .u8 0] 114)).setRow w1.heap.size (uarr 8 (leB v))) = w2 at *
      have HG : Hid (¬ S w1.heap.size) := Lib.hid (fun hs => by obtain ⟨mb, pg, hp⟩ := HP.out.parts; have := hp.ok.lt _ hs; have := HSZ.out; omega)
      have hr : ReadsIn .u8 w1.heap.size w2 (.slice (some ⟨w1.heap.size, 0, none⟩) (leL v N).length 8) (leL v N) := by
        refine ⟨_, _, rfl, by rw [leL_len]; unfold maxLen; omega, .inr ⟨0, rfl, HU2.out.lt, fun i hi => ?_⟩⟩
        rw [leL_len] at hi
        rw [leL_get v hi, Nat.zero_add]
        exact HU2.out.cell (by omega)
      have hcall := store_some x (leL v N) (HP.out.keeps (Only.of_below (fun _ => False) HB2.out) (fun _ _ => id)) HF.out HI.out.1 (by rw [leL_len]; exact HI.out.2) hr (by rw [leL_len]; exact hN8) (leL_bytes v N) HG.out
      rw [leL_len] at hcall
      refine hcall.mono ?_
      rintro e w3 hE
      obtain ⟨u, rfl⟩ := hE.1
      have HEND := Lib.hid (prog_end HB2.out hE)
      clear hE hr hcall
      go_wp2
      go_ret
      exact HEND.out

end Go.Proofs.YtbcnkhfpogglmaaGreatDoor.M3

namespace Go.Proofs.YtbcnkhfpogglmaaGreatDoor.M3
open Go.RowKit Go.Maps
set_option linter.unusedVariables false
set_option maxRecDepth 100000

theorem newProg_mem {w : World} {base size : Int} (h1 : base % 4096 = 0) (h2 : size % 4096 = 0) :
    ProgMem ((w.alloc (.map #[] 0)).alloc (.cells #[.int .u64 base, .int .u64 size, .map (some w.heap.size)] 125)) (w.heap.size + 1) (fun i => i = w.heap.size ∨ i = w.heap.size + 1) base size fun _ => 0 := by
  have hb : Below (w.alloc (.map #[] 0)).heap.size (w.alloc (.map #[] 0)) ((w.alloc (.map #[] 0)).alloc (.cells #[.int .u64 base, .int .u64 size, .map (some w.heap.size)] 125)) := (Below.refl _ _).alloc (Nat.le_refl _) _
  have hs : (w.alloc (.map #[] 0)).heap.size = w.heap.size + 1 := World.size_alloc _ _
  refine ⟨w.heap.size, fun _ => none, ?_, ⟨(PgMap.made Tryz.prog 26 w).keeps (Only.of_below (fun _ => False) hb) id, (by simp), (by simp), (by simp), .inr rfl, .inl rfl, (by omega), fun i hi => ?_⟩, fun y => ⟨Int.le_refl _, by show (0 : Int) ≤ 255; omega⟩, fun y hy => absurd rfl hy, h1, h2⟩
  · have := heap_alloc_new (w.alloc (.map #[] 0)) (.cells #[.int .u64 base, .int .u64 size, .map (some w.heap.size)] 125)
    rwa [hs] at this
  · rw [World.size_alloc, hs]; rcases hi with rfl | rfl <;> omega

set_option maxHeartbeats 1000000 in
theorem progNew_any (base size : Int) (w : World) (hb : In64 base) (hs : In64 size) :
    Calls Tryz.prog 28 #[.int .u64 base, .int .u64 size] w (ProgNew ProgMem w base size (newOk base size)) := by
  have hmm := @run_makeMap Tryz.prog
  have HB := Lib.hid hb
  have HS := Lib.hid hs
  have s0 := hs.1
  have b0 := hb.1
  have s1 := hs.2
  have b1 := hb.2
  clear hb hs
  have NO : ∀ (ww : World), newOk base size = false → Below w.heap.size w ww → ProgNew ProgMem w base size (newOk base size) (.returned (.tuple #[.pointer none, .int .i64 1])) ww := fun ww h hb => ⟨hb, .inl ⟨h, rfl⟩⟩
  have HNO := Lib.hid NO
  clear NO
  cases e1 : (base % 4096 == 0)
  · have HK : Hid (newOk base size = false) := Lib.hid (by unfold newOk; rw [decide_eq_false]; simp at e1; omega)
    have E1 := Lib.hid e1
    clear e1
    go_enter Tryz.func28, Tryz.ntmps28
    go_wp2_with (go_at_call 75; refine (isWhole_any base HB.out _).mono ?_; rintro e w' ⟨rfl, rfl⟩; rw [E1.out])
    go_ret2
    exact HNO.out _ HK.out (Below.refl _ _)
  cases e2 : (size % 4096 == 0)
  · have HK : Hid (newOk base size = false) := Lib.hid (by unfold newOk; rw [decide_eq_false]; simp at e2; omega)
    have E1 := Lib.hid e1
    have E2 := Lib.hid e2
    clear e1 e2
    go_enter Tryz.func28, Tryz.ntmps28
    go_wp2_with fail
    refine (isWhole_any base HB.out _).mono ?_
    rintro e w' ⟨rfl, rfl⟩
    rw [E1.out]
    go_wp2_with fail
    refine (isWhole_any size HS.out _).mono ?_
    rintro e w' ⟨rfl, rfl⟩
    rw [E2.out]
    go_wp2
    go_ret2
    exact HNO.out _ HK.out (Below.refl _ _)
  have E1 := Lib.hid e1
  have E2 := Lib.hid e2
  have F1 : base % 4096 = 0 := by simpa using e1
  have F2 : size % 4096 = 0 := by simpa using e2
  clear e1 e2
  by_cases c3 : size = 0
  · have HK : Hid (newOk base size = false) := Lib.hid (by unfold newOk; rw [decide_eq_false]; omega)
    subst c3
    clear F1 F2
    go_enter Tryz.func28, Tryz.ntmps28
    go_wp2_with fail
    refine (isWhole_any base HB.out _).mono ?_
    rintro e w' ⟨rfl, rfl⟩
    rw [E1.out]
    go_wp2_with fail
    refine (isWhole_any 0 HS.out _).mono ?_
    rintro e w' ⟨rfl, rfl⟩
    rw [E2.out]
    go_wp2
    go_ret2
    exact HNO.out _ HK.out (Below.refl _ _)
  have c3b : (size == 0) = false := by simpa using c3
  have F1 := Lib.hid F1
  have F2 := Lib.hid F2
  have F3 := Lib.hid c3
  clear c3
  by_cases c4 : size ≤ 67108864
  · have d1 : 0 ≤ 9223372036854775808 - size := by omega
    have d2 : 9223372036854775808 - size ≤ 18446744073709551615 := by omega
    by_cases c5 : base ≤ 9223372036854775808 - size
    · have HK : Hid (newOk base size = true) := Lib.hid (by unfold newOk; rw [decide_eq_true_eq]; have := F1.out; have := F2.out; have := F3.out; omega)
      have HEND := Lib.hid (newProg_mem (w := w) F1.out F2.out)
      clear F1 F2 F3
      go_enter Tryz.func28, Tryz.ntmps28
      go_wp2_with fail
      refine (isWhole_any base HB.out _).mono ?_
      rintro e w' ⟨rfl, rfl⟩
      rw [E1.out]
      go_wp2_with fail
      refine (isWhole_any size HS.out _).mono ?_
      rintro e w' ⟨rfl, rfl⟩
      rw [E2.out]
      go_wp2
      go_ret2
      exact ⟨((Below.refl _ _).alloc (Nat.le_refl _) _).alloc (by simp) _, .inr ⟨HK.out, w.heap.size + 1, _, rfl, by rintro i (rfl | rfl) <;> omega, HEND.out⟩⟩
    · have HK : Hid (newOk base size = false) := Lib.hid (by unfold newOk; rw [decide_eq_false]; omega)
      clear F1 F2 F3
      go_enter Tryz.func28, Tryz.ntmps28
      go_wp2_with fail
      refine (isWhole_any base HB.out _).mono ?_
      rintro e w' ⟨rfl, rfl⟩
      rw [E1.out]
      go_wp2_with fail
      refine (isWhole_any size HS.out _).mono ?_
      rintro e w' ⟨rfl, rfl⟩
      rw [E2.out]
      go_wp2
      go_ret2
      exact HNO.out _ HK.out (Below.refl _ _)
  · have HK : Hid (newOk base size = false) := Lib.hid (by unfold newOk; rw [decide_eq_false]; omega)
    clear F1 F2 F3
    go_enter Tryz.func28, Tryz.ntmps28
    go_wp2_with fail
    refine (isWhole_any base HB.out _).mono ?_
    rintro e w' ⟨rfl, rfl⟩
    rw [E1.out]
    go_wp2_with fail
    refine (isWhole_any size HS.out _).mono ?_
    rintro e w' ⟨rfl, rfl⟩
    rw [E2.out]
    go_wp2
    go_ret2
    exact HNO.out _ HK.out (Below.refl _ _)

end Go.Proofs.YtbcnkhfpogglmaaGreatDoor.M3

namespace Go.Proofs.YtbcnkhfpogglmaaGreatDoor.M3
open Go.RowKit Go.Maps
set_option linter.unusedVariables false
set_option maxRecDepth 100000

/-- m without the pages that are still to come. -/
def maskM (left : Lit → Bool) (m : Int → Int) (y : Int) : Int := if left (.int .u64 (y / 4096)) = true then 0 else m y

/-- What Twin leaves. -/
def ProgTwin (w : World) (base size : Int) (m : Int → Int) (e : Ending) (w' : World) : Prop :=
  Below w.heap.size w w' ∧ ∃ b' S', e = .returned (.pointer (some ⟨b', 0, none⟩)) ∧ (∀ i, S' i → w.heap.size ≤ i) ∧ ProgMem w' b' S' base size m

theorem PgOk.keeps {w w' : World} {b mb : Nat} {S T : Nat → Prop} {m : Int → Int} {pg : Int → Option Nat} (h : PgOk w b mb S m pg) (o : Only T w w') (hs : ∀ i, S i → ¬ T i) : PgOk w' b mb S m pg :=
  ⟨h.map.keeps o (hs _ h.smb), fun q g e => by
    obtain ⟨k1, k2, k3⟩ := h.page q g e
    exact ⟨o.keeps (hs _ k2) k1, k2, k3⟩, h.gone, h.inj, h.sb, h.smb, h.ne, fun i hi => Nat.lt_of_lt_of_le (h.lt i hi) o.size⟩

theorem sameKey_u64 (a b : Int) : (Lit.int .u64 a).sameKey (.int .u64 b) = (a == b) := by rw [Bool.eq_iff_iff]; simp [Lit.sameKey]
theorem maskM_page (left : Lit → Bool) (m : Int → Int) (x : Int) (k : Nat) (hk : k < 4096) : maskM (fun z => left z && !z.sameKey (.int .u64 x)) m (x * 4096 + k) = m (x * 4096 + k) := by
  unfold maskM
  rw [show (x * 4096 + (k : Int)) / 4096 = x by omega]
  simp [sameKey_u64]

/-- Between two rounds. -/
def Twinning (w wr : World) (mb r n : Nat) (D : DataW Unit) (bt mt : Nat) (base size : Int) (m : Int → Int) (left : Lit → Bool) (cnt : Nat) : Prop :=
  wr.ranges Tryz.prog 26 ptrElem mb r n D left cnt ∧ Below w.heap.size w wr ∧ wr.heap[bt]? = some (.cells #[.int .u64 base, .int .u64 size, .map (some mt)] 125 (0, 0)) ∧
  ∃ S' pt, PgOk wr bt mt S' (maskM left m) pt ∧ (∀ k, S' k → w.heap.size ≤ k) ∧ ¬ S' r

/-- What is read of an entry that has come. -/
theorem entry_is {D : DataW Unit} {pg : Int → Option Nat} (h2 : ∀ q, D.atKey (.int .u64 q) (encP none) = encP (pg q)) (h3 : ∀ kl, Maps.has D kl = true → ∃ q, In64 q ∧ kl = .int .u64 q ∧ pg q ≠ none)
    {x : Int} {c : Option Nat} {kl : Lit} {y : DataW Unit × List MemPlace} (hkey : keyOf Tryz.prog 26 (.int .u64 x) = some kl) (hv : ptrElem (ptrTo c) = some y) (hat : ∀ zd, D.atKey kl zd = y.1) :
    In64 x ∧ kl = .int .u64 x ∧ ∃ g, c = some g ∧ pg x = some g := by
  obtain ⟨x', e1, rfl, hw⟩ := Maps.keyOf_int_inv Tryz.underlying26 hkey
  injection e1 with _ e1
  subst e1
  rw [ptrElem_to] at hv
  cases hv
  have e2 : pg x = c := encP_inj ((h2 x).symm.trans (hat _))
  obtain ⟨q, _, e3, e4⟩ := h3 _ (Maps.has_true_of_atKey hat)
  injection e3 with _ e3
  subst e3
  refine ⟨wf_u64_in hw, rfl, ?_⟩
  cases c with
  | none => exact absurd e2 e4
  | some g => exact ⟨g, rfl, e2⟩

theorem mask_start {w : World} {b mb : Nat} {S : Nat → Prop} {base size : Int} {m : Int → Int} {pg : Int → Option Nat} (hp : Parts w b mb S base size m pg) {D : DataW Unit} (h2 : ∀ q, D.atKey (.int .u64 q) (encP none) = encP (pg q)) (y : Int) : (0 : Int) = maskM (Maps.has D) m y := by
  unfold maskM
  cases e : Maps.has D (.int .u64 (y / 4096)) with
  | true => rw [if_pos rfl]
  | false =>
    have := Maps.atKey_of_not_has (H := Unit) (D := D) e (encP none)
    rw [h2] at this
    have h0 := hp.ok.gone _ (encP_inj this) (y % 4096).toNat (by omega)
    rw [show y / 4096 * 4096 + ((y % 4096).toNat : Int) = y by omega] at h0
    rw [h0]; rfl

/-- A page has been copied. -/
theorem Twinning.next {w w1 w4 : World} {b mb r n bt mt : Nat} {S : Nat → Prop} {base size : Int} {m : Int → Int} {pg : Int → Option Nat} {D : DataW Unit} {left : Lit → Bool} {cnt1 g0 : Nat} {x : Int} {S' : Nat → Prop} {pt : Int → Option Nat}
    (hp : Parts w1 b mb S base size m pg) (hok : PgOk w1 bt mt S' (maskM left m) pt) (hS : ∀ k, S' k → w.heap.size ≤ k) (hr : ¬ S' r) (hb1 : Below w.heap.size w w1) (hlk : left (.int .u64 x) = true) (e : pg x = some g0)
    (o4 : Only (fun k => k = mt) w1 w4) (hmap : PgMap Tryz.prog 26 w4 mt fun y => if y = x then some w1.heap.size else pt y) (hpage : PageAt w4 w1.heap.size m x)
    (hbt : w1.heap[bt]? = some (.cells #[.int .u64 base, .int .u64 size, .map (some mt)] 125 (0, 0))) (hrl : r < w1.heap.size) (hmb : mb < w.heap.size)
    (hrg : w1.ranges Tryz.prog 26 ptrElem mb r n D (fun z => left z && !z.sameKey (.int .u64 x)) cnt1) :
    Twinning w w4 mb r n D bt mt base size m (fun z => left z && !z.sameKey (.int .u64 x)) cnt1 := by
  have hmt : mt ≠ mb := by have := hS _ hok.smb; omega
  have hmr : mt ≠ r := fun h => hr (h ▸ hok.smb)
  have hg4 : w1.grownBy w4 (some mt) := ⟨o4.os, o4.tape, o4.output, o4.size, fun i hi hn => o4.block i hi (fun h => hn (by rw [h]))⟩
  refine ⟨hrg.kept hg4 (by simpa using hmt.symm) (by simpa using hmr.symm), hb1.trans (o4.below (by rintro k rfl; exact hS _ hok.smb) hb1.size), o4.keeps (fun h => hok.ne h.symm) hbt, _, _, PgOk.laid hok ?_ o4 (Nat.le_refl _) hmap (PageAt.congr hpage fun k hk => ?_) ?_ (fun y hy => ?_), ?_, ?_⟩
  · cases e2 : pt x with
    | none => rfl
    | some g =>
      obtain ⟨_, _, _, _, k, hk, hne⟩ := hok.page x g e2
      refine absurd ?_ hne
      unfold maskM
      rw [show (x * 4096 + (k : Int)) / 4096 = x by omega, if_pos hlk]
  · exact (maskM_page left m x k hk).symm
  · obtain ⟨_, _, _, _, k, hk, hne⟩ := hp.ok.page x g0 e
    exact ⟨k, hk, by rw [maskM_page left m x k hk]; exact hne⟩
  · unfold maskM
    have : (y / 4096 == x) = false := by rw [beq_eq_false_iff_ne]; omega
    simp only [sameKey_u64, this, Bool.not_false, Bool.and_true]
  · rintro k (hk | rfl)
    · exact hS k hk
    · exact hb1.size
  · rintro (hk | hk)
    · exact hr hk
    · omega

theorem PgMap.len {P : Program} {t k e : TypeId} {w : World} {mb : Nat} {pg : Int → Option Nat} (h : PgMap P k w mb pg) (T : PgT P t k e) : ∃ sz : Nat, ∀ (w' : World) ty, w'.heap[mb]? = w.heap[mb]? → (Builtin.len_ #[t] ty #[.map (some mb)]).run P w' = .ok (.int .i64 sz) w' := by
  obtain ⟨n, D, ⟨es, clock, hb, r⟩, _⟩ := h
  exact ⟨_, fun w' ty e => World.ownsMap.len (w := w') ⟨es, clock, by rw [e]; exact hb, r⟩ T.ht ty⟩

set_option maxRecDepth 100000 in
set_option maxHeartbeats 4000000 in
theorem progTwin_any {w : World} {b : Nat} {S : Nat → Prop} {base size : Int} {m : Int → Int} (h : ProgMem w b S base size m) (hf : Fits base size) :
    Calls Tryz.prog 47 #[.pointer (some ⟨b, 0, none⟩)] w (ProgTwin w base size m) := by
  obtain ⟨mb, pg, hp⟩ := h.parts
  obtain ⟨c0, c1, c2⟩ := ram_cells hp.row
  obtain ⟨sz, hlen⟩ := hp.ok.map.len pgT
  have hmk : ∀ w, (Instr.makeMap 122 (some (.int .i64 sz))).run Tryz.prog w = .ok (.map (some w.heap.size)) (w.alloc (.map #[] 0)) := fun w => by
    simp [Instr.makeMap, run_underlying Tryz.underlying122, asInt, asIntOf, newObj, Result.andThen]
    rfl
  have HL := Lib.hid hlen
  have hmbl : mb < w.heap.size := hp.ok.lt mb hp.ok.smb
  have hL0 : (Builtin.len_ #[122] 3 #[.map (some mb)]).run Tryz.prog w.drew = .ok (.int .i64 sz) w.drew := hlen _ _ rfl
  have hL1 : ∀ o, (Builtin.len_ #[122] 3 #[.map (some mb)]).run Tryz.prog (w.alloc o).drew = .ok (.int .i64 sz) (w.alloc o).drew := fun o => hlen _ _ (Below.heap_alloc w o mb hmbl)
  have hL2 : ∀ o o', (Builtin.len_ #[122] 3 #[.map (some mb)]).run Tryz.prog ((w.alloc o).alloc o').drew = .ok (.int .i64 sz) ((w.alloc o).alloc o').drew := fun o o' => hlen _ _ ((Below.heap_alloc _ o' mb (by simp; omega)).trans (Below.heap_alloc w o mb hmbl))
  clear hmbl
  have HP := Lib.hid hp
  have HF := Lib.hid hf
  clear h hp hf hlen
  go_enter Tryz.func47, Tryz.ntmps47
  go_wp2_with fail
  go_region_held3 (fun w' => w'.cell? ⟨b, 0, none⟩ = some (.int .u64 base) ∧ w'.cell? ⟨b, 1, none⟩ = some (.int .u64 size) ∧ w'.cell? ⟨b, 2, none⟩ = some (.map (some mb)) ∧ (Builtin.len_ #[122] 3 #[.map (some mb)]).run Tryz.prog w' = .ok (.int .i64 sz) w')
    (go_keep)
    (fail)
  rename (_ ∧ _ ∧ _ ∧ _) => hheld
  clear hheld hL0 hL1 hL2 HL hmk c0 c1 c2
  have hb3 : Below w.heap.size w (((w.alloc (.map #[] 0)).alloc (.cells #[.int .u64 base, .int .u64 size, .map (some w.heap.size)] 125)).drew) := (((Below.refl _ _).alloc (Nat.le_refl _) _).alloc (by simp) _).drew
  obtain ⟨mb', pt0, hrow3, hok3, hrest3⟩ : ProgMem (((w.alloc (.map #[] 0)).alloc (.cells #[.int .u64 base, .int .u64 size, .map (some w.heap.size)] 125)).drew) (w.heap.size + 1) (fun i => i = w.heap.size ∨ i = w.heap.size + 1) base size (fun _ => 0) := (newProg_mem (w := w) HP.out.al1 HP.out.al2).keeps (Only.refl (fun _ => False) _ |>.drewN 1) (fun _ _ => id)
  generalize (((w.alloc (.map #[] 0)).alloc (.cells #[.int .u64 base, .int .u64 size, .map (some w.heap.size)] 125)).drew) = w3 at *
  have hp3 := HP.out.below hb3
  obtain ⟨c0, c1, c2⟩ := ram_cells hp3.row
  obtain ⟨n, D, hown, h2, h3⟩ := hp3.ok.map
  have HB3 := Lib.hid hb3
  have HROW := Lib.hid hrow3
  have HOK := Lib.hid hok3
  have HP3 := Lib.hid hp3
  have H2 := Lib.hid h2
  have H3 := Lib.hid h3
  clear hb3 hrow3 hok3 hp3 h2 h3 hrest3
  go_wp2_with (at_range; refine wpList_range_own _ rfl _ 122 rfl 26 123 (int_keyed Tryz.underlying26) Tryz.underlying122 ptrElem mb n D rfl hown ?_; intro w0 hrg0 hg0 hs0)
  try go_frame
  have hstart : Twinning w w0 mb w3.heap.size n D (w.heap.size + 1) mb' base size m (Maps.has D) (Maps.size D) := by
    have hsz := HB3.out.size
    have ob : Only (fun _ => False) w3 w0 := ⟨hg0.os, hg0.tape, hg0.output, hg0.size, fun i hi _ => hg0.block i hi (by simp)⟩
    refine ⟨hrg0, HB3.out.trans (ob.below (fun _ h => h.elim) hsz), ob.keeps id HROW.out, _, pt0, (PgOk.keeps HOK.out ob (fun _ _ => id)).congr fun y => mask_start HP3.out H2.out y, ?_, ?_⟩
    · rintro k (rfl | rfl) <;> omega
    · intro hk
      have := HOK.out.lt _ hk
      omega
  have HST := Lib.hid hstart
  clear hstart hrg0 hg0 hs0
  go_loopw [4] (fun _ wr => ∃ left cnt, Twinning w wr mb w3.heap.size n D (w.heap.size + 1) mb' base size m left cnt) (fun _ wr => wr.rangeLeft mb w3.heap.size)
  case atStart => exact ⟨_, _, HST.out⟩
  case round =>
    obtain ⟨left, cnt, hrg, hbel, hbt, S', pt, hok, hS', hr'⟩ := hrel
    have HBT := Lib.hid hbt
    have HBEL := Lib.hid hbel
    have HOK1 := Lib.hid hok
    have HS1 := Lib.hid hS'
    have HR1 := Lib.hid hr'
    clear hbt hbel hok hS' hr'
    go_wp2_with (at_next; refine wpList_next_ranges _ rfl _ rfl 26 (int_keyed Tryz.underlying26) ptrElem (Value.int .u64) ptrTo (fun key kl hk => (by obtain ⟨x, hx, _⟩ := Maps.keyOf_int_inv Tryz.underlying26 hk; exact ⟨x, hx⟩)) (fun v y hv => (by obtain ⟨o, ho, _⟩ := ptrElem_inv hv; exact ⟨o, ho⟩)) mb w3.heap.size n D left cnt rfl hrg ?_ ?_)
    · intro h0 hl0
      have hm : maskM left m = m := by funext y; unfold maskM; rw [hl0]; rfl
      have HEND : Hid (ProgTwin w base size m (.returned (.pointer (some ⟨w.heap.size + 1, 0, none⟩))) wr) := by
        have hok := HOK1.out
        rw [hm] at hok
        exact Lib.hid ⟨HBEL.out, _, S', rfl, HS1.out, mb', pt, HBT.out, hok, HP.out.bytey, HP.out.sup, HP.out.al1, HP.out.al2⟩
      clear h0 hl0 hm hrg
      go_wp2
      go_ret
      exact HEND.out
    · intro x c kl yd yp w1 cnt1 hkey hlk hv hat hrg1 hlt hg1 hs1 hen
      obtain ⟨hx64, rfl, g0, rfl, epg⟩ := entry_is H2.out H3.out hkey hv hat
      simp only [ptrTo] at hen ⊢
      have ob1 : Only (fun k => k = w3.heap.size) wr w1 := ⟨hg1.os, hg1.tape, hg1.output, hg1.size, fun i hi hn => hg1.block i hi (fun h => hn (by injection h))⟩
      have hsz3 := HB3.out.size
      have hb1 : Below w.heap.size w w1 := HBEL.out.trans (ob1.below (by rintro k rfl; exact hsz3) HBEL.out.size)
      have hp1 := HP.out.below hb1
      have hpage : HoldsU w1 g0 138 4096 (fun k => m (x * 4096 + k)) := (hp1.ok.page x g0 epg).1
      have hok1 := HOK1.out.keeps ob1 (fun i hi h => HR1.out (h ▸ hi))
      have hbt1 := ob1.keeps (fun h => HR1.out (h ▸ HOK1.out.sb)) HBT.out
      have hnewb : HoldsU (w1.alloc (.cells Tryz.zeroCells138 138)) w1.heap.size 138 4096 (fun _ => 0) := by
        show _ = _
        rw [heap_alloc_new, zero4096]
      have hb2 : Below w1.heap.size w1 (w1.alloc (.cells Tryz.zeroCells138 138)) := (Below.refl _ _).alloc (Nat.le_refl _) _
      have hrow2 := hnewb.setRow (fun k => m (x * 4096 + k))
      have hb2' : Below w1.heap.size w1 ((w1.alloc (.cells Tryz.zeroCells138 138)).setRow w1.heap.size (uarr 4096 fun k => m (x * 4096 + k))) := below_setRow hb2 (Nat.le_refl _) _
      have ho2 := Only.of_below (fun _ => False) hb2'
      have hbt2 := ho2.keeps id hbt1
      obtain ⟨e0, e1, e2⟩ := ram_cells hbt2
      have hok2 := hok1.keeps ho2 (fun _ _ => id)
      have hNp : ∀ q, pt q ≠ none → base / 4096 ≤ q ∧ q < base / 4096 + (16384 : Nat) := pages_in hok1 HF.out (fun y hy => HP.out.sup y (fun h0 => hy (by unfold maskM; split <;> first | rfl | exact h0))) HP.out.al1 HP.out.al2
      obtain ⟨w4, hput, hmap4, hturn⟩ := hok2.map.put pgT hNp (by unfold maxLen; omega) hx64 w1.heap.size
      have HNB := Lib.hid hnewb
      have HPG := Lib.hid hpage
      have HNX : Hid (Twinning w w4 mb w3.heap.size n D (w.heap.size + 1) mb' base size m (fun z => left z && !z.sameKey (.int .u64 x)) cnt1) := by
        have o4 := mapTurned_only (S := fun k => k = mb') hturn rfl
        have hlt1 : w1.heap.size ≠ mb' := by have := hok1.lt _ hok1.smb; omega
        refine Lib.hid (Twinning.next hp1 hok1 HS1.out HR1.out hb1 hlk epg ((Only.of_below (fun k => k = mb') hb2').trans o4) hmap4 ?_ hbt1 ?_ ?_ hrg1)
        · exact HoldsU.keeps hrow2 o4 hlt1
        · have := hrg.lt; have := hg1.size; omega
        · exact HP.out.ok.lt _ HP.out.ok.smb
      have HLT := Lib.hid hlt
      have HLE := Lib.hid hrg.left_eq
      clear hkey hlk hv hat hrg1 hlt hg1 hs1 ob1 hsz3 hb1 hp1 hpage hok1 hbt1 hnewb hb2 hrow2 hb2' ho2 hbt2 hok2 hNp hmap4 hturn hrg epg
      go_wp2_with (first
        | (refine wpList_load_u rfl _ _ rfl g0 rfl 138 4096 (fun k => m (x * 4096 + k)) 5 HPG.out Tryz.underlying138 size4096 ?_)
        | (refine wpList_store_row rfl _ _ _ rfl w1.heap.size _ rfl rfl 138 _ HNB.out ?_ (by rw [uarr_size, uarr_size]) (uarr_one _ _) ?_; · exact size4096.trans (by rw [uarr_size])))
      refine ⟨⟨_, _, HNX.out⟩, ?_⟩
      rw [HNX.out.1.left_eq, HLE.out]
      exact HLT.out

end Go.Proofs.YtbcnkhfpogglmaaGreatDoor.M3

namespace Go.Proofs.YtbcnkhfpogglmaaGreatDoor.M3
open Go.RowKit Go.Maps Go.Sort Go.Shelf
set_option linter.unusedVariables false
set_option maxRecDepth 100000

/-- What has come so far: no number twice; those of the map that are no longer to come. -/
def CollU (D : DataW Unit) (left : Lit → Bool) (ss : List Int) : Prop := ss.Nodup ∧ ∀ x, x ∈ ss ↔ Maps.has D (.int .u64 x) = true ∧ left (.int .u64 x) = false
theorem CollU.step {D : DataW Unit} {left : Lit → Bool} {ss : List Int} (h : CollU D left ss) {x : Int} (hh : Maps.has D (.int .u64 x) = true) (hl : left (.int .u64 x) = true) : CollU D (fun z => left z && !z.sameKey (.int .u64 x)) (ss ++ [x]) := by
  have hn : x ∉ ss := fun hx => by have := ((h.2 x).1 hx).2; rw [hl] at this; cases this
  refine ⟨List.nodup_append.2 ⟨h.1, by simp, fun a ha b hb => ?_⟩, fun y => ?_⟩
  · simp only [List.mem_singleton] at hb
    subst hb
    exact fun e => hn (e ▸ ha)
  · by_cases c : y = x
    · subst c; simp [hh, sameKey_u64]
    · have e : (y == x) = false := by simpa using c
      simp [h.2 y, sameKey_u64, e, c]
/-- All numbers of the map, each once. -/
def AllU (D : DataW Unit) (ss : List Int) : Prop := ss.Nodup ∧ ∀ x, x ∈ ss ↔ Maps.has D (.int .u64 x) = true

end Go.Proofs.YtbcnkhfpogglmaaGreatDoor.M3

namespace Go.Proofs.YtbcnkhfpogglmaaGreatDoor.M3
open Go.RowKit Go.Maps Go.Sort
set_option linter.unusedVariables false
set_option maxRecDepth 100000

/-- Some number is told; the world is as it was. -/
def SomeInt (w : World) (e : Ending) (w' : World) : Prop := (∃ k : Int, e = .returned (.int .i64 k)) ∧ w = w'

/-- Nothing is told; the world is as it was. -/
def Nothing (w : World) (e : Ending) (w' : World) : Prop := e = .returned (.tuple #[]) ∧ w = w'

/-- What the sort makes of numbers that differ. -/
def sortedOf (ss : List Int) : List Int := (Sort.insertionSort ltInt ss.toArray 0 ss.length).toList
end Go.Proofs.YtbcnkhfpogglmaaGreatDoor.M3

namespace Go.Proofs.YtbcnkhfpogglmaaGreatDoor.M3
open Go.RowKit Go.Maps Go.Sort
set_option linter.unusedVariables false
set_option maxRecDepth 100000

/-- Block g holds those numbers, in an array of cap words. -/
def RowN (w : World) (g : Nat) (xs : List Int) (cap : Nat) : Prop :=
  ∃ cur, w.heap[g]? = some (.cells cur 26 (0, 0)) ∧ cur.size = cap ∧ xs.length ≤ cap ∧ cap ≤ maxLen ∧ ∀ i, i < xs.length → cur[i]? = some (.int .u64 (xs.getD i 0))
theorem RowN.cell {w : World} {g cap : Nat} {xs : List Int} (h : RowN w g xs cap) {i : Nat} (hi : i < xs.length) : w.cell? ⟨g, i, none⟩ = some (.int .u64 (xs.getD i 0)) := by
  obtain ⟨cur, h1, _, _, _, h2⟩ := h
  rw [cell_of_row w g i _ _ _ h1]; exact h2 i hi
theorem RowN.frozen {w : World} {g cap : Nat} {xs : List Int} (h : RowN w g xs cap) (i : Nat) : w.frozen? ⟨g, i, none⟩ = false := by
  obtain ⟨cur, h1, _⟩ := h; exact frozen_of_row w g i _ _ h1
theorem RowN.set {w : World} {g cap : Nat} {xs : List Int} (h : RowN w g xs cap) (k : Nat) (v : Int) : RowN (w.setCell ⟨g, k, none⟩ (.int .u64 v)) g (xs.set k v) cap := by
  obtain ⟨cur, h1, h2, h3, h4, h5⟩ := h
  refine ⟨_, heap_setCell_same w g k cur _ _ h1, by simpa using h2, by simpa using h3, h4, fun i hi => ?_⟩
  have hi' : i < xs.length := by simpa using hi
  by_cases e : k = i
  · subst e
    have : k < cur.size := by omega
    simp [List.getD, hi', this]
  · rw [Array.getElem?_setIfInBounds_ne (by omega), h5 i hi']
    simp [List.getD, List.getElem?_set, e]
theorem RowN.own {w : World} {g cap B : Nat} {xs : List Int} (h : RowN w g xs cap) (hB : B ≤ g) : w.ownsRow B 26 1 (.slice (some ⟨g, 0, none⟩) xs.length cap) xs.length (xs.map (Value.int .u64)) := by
  obtain ⟨cur, h1, h2, h3, h4, h5⟩ := h
  refine ⟨by simp, .inr ⟨g, cap, cur, rfl, hB, h1, h3, h4, by omega, ?_⟩⟩
  apply List.ext_getElem?
  intro i
  rw [List.getElem?_take]
  by_cases c : i < xs.length
  · rw [if_pos (by omega), Array.getElem?_toList, h5 i c]
    simp [List.getD, c]
  · rw [if_neg (by omega), List.getElem?_eq_none (by rw [List.length_map]; omega)]

/-- What Sorted leaves. -/
def SortedEnd (w : World) (D : DataW Unit) (e : Ending) (w' : World) : Prop :=
  Below w.heap.size w w' ∧ ∃ ss, AllU D ss ∧ ((ss = [] ∧ e = .returned (.slice none 0 0)) ∨ ∃ g cap, e = .returned (.slice (some ⟨g, 0, none⟩) ss.length cap) ∧ w.heap.size ≤ g ∧ RowN w' g (sortedOf ss) cap)

/-- The first k of them are multiplied. -/
def mulTo (ys : List Int) (k : Nat) : List Int := (List.range ys.length).map fun i => if i < k then ys.getD i 0 * 4096 else ys.getD i 0
end Go.Proofs.YtbcnkhfpogglmaaGreatDoor.M3
