/- Joined: AsT2 AsU AsV AsW AsX AsY AsZ AsPr AsNr AsNr2 AsCr AsGu AsGv AsSd AsDm DtA Wk Wk2 -/
import Derived.Test.YtakdhdaoklcidaaGreatDoorKV4
import Derived.Maps.OwnSet
import Derived.StringKeys
import Derived.Laws.OwnMore
import Derived.Laws.IdiomStrings
import Derived.Deep.QuietTactic
import Derived.BigQuiet
import Derived.Deep.RegionHeld3
import Derived.Test.YtakdhdaoklcidaaGreatDoorRows
import Derived.Lib.Hide
import Derived.Below
import Derived.Deep.CutBlock
import Derived.Great.Frames
import Derived.Laws.Rows
import Derived.Laws.Tables
import Derived.WalkLawsBesides
import Derived.WalkSmall
import Derived.Laws.NewBlocks
import Derived.StillTail
namespace Go.Proofs.YtakdhdaoklcidaaGreatDoor
open Go.RowKit Go.Lib
set_option linter.unusedVariables false
set_option maxRecDepth 100000
def RaEnd (w : World) (ls : List Bs) (e : Ending) (w' : World) : Prop :=
  (∃ k, k < ls.length ∧ (∀ i, i < k → ∃ s, lineS (ls.getD i []) = some s) ∧ lineS (ls.getD k []) = none ∧ e = .returned (.tuple #[.slice none 0 0, .int .i64 ((k : Int) + 1)]) ∧ Below w.heap.size w w') ∨
  ((∀ i, i < ls.length → ∃ s, lineS (ls.getD i []) = some s) ∧ ∃ v qs, e = .returned (.tuple #[v, .int .i64 0]) ∧ StmRow w' w.heap.size v (ls.filterMap lineS) qs ∧ Below w.heap.size w w')
theorem stmRow_base {w : World} {B B' : Nat} {v : Value} {ss : List Stm} {qs : List Q4} (h : StmRow w B v ss qs) (hB : B' ≤ B) : StmRow w B' v ss qs := by
  refine ⟨⟨h.own.1, ?_⟩, h.len, fun k hk hq => stmV_base (h.at' k hk hq) hB⟩
  rcases h.own.2 with hn | ⟨g, cap, cur, rfl, hb, rest⟩
  · exact .inl hn
  · exact .inr ⟨g, cap, cur, rfl, by omega, rest⟩
set_option maxHeartbeats 4000000 in
theorem readAll_any (l : Bs) (hl : l.length ≤ 70000) (w : World) (he : Env w) : Calls Tryz.prog 43 #[str l] w (RaEnd w (linesT l)) := by
  have HSP := Lib.hid (splitP l w (by omega) he)
  have hlen : ∀ x ∈ linesT l, x.length ≤ l.length := (splitK_len _ l).2
  have HLN := Lib.hid hlen
  have HE := Lib.hid he
  have hnl : (linesT l).length ≤ 1000000 := by
    have h1 := (splitK_len (Lib.count l [10]) l).1
    have h2 : Lib.count l [10] ≤ l.length := by rw [Lib.count_one]; exact List.count_le_length
    have h3 : (linesT l).length = (splitK [10] 0 (Lib.count l [10]) l).length := rfl
    omega
  clear he hlen
  generalize linesT l = ls at *
  go_enter Tryz.func43, Tryz.ntmps43
  go_wp2_with (fail)
  (with_reducible refine HSP.out.mono ?_)
  rintro e w1 ⟨rfl, hw1⟩
  have HCL : Hid (∀ j, j < ls.length → w1.cell? ⟨w.heap.size, j, none⟩ = some (str (ls.getD j []))) := Lib.hid fun j hj => by
    rw [hw1, Lib.cell_of_heap (heap_alloc_new w _)]
    simp [List.getD_eq_getElem?_getD, List.getElem?_eq_getElem hj]
  have HB1 : Hid (Below w.heap.size w w1) := Lib.hid (by rw [hw1]; exact (Below.refl _ _).alloc (Nat.le_refl _) _)
  clear hw1 HSP
  go_wp2
  go_loopw [2, 11] (fun v k wr => ∃ (j : Nat) (qs : List Q4), j ≤ ls.length ∧ k = .int .i64 j ∧ (∀ i, i < j → ∃ s, lineS (ls.getD i []) = some s) ∧ StmRow wr w1.heap.size v ((ls.take j).filterMap lineS) qs ∧ ((ls.take j).filterMap lineS).length = j ∧ Below w1.heap.size w1 wr) (fun _ k _ => ls.length - (RowKit.intOf k).toNat)
  case atStart => exact ⟨0, [], Nat.zero_le _, rfl, fun i hi => by omega, stmRow_nil _ _, rfl, Below.refl _ _⟩
  case round =>
    obtain ⟨j, qs, hj, rfl, hall, hrow, hsl, hb⟩ := hrel
    obtain ⟨A, C, rfl⟩ := ownS_slice hrow.own
    have hqn : qs.length = j := by rw [hrow.len, hsl]
    rw [hqn]
    have HALL := Lib.hid hall
    have HROW := Lib.hid hrow
    have HB := Lib.hid hb
    have HQN := Lib.hid hqn
    have HSL := Lib.hid hsl
    clear hall hqn hsl
    by_cases hlt : j < ls.length
    · have hx := HCL.out j hlt
      have hxw := cell_stays HB.out hx
      have hmem : ls.getD j [] ∈ ls := by rw [List.getD_eq_getElem?_getD, List.getElem?_eq_getElem hlt]; exact List.getElem_mem hlt
      have hll := HLN.out _ hmem
      have htk : ls.take (j + 1) = ls.take j ++ [ls.getD j []] := by rw [List.take_succ_eq_append_getElem hlt, List.getD_eq_getElem?_getD, List.getElem?_eq_getElem hlt]; rfl
      have HTK := Lib.hid htk
      have HRD := Lib.hid (fun w he => readL (ls.getD j []) (by omega) w he)
      have HSZ := Lib.hid hb.size
      have HEW := Lib.hid ((HE.out.below HB1.out).below HB.out)
      clear hx hmem hll htk hb hrow
      generalize hlj : ls.getD j [] = lj at *
      have HLJ := Lib.hid hlj
      clear hlj
      go_wp2_with (fail)
      (with_reducible refine (HRD.out _ HEW.out).mono ?_)
      rintro e w2 ⟨hy, hno, hb2⟩
      have HB2 := Lib.hid (HB.out.trans (hb2.mono HB.out.size))
      have HROW2 := Lib.hid (stmRow_below HROW.out hb2)
      clear hxw
      cases hls : lineS lj with
      | none =>
        obtain ⟨v, rfl, c0, c1, c2, c3, rfl, o0, o1, o2, o3⟩ := hno hls
        have HLS := Lib.hid hls
        clear hy hno hb2 hls
        go_wp2_with (refine wpList_store_row rfl _ _ _ rfl w2.heap.size _ rfl rfl 129 _ (heap_alloc_new w2 _) size_stm rfl (four_one o0 o1 o2 o3) ?_)
        go_ret2
        exact Or.inl ⟨j, hlt, HALL.out, by rw [HLJ.out]; exact HLS.out, rfl, HB1.out.trans ((below_setRow (HB2.out.alloc HB2.out.size _) HB2.out.size _).mono HB1.out.size)⟩
      | some st =>
        obtain ⟨v, rfl, c0, c1, c2, c3, rfl, hst⟩ := hy st hls
        obtain ⟨o0, o1, o2, o3⟩ := stmV_four hst
        have HST := Lib.hid (stmV_base hst HSZ.out)
        have HLS := Lib.hid hls
        have HB2S := Lib.hid hb2.size
        clear hy hno hls hst hb2
        go_wp2_with (first
          | (refine wpList_store_row rfl _ _ _ rfl w2.heap.size _ rfl rfl 129 _ (heap_alloc_new w2 _) size_stm rfl (four_one o0 o1 o2 o3) ?_; refine Hid.out ?_))
        have hbww : Below w2.heap.size w2 ((w2.alloc (.cells #[.string ⟨#[]⟩, .slice none 0 0, .string ⟨#[]⟩, .nilFunc] 129)).setRow w2.heap.size #[c0, c1, c2, c3]) := below_setRow ((Below.refl _ _).alloc (Nat.le_refl _) _) (Nat.le_refl _) _
        have hcw : ((w2.alloc (.cells #[.string ⟨#[]⟩, .slice none 0 0, .string ⟨#[]⟩, .nilFunc] 129)).setRow w2.heap.size #[c0, c1, c2, c3]).heap[w2.heap.size]? = some (.cells #[c0, c1, c2, c3] 129 (0, 0)) := setRow_heap _ _ _ _ _ _ (heap_alloc_new w2 _)
        generalize (w2.alloc (.cells #[.string ⟨#[]⟩, .slice none 0 0, .string ⟨#[]⟩, .nilFunc] 129)).setRow w2.heap.size #[c0, c1, c2, c3] = ww at *
        have HROW3 := stmRow_below HROW2.out hbww
        have HST3 := stmV_below HST.out hbww
        have HB3 := HB2.out.trans (hbww.mono HB2.out.size)
        have HCW := Lib.hid hcw
        obtain ⟨A4, C4, w4, hr4, hrow4, hb4⟩ := stmRow_push ww w1.heap.size _ _ qs j HQN.out HROW3 (by omega) HB3.size st (c0, c1, c2, c3) HST3 76
        rw [HQN.out] at hr4
        have HRUN := Lib.hid hr4
        have HROW4 := Lib.hid hrow4
        have HB4 := Lib.hid (hb4 w1.heap.size w1 HB3 (Nat.le_refl _) HB3.size)
        have HALL4 : Hid (∀ i, i < j + 1 → ∃ s, lineS (ls.getD i []) = some s) := Lib.hid fun i hi => by
          by_cases c : i < j
          · exact HALL.out i c
          · obtain rfl : i = j := by omega
            exact ⟨st, by rw [HLJ.out]; exact HLS.out⟩
        have HFM : Hid ((ls.take (j + 1)).filterMap lineS = (ls.take j).filterMap lineS ++ [st]) := Lib.hid (by
          rw [HTK.out, List.filterMap_append]
          simp [HLS.out])
        clear hbww hcw HROW3 HST3 HB3 hr4 hrow4 hb4 HROW2 HST HB2 HB2S
        refine Lib.hid ?_
        go_wp2_with (first
          | (refine wpList_load_row rfl _ _ rfl w2.heap.size rfl 129 _ _ _ HCW.out Tryz.underlying129 rfl size_stm ?_)
          | (at_builtin; refine wpList_append_run rfl _ _ _ rfl (.slice A j C) (.slice (some ⟨ww.heap.size, 0, none⟩) 1 1) (.slice A4 (j + 1) C4) w4 rfl rfl HRUN.out ?_))
        go_roundw
        case rel => exact ⟨j + 1, qs ++ [(c0, c1, c2, c3)], by omega, by go_num, HALL4.out, by rw [HFM.out]; exact HROW4.out, by rw [HFM.out, List.length_append, HSL.out]; rfl, HB4.out⟩
        case measure => simp [RowKit.intOf]; omega
    · obtain rfl : j = ls.length := by omega
      rw [List.take_length] at HROW
      clear HCL
      go_wp2
      go_ret2
      exact Or.inr ⟨HALL.out, _, qs, rfl, by have := stmRow_base HROW.out HB1.out.size; rw [HQN.out] at *; exact this, HB1.out.trans (HB.out.mono HB1.out.size)⟩
end Go.Proofs.YtakdhdaoklcidaaGreatDoor

namespace Go.Proofs.YtakdhdaoklcidaaGreatDoor
open Go.RowKit Go.Lib Go.Maps Go.WideMaps
set_option linter.unusedVariables false
set_option maxRecDepth 100000
def LabMap (w : World) (mb n : Nat) (f : Bs → Option Int) : Prop :=
  ∃ D : DataW Unit, w.ownsMap Tryz.prog 9 (plainElem Tryz.prog 36) mb n D ∧ (∀ l, Maps.has D (.string l) = (f l).isSome) ∧ (∀ l, D.atKey (.string l) (.lit (.int .u64 0)) = .lit (.int .u64 ((f l).getD 0)))
theorem labKeyed : Keyed Tryz.prog 9 := string_keyed Tryz.underlying9
theorem labKey (l : Bs) (hl : l.length ≤ 1000000) : keyOf Tryz.prog 9 (str l) = some (.string l) := by
  have h := Go.WideMaps.keyOf_string_mk (P := Tryz.prog) (k := 9) Tryz.underlying9 (s := ⟨l.toArray⟩) (by show l.toArray.size ≤ _; rw [List.size_toArray]; unfold maxLen; omega)
  exact h
theorem LabMap.made (w : World) : LabMap (w.alloc (.map #[] 0)) w.heap.size 0 fun _ => none :=
  ⟨_, World.ownsMap_made w Tryz.prog _ _, fun l => rfl, fun l => rfl⟩
theorem LabMap.lt {w : World} {mb n : Nat} {f : Bs → Option Int} (h : LabMap w mb n f) : mb < w.heap.size := by obtain ⟨D, h1, _⟩ := h; exact h1.lt
theorem LabMap.keeps {w w' : World} {mb n : Nat} {f : Bs → Option Int} {S : Nat → Prop} (h : LabMap w mb n f) (o : Only S w w') (hs : ¬ S mb) : LabMap w' mb n f := by
  obtain ⟨D, h1, h2⟩ := h
  have hlt := h1.lt
  obtain ⟨es, clock, hb, r⟩ := h1
  exact ⟨D, ⟨es, clock, (o.block mb hlt hs).trans hb, r⟩, h2⟩
theorem LabMap.below {w w' : World} {mb n : Nat} {f : Bs → Option Int} (h : LabMap w mb n f) (hb : Below w.heap.size w w') : LabMap w' mb n f :=
  h.keeps (S := fun k => w.heap.size ≤ k) (Only.of_below _ hb) (by have := h.lt; omega)
theorem LabMap.look {w : World} {mb n : Nat} {f : Bs → Option Int} (h : LabMap w mb n f) (l : Bs) (hl : l.length ≤ 1000000) :
    (Instr.lookup 79 (.map (some mb)) (str l) true).run Tryz.prog w = .ok (.tuple #[.int .u64 ((f l).getD 0), .bool (f l).isSome]) w := by
  obtain ⟨D, h1, h2, h3⟩ := h
  obtain ⟨v, ps, hr, hv⟩ := h1.look_ok labKeyed Tryz.underlying79 (Tryz.zeroValue36 w) (plainElem_int (H := Unit) Tryz.underlying36 (a := 0) (by decide)) (labKey l hl)
  obtain ⟨a, rfl, ha, _⟩ := plainElem_int_inv Tryz.underlying36 hv
  have e := congrArg Prod.fst ha
  simp only [] at e
  rw [h3 l] at e
  injection e with e
  injection e with _ e
  rw [hr, h2 l, ← e]
theorem LabMap.put {w : World} {mb n : Nat} {f : Bs → Option Int} (h : LabMap w mb n f) (hn : n ≤ 1000000) (l : Bs) (hl : l.length ≤ 1000000) (a : Int) (ha : 0 ≤ a ∧ a < 18446744073709551616) :
    ∃ w', (Instr.mapUpdate 79 (.map (some mb)) (str l) (.int .u64 a)).run Tryz.prog w = .ok () w' ∧ LabMap w' mb (n + 1) (fun x => if x = l then some a else f x) ∧ Only (fun k => k = mb) w w' := by
  obtain ⟨D, h1, h2, h3⟩ := h
  have hw : (Lit.int .u64 a).wf = true := by simp [Lit.wf, IntKind.min, IntKind.max, IntKind.signed, IntKind.bits]; omega
  obtain ⟨w', hr, ho, hg⟩ := h1.store labKeyed Tryz.underlying79 (by unfold maxLen; omega) (labKey l hl) (plainElem_int (H := Unit) Tryz.underlying36 hw)
  have g := hg.grown
  refine ⟨w', hr, ⟨_, ho, fun x => ?_, fun x => ?_⟩, ⟨g.os, g.tape, g.output, g.size, fun i hi hn => g.block i hi (by intro e; cases e; exact hn rfl)⟩⟩
  · by_cases e : x = l
    · subst e
      show _ = (if x = x then some a else f x).isSome
      rw [if_pos rfl, Maps.has_put_same h1.isMap (labKeyed.key (labKey x hl))]; rfl
    · show _ = (if x = l then some a else f x).isSome
      rw [if_neg e, Maps.has_put_other (by intro h; injection h with h; exact e h)]; exact h2 x
  · by_cases e : x = l
    · subst e
      show _ = DataW.lit (.int .u64 ((if x = x then some a else f x).getD 0))
      rw [if_pos rfl]; exact Maps.atKey_put_same h1.isMap (labKeyed.key (labKey x hl)) _ _
    · show _ = DataW.lit (.int .u64 ((if x = l then some a else f x).getD 0))
      rw [if_neg e, Maps.atKey_put_other (by intro h; injection h with h; exact e h)]; exact h3 x
def labOf : Stm → Bs
  | .label l => l
  | _ => []
def sizeS : Stm → Nat
  | .none => 0
  | .label _ => 0
  | .words ws => ws.length
  | .la _ _ => 2
  | .jump _ _ => 1
def atK (ss : List Stm) (base : Int) : Nat → Int
  | 0 => base
  | k + 1 => (atK ss base k + 4 * ((sizeS (ss.getD k .none) : Nat) : Int)) % 18446744073709551616
def labF (ss : List Stm) (base : Int) : Nat → Bs → Option Int
  | 0 => fun _ => none
  | k + 1 => fun l => if labOf (ss.getD k .none) ≠ [] ∧ l = labOf (ss.getD k .none) then some (atK ss base k) else labF ss base k l
def dupAt (ss : List Stm) (base : Int) (k : Nat) : Bool := !(labOf (ss.getD k .none)).isEmpty && (labF ss base k (labOf (ss.getD k .none))).isSome
theorem atK_in (ss : List Stm) (base : Int) (h : 0 ≤ base ∧ base < 18446744073709551616) (k : Nat) : 0 ≤ atK ss base k ∧ atK ss base k < 18446744073709551616 := by
  cases k with
  | zero => exact h
  | succ k => unfold atK; omega
theorem stm_c0 {w : World} {B : Nat} {s : Stm} {c0 c1 c2 c3 : Value} (h : StmV w B s c0 c1 c2 c3) : c0 = str (labOf s) ∧ ∃ A C, c1 = .slice A (sizeS s) C := by
  cases s with
  | none => exact ⟨h.1, _, _, h.2.1⟩
  | label l => exact ⟨h.1, _, _, h.2.1⟩
  | words ws => obtain ⟨A, C, hv⟩ := ownW_slice h.2.1; exact ⟨h.1, _, _, hv⟩
  | la rd l => obtain ⟨h0, ⟨ws, hl, h1⟩, _⟩ := h; obtain ⟨A, C, hv⟩ := ownW_slice h1; exact ⟨h0, A, C, by rw [hv, hl]; rfl⟩
  | jump i l => obtain ⟨h0, ⟨ws, hl, h1⟩, _⟩ := h; obtain ⟨A, C, hv⟩ := ownW_slice h1; exact ⟨h0, A, C, by rw [hv, hl]; rfl⟩
theorem q4Cs_at : ∀ (l : List Q4) (k j : Nat) (hk : k < l.length), j < 4 → (q4Cs l)[k * 4 + j]? = some ((q4C l[k]).getD j undef)
  | [], k, j, hk, hj => by simp at hk
  | q :: l, 0, j, hk, hj => by
    have e : q4Cs (q :: l) = q4C q ++ q4Cs l := by simp [q4Cs]
    rw [e, Nat.zero_mul, Nat.zero_add, List.getElem?_append_left (by simpa [q4C] using hj)]
    simp only [List.getElem_cons_zero]
    rw [List.getD_eq_getElem?_getD, List.getElem?_eq_getElem (by simpa [q4C] using hj)]; rfl
  | q :: l, k + 1, j, hk, hj => by
    have e : q4Cs (q :: l) = q4C q ++ q4Cs l := by simp [q4Cs]
    have h4 : (q4C q).length = 4 := rfl
    rw [e, List.getElem?_append_right (by rw [h4]; omega), h4, show (k + 1) * 4 + j - 4 = k * 4 + j by omega]
    simp only [List.getElem_cons_succ]
    exact q4Cs_at l k j (by simpa using hk) hj
def SAt (w : World) (g : Nat) (qs : List Q4) : Prop := ∀ k (hk : k < qs.length), w.cell? ⟨g, k * 4, none⟩ = some qs[k].1 ∧ w.cell? ⟨g, k * 4 + 1, none⟩ = some qs[k].2.1 ∧ w.cell? ⟨g, k * 4 + 2, none⟩ = some qs[k].2.2.1 ∧ w.cell? ⟨g, k * 4 + 3, none⟩ = some qs[k].2.2.2
theorem sAt_own {w : World} {B : Nat} {v : Value} {l : List Q4} (h : OwnS w B v l) (hl : l ≠ []) : ∃ g C, v = .slice (some ⟨g, 0, none⟩) l.length C ∧ SAt w g l ∧ g < w.heap.size := by
  rcases h.2 with ⟨rfl, h0⟩ | ⟨g, cap, cur, rfl, hb, hc, hn, _, hcs, ht⟩
  · exact absurd (List.eq_nil_of_length_eq_zero h0) hl
  · refine ⟨g, cap, rfl, fun k hk => ?_, (Array.getElem?_eq_some_iff.1 hc).1⟩
    have at1 : ∀ j, j < 4 → w.cell? ⟨g, k * 4 + j, none⟩ = some ((q4C l[k]).getD j undef) := fun j hj => by
      rw [Lib.cell_of_heap hc]
      have h1 := q4Cs_at l k j hk hj
      rw [← ht, List.getElem?_take, if_pos (by omega)] at h1
      simpa using h1
    exact ⟨at1 0 (by decide), at1 1 (by decide), at1 2 (by decide), at1 3 (by decide)⟩
theorem sAt_below {w w' : World} {g : Nat} {l : List Q4} (h : SAt w g l) (hb : Below w.heap.size w w') : SAt w' g l := fun k hk =>
  ⟨cell_stays hb (h k hk).1, cell_stays hb (h k hk).2.1, cell_stays hb (h k hk).2.2.1, cell_stays hb (h k hk).2.2.2⟩
end Go.Proofs.YtakdhdaoklcidaaGreatDoor

namespace Go.Proofs.YtakdhdaoklcidaaGreatDoor
open Go.RowKit Go.Lib Go.Maps Go.WideMaps
set_option linter.unusedVariables false
set_option maxRecDepth 100000
def PlEnd (w : World) (ss : List Stm) (base : Int) (e : Ending) (w' : World) : Prop :=
  (∃ k, k < ss.length ∧ (∀ i, i < k → dupAt ss base i = false) ∧ dupAt ss base k = true ∧ e = .returned (.tuple #[.map none, .int .i64 ((k : Int) + 1)]) ∧ Below w.heap.size w w') ∨
  ((∀ i, i < ss.length → dupAt ss base i = false) ∧ ∃ mb n, e = .returned (.tuple #[.map (some mb), .int .i64 0]) ∧ w.heap.size ≤ mb ∧ LabMap w' mb n (labF ss base ss.length) ∧ Below w.heap.size w w')
theorem dup_no {ss : List Stm} {base : Int} {k : Nat} {f : Bs → Option Int} {l : Bs} (hf : labF ss base k = f) (hl : labOf (ss.getD k .none) = l) (h : l = [] ∨ f l = none) : dupAt ss base k = false := by
  unfold dupAt
  rw [hf, hl]
  rcases h with h | h
  · simp [h]
  · simp [h]
theorem dup_yes {ss : List Stm} {base : Int} {k : Nat} {f : Bs → Option Int} {l : Bs} {a : Int} (hf : labF ss base k = f) (hl : labOf (ss.getD k .none) = l) (h0 : l ≠ []) (h : f l = some a) : dupAt ss base k = true := by
  unfold dupAt
  rw [hf, hl]
  cases l with
  | nil => exact absurd rfl h0
  | cons a l => simp [h]
theorem labF_no {ss : List Stm} {base : Int} {k : Nat} (hl : labOf (ss.getD k .none) = []) : labF ss base (k + 1) = labF ss base k := by
  funext l
  show (if labOf (ss.getD k .none) ≠ [] ∧ l = labOf (ss.getD k .none) then some (atK ss base k) else labF ss base k l) = _
  rw [if_neg (fun h => h.1 hl)]
theorem labF_yes {ss : List Stm} {base : Int} {k : Nat} {l : Bs} (hl : labOf (ss.getD k .none) = l) (h0 : l ≠ []) : labF ss base (k + 1) = fun x => if x = l then some (atK ss base k) else labF ss base k x := by
  funext x
  show (if labOf (ss.getD k .none) ≠ [] ∧ x = labOf (ss.getD k .none) then some (atK ss base k) else labF ss base k x) = _
  rw [hl]
  by_cases c : x = l
  · rw [if_pos ⟨h0, c⟩, if_pos c]
  · rw [if_neg (fun h => c h.2), if_neg c]
structure QAt (ss : List Stm) (qs : List Q4) : Prop where
  len : qs.length = ss.length
  at' : ∀ k (hk : k < ss.length), ∃ A C c2 c3, qs[k]? = some (str (labOf (ss.getD k .none)), .slice A (sizeS (ss.getD k .none)) C, c2, c3) ∧ c2.oneCell' = true ∧ c3.oneCell' = true
  size : ∀ k, sizeS (ss.getD k .none) ≤ 100
  lab : ∀ k, (labOf (ss.getD k .none)).length ≤ 1000000
set_option maxHeartbeats 4000000 in
theorem place_any (ss : List Stm) (qs : List Q4) (hQ : QAt ss qs) (base : Int) (hbase : 0 ≤ base ∧ base < 18446744073709551616) (hn : ss.length ≤ 900000) (w : World) (g C : Nat) (hS : SAt w g qs) (hg : g < w.heap.size) :
    Calls Tryz.prog 44 #[.slice (some ⟨g, 0, none⟩) ss.length C, .int .u64 base] w (PlEnd w ss base) := by
  have HQ := Lib.hid hQ
  have HS := Lib.hid hS
  have HMD := Lib.hid (LabMap.made w)
  have hmm : ∀ w, (Instr.makeMap 79 none).run Tryz.prog w = .ok (.map (some w.heap.size)) (w.alloc (.map #[] 0)) := fun w => rfl
  have HAI := Lib.hid (fun k => atK_in ss base hbase k)
  clear hQ hS
  go_enter Tryz.func44, Tryz.ntmps44
  go_wp2
  have HB0 : Hid (Below w.heap.size w (w.alloc (.map #[] 0))) := Lib.hid ((Below.refl _ _).alloc (Nat.le_refl _) _)
  have HSZ0 : Hid (w.heap.size < (w.alloc (.map #[] 0)).heap.size) := Lib.hid (by rw [World.size_alloc]; omega)
  generalize w.alloc (.map #[] 0) = w1 at *
  go_loopw [4, 6, 15] (fun m4 v k wr => ∃ (j n : Nat), j ≤ ss.length ∧ n ≤ j ∧ m4 = .map (some w.heap.size) ∧ k = .int .i64 j ∧ v = .int .u64 (atK ss base j) ∧ (∀ i, i < j → dupAt ss base i = false) ∧ LabMap wr w.heap.size n (labF ss base j) ∧ Below w.heap.size w wr ∧ w.heap.size < wr.heap.size) (fun _ _ k _ => ss.length - (RowKit.intOf k).toNat)
  case atStart => exact ⟨0, 0, Nat.zero_le _, Nat.le_refl _, rfl, rfl, rfl, fun i hi => by omega, HMD.out, HB0.out, HSZ0.out⟩
  case round =>
    obtain ⟨j, n, hj, hnj, rfl, rfl, rfl, hdup, hmap, hbw, hsz⟩ := hrel
    have HDUP := Lib.hid hdup
    have HMAP := Lib.hid hmap
    have HBW := Lib.hid hbw
    have HSZ := Lib.hid hsz
    clear hdup hmap hbw
    by_cases hlt : j < ss.length
    · obtain ⟨A, C2, c2, c3, hq, o2, o3⟩ := HQ.out.at' j hlt
      have hsj := HQ.out.size j
      have hlj := HQ.out.lab j
      have hai := HAI.out j
      have hat : atK ss base (j + 1) = (atK ss base j + 4 * ((sizeS (ss.getD j .none) : Nat) : Int)) % 18446744073709551616 := rfl
      have hjq : j < qs.length := by rw [HQ.out.len]; exact hlt
      rw [List.getElem?_eq_getElem hjq] at hq
      injection hq with hq
      have h4 := HS.out j hjq
      rw [hq] at h4
      obtain ⟨x0, x1, x2, x3⟩ := h4
      have y0 := (HBW.out.cell (p := ⟨g, j * 4, none⟩) hg).trans x0
      have y1 := (HBW.out.cell (p := ⟨g, j * 4 + 1, none⟩) hg).trans x1
      have y2 := (HBW.out.cell (p := ⟨g, j * 4 + 2, none⟩) hg).trans x2
      have y3 := (HBW.out.cell (p := ⟨g, j * 4 + 3, none⟩) hg).trans x3
      clear x0 x1 x2 x3 hq
      generalize hll : labOf (ss.getD j .none) = l at *
      generalize sizeS (ss.getD j .none) = sz at *
      have HAT := Lib.hid hat
      have HLL := Lib.hid hll
      generalize hf : labF ss base j = f at *
      have HF := Lib.hid hf
      generalize hatj : atK ss base j = a at *
      have HATJ := Lib.hid hatj
      clear hat hll hf hatj
      go_wp2_with (first
        | (refine wpList_store_row rfl _ _ _ rfl wr.heap.size _ rfl rfl 129 _ (heap_alloc_new wr _) size_stm rfl (four_one rfl rfl o2 o3) ?_; refine Hid.out ?_))
      have hbww : Below w.heap.size w ((wr.alloc (.cells #[.string ⟨#[]⟩, .slice none 0 0, .string ⟨#[]⟩, .nilFunc] 129)).setRow wr.heap.size #[str l, .slice A sz C2, c2, c3]) := below_setRow (HBW.out.alloc HBW.out.size _) HBW.out.size _
      have hcw : ((wr.alloc (.cells #[.string ⟨#[]⟩, .slice none 0 0, .string ⟨#[]⟩, .nilFunc] 129)).setRow wr.heap.size #[str l, .slice A sz C2, c2, c3]).heap[wr.heap.size]? = some (.cells #[str l, .slice A sz C2, c2, c3] 129 (0, 0)) := setRow_heap _ _ _ _ _ _ (heap_alloc_new wr _)
      have hmw : LabMap ((wr.alloc (.cells #[.string ⟨#[]⟩, .slice none 0 0, .string ⟨#[]⟩, .nilFunc] 129)).setRow wr.heap.size #[str l, .slice A sz C2, c2, c3]) w.heap.size n f := HMAP.out.below (below_setRow ((Below.refl _ _).alloc (Nat.le_refl _) _) (Nat.le_refl _) _)
      have hrz : wr.heap.size < ((wr.alloc (.cells #[.string ⟨#[]⟩, .slice none 0 0, .string ⟨#[]⟩, .nilFunc] 129)).setRow wr.heap.size #[str l, .slice A sz C2, c2, c3]).heap.size := (Array.getElem?_eq_some_iff.1 hcw).1
      clear y0 y1 y2 y3
      generalize (wr.alloc (.cells #[.string ⟨#[]⟩, .slice none 0 0, .string ⟨#[]⟩, .nilFunc] 129)).setRow wr.heap.size #[str l, .slice A sz C2, c2, c3] = ww at *
      have hz0 : ww.cell? ⟨wr.heap.size, 0, none⟩ = some (str l) := by rw [Lib.cell_of_heap hcw]; rfl
      have hz1 : ww.cell? ⟨wr.heap.size, 1, none⟩ = some (.slice A sz C2) := by rw [Lib.cell_of_heap hcw]; rfl
      have HBWW := Lib.hid hbww
      have HMW := Lib.hid hmw
      have hlk := hmw.look l hlj
      have hnx : ∀ (_ : Unit), dupAt ss base j = false → ∀ i, i < j + 1 → dupAt ss base i = false := fun _ hd i hi => by
        by_cases c : i < j
        · exact HDUP.out i c
        · obtain rfl : i = j := by omega
          exact hd
      by_cases hl0 : l = []
      · subst hl0
        clear hlk hcw hbww hmw
        refine Lib.hid ?_
        go_wp2
        case roundEnd => exact ⟨⟨j + 1, n, by omega, by omega, rfl, rfl, congrArg (Value.int .u64) (by rw [HAT.out]; rfl), hnx () (dup_no HF.out HLL.out (.inl rfl)), by rw [labF_no HLL.out, HF.out]; exact HMW.out, HBWW.out, by have := HSZ.out; omega⟩, by simp [RowKit.intOf]; omega⟩
      · have hne : (!l.isEmpty) = true := by cases l with | nil => exact absurd rfl hl0 | cons _ _ => rfl
        cases hfl : f l with
        | some a' =>
          rw [hfl] at hlk
          have HFL := Lib.hid hfl
          clear hcw hbww hmw hfl
          refine Lib.hid ?_
          go_wp2
          go_ret2
          exact Or.inl ⟨j, hlt, HDUP.out, dup_yes HF.out HLL.out hl0 HFL.out, rfl, HBWW.out⟩
        | none =>
          rw [hfl] at hlk
          obtain ⟨w5, hput, hm5, ho5⟩ := hmw.put (by omega) l hlj a ⟨hai.1, hai.2⟩
          have hz1' : w5.cell? ⟨wr.heap.size, 1, none⟩ = some (.slice A sz C2) := by rw [Lib.cell_of_heap (ho5.keeps (by show ¬ wr.heap.size = w.heap.size; have := HSZ.out; omega) hcw)]; rfl
          have HM5 := Lib.hid hm5
          have HB5 : Hid (Below w.heap.size w w5) := Lib.hid (Below.thenOnly HBWW.out ho5 (fun k hk => by rw [hk]; exact Nat.le_refl _) (by have := HSZ.out; omega))
          have HZ5 : Hid (w.heap.size < w5.heap.size) := Lib.hid (by have := ho5.size; have := HSZ.out; omega)
          have HFL := Lib.hid hfl
          have HL0 := Lib.hid hl0
          clear hcw hbww hmw hfl hm5 ho5
          refine Lib.hid ?_
          go_wp2
          case roundEnd => exact ⟨⟨j + 1, n + 1, by omega, by omega, rfl, rfl, congrArg (Value.int .u64) (by rw [HAT.out]; rfl), hnx () (dup_no HF.out HLL.out (.inr HFL.out)), by rw [labF_yes HLL.out HL0.out, HATJ.out, HF.out]; exact HM5.out, HB5.out, HZ5.out⟩, by simp [RowKit.intOf]; omega⟩
    · obtain rfl : j = ss.length := by omega
      go_wp2
      go_ret2
      exact Or.inr ⟨HDUP.out, _, _, rfl, Nat.le_refl _, HMAP.out, HBW.out⟩
end Go.Proofs.YtakdhdaoklcidaaGreatDoor

namespace Go.Proofs.YtakdhdaoklcidaaGreatDoor
open Go.RowKit Go.Lib Go.Maps Go.WideMaps
set_option linter.unusedVariables false
set_option maxRecDepth 100000
theorem pourV (w : World) (B B' : Nat) (v vm : Value) (l m : List Int) (n k : Nat) (hn : l.length = n) (hk : m.length = k) (h : OwnW w B v l) (hm : OwnW w B' vm m) (hl : n + k ≤ 1000000) (hB : B ≤ w.heap.size) (ty : TypeId) :
    ∃ A C w', (Builtin.append_ #[37, 37] ty #[v, vm]).run Tryz.prog w = .ok (.slice A (n + k) C) w' ∧ OwnW w' B (.slice A (n + k) C) (l ++ m) ∧ Only (fun k => v.ownBlock = some k) w w' := by
  obtain ⟨i0, hi, hz0, hz1, hz2⟩ := info_parts info_u32
  rcases hm.2 with ⟨rfl, h0⟩ | ⟨g, cap, cur, rfl, hb, hg, hn1, hn2, hn3, ht⟩
  · have hm0 := List.eq_nil_of_length_eq_zero h0
    subst hm0
    subst hn
    subst hk
    have hr := run_append_owned_none (P := Tryz.prog) (w := w) B 37 ty 43 i0 1 Tryz.underlying37 hi v l.length _ h
    obtain ⟨A, C, rfl⟩ := ownW_slice h
    exact ⟨A, C, w, hr, by simpa using h, Only.refl _ _⟩
  · subst hn
    subst hk
    obtain ⟨v', w', hr, ho, hon, _⟩ := run_pourW w B v l m l.length rfl h (by omega) hB g 0 cap (fun j hj => by
      rw [Nat.zero_add, Lib.cell_of_heap hg]
      have e : (wordCs m)[j]? = some (.int .u32 (m.getD j 0)) := by simp [wordCs, List.getElem?_eq_getElem hj, List.getD_eq_getElem?_getD]
      rw [← ht, List.getElem?_take, if_pos (by omega)] at e
      simpa using e) ty
    obtain ⟨A, C, rfl⟩ := ownW_slice ho
    rw [List.length_append] at hr ho
    exact ⟨A, C, w', hr, by simpa using ho, hon⟩
structure Turn (B : Nat) (w wr : World) : Prop where
  only : Only (fun k => B ≤ k ∧ ∃ i, HoldsI w k i) w wr
  holds : ∀ k i, HoldsI w k i → HoldsI wr k i
theorem holdsI_lt {w : World} {k : Nat} {i : Ins} (h : HoldsI w k i) : k < w.heap.size := by obtain ⟨m, h⟩ := h; exact (Array.getElem?_eq_some_iff.1 h).1
theorem Turn.refl (B : Nat) (w : World) : Turn B w w := ⟨Only.refl _ _, fun _ _ h => h⟩
theorem Turn.bel {B : Nat} {w wr : World} (h : Turn B w wr) (hB : B ≤ w.heap.size) : Below B w wr := h.only.below (fun k hk => hk.1) hB
theorem Turn.below {B : Nat} {w wr w2 : World} (h : Turn B w wr) (hb : Below w.heap.size wr w2) : Turn B w w2 := by
  refine ⟨h.only.step (T := fun k => w.heap.size ≤ k) ⟨hb.os, hb.tape, hb.output, hb.size, fun k hk hs => hb.block k (by omega)⟩ (fun k hk => .inr hk), fun k i hi => ?_⟩
  obtain ⟨m, hm⟩ := h.holds k i hi
  exact ⟨m, (hb.block k (holdsI_lt hi)).trans hm⟩
theorem Turn.set {B : Nat} {w wr : World} (h : Turn B w wr) (p : Addr) (hp : w.heap.size ≤ p.block) (u : Value) : Turn B w (wr.setCell p u) :=
  h.below (((Only.refl (fun k => k = p.block) wr).setCell (.inl rfl) u).below (fun k hk => by rw [hk]; exact hp) h.only.size)
theorem insC_inj {i j : Ins} (h : insC i = insC j) : i = j := by
  obtain ⟨a, b, c, d, e, f, g, k⟩ := i
  obtain ⟨a', b', c', d', e', f', g', k'⟩ := j
  simp only [insC, List.cons.injEq, Value.int.injEq, Value.bool.injEq, true_and, and_true] at h
  obtain ⟨rfl, rfl, rfl, rfl, rfl, rfl, rfl, rfl⟩ := h
  rfl
theorem holdsI_same {w w2 : World} {b : Nat} {i j : Ins} (h : HoldsI w b i) (h2 : HoldsI w2 b i) (k : HoldsI w b j) : HoldsI w2 b j := by
  obtain ⟨m, hm⟩ := h
  obtain ⟨n, hn⟩ := k
  obtain ⟨p, hp⟩ := h2
  rw [hm] at hn
  injection hn with hn
  injection hn with hn _ _
  have e := insC_inj (congrArg Array.toList hn)
  refine ⟨p, ?_⟩
  have e2 : withImm i p = withImm j p := by
    have := congrArg (fun x => withImm x p) e
    exact this
  rw [hp, e2]
theorem Turn.jump {B : Nat} {w wr w2 : World} {b : Nat} {i : Ins} (h : Turn B w wr) (hb : B ≤ b) (hi : HoldsI w b i) (h2 : HoldsI w2 b i) (o : Only (fun k => k = b) wr w2) : Turn B w w2 := by
  refine ⟨h.only.step o (fun k hk => .inl ⟨by rw [hk]; exact hb, i, by rw [hk]; exact hi⟩), fun k j hj => ?_⟩
  by_cases c : k = b
  · subst c; exact holdsI_same hi h2 hj
  · obtain ⟨m, hm⟩ := h.holds k j hj
    exact ⟨m, o.keeps c hm⟩
theorem Turn.cells {B0 : Nat} {w wr : World} (h : Turn B0 w wr) {g : Nat} {cs : Array Value} {t : TypeId} {fr : Nat × Nat} (hg : w.heap[g]? = some (.cells cs t fr)) (ht : t ≠ 23) : wr.heap[g]? = some (.cells cs t fr) :=
  h.only.keeps (fun ⟨_, i, m, hm⟩ => by rw [hg] at hm; injection hm with hm; injection hm with _ e _; exact ht e) hg
theorem Turn.map {B0 : Nat} {w wr : World} (h : Turn B0 w wr) {mb n : Nat} {f : Bs → Option Int} (hm : LabMap w mb n f) : LabMap wr mb n f :=
  hm.keeps h.only (fun ⟨_, i, m, hi⟩ => by obtain ⟨D, ⟨es, clock, hb, _⟩, _⟩ := hm; rw [hb] at hi; injection hi with hi; cases hi)
theorem Turn.words {B0 : Nat} {w wr : World} (h : Turn B0 w wr) {B : Nat} {v : Value} {ws : List Int} (hw : OwnW w B v ws) : OwnW wr B v ws :=
  ownW_keep hw h.only (fun g hg ⟨_, i, m, hm⟩ => by
    rcases hw.2 with ⟨rfl, _⟩ | ⟨g', cap, cur, rfl, hb, hc, _⟩
    · simp [Value.ownBlock] at hg
    · simp [Value.ownBlock] at hg
      subst hg
      rw [hc] at hm
      injection hm with hm
      injection hm with _ e _
      exact absurd e (by decide))
theorem Turn.stm {B0 : Nat} {w wr : World} (h : Turn B0 w wr) {B : Nat} {s : Stm} {c0 c1 c2 c3 : Value} (hs : StmV w B s c0 c1 c2 c3) : StmV wr B s c0 c1 c2 c3 := by
  cases s with
  | none => exact hs
  | label l => exact hs
  | words ws => exact ⟨hs.1, h.words hs.2.1, hs.2.2⟩
  | la rd l => obtain ⟨h0, ⟨ws, hl, h1⟩, h2, b, h3, h4, h5⟩ := hs; exact ⟨h0, ⟨ws, hl, h.words h1⟩, h2, b, h3, h4, h.cells h5 (by decide)⟩
  | jump i l => obtain ⟨h0, ⟨ws, hl, h1⟩, h2, b, h3, h4, h5⟩ := hs; exact ⟨h0, ⟨ws, hl, h.words h1⟩, h2, b, h3, h4, h.holds _ _ h5⟩
def farZ (a at' : Int) : Int := wrap64 (IntKind.u64.wrap (a - at'))
def jumpW (i : Ins) (far : Int) : Option (List Int) := if rightB (withImm i far) then some [encW (withImm i far)] else none
def aimS (o : Option Int) (g : Int → Option (List Int)) (at' : Int) : Int × List Int :=
  match o with
  | none => (101, [])
  | some a => match g (farZ a at') with
    | none => (102, [])
    | some ws => (0, ws)
theorem aimS_none (g : Int → Option (List Int)) (at' : Int) : aimS none g at' = (101, []) := rfl
theorem aimS_far {g : Int → Option (List Int)} {at' a : Int} (h : g (farZ a at') = none) : aimS (some a) g at' = (102, []) := by unfold aimS; simp only [h]
theorem aimS_ok {g : Int → Option (List Int)} {at' a : Int} {ws : List Int} (h : g (farZ a at') = some ws) : aimS (some a) g at' = (0, ws) := by unfold aimS; simp only [h]
theorem aimS_len {o : Option Int} {g : Int → Option (List Int)} {at' : Int} {n : Nat} (hg : ∀ x ws, g x = some ws → ws.length = n) (h : (aimS o g at').1 = 0) : (aimS o g at').2.length = n := by
  cases o with
  | none => rw [aimS_none] at h; exact absurd h (by decide)
  | some a =>
    cases hw : g (farZ a at') with
    | none => rw [aimS_far hw] at h; exact absurd h (by decide)
    | some ws => rw [aimS_ok hw]; exact hg _ _ hw
theorem laW_len (rd x : Int) (ws : List Int) (h : laW rd x = some ws) : ws.length = 2 := by
  unfold laW at h
  split at h
  · cases h
  · split at h
    · injection h with h; subst h; simp [laL]
    · cases h
theorem jumpW_len (i : Ins) (x : Int) (ws : List Int) (h : jumpW i x = some ws) : ws.length = 1 := by
  unfold jumpW at h
  split at h
  · injection h with h; subst h; rfl
  · cases h
def linkS (f : Bs → Option Int) (at' : Int) : Stm → Int × List Int
  | .none => (0, [])
  | .label _ => (0, [])
  | .words ws => (0, ws)
  | .la rd l => aimS (f l) (laW rd) at'
  | .jump i l => aimS (f l) (jumpW i) at'
def lkAt (ss : List Stm) (f : Bs → Option Int) (base : Int) (k : Nat) : Int × List Int := linkS f (atK ss base k) (ss.getD k .none)
def outW (ss : List Stm) (f : Bs → Option Int) (base : Int) : Nat → List Int
  | 0 => []
  | k + 1 => outW ss f base k ++ (lkAt ss f base k).2
def LkEnd (B : Nat) (w : World) (ss : List Stm) (f : Bs → Option Int) (base : Int) (e : Ending) (w' : World) : Prop :=
  (∃ k, k < ss.length ∧ (∀ i, i < k → (lkAt ss f base i).1 = 0) ∧ (lkAt ss f base k).1 ≠ 0 ∧ e = .returned (.tuple #[.slice none 0 0, .int .i64 ((k : Int) + 1), .int .i64 (lkAt ss f base k).1]) ∧ Turn B w w') ∨
  ((∀ i, i < ss.length → (lkAt ss f base i).1 = 0) ∧ ∃ v, e = .returned (.tuple #[v, .int .i64 0, .int .i64 0]) ∧ OwnW w' w.heap.size v (outW ss f base ss.length) ∧ Turn B w w')
theorem link_len {f : Bs → Option Int} {a : Int} {s : Stm} (h : (linkS f a s).1 = 0) : (linkS f a s).2.length = sizeS s := by
  cases s with
  | none => rfl
  | label l => rfl
  | words ws => rfl
  | la rd l => exact aimS_len (laW_len rd) h
  | jump i l => exact aimS_len (jumpW_len i) h
theorem out_len {ss : List Stm} {f : Bs → Option Int} {base : Int} (hs : ∀ k, sizeS (ss.getD k .none) ≤ 100) : ∀ k, (∀ i, i < k → (lkAt ss f base i).1 = 0) → (outW ss f base k).length ≤ 100 * k
  | 0, _ => Nat.le_refl _
  | k + 1, h => by
    have h1 := out_len hs k (fun i hi => h i (by omega))
    have h2 : (lkAt ss f base k).2.length = _ := link_len (h k (by omega))
    have h3 := hs k
    show (outW ss f base k ++ (lkAt ss f base k).2).length ≤ _
    rw [List.length_append, h2]
    omega
theorem stmV_kinds {w : World} {B : Nat} {s : Stm} {c0 c1 c2 c3 : Value} (h : StmV w B s c0 c1 c2 c3) : (c3 = .nilFunc ∧ ∃ ws, OwnW w B c1 ws ∧ (∀ f a, linkS f a s = (0, ws))) ∨ (∃ rd l, s = .la rd l) ∨ (∃ i l, s = .jump i l) := by
  cases s with
  | none => obtain ⟨rfl, rfl, rfl, rfl⟩ := h; exact .inl ⟨rfl, [], ownW_nil _ _, fun _ _ => rfl⟩
  | label l => obtain ⟨rfl, rfl, rfl, rfl⟩ := h; exact .inl ⟨rfl, [], ownW_nil _ _, fun _ _ => rfl⟩
  | words ws => obtain ⟨rfl, h1, rfl, rfl⟩ := h; exact .inl ⟨rfl, ws, h1, fun _ _ => rfl⟩
  | la rd l => exact .inr (.inl ⟨rd, l, rfl⟩)
  | jump i l => exact .inr (.inr ⟨i, l, rfl⟩)
def namOf : Stm → Bs
  | .la _ l => l
  | .jump _ l => l
  | _ => []
theorem la_any (rd far : Int) (b : Nat) (w : World) (he : Env w) (hc : w.cell? ⟨b, 0, none⟩ = some (.int .i64 rd)) : Calls Tryz.prog 157 #[.int .i64 far, .pointer (some ⟨b, 0, none⟩)] w (AimEnd w (laW rd far)) := by
  by_cases h : far < -2147483648 ∨ 2147481599 < far
  · have := la_out rd far b h w
    rw [show laW rd far = none by unfold laW; rw [if_pos h]]; exact this
  · exact la_in rd far b (by omega) (by omega) w he hc
end Go.Proofs.YtakdhdaoklcidaaGreatDoor

namespace Go.Proofs.YtakdhdaoklcidaaGreatDoor
open Go.RowKit Go.Lib Go.Maps Go.WideMaps
set_option linter.unusedVariables false
set_option maxRecDepth 100000
theorem lk_push {ss : List Stm} {f : Bs → Option Int} {base : Int} {j : Nat} (h : ∀ i, i < j → (lkAt ss f base i).1 = 0) (hj : (lkAt ss f base j).1 = 0) : ∀ i, i < j + 1 → (lkAt ss f base i).1 = 0 := fun i hi => by
  by_cases c : i < j
  · exact h i c
  · obtain rfl : i = j := by omega
    exact hj
theorem out_push {ss : List Stm} {f : Bs → Option Int} {base : Int} {j : Nat} {ws : List Int} (h : lkAt ss f base j = (0, ws)) : outW ss f base (j + 1) = outW ss f base j ++ ws := by
  show outW ss f base j ++ (lkAt ss f base j).2 = _
  rw [h]
theorem at_push {ss : List Stm} {f : Bs → Option Int} {base : Int} {j k : Nat} {ws : List Int} (h : lkAt ss f base j = (0, ws)) (hk : ws.length = k) : atK ss base (j + 1) = (atK ss base j + 4 * (k : Int)) % 18446744073709551616 := by
  have h1 : (lkAt ss f base j).2.length = sizeS (ss.getD j .none) := link_len (by show (lkAt ss f base j).1 = 0; rw [h])
  rw [h] at h1
  show (atK ss base j + 4 * ((sizeS (ss.getD j .none) : Nat) : Int)) % 18446744073709551616 = _
  rw [← h1, hk]
theorem neq_nilF (w : World) : (binOp .neq 127 .nilFunc .nilFunc).run Tryz.prog w = .ok (.bool false) w := by
  first | rfl | kernel_rfl | simp [binOp]
theorem neq_fun (c : Fn) (a b : Array Value) (w : World) : (binOp .neq 127 (.func c a b) .nilFunc).run Tryz.prog w = .ok (.bool true) w := by
  first | rfl | kernel_rfl | simp [binOp]
set_option maxHeartbeats 4000000 in
theorem link_any (ss : List Stm) (qs : List Q4) (f : Bs → Option Int) (base : Int) (hn : ss.length ≤ 9000) (w : World) (B : Nat) (hB : B ≤ w.heap.size) (hsz : ∀ k, sizeS (ss.getD k .none) ≤ 100) (hnm : ∀ k, (namOf (ss.getD k .none)).length ≤ 1000000)
    (hlen : qs.length = ss.length) (g C mb n : Nat) (cs : Array Value) (fr : Nat × Nat) (hg : w.heap[g]? = some (.cells cs 129 fr)) (hS : SAt w g qs) (hst : ∀ k, k < ss.length → ∃ c0 c1 c2 c3, qs[k]? = some (c0, c1, c2, c3) ∧ StmV w B (ss.getD k .none) c0 c1 c2 c3) (hmap : LabMap w mb n f) (hE : ∀ w', Below B w w' → Env w') :
    Calls Tryz.prog 45 #[.slice (some ⟨g, 0, none⟩) ss.length C, .map (some mb), .int .u64 base] w (LkEnd B w ss f base) := by
  have HS := Lib.hid hS
  have HST := Lib.hid hst
  have HMP := Lib.hid hmap
  have HE := Lib.hid hE
  have HSI := Lib.hid hsz
  have HNM := Lib.hid hnm
  have HG := Lib.hid hg
  have hgl := (Array.getElem?_eq_some_iff.1 hg).1
  clear hS hst hmap hE hsz hnm hg
  go_enter Tryz.func45, Tryz.ntmps45
  go_wp2
  go_loopw [6, 9, 17] (fun v a k wr => ∃ (j : Nat), j ≤ ss.length ∧ k = .int .i64 j ∧ a = .int .u64 (atK ss base j) ∧ (∀ i, i < j → (lkAt ss f base i).1 = 0) ∧ OwnW wr w.heap.size v (outW ss f base j) ∧ Turn B w wr) (fun _ _ k _ => ss.length - (RowKit.intOf k).toNat)
  case atStart => exact ⟨0, Nat.zero_le _, rfl, rfl, fun i hi => by omega, ownW_nil _ _, Turn.refl _ _⟩
  case round =>
    obtain ⟨j, hj, rfl, rfl, hpre, how, htn⟩ := hrel
    have hol := out_len HSI.out j hpre
    obtain ⟨A, C2, rfl⟩ := ownW_slice how
    have HPRE := Lib.hid hpre
    clear hpre
    by_cases hlt : j < ss.length
    · obtain ⟨c0, c1, c2, c3, hq, hst0⟩ := HST.out j hlt
      obtain ⟨o0, o1, o2, o3⟩ := stmV_four hst0
      have hjq : j < qs.length := by rw [hlen]; exact hlt
      rw [List.getElem?_eq_getElem hjq] at hq
      injection hq with hq
      have h4 := HS.out j hjq
      rw [hq] at h4
      obtain ⟨x0, x1, x2, x3⟩ := h4
      have hgr := htn.cells HG.out (by decide)
      have cl : ∀ k v, w.cell? ⟨g, k, none⟩ = some v → wr.cell? ⟨g, k, none⟩ = some v := fun k v h => by
        rw [Lib.cell_of_heap HG.out] at h
        rw [Lib.cell_of_heap hgr]; exact h
      have y0 := cl _ _ x0
      have y1 := cl _ _ x1
      have y2 := cl _ _ x2
      have y3 := cl _ _ x3
      clear x0 x1 x2 x3 hq cl hgr
      have HAP := Lib.hid (fun ws k => at_push (ss := ss) (f := f) (base := base) (j := j) (k := k) (ws := ws))
      have HOP := Lib.hid (fun ws => out_push (ss := ss) (f := f) (base := base) (j := j) (ws := ws))
      have HLK : Hid (lkAt ss f base j = linkS f (atK ss base j) (ss.getD j .none)) := Lib.hid rfl
      have hnmj := HNM.out j
      have hszj := HSI.out j
      generalize outW ss f base j = out at *
      generalize hno : out.length = no at *
      generalize hsj : ss.getD j .none = s at *
      have HNO := Lib.hid hno
      have HTN := Lib.hid htn
      have HST0 := Lib.hid hst0
      have HOW := Lib.hid how
      clear hno hsj htn hst0 how
      generalize atK ss base j = a at *
      go_wp2_with (first
        | (refine wpList_store_row rfl _ _ _ rfl wr.heap.size _ rfl rfl 129 _ (heap_alloc_new wr _) size_stm rfl (four_one o0 o1 o2 o3) ?_; refine Hid.out ?_))
      have hwz : w.heap.size ≤ wr.heap.size := HTN.out.only.size
      have hbl : Below wr.heap.size wr ((wr.alloc (.cells #[.string ⟨#[]⟩, .slice none 0 0, .string ⟨#[]⟩, .nilFunc] 129)).setRow wr.heap.size #[c0, c1, c2, c3]) := below_setRow ((Below.refl _ _).alloc (Nat.le_refl _) _) (Nat.le_refl _) _
      have hcw : ((wr.alloc (.cells #[.string ⟨#[]⟩, .slice none 0 0, .string ⟨#[]⟩, .nilFunc] 129)).setRow wr.heap.size #[c0, c1, c2, c3]).heap[wr.heap.size]? = some (.cells #[c0, c1, c2, c3] 129 (0, 0)) := setRow_heap _ _ _ _ _ _ (heap_alloc_new wr _)
      have hrz : wr.heap.size < ((wr.alloc (.cells #[.string ⟨#[]⟩, .slice none 0 0, .string ⟨#[]⟩, .nilFunc] 129)).setRow wr.heap.size #[c0, c1, c2, c3]).heap.size := (Array.getElem?_eq_some_iff.1 hcw).1
      clear y0 y1 y2 y3
      generalize (wr.alloc (.cells #[.string ⟨#[]⟩, .slice none 0 0, .string ⟨#[]⟩, .nilFunc] 129)).setRow wr.heap.size #[c0, c1, c2, c3] = ww at *
      have how2 := ownW_below HOW.out hbl
      have htw : Turn B w ww := HTN.out.below (hbl.mono hwz)
      have z0 : ww.cell? ⟨wr.heap.size, 0, none⟩ = some c0 := by rw [Lib.cell_of_heap hcw]; rfl
      have z1 : ww.cell? ⟨wr.heap.size, 1, none⟩ = some c1 := by rw [Lib.cell_of_heap hcw]; rfl
      have z2 : ww.cell? ⟨wr.heap.size, 2, none⟩ = some c2 := by rw [Lib.cell_of_heap hcw]; rfl
      have z3 : ww.cell? ⟨wr.heap.size, 3, none⟩ = some c3 := by rw [Lib.cell_of_heap hcw]; rfl
      have hst2 := htw.stm HST0.out
      have hob : (Value.slice A no C2).ownBlock ≠ some wr.heap.size := fun e => by have := (ownW_lt HOW.out _ e).2; omega
      have HOB := Lib.hid hob
      have HTW := Lib.hid htw
      have HCW := Lib.hid hcw
      have HOW2 := Lib.hid how2
      clear HOW HTN hbl hcw htw how2 hob
      rcases stmV_kinds hst2 with ⟨rfl, ws, hw, hlk⟩ | ⟨rd, l, rfl⟩ | ⟨i, l, rfl⟩
      · have hkl : lkAt ss f base j = (0, ws) := HLK.out.trans (hlk _ _)
        obtain ⟨A1, C1, rfl⟩ := ownW_slice hw
        generalize hk1 : ws.length = k1 at *
        have hk1b : k1 ≤ 100 := by
          have h1 := link_len (f := f) (a := a) (s := s) (by rw [hlk])
          rw [hlk] at h1
          have h2 : ws.length = sizeS s := h1
          omega
        obtain ⟨A4, C4, w4, hr4, ho4, hon4⟩ := pourV ww w.heap.size B _ _ out ws no k1 HNO.out hk1 HOW2.out hw (by omega) (by omega) 37
        have z1' : w4.cell? ⟨wr.heap.size, 1, none⟩ = some (.slice A1 k1 C1) := by rw [Lib.cell_of_heap (hon4.keeps HOB.out HCW.out)]; rfl
        have HO4 := Lib.hid ho4
        have hnf := neq_nilF ww
        have HB4 : Hid (Turn B w w4) := Lib.hid (HTW.out.below (hon4.below (fun k hk => (ownW_lt HOW2.out k hk).1) (by omega)))
        have HKL := Lib.hid hkl
        clear hkl hlk hw hst2 ho4 hon4
        refine Lib.hid ?_
        go_wp2_with (at_builtin; refine wpList_append_run rfl _ _ _ rfl (.slice A no C2) (.slice A1 k1 C1) (.slice A4 (no + k1) C4) w4 rfl rfl hr4 ?_)
        case roundEnd => exact ⟨⟨j + 1, by omega, rfl, congrArg (Value.int .u64) (by rw [HAP.out _ _ HKL.out hk1]; rfl), lk_push HPRE.out (by rw [HKL.out]), by rw [HOP.out _ HKL.out]; exact HO4.out, HB4.out⟩, by simp [RowKit.intOf]; omega⟩
      · obtain ⟨rfl, ⟨ws0, hl0, hw0⟩, rfl, b, rfl, hBb, hcb⟩ := hst2
        obtain ⟨A1, C1, rfl⟩ := ownW_slice hw0
        have hlk := (HTW.out.map HMP.out).look l hnmj
        have hnf := neq_fun (.func 157) #[] #[.pointer (some ⟨b, 0, none⟩)] ww
        have HCB := Lib.hid hcb
        have HBB := Lib.hid hBb
        clear hw0 hl0 hBb hcb
        cases hfl : f l with
        | none =>
          rw [hfl] at hlk
          have HKL : Hid (lkAt ss f base j = (101, [])) := Lib.hid (by rw [HLK.out]; show aimS (f l) _ _ = _; rw [hfl]; rfl)
          clear hfl
          refine Lib.hid ?_
          go_wp2
          go_ret3
          exact Or.inl ⟨j, hlt, HPRE.out, by rw [HKL.out]; decide, by rw [HKL.out]; rfl, HTW.out⟩
        | some a' =>
          rw [hfl] at hlk
          have HKL0 : Hid (lkAt ss f base j = aimS (some a') (laW rd) a) := Lib.hid (by rw [HLK.out]; show aimS (f l) _ _ = _; rw [hfl])
          clear hfl
          have hc0 : ww.cell? ⟨b, 0, none⟩ = some (.int .i64 rd) := by rw [Lib.cell_of_heap HCB.out]; rfl
          have hli : Calls Tryz.prog 157 #[.int .i64 (wrap64 (IntKind.u64.wrap (a' - a))), .pointer (some ⟨b, 0, none⟩)] ww (AimEnd ww (laW rd (wrap64 (IntKind.u64.wrap (a' - a))))) := la_any rd _ b ww (HE.out _ (HTW.out.bel hB)) hc0
          have HLI := Lib.hid hli
          clear hli hc0
          refine Lib.hid ?_
          go_wp2_with (fail)
          (with_reducible refine HLI.out.mono ?_)
          rintro e w3 h3
          have hZ := z3
          clear z0 z1 z2 z3 hlk hnf hZ
          cases hw : laW rd (wrap64 (IntKind.u64.wrap (a' - a))) with
          | none =>
            rw [hw] at h3
            obtain ⟨rfl, hb3⟩ := h3
            have HKL : Hid (lkAt ss f base j = (102, [])) := Lib.hid (HKL0.out.trans (aimS_far hw))
            have HT3 : Hid (Turn B w w3) := Lib.hid (HTW.out.below (hb3.mono (by omega)))
            have HC3 := Lib.hid ((hb3.block _ hrz).trans HCW.out)
            clear hw hb3
            have f1 : w3.frozen? ⟨wr.heap.size, 1, none⟩ = false := Lib.frozen_of_heap HC3.out 1
            have z1 : w3.cell? ⟨wr.heap.size, 1, none⟩ = some (.slice A1 ws0.length C1) := by rw [Lib.cell_of_heap HC3.out]; rfl
            have z3 : w3.cell? ⟨wr.heap.size, 3, none⟩ = some (.func (.func 157) #[] #[.pointer (some ⟨b, 0, none⟩)]) := by rw [Lib.cell_of_heap HC3.out]; rfl
            go_wp2
            go_ret3
            exact Or.inl ⟨j, hlt, HPRE.out, by rw [HKL.out]; decide, by rw [HKL.out]; rfl, HT3.out.set _ hwz _⟩
          | some ws =>
            rw [hw] at h3
            obtain ⟨v2, rfl, ho2, hb3⟩ := h3
            have HKL : Hid (lkAt ss f base j = (0, ws)) := Lib.hid (HKL0.out.trans (aimS_ok hw))
            have hk2 := laW_len _ _ _ hw
            have HT3 : Hid (Turn B w w3) := Lib.hid (HTW.out.below (hb3.mono (by omega)))
            have HC3 := Lib.hid ((hb3.block _ hrz).trans HCW.out)
            have how3 := ownW_below HOW2.out hb3
            have hz3 := hb3.size
            clear hw hb3
            obtain ⟨A2, C3, rfl⟩ := ownW_slice ho2
            generalize hwl : ws.length = k2 at *
            have hk2b : k2 ≤ 100 := by omega
            clear hk2
            have f1 : w3.frozen? ⟨wr.heap.size, 1, none⟩ = false := Lib.frozen_of_heap HC3.out 1
            have z1 : w3.cell? ⟨wr.heap.size, 1, none⟩ = some (.slice A1 ws0.length C1) := by rw [Lib.cell_of_heap HC3.out]; rfl
            have hset : Only (fun k => k = wr.heap.size) w3 (w3.setCell ⟨wr.heap.size, 1, none⟩ (.slice A2 k2 C3)) := (Only.refl (fun k => k = wr.heap.size) w3).setCell (p := ⟨wr.heap.size, 1, none⟩) (.inl rfl) _
            have h4 := hset.size
            obtain ⟨A4, C4, w5, hr5, ho5, hon5⟩ := pourV (w3.setCell ⟨wr.heap.size, 1, none⟩ (.slice A2 k2 C3)) w.heap.size ww.heap.size (.slice A no C2) (.slice A2 k2 C3) out ws no k2 HNO.out hwl (ownW_keep how3 hset (fun k hk h => HOB.out (by rw [hk, h]))) (ownW_keep ho2 hset (fun k hk h => by have := (ownW_lt ho2 k hk).1; omega)) (by omega) (by have := HT3.out.only.size; omega) 37
            have hrow4 := setCell_row HC3.out 1 (.slice A2 k2 C3)
            have z1b : (w3.setCell ⟨wr.heap.size, 1, none⟩ (.slice A2 k2 C3)).cell? ⟨wr.heap.size, 1, none⟩ = some (.slice A2 k2 C3) := by rw [Lib.cell_of_heap hrow4]; rfl
            have z1' : w5.cell? ⟨wr.heap.size, 1, none⟩ = some (.slice A2 k2 C3) := by rw [Lib.cell_of_heap (hon5.keeps HOB.out hrow4)]; rfl
            have HO5 := Lib.hid ho5
            have HB5 : Hid (Turn B w w5) := Lib.hid ((HT3.out.set ⟨wr.heap.size, 1, none⟩ hwz (.slice A2 k2 C3)).below (hon5.below (fun k hk => by have := (ownW_lt how3 k hk).1; omega) (by have := HT3.out.only.size; omega)))
            have HWL := Lib.hid hwl
            clear ho2 how3 hset hrow4 ho5 hon5 hwl
            go_wp2_with (at_builtin; refine wpList_append_run rfl _ _ _ rfl (.slice A no C2) (.slice A2 k2 C3) (.slice A4 (no + k2) C4) w5 rfl rfl hr5 ?_)
            case roundEnd => exact ⟨⟨j + 1, by omega, rfl, congrArg (Value.int .u64) (by rw [HAP.out _ _ HKL.out HWL.out]; rfl), lk_push HPRE.out (by rw [HKL.out]), by rw [HOP.out _ HKL.out]; exact HO5.out, HB5.out⟩, by simp [RowKit.intOf]; omega⟩
      · obtain ⟨rfl, ⟨ws0, hl0, hw0⟩, rfl, b, rfl, hBb, hcb⟩ := hst2
        obtain ⟨A1, C1, rfl⟩ := ownW_slice hw0
        have hlk := (HTW.out.map HMP.out).look l hnmj
        have hnf := neq_fun (.func 159) #[] #[.pointer (some ⟨b, 0, none⟩)] ww
        have HCB := Lib.hid hcb
        have HBB := Lib.hid hBb
        clear hw0 hl0 hBb hcb
        cases hfl : f l with
        | none =>
          rw [hfl] at hlk
          have HKL : Hid (lkAt ss f base j = (101, [])) := Lib.hid (by rw [HLK.out]; show aimS (f l) _ _ = _; rw [hfl]; rfl)
          clear hfl
          refine Lib.hid ?_
          go_wp2
          go_ret3
          exact Or.inl ⟨j, hlt, HPRE.out, by rw [HKL.out]; decide, by rw [HKL.out]; rfl, HTW.out⟩
        | some a' =>
          rw [hfl] at hlk
          have HKL0 : Hid (lkAt ss f base j = aimS (some a') (jumpW i) a) := Lib.hid (by rw [HLK.out]; show aimS (f l) _ _ = _; rw [hfl])
          clear hfl
          have hI0 : HoldsI w b i := by
            obtain ⟨_, _, _, b', he', _, hI'⟩ := HST0.out
            injection he' with _ _ he'
            have he2 : b = b' := by simpa using he'
            rw [he2]; exact hI'
          have hbw := holdsI_lt hI0
          have HI0 := Lib.hid hI0
          have hli : Calls Tryz.prog 159 #[.int .i64 (wrap64 (IntKind.u64.wrap (a' - a))), .pointer (some ⟨b, 0, none⟩)] ww (JumpEnd ww b i (wrap64 (IntKind.u64.wrap (a' - a)))) := jump_any i _ b ww (fun w' o => HE.out _ ((HTW.out.bel hB).trans (o.below (fun k hk => by rw [hk]; exact HBB.out) (Nat.le_trans hB HTW.out.only.size)))) HCB.out
          have HLI := Lib.hid hli
          clear hli hI0
          refine Lib.hid ?_
          go_wp2_with (fail)
          (with_reducible refine HLI.out.mono ?_)
          rintro e w3 ⟨hy, hno, hI3, ho3⟩
          clear z0 z1 z2 z3 hlk hnf
          have HT3 : Hid (Turn B w w3) := Lib.hid (HTW.out.jump HBB.out HI0.out hI3 ho3)
          have HC3 := Lib.hid (ho3.keeps (g := wr.heap.size) (by show ¬ wr.heap.size = b; omega) HCW.out)
          cases hw : rightB (withImm i (wrap64 (IntKind.u64.wrap (a' - a)))) with
          | false =>
            obtain rfl := hno hw
            have HKL : Hid (lkAt ss f base j = (102, [])) := Lib.hid (HKL0.out.trans (aimS_far (by show jumpW i (wrap64 (IntKind.u64.wrap (a' - a))) = none; unfold jumpW; rw [hw]; rfl)))
            clear hw hy hno hI3 ho3
            have f1 : w3.frozen? ⟨wr.heap.size, 1, none⟩ = false := Lib.frozen_of_heap HC3.out 1
            have z1 : w3.cell? ⟨wr.heap.size, 1, none⟩ = some (.slice A1 ws0.length C1) := by rw [Lib.cell_of_heap HC3.out]; rfl
            have z3 : w3.cell? ⟨wr.heap.size, 3, none⟩ = some (.func (.func 159) #[] #[.pointer (some ⟨b, 0, none⟩)]) := by rw [Lib.cell_of_heap HC3.out]; rfl
            go_wp2
            go_ret3
            exact Or.inl ⟨j, hlt, HPRE.out, by rw [HKL.out]; decide, by rw [HKL.out]; rfl, HT3.out.set _ hwz _⟩
          | true =>
            obtain ⟨v2, rfl, ho2⟩ := hy hw
            have HKL1 : Hid (lkAt ss f base j = (0, [encW (withImm i (wrap64 (IntKind.u64.wrap (a' - a))))])) := Lib.hid (HKL0.out.trans (aimS_ok (by show jumpW i (wrap64 (IntKind.u64.wrap (a' - a))) = some _; unfold jumpW; rw [hw]; rfl)))
            have hk2 : [encW (withImm i (wrap64 (IntKind.u64.wrap (a' - a))))].length = 1 := rfl
            have how3 := ownW_keep HOW2.out ho3 (fun g hg hk => by have := (ownW_lt HOW2.out g hg).1; omega)
            have hz3 := ho3.size
            clear hw hy hno hI3 ho3
            generalize [encW (withImm i (wrap64 (IntKind.u64.wrap (a' - a))))] = ws at *
            have HKL := Lib.hid HKL1.out
            obtain ⟨A2, C3, rfl⟩ := ownW_slice ho2
            generalize hwl : ws.length = k2 at *
            have hk2b : k2 ≤ 100 := by omega
            clear hk2
            have f1 : w3.frozen? ⟨wr.heap.size, 1, none⟩ = false := Lib.frozen_of_heap HC3.out 1
            have z1 : w3.cell? ⟨wr.heap.size, 1, none⟩ = some (.slice A1 ws0.length C1) := by rw [Lib.cell_of_heap HC3.out]; rfl
            have hset : Only (fun k => k = wr.heap.size) w3 (w3.setCell ⟨wr.heap.size, 1, none⟩ (.slice A2 k2 C3)) := (Only.refl (fun k => k = wr.heap.size) w3).setCell (p := ⟨wr.heap.size, 1, none⟩) (.inl rfl) _
            have h4 := hset.size
            obtain ⟨A4, C4, w5, hr5, ho5, hon5⟩ := pourV (w3.setCell ⟨wr.heap.size, 1, none⟩ (.slice A2 k2 C3)) w.heap.size ww.heap.size (.slice A no C2) (.slice A2 k2 C3) out ws no k2 HNO.out hwl (ownW_keep how3 hset (fun k hk h => HOB.out (by rw [hk, h]))) (ownW_keep ho2 hset (fun k hk h => by have := (ownW_lt ho2 k hk).1; omega)) (by omega) (by have := HT3.out.only.size; omega) 37
            have hrow4 := setCell_row HC3.out 1 (.slice A2 k2 C3)
            have z1b : (w3.setCell ⟨wr.heap.size, 1, none⟩ (.slice A2 k2 C3)).cell? ⟨wr.heap.size, 1, none⟩ = some (.slice A2 k2 C3) := by rw [Lib.cell_of_heap hrow4]; rfl
            have z1' : w5.cell? ⟨wr.heap.size, 1, none⟩ = some (.slice A2 k2 C3) := by rw [Lib.cell_of_heap (hon5.keeps HOB.out hrow4)]; rfl
            have HO5 := Lib.hid ho5
            have HB5 : Hid (Turn B w w5) := Lib.hid ((HT3.out.set ⟨wr.heap.size, 1, none⟩ hwz (.slice A2 k2 C3)).below (hon5.below (fun k hk => by have := (ownW_lt how3 k hk).1; omega) (by have := HT3.out.only.size; omega)))
            have HWL := Lib.hid hwl
            clear ho2 how3 hset hrow4 ho5 hon5 hwl
            go_wp2_with (at_builtin; refine wpList_append_run rfl _ _ _ rfl (.slice A no C2) (.slice A2 k2 C3) (.slice A4 (no + k2) C4) w5 rfl rfl hr5 ?_)
            case roundEnd => exact ⟨⟨j + 1, by omega, rfl, congrArg (Value.int .u64) (by rw [HAP.out _ _ HKL.out HWL.out]; rfl), lk_push HPRE.out (by rw [HKL.out]), by rw [HOP.out _ HKL.out]; exact HO5.out, HB5.out⟩, by simp [RowKit.intOf]; omega⟩
    · obtain rfl : j = ss.length := by omega
      go_wp2
      go_ret3
      exact Or.inr ⟨HPRE.out, _, rfl, how, htn⟩
end Go.Proofs.YtakdhdaoklcidaaGreatDoor

namespace Go.Proofs.YtakdhdaoklcidaaGreatDoor
open Go.RowKit Go.Lib Go.Maps Go.WideMaps
set_option linter.unusedVariables false
set_option maxRecDepth 100000
theorem name_le {l : Bs} (h : nameOK l = true) : l.length ≤ 32 := by
  unfold nameOK at h
  simp only [Bool.and_eq_true, decide_eq_true_eq] at h
  exact h.1.1.2
theorem line_bound {x : Bs} {s : Stm} (h : lineS x = some s) : sizeS s ≤ 100 ∧ (labOf s).length ≤ 32 ∧ (namOf s).length ≤ 32 := by
  unfold lineS at h
  generalize coreS x = y at h
  unfold readS at h
  split at h
  · injection h with h; subst h; exact ⟨Nat.le_of_ble_eq_true rfl, Nat.le_of_ble_eq_true rfl, Nat.le_of_ble_eq_true rfl⟩
  · split at h
    · split at h
      · rename_i hn
        injection h with h; subst h; exact ⟨Nat.le_of_ble_eq_true rfl, name_le hn, Nat.le_of_ble_eq_true rfl⟩
      · cases h
    · split at h
      · unfold namingS at h
        split at h
        · rename_i hn
          split at h
          · split at h
            · injection h with h; subst h; exact ⟨Nat.le_of_ble_eq_true rfl, Nat.le_of_ble_eq_true rfl, name_le hn⟩
            · cases h
          · split at h
            · split at h
              · injection h with h; subst h; exact ⟨Nat.le_of_ble_eq_true rfl, Nat.le_of_ble_eq_true rfl, name_le hn⟩
              · cases h
            · cases h
        · cases h
      · cases hw : wordsS y with
        | none => rw [hw] at h; cases h
        | some ws =>
          rw [hw] at h
          injection h with h; subst h
          refine ⟨?_, Nat.le_of_ble_eq_true rfl, Nat.le_of_ble_eq_true rfl⟩
          show ws.length ≤ 100
          unfold wordsS wordsG at hw
          split at hw
          · split at hw
            · split at hw
              · split at hw
                · injection hw with hw; subst hw
                  rw [List.length_map]
                  have := liF_len (regP (cut (cut y [32]).2.1 sepC).1) 4 (numP (cut (cut (cut y [32]).2.1 sepC).2.1 sepC).1)
                  omega
                · cases hw
              · cases hw
            · cases hw
          · split at hw
            · split at hw
              · split at hw
                · injection hw with hw; subst hw; exact Nat.le_of_ble_eq_true rfl
                · cases hw
              · cases hw
            · split at hw
              · split at hw
                · injection hw with hw; subst hw; show 1 ≤ 100; decide
                · cases hw
              · cases hw
def firstN (p : Nat → Bool) (n : Nat) : Option Nat := (List.range n).find? p
theorem firstN_some {p : Nat → Bool} {n k : Nat} (hk : k < n) (h : p k = true) (h0 : ∀ i, i < k → p i = false) : firstN p n = some k := by
  unfold firstN
  rw [List.find?_range_eq_some]
  exact ⟨h, List.mem_range.2 hk, fun j hj => by rw [h0 j hj]; rfl⟩
theorem firstN_none {p : Nat → Bool} {n : Nat} (h0 : ∀ i, i < n → p i = false) : firstN p n = none := by
  unfold firstN
  rw [List.find?_range_eq_none]
  intro i hi
  rw [h0 i hi]; rfl
def asmL (ss : List Stm) (base : Int) : List Int × Int × Int :=
  match firstN (dupAt ss base) ss.length with
  | some k => ([], (k : Int) + 1, 101)
  | none => match firstN (fun k => (lkAt ss (labF ss base ss.length) base k).1 != 0) ss.length with
    | some k => ([], (k : Int) + 1, (lkAt ss (labF ss base ss.length) base k).1)
    | none => (outW ss (labF ss base ss.length) base ss.length, 0, 0)
def asmT (ls : List Bs) (base : Int) : List Int × Int × Int :=
  match firstN (fun k => (lineS (ls.getD k [])).isNone) ls.length with
  | some k => ([], (k : Int) + 1, 100)
  | none => asmL (ls.filterMap lineS) base
def asmF (l : Bs) (base : Int) : List Int × Int × Int := if base % 4 = 0 then asmT (linesT l) base else ([], 0, 1)
def AsEnd (w : World) (r : List Int × Int × Int) (e : Ending) (w' : World) : Prop :=
  ∃ v, e = .returned (.tuple #[v, .int .i64 r.2.1, .int .i64 r.2.2]) ∧ OwnW w' w.heap.size v r.1 ∧ Below w.heap.size w w'
theorem lines_ne (l : Bs) : linesT l ≠ [] := by
  show splitK [10] 0 (Lib.count l [10]) l ≠ []
  cases Lib.count l [10] with
  | zero => simp [splitK]
  | succ k => unfold splitK; split <;> simp
theorem filterMap_get (ls : List Bs) (h : ∀ i, i < ls.length → ∃ s, lineS (ls.getD i []) = some s) : (ls.filterMap lineS).length = ls.length ∧ ∀ i, i < ls.length → lineS (ls.getD i []) = some ((ls.filterMap lineS).getD i .none) := by
  induction ls with
  | nil => exact ⟨rfl, fun i hi => by simp at hi⟩
  | cons x ls ih =>
    obtain ⟨s, hs⟩ := h 0 (by simp)
    have hs' : lineS x = some s := hs
    obtain ⟨h1, h2⟩ := ih (fun i hi => by have := h (i + 1) (by simp; omega); simpa using this)
    rw [List.filterMap_cons_some hs']
    refine ⟨by simp [h1], fun i hi => ?_⟩
    cases i with
    | zero => simpa using hs'
    | succ i => simpa using h2 i (by simpa using hi)
theorem asm_bad {ls : List Bs} {base : Int} {k : Nat} (hk : k < ls.length) (h0 : ∀ i, i < k → ∃ s, lineS (ls.getD i []) = some s) (h : lineS (ls.getD k []) = none) : asmT ls base = ([], (k : Int) + 1, 100) := by
  unfold asmT
  rw [firstN_some hk (by rw [h]; rfl) (fun i hi => by obtain ⟨s, hs⟩ := h0 i hi; rw [hs]; rfl)]
theorem asm_good {ls : List Bs} {base : Int} (h0 : ∀ i, i < ls.length → ∃ s, lineS (ls.getD i []) = some s) : asmT ls base = asmL (ls.filterMap lineS) base := by
  unfold asmT
  rw [firstN_none (fun i hi => by obtain ⟨s, hs⟩ := h0 i hi; rw [hs]; rfl)]
theorem asm_dup {ss : List Stm} {base : Int} {k : Nat} (hk : k < ss.length) (h0 : ∀ i, i < k → dupAt ss base i = false) (h : dupAt ss base k = true) : asmL ss base = ([], (k : Int) + 1, 101) := by
  unfold asmL
  rw [firstN_some hk h h0]
theorem asm_far {ss : List Stm} {base : Int} {k : Nat} (hd : ∀ i, i < ss.length → dupAt ss base i = false) (hk : k < ss.length) (h0 : ∀ i, i < k → (lkAt ss (labF ss base ss.length) base i).1 = 0) (h : (lkAt ss (labF ss base ss.length) base k).1 ≠ 0) : asmL ss base = ([], (k : Int) + 1, (lkAt ss (labF ss base ss.length) base k).1) := by
  unfold asmL
  rw [firstN_none hd]
  simp only []
  rw [firstN_some hk (by simpa using h) (fun i hi => by simpa using h0 i hi)]
theorem asm_all {ss : List Stm} {base : Int} (hd : ∀ i, i < ss.length → dupAt ss base i = false) (h0 : ∀ i, i < ss.length → (lkAt ss (labF ss base ss.length) base i).1 = 0) : asmL ss base = (outW ss (labF ss base ss.length) base ss.length, 0, 0) := by
  unfold asmL
  rw [firstN_none hd]
  simp only []
  rw [firstN_none (fun i hi => by simpa using h0 i hi)]
set_option maxHeartbeats 4000000 in
theorem assemble_any (l : Bs) (hl : l.length ≤ 8000) (base : Int) (hbase : 0 ≤ base ∧ base < 18446744073709551616) (w : World) (he : Env w) : Calls Tryz.prog 18 #[str l, .int .u64 base] w (AsEnd w (asmF l base)) := by
  have HRA := Lib.hid (readAll_any l (by omega) w he)
  have hnl : (linesT l).length ≤ l.length + 1 := by
    have h1 := (splitK_len (Lib.count l [10]) l).1
    have h2 : Lib.count l [10] ≤ l.length := by rw [Lib.count_one]; exact List.count_le_length
    have h3 : (linesT l).length = (splitK [10] 0 (Lib.count l [10]) l).length := rfl
    omega
  have hne := lines_ne l
  have HE := Lib.hid he
  by_cases hb4 : base % 4 = 0
  · have hR : asmF l base = asmT (linesT l) base := by unfold asmF; rw [if_pos hb4]
    rw [hR]
    generalize linesT l = ls at *
    clear hR he
    go_enter Tryz.func18, Tryz.ntmps18
    go_wp2_with (fail)
    (with_reducible refine HRA.out.mono ?_)
    rintro e w1 h1
    rcases h1 with ⟨k, hk, hall, hbad, rfl, hb1⟩ | ⟨hall, v, qs, rfl, hrow, hb1⟩
    · have HB1 := Lib.hid hb1
      have hk0 : decide ((k : Int) + 1 = 0) = false := decide_eq_false (by omega)
      have HR := Lib.hid (asm_bad (base := base) hk hall hbad)
      clear hall hbad hb1
      go_wp2_with (fail)
      go_ret3
      exact ⟨_, by rw [HR.out]; rfl, by rw [HR.out]; exact ownW_nil _ _, HB1.out⟩
    · obtain ⟨hsl, hsg⟩ := filterMap_get ls hall
      have HR := Lib.hid (asm_good (base := base) hall)
      have hbd : ∀ k, sizeS ((ls.filterMap lineS).getD k .none) ≤ 100 ∧ (labOf ((ls.filterMap lineS).getD k .none)).length ≤ 32 ∧ (namOf ((ls.filterMap lineS).getD k .none)).length ≤ 32 := fun k => by
        by_cases c : k < ls.length
        · exact line_bound (hsg k c)
        · rw [List.getD_eq_getElem?_getD, List.getElem?_eq_none (by omega)]; exact ⟨Nat.zero_le _, Nat.zero_le _, Nat.zero_le _⟩
      have hsne : ls.filterMap lineS ≠ [] := fun h => hne (List.eq_nil_of_length_eq_zero (by rw [← hsl, h]; rfl))
      generalize ls.filterMap lineS = ss at *
      have hqn : qs.length = ss.length := hrow.len
      have hqne : qs ≠ [] := fun h => hsne (List.eq_nil_of_length_eq_zero (by rw [← hqn, h]; rfl))
      obtain ⟨g, C, rfl, hSA, hgl⟩ := sAt_own hrow.own hqne
      obtain ⟨_, _, cs, fr, hg⟩ := ownS_lt hrow.own g rfl
      rw [hqn]
      have hst : ∀ k, k < ss.length → ∃ c0 c1 c2 c3, qs[k]? = some (c0, c1, c2, c3) ∧ StmV w1 w.heap.size (ss.getD k .none) c0 c1 c2 c3 := fun k hk => by
        have hq : k < qs.length := by omega
        have h := hrow.at' k hk hq
        refine ⟨qs[k].1, qs[k].2.1, qs[k].2.2.1, qs[k].2.2.2, List.getElem?_eq_getElem hq, ?_⟩
        rw [List.getD_eq_getElem?_getD, List.getElem?_eq_getElem hk]; exact h
      have hQA : QAt ss qs := ⟨hqn, fun k hk => by
        obtain ⟨c0, c1, c2, c3, h1, h2⟩ := hst k hk
        obtain ⟨rfl, A, C', rfl⟩ := stm_c0 h2
        have h3 := stmV_four h2
        exact ⟨A, C', c2, c3, h1, h3.2.2.1, h3.2.2.2⟩, fun k => (hbd k).1, fun k => Nat.le_trans (hbd k).2.1 (by decide)⟩
      have HPL := Lib.hid (place_any ss qs hQA base hbase (by omega) w1 g C hSA hgl)
      have HB1 := Lib.hid hb1
      have HST := Lib.hid hst
      have HBD := Lib.hid hbd
      have HG := Lib.hid hg
      have HSA := Lib.hid hSA
      have hss : ss.length ≤ 9000 := by omega
      clear hall hsl hsg hbd hrow hSA hg hst hQA hb1 hqne hsne
      go_wp2_with (fail)
      (with_reducible refine HPL.out.mono ?_)
      rintro e w2 h2
      rcases h2 with ⟨k, hk, hnd, hd, rfl, hb2⟩ | ⟨hnd, mb, n, rfl, hmb, hmap, hb2⟩
      · have HB2 := Lib.hid (HB1.out.trans (hb2.mono HB1.out.size))
        have hk0 : decide ((k : Int) + 1 = 0) = false := decide_eq_false (by omega)
        have HR2 := Lib.hid (HR.out.trans (asm_dup hk hnd hd))
        clear hnd hd hb2
        go_wp2_with (fail)
        go_ret3
        exact ⟨_, by rw [HR2.out]; rfl, by rw [HR2.out]; exact ownW_nil _ _, HB2.out⟩
      · have HB2 := Lib.hid (HB1.out.trans (hb2.mono HB1.out.size))
        have HND := Lib.hid hnd
        have hlk := link_any ss qs (labF ss base ss.length) base hss w2 w.heap.size HB2.out.size (fun k => (HBD.out k).1) (fun k => Nat.le_trans (HBD.out k).2.2 (by decide)) hqn g C mb n cs fr ((hb2.block _ hgl).trans HG.out) (sAt_below HSA.out hb2) (fun k hk => by
          obtain ⟨c0, c1, c2, c3, h1, h2⟩ := HST.out k hk
          exact ⟨c0, c1, c2, c3, h1, stmV_below h2 hb2⟩) hmap (fun w' hb' => HE.out.below (HB2.out.trans hb'))
        have HLK := Lib.hid hlk
        clear hnd hb2 hmap hlk
        go_wp2_with (fail)
        (with_reducible refine HLK.out.mono ?_)
        rintro e w3 h3
        rcases h3 with ⟨k, hk, h0, hf, rfl, ht⟩ | ⟨h0, v, rfl, how, ht⟩
        · have HR2 := Lib.hid (HR.out.trans (asm_far HND.out hk h0 hf))
          have HB3 := Lib.hid (HB2.out.trans (ht.bel HB2.out.size))
          clear h0 hf ht
          generalize (lkAt ss (labF ss base ss.length) base k).1 = er at *
          go_wp2_with (fail)
          go_ret3
          exact ⟨_, by rw [HR2.out]; rfl, by rw [HR2.out]; exact ownW_nil _ _, HB3.out⟩
        · have HR2 := Lib.hid (HR.out.trans (asm_all HND.out h0))
          have HB3 := Lib.hid (HB2.out.trans (ht.bel HB2.out.size))
          have HOW := Lib.hid (ownW_base how HB2.out.size)
          clear h0 ht how
          go_wp2_with (fail)
          go_ret3
          exact ⟨_, by rw [HR2.out]; rfl, by rw [HR2.out]; exact HOW.out, HB3.out⟩
  · have hR : asmF l base = ([], 0, 1) := by unfold asmF; rw [if_neg hb4]
    rw [hR]
    clear HRA hR he hnl hne
    go_enter Tryz.func18, Tryz.ntmps18
    go_wp2_with (fail)
    go_ret3
    exact ⟨_, rfl, ownW_nil _ _, Below.refl _ _⟩
end Go.Proofs.YtakdhdaoklcidaaGreatDoor

namespace Go.Proofs.YtakdhdaoklcidaaGreatDoor
open Go.RowKit Go.Lib
set_option linter.unusedVariables false
set_option maxRecDepth 100000
def wakeT : Bs := [97, 58, 10, 98, 101, 113, 32, 120, 48, 44, 32, 120, 48, 44, 32, 64, 97, 10, 106, 97, 108, 32, 120, 48, 44, 32, 64, 98, 10, 98, 58]
def wakeI : Ins := ⟨22, 1, 2, 0, -5, 0, false, false⟩
theorem wakeI_right : rightB wakeI = true := by decide +kernel
theorem wakeI_text : printT wakeI = [97, 100, 100, 105, 32, 120, 49, 44, 32, 120, 50, 44, 32, 45, 53] := by decide +kernel
theorem wakeT_is : asmF wakeT 0 = ([99, 4194415], 0, 0) := by decide +kernel
set_option maxHeartbeats 1000000 in
theorem wakes10 (w : World) (he : Env w) : Calls Tryz.prog 12 #[] w fun e w' => e = .returned (.bool true) ∧ Below w.heap.size w w' := by
  have hP : ∀ w, Env w → Calls Tryz.prog 10 #[.agg #[.int .i64 22, .int .i64 1, .int .i64 2, .int .i64 0, .int .i64 (-5), .int .i64 0, .bool false, .bool false]] w fun e w' => e = .returned (.tuple #[.string ⟨#[97, 100, 100, 105, 32, 120, 49, 44, 32, 120, 50, 44, 32, 45, 53]⟩, .int .i64 0]) ∧ Below w.heap.size w w' := fun w he => by
    have h := print_yes wakeI wakeI_right w he
    rw [wakeI_text] at h; exact h
  have hA : ∀ w, Env w → Calls Tryz.prog 18 #[.string ⟨#[97, 58, 10, 98, 101, 113, 32, 120, 48, 44, 32, 120, 48, 44, 32, 64, 97, 10, 106, 97, 108, 32, 120, 48, 44, 32, 64, 98, 10, 98, 58]⟩, .int .u64 0] w (AsEnd w ([99, 4194415], 0, 0)) := fun w he => by
    have h := assemble_any wakeT (by decide) 0 (by decide) w he
    rw [wakeT_is] at h; exact h
  have HP := Lib.hid hP
  have HA := Lib.hid hA
  have HE := Lib.hid he
  clear hP hA he
  go_enter Tryz.func12, Tryz.ntmps12
  go_wp2_with (fail)
  (with_reducible refine (HP.out _ HE.out).mono ?_)
  rintro e w1 ⟨rfl, hb1⟩
  have HB1 := Lib.hid hb1
  clear hb1
  go_wp2_with (fail)
  (with_reducible refine (HA.out _ (HE.out.below HB1.out)).mono ?_)
  rintro e w2 ⟨v, rfl, how, hb2⟩
  have HB2 := Lib.hid (HB1.out.trans (hb2.mono HB1.out.size))
  rcases how.2 with ⟨_, h0⟩ | ⟨g, cap, cur, rfl, hb, hg, hn1, hn2, hn3, ht⟩
  · cases h0
  · have hc : ∀ j u, (wordCs [99, 4194415])[j]? = some u → w2.cell? ⟨g, j, none⟩ = some u := fun j u h => by
      rw [Lib.cell_of_heap hg, ← h, ← ht, List.getElem?_take]
      have hj := (List.getElem?_eq_some_iff.1 h).1
      rw [if_pos (by simpa [wordCs] using hj)]; simp
    have c0 := hc 0 _ rfl
    have c1 := hc 1 _ rfl
    clear hc ht hg how hb2
    go_wp2
    go_ret
    exact ⟨rfl, HB2.out⟩
end Go.Proofs.YtakdhdaoklcidaaGreatDoor

namespace Go.Proofs.YtakdhdaoklcidaaGreatDoor
open Go.RowKit Go.Lib
set_option linter.unusedVariables false
set_option maxRecDepth 100000
def lettersT (f : Nat) : Bs := ([[114, 105], [114, 105], [114, 97, 105], [97, 98, 105], [97, 98, 105], [114, 97, 105], [114, 97, 105], [114, 97, 98], [114, 97], [114, 97, 98], [], [97, 98], [114, 97, 99], [114, 105, 99], [114, 97]] : List Bs).getD f []
def opOf (i : Ins) (c : UInt8) : Bs := if c = 114 then xr i.rd else if c = 97 then xr i.a else if c = 98 then xr i.b else if c = 105 then itoa i.imm else itoa i.csr
theorem ops_letters (f : Nat) (hf : f < 15) (i : Ins) : opsF (frm f) i = (lettersT f).map (opOf i) := by
  match f, hf with
  | 0, _ => rfl
  | 1, _ => rfl
  | 2, _ => rfl
  | 3, _ => rfl
  | 4, _ => rfl
  | 5, _ => rfl
  | 6, _ => rfl
  | 7, _ => rfl
  | 8, _ => rfl
  | 9, _ => rfl
  | 10, _ => rfl
  | 11, _ => rfl
  | 12, _ => rfl
  | 13, _ => rfl
  | 14, _ => rfl
theorem letters_0 (w : World) : Calls Tryz.prog 32 #[.int .u8 85] w fun e w' => e = .returned (str (lettersT 0)) ∧ w = w' := by
  go_enter Tryz.func32, Tryz.ntmps32
  go_wp2
  go_ret
  exact ⟨rfl, rfl⟩
theorem letters_1 (w : World) : Calls Tryz.prog 32 #[.int .u8 74] w fun e w' => e = .returned (str (lettersT 1)) ∧ w = w' := by
  go_enter Tryz.func32, Tryz.ntmps32
  go_wp2
  go_ret
  exact ⟨rfl, rfl⟩
theorem letters_2 (w : World) : Calls Tryz.prog 32 #[.int .u8 73] w fun e w' => e = .returned (str (lettersT 2)) ∧ w = w' := by
  go_enter Tryz.func32, Tryz.ntmps32
  go_wp2
  go_ret
  exact ⟨rfl, rfl⟩
theorem letters_3 (w : World) : Calls Tryz.prog 32 #[.int .u8 66] w fun e w' => e = .returned (str (lettersT 3)) ∧ w = w' := by
  go_enter Tryz.func32, Tryz.ntmps32
  go_wp2
  go_ret
  exact ⟨rfl, rfl⟩
theorem letters_4 (w : World) : Calls Tryz.prog 32 #[.int .u8 83] w fun e w' => e = .returned (str (lettersT 4)) ∧ w = w' := by
  go_enter Tryz.func32, Tryz.ntmps32
  go_wp2
  go_ret
  exact ⟨rfl, rfl⟩
theorem letters_5 (w : World) : Calls Tryz.prog 32 #[.int .u8 72] w fun e w' => e = .returned (str (lettersT 5)) ∧ w = w' := by
  go_enter Tryz.func32, Tryz.ntmps32
  go_wp2
  go_ret
  exact ⟨rfl, rfl⟩
theorem letters_6 (w : World) : Calls Tryz.prog 32 #[.int .u8 87] w fun e w' => e = .returned (str (lettersT 6)) ∧ w = w' := by
  go_enter Tryz.func32, Tryz.ntmps32
  go_wp2
  go_ret
  exact ⟨rfl, rfl⟩
theorem letters_7 (w : World) : Calls Tryz.prog 32 #[.int .u8 82] w fun e w' => e = .returned (str (lettersT 7)) ∧ w = w' := by
  go_enter Tryz.func32, Tryz.ntmps32
  go_wp2
  go_ret
  exact ⟨rfl, rfl⟩
theorem letters_8 (w : World) : Calls Tryz.prog 32 #[.int .u8 76] w fun e w' => e = .returned (str (lettersT 8)) ∧ w = w' := by
  go_enter Tryz.func32, Tryz.ntmps32
  go_wp2
  go_ret
  exact ⟨rfl, rfl⟩
theorem letters_9 (w : World) : Calls Tryz.prog 32 #[.int .u8 65] w fun e w' => e = .returned (str (lettersT 9)) ∧ w = w' := by
  go_enter Tryz.func32, Tryz.ntmps32
  go_wp2
  go_ret
  exact ⟨rfl, rfl⟩
theorem letters_10 (w : World) : Calls Tryz.prog 32 #[.int .u8 78] w fun e w' => e = .returned (str (lettersT 10)) ∧ w = w' := by
  go_enter Tryz.func32, Tryz.ntmps32
  go_wp2
  go_ret
  exact ⟨rfl, rfl⟩
theorem letters_11 (w : World) : Calls Tryz.prog 32 #[.int .u8 70] w fun e w' => e = .returned (str (lettersT 11)) ∧ w = w' := by
  go_enter Tryz.func32, Tryz.ntmps32
  go_wp2
  go_ret
  exact ⟨rfl, rfl⟩
theorem letters_12 (w : World) : Calls Tryz.prog 32 #[.int .u8 67] w fun e w' => e = .returned (str (lettersT 12)) ∧ w = w' := by
  go_enter Tryz.func32, Tryz.ntmps32
  go_wp2
  go_ret
  exact ⟨rfl, rfl⟩
theorem letters_13 (w : World) : Calls Tryz.prog 32 #[.int .u8 90] w fun e w' => e = .returned (str (lettersT 13)) ∧ w = w' := by
  go_enter Tryz.func32, Tryz.ntmps32
  go_wp2
  go_ret
  exact ⟨rfl, rfl⟩
theorem letters_14 (w : World) : Calls Tryz.prog 32 #[.int .u8 86] w fun e w' => e = .returned (str (lettersT 14)) ∧ w = w' := by
  go_enter Tryz.func32, Tryz.ntmps32
  go_wp2
  go_ret
  exact ⟨rfl, rfl⟩
theorem letters_any (f : Nat) (hf : f < 15) (w : World) : Calls Tryz.prog 32 #[.int .u8 (letT f)] w fun e w' => e = .returned (str (lettersT f)) ∧ w = w' := by
  match f, hf with
  | 0, _ => exact letters_0 w
  | 1, _ => exact letters_1 w
  | 2, _ => exact letters_2 w
  | 3, _ => exact letters_3 w
  | 4, _ => exact letters_4 w
  | 5, _ => exact letters_5 w
  | 6, _ => exact letters_6 w
  | 7, _ => exact letters_7 w
  | 8, _ => exact letters_8 w
  | 9, _ => exact letters_9 w
  | 10, _ => exact letters_10 w
  | 11, _ => exact letters_11 w
  | 12, _ => exact letters_12 w
  | 13, _ => exact letters_13 w
  | 14, _ => exact letters_14 w
def digs (u : Nat) : Bs := if u = 0 then [] else decDigits u
theorem digs_step {u : Nat} (h : ¬ u = 0) : digs u = digs (u / 10) ++ [UInt8.ofNat (48 + u % 10)] := by
  unfold digs
  rw [if_neg h]
  by_cases c : u < 10
  · rw [if_pos (by omega)]
    rw [decDigits, dif_pos c, Nat.mod_eq_of_lt c]; rfl
  · rw [if_neg (by omega)]
    rw [decDigits, dif_neg c]
set_option maxHeartbeats 1000000 in
theorem digits_neg (n : Int) (h0 : -9223372036854775808 ≤ n) (h1 : n < 0) (w : World) : Calls Tryz.prog 33 #[.int .i64 n] w fun e w' => e = .returned (str (itoa n)) ∧ Below w.heap.size w w' := by
  have hi : itoa n = 45 :: digs n.natAbs := by unfold itoa digs; rw [if_pos h1, if_neg (by omega)]
  have hn0 : (n == 0) = false := beq_eq_false_iff_ne.2 (by omega)
  have hu : IntKind.u64.wrap (-(IntKind.u64.wrap n)) = (n.natAbs : Int) := by
    show (-(n % 18446744073709551616)) % 18446744073709551616 = _
    omega
  have HI := Lib.hid hi
  have hab : n.natAbs ≤ 9223372036854775808 := by omega
  have hdl : (digs n.natAbs).length ≤ 30 := by
    have h := itoa_length_le n (by omega) (by omega)
    rw [hi] at h
    simp at h; omega
  clear hi
  go_enter Tryz.func33, Tryz.ntmps33
  go_wp2
  go_loopw [3, 4] (fun x s wr => ∃ (U : Nat) (S : Bs), x = .int .u64 U ∧ s = str S ∧ digs U ++ S = digs n.natAbs ∧ U ≤ 9223372036854775808 ∧ Below w.heap.size w wr) (fun x _ _ => (RowKit.intOf x).toNat)
  case atStart => exact ⟨n.natAbs, [], rfl, rfl, List.append_nil _, hab, Below.refl _ _⟩
  case round =>
    obtain ⟨U, S, rfl, rfl, hS, hUb, hb⟩ := hrel
    have HB := Lib.hid hb
    have hsl : S.length ≤ 30 := by have := congrArg List.length hS; rw [List.length_append] at this; omega
    have HS := Lib.hid hS
    clear hS hb
    by_cases hU : U = 0
    · have hU0 : ¬ (0 : Int) < (U : Int) := by omega
      have HE : Hid (S = digs n.natAbs) := Lib.hid (by have := HS.out; rw [hU, show digs 0 = [] from rfl, List.nil_append] at this; exact this)
      clear hU
      go_wp2
      go_ret
      exact ⟨by rw [HI.out, ← HE.out]; show Ending.returned (Value.string (⟨([45] : Bs).toArray⟩ ++ ⟨S.toArray⟩)) = _; rw [str_cat]; rfl, HB.out⟩
    · have hU0 : (0 : Int) < (U : Int) := by omega
      have HST : Hid (digs (U / 10) ++ (UInt8.ofNat (48 + U % 10) :: S) = digs n.natAbs) := Lib.hid (by rw [← HS.out, digs_step hU]; simp)
      have eu : (UInt8.ofNat (48 + U % 10)).toNat = 48 + U % 10 := by rw [UInt8.toNat_ofNat']; exact Nat.mod_eq_of_lt (by show _ < 256; omega)
      generalize UInt8.ofNat (48 + U % 10) = c at *
      have hcv : (convert 48 9 (.slice (some ⟨wr.heap.size, 0, none⟩) 1 1)).run Tryz.prog (wr.alloc (.cells #[.int .u8 (48 + (U : Int) % 10)] 5)) = .ok (.string ⟨([c] : Bs).toArray⟩) (wr.alloc (.cells #[.int .u8 (48 + (U : Int) % 10)] 5)) :=
        run_convert_bytes_back _ _ _ 5 ⟨wr.heap.size, 0, none⟩ 1 [c] Tryz.underlying48 Tryz.underlying5 Tryz.underlying9 (fun i hi => by
          rw [Lib.add_plain, Nat.zero_add, Lib.cell_of_heap (heap_alloc_new _ _)]
          have hi2 : i = 0 := by simpa using hi
          subst hi2
          show _ = some (Value.int .u8 (c.toNat : Int))
          rw [eu]; simp)
      have HEU := Lib.hid eu
      clear hU eu
      go_wp2
      case roundEnd => exact ⟨⟨U / 10, c :: S, by simp, by show Value.string (⟨([c] : Bs).toArray⟩ ++ ⟨S.toArray⟩) = _; rw [str_cat]; rfl, HST.out, by omega, HB.out.alloc HB.out.size _⟩, by simp [RowKit.intOf]; omega⟩
      all_goals (exfalso; omega)
set_option maxHeartbeats 1000000 in
theorem digits_pos (n : Int) (h0 : 0 < n) (h1 : n ≤ 9223372036854775807) (w : World) : Calls Tryz.prog 33 #[.int .i64 n] w fun e w' => e = .returned (str (itoa n)) ∧ Below w.heap.size w w' := by
  have hi : itoa n = digs n.toNat := by unfold itoa digs; rw [if_neg (by omega), if_neg (by omega)]
  have hn0 : (n == 0) = false := beq_eq_false_iff_ne.2 (by omega)
  have hu : IntKind.u64.wrap n = n := by
    show n % 18446744073709551616 = _
    omega
  have hnn : ¬ n < 0 := by omega
  have HI := Lib.hid hi
  have hab : n.toNat ≤ 9223372036854775808 := by omega
  have hdl : (digs n.toNat).length ≤ 30 := by
    have h := itoa_length_le n (by omega) (by omega)
    rw [hi] at h
    omega
  clear hi
  go_enter Tryz.func33, Tryz.ntmps33
  go_wp2
  go_loopw [3, 4] (fun x s wr => ∃ (U : Nat) (S : Bs), x = .int .u64 U ∧ s = str S ∧ digs U ++ S = digs n.toNat ∧ U ≤ 9223372036854775808 ∧ Below w.heap.size w wr) (fun x _ _ => (RowKit.intOf x).toNat)
  case atStart => exact ⟨n.toNat, [], congrArg (Value.int .u64) (Int.toNat_of_nonneg (by omega)).symm, rfl, List.append_nil _, hab, Below.refl _ _⟩
  case round =>
    obtain ⟨U, S, rfl, rfl, hS, hUb, hb⟩ := hrel
    have HB := Lib.hid hb
    have hsl : S.length ≤ 30 := by have := congrArg List.length hS; rw [List.length_append] at this; omega
    have HS := Lib.hid hS
    clear hS hb
    by_cases hU : U = 0
    · have hU0 : ¬ (0 : Int) < (U : Int) := by omega
      have HE : Hid (S = digs n.toNat) := Lib.hid (by have := HS.out; rw [hU, show digs 0 = [] from rfl, List.nil_append] at this; exact this)
      clear hU
      go_wp2
      go_ret
      exact ⟨by rw [HI.out, ← HE.out]; rfl, HB.out⟩
    · have hU0 : (0 : Int) < (U : Int) := by omega
      have HST : Hid (digs (U / 10) ++ (UInt8.ofNat (48 + U % 10) :: S) = digs n.toNat) := Lib.hid (by rw [← HS.out, digs_step hU]; simp)
      have eu : (UInt8.ofNat (48 + U % 10)).toNat = 48 + U % 10 := by rw [UInt8.toNat_ofNat']; exact Nat.mod_eq_of_lt (by show _ < 256; omega)
      generalize UInt8.ofNat (48 + U % 10) = c at *
      have hcv : (convert 48 9 (.slice (some ⟨wr.heap.size, 0, none⟩) 1 1)).run Tryz.prog (wr.alloc (.cells #[.int .u8 (48 + (U : Int) % 10)] 5)) = .ok (.string ⟨([c] : Bs).toArray⟩) (wr.alloc (.cells #[.int .u8 (48 + (U : Int) % 10)] 5)) :=
        run_convert_bytes_back _ _ _ 5 ⟨wr.heap.size, 0, none⟩ 1 [c] Tryz.underlying48 Tryz.underlying5 Tryz.underlying9 (fun i hi => by
          rw [Lib.add_plain, Nat.zero_add, Lib.cell_of_heap (heap_alloc_new _ _)]
          have hi2 : i = 0 := by simpa using hi
          subst hi2
          show _ = some (Value.int .u8 (c.toNat : Int))
          rw [eu]; simp)
      have HEU := Lib.hid eu
      clear hU eu
      go_wp2
      case roundEnd => exact ⟨⟨U / 10, c :: S, by simp, by show Value.string (⟨([c] : Bs).toArray⟩ ++ ⟨S.toArray⟩) = _; rw [str_cat]; rfl, HST.out, by omega, HB.out.alloc HB.out.size _⟩, by simp [RowKit.intOf]; omega⟩
      all_goals (exfalso; omega)
theorem digits_zero (w : World) : Calls Tryz.prog 33 #[.int .i64 0] w fun e w' => e = .returned (str (itoa 0)) ∧ Below w.heap.size w w' := by
  rw [show itoa 0 = [48] by decide +kernel]
  go_enter Tryz.func33, Tryz.ntmps33
  go_wp2
  go_ret
  exact ⟨rfl, Below.refl _ _⟩
theorem digits_any (n : Int) (h0 : -9223372036854775808 ≤ n) (h1 : n ≤ 9223372036854775807) (w : World) : Calls Tryz.prog 33 #[.int .i64 n] w fun e w' => e = .returned (str (itoa n)) ∧ Below w.heap.size w w' := by
  by_cases c : n < 0
  · exact digits_neg n h0 c w
  · by_cases z : n = 0
    · subst z; exact digits_zero w
    · exact digits_pos n (by omega) h1 w
end Go.Proofs.YtakdhdaoklcidaaGreatDoor

namespace Go.Proofs.YtakdhdaoklcidaaGreatDoor
open Go.RowKit Go.Lib
set_option linter.unusedVariables false
set_option maxRecDepth 100000
def digZ (b : UInt8) : Bool := decide (48 ≤ b.toNat) && decide (b.toNat ≤ 57)
def valD (l : Bs) (u : Nat) : Nat := l.foldl (fun u b => 10 * u + (b.toNat - 48)) u
def bodyR (s : Bs) : Bs := if s.head? = some 45 then s.drop 1 else s
def numZD (s : Bs) : Int × Bool :=
  if bodyR s = [] ∨ 19 < (bodyR s).length ∨ (bodyR s).all digZ = false then (0, false)
  else let n := if s.head? = some 45 then wrap64 (-(valD (bodyR s) 0 : Int)) else wrap64 (valD (bodyR s) 0)
    (n, itoa n == s)
theorem valD_snoc (l : Bs) (b : UInt8) (u : Nat) : valD (l ++ [b]) u = 10 * valD l u + (b.toNat - 48) := by unfold valD; rw [List.foldl_append]; rfl
theorem num_bad {s : Bs} (hb : bodyR s = s) {j : Nat} (hj : j < s.length) (h : digZ s[j] = false) : numZD s = (0, false) := by
  unfold numZD
  rw [hb, if_pos]
  right; right
  cases e : s.all digZ
  · rfl
  · have := List.all_eq_true.1 e s[j] (List.getElem_mem hj)
    rw [h] at this; cases this
theorem num_good {s : Bs} (hb : bodyR s = s) (h45 : ¬ s.head? = some 45) (h0 : 1 ≤ s.length) (h19 : s.length ≤ 19) (h : ∀ j (hj : j < s.length), digZ s[j] = true) : numZD s = (wrap64 (valD s 0), itoa (wrap64 (valD s 0)) == s) := by
  unfold numZD
  have ha : s.all digZ = true := List.all_eq_true.2 fun x hx => by
    obtain ⟨j, hj, rfl⟩ := List.getElem_of_mem hx
    exact h j hj
  rw [hb, if_neg, if_neg h45]
  rintro (h1 | h1 | h1)
  · rw [h1] at h0; cases h0
  · omega
  · rw [ha] at h1; cases h1
theorem dig_z {b : UInt8} : digZ b = true ↔ 48 ≤ b.toNat ∧ b.toNat ≤ 57 := by unfold digZ; simp
set_option maxHeartbeats 4000000 in
theorem number_plain (s : Bs) (hs : s.length ≤ 19) (hs0 : 1 ≤ s.length) (h45 : ¬ s.head? = some 45) (hdg : ∀ w n, -9223372036854775808 ≤ n → n ≤ 9223372036854775807 → Calls Tryz.prog 33 #[.int .i64 n] w fun e w' => e = .returned (str (itoa n)) ∧ Below w.heap.size w w') (w : World) : Calls Tryz.prog 71 #[str s] w fun e w' => e = .returned (.tuple #[.int .i64 (numZD s).1, .bool (numZD s).2]) ∧ Below w.heap.size w w' := by
  have hb : bodyR s = s := by unfold bodyR; rw [if_neg h45]
  have hbn : (((⟨s.toArray⟩ : ByteArray)[0]'(by show 0 < s.toArray.size; rw [List.size_toArray]; exact hs0)).toNat : Int) ≠ 45 := by
    intro h
    cases s with
    | nil => cases hs0
    | cons b l =>
      have : b.toNat = 45 := by have h2 : ((b.toNat : Nat) : Int) = 45 := h; omega
      exact h45 (by rw [show b = 45 from UInt8.toNat_inj.1 this]; rfl)
  have hbn2 := beq_eq_false_iff_ne.2 hbn
  have HDG := Lib.hid hdg
  clear hdg hbn
  have hl0 : ((s.length : Int) == 0) = false := beq_eq_false_iff_ne.2 (by omega)
  have hl1 : ((0 : Int) == (s.length : Int)) = false := beq_eq_false_iff_ne.2 (by omega)
  have hl3 : (0 : Int) < (s.length : Int) := by omega
  have hl4 : ¬ (19 : Int) < (s.length : Int) := by omega
  have hw : wrap64 (s.length : Int) = (s.length : Int) := wrap64_id (by omega) (by omega)
  go_enter Tryz.func71, Tryz.ntmps71
  go_wp2
  go_loopw [5, 6] (fun u i wr => ∃ j : Nat, j ≤ s.length ∧ i = .int .i64 j ∧ u = .int .u64 (valD (s.take j) 0 : Nat) ∧ (∀ k (hk : k < s.length), k < j → digZ s[k] = true) ∧ valD (s.take j) 0 < 10 ^ j ∧ wr = w) (fun _ i _ => s.length - (RowKit.intOf i).toNat)
  case atStart => exact ⟨0, Nat.zero_le _, rfl, by simp [valD], fun k _ hk => by omega, by simp [valD], rfl⟩
  case round =>
    obtain ⟨j, hj, rfl, rfl, hall, hlt10, rfl⟩ := hrel
    have hp19 : (10 : Nat) ^ j ≤ 10 ^ 19 := Nat.pow_le_pow_right (by decide) (by omega)
    by_cases hlt : j < s.length
    · have hp18 : (10 : Nat) ^ j ≤ 10 ^ 18 := Nat.pow_le_pow_right (by decide) (by omega)
      have hix : ((⟨s.toArray⟩ : ByteArray)[j]'(by show j < s.toArray.size; rw [List.size_toArray]; exact hlt)) = s[j] := rfl
      have hst : valD (s.take (j + 1)) 0 = 10 * valD (s.take j) 0 + (s[j].toNat - 48) := by rw [List.take_succ_eq_append_getElem hlt, valD_snoc]
      have HST := Lib.hid hst
      have HALL := Lib.hid hall
      cases hd : digZ s[j] with
      | false =>
        have HB := Lib.hid (num_bad hb hlt hd)
        have hcc : s[j].toNat < 48 ∨ 57 < s[j].toNat := by
          rcases Nat.lt_or_ge s[j].toNat 48 with h | h
          · exact .inl h
          · rcases Nat.lt_or_ge 57 s[j].toNat with h2 | h2
            · exact .inr h2
            · rw [dig_z.2 ⟨h, h2⟩] at hd; cases hd
        clear hst hall hd
        generalize s[j] = c at *
        rcases hcc with hcc | hcc
        · have hc1 : (c.toNat : Int) < 48 := by omega
          go_wp2
          go_ret2
          exact ⟨by rw [HB.out]; rfl, Below.refl _ _⟩
        · have hc1 : ¬ (c.toNat : Int) < 48 := by omega
          have hc2 : (57 : Int) < (c.toNat : Int) := by omega
          go_wp2
          go_ret2
          exact ⟨by rw [HB.out]; rfl, Below.refl _ _⟩
      | true =>
        obtain ⟨d1, d2⟩ := dig_z.1 hd
        have HD : Hid (∀ k (hk : k < s.length), k = j → digZ s[k] = true) := Lib.hid (fun k hk e => by subst e; exact hd)
        clear hst hall hd
        generalize s[j] = c at *
        generalize valD (s.take j) 0 = u at *
        have hc1 : ¬ (c.toNat : Int) < 48 := by omega
        have hc2 : ¬ (57 : Int) < (c.toNat : Int) := by omega
        have hu18 : u < 1000000000000000000 := by omega
        go_wp2
        case roundEnd => exact ⟨⟨j + 1, by omega, rfl, congrArg (Value.int .u64) (by rw [HST.out]; omega), fun k hk hkj => by
          by_cases e : k < j
          · exact HALL.out k hk e
          · exact HD.out k hk (by omega), by rw [HST.out, Nat.pow_succ]; omega, trivial⟩, by simp [RowKit.intOf]; omega⟩
    · obtain rfl : j = s.length := by omega
      rw [List.take_length] at hlt10
      have HG := Lib.hid (num_good hb h45 hs0 hs (fun k hk => hall k hk hk))
      rw [List.take_length]
      clear hall hlt
      have hDX := HDG.out
      have HDX := Lib.hid (fun w => hDX w (wrap64 (valD s 0 : Nat)) (by unfold wrap64; omega) (by unfold wrap64; omega))
      clear hDX
      go_wp2_with (fail)
      (with_reducible refine (HDX.out _).mono ?_)
      rintro e w2 ⟨rfl, hb2⟩
      have HB2 := Lib.hid hb2
      clear hb2
      go_wp2
      go_ret2
      exact ⟨by rw [HG.out]; rfl, HB2.out⟩
theorem num_badm {r : Bs} {j : Nat} (hj : j < r.length) (h : digZ r[j] = false) : numZD (45 :: r) = (0, false) := by
  have hb : bodyR (45 :: r) = r := by unfold bodyR; rw [if_pos (by rfl)]; rfl
  unfold numZD
  rw [hb, if_pos]
  right; right
  cases e : r.all digZ
  · rfl
  · have := List.all_eq_true.1 e r[j] (List.getElem_mem hj)
    rw [h] at this; cases this
theorem num_goodm {r : Bs} (h0 : 1 ≤ r.length) (h19 : r.length ≤ 19) (h : ∀ j (hj : j < r.length), digZ r[j] = true) : numZD (45 :: r) = (wrap64 (-(valD r 0 : Nat)), itoa (wrap64 (-(valD r 0 : Nat))) == 45 :: r) := by
  have hb : bodyR (45 :: r) = r := by unfold bodyR; rw [if_pos (by rfl)]; rfl
  unfold numZD
  have ha : r.all digZ = true := List.all_eq_true.2 fun x hx => by
    obtain ⟨j, hj, rfl⟩ := List.getElem_of_mem hx
    exact h j hj
  rw [hb, if_neg, if_pos (by rfl)]
  rintro (h1 | h1 | h1)
  · rw [h1] at h0; cases h0
  · omega
  · rw [ha] at h1; cases h1
set_option maxHeartbeats 4000000 in
theorem number_minus (r s : Bs) (hS : (45 : UInt8) :: r = s) (hs : r.length ≤ 19) (hs0 : 1 ≤ r.length) (hdg : ∀ w n, -9223372036854775808 ≤ n → n ≤ 9223372036854775807 → Calls Tryz.prog 33 #[.int .i64 n] w fun e w' => e = .returned (str (itoa n)) ∧ Below w.heap.size w w') (w : World) : Calls Tryz.prog 71 #[str s] w fun e w' => e = .returned (.tuple #[.int .i64 (numZD s).1, .bool (numZD s).2]) ∧ Below w.heap.size w w' := by
  have hlen : s.length = r.length + 1 := by rw [← hS]; rfl
  have hbn : ((((⟨s.toArray⟩ : ByteArray)[0]'(by show 0 < s.toArray.size; rw [List.size_toArray]; omega)).toNat : Int) == 45) = true := by subst hS; rfl
  have hgs : ∀ j (hj : j < r.length), ((⟨s.toArray⟩ : ByteArray)[1 + j]'(by show 1 + j < s.toArray.size; rw [List.size_toArray]; omega)) = r[j] := fun j hj => by
    subst hS
    show (45 :: r)[1 + j]'_ = _
    simp [Nat.add_comm 1 j]
  have HGS := Lib.hid hgs
  have HS := Lib.hid hS
  have HDG := Lib.hid hdg
  clear hdg hgs hS
  have hl1 : ((1 : Int) == (s.length : Int)) = false := beq_eq_false_iff_ne.2 (by omega)
  have hl3 : (0 : Int) < (s.length : Int) := by omega
  have hw : wrap64 ((s.length : Int) - 1) = (s.length : Int) - 1 := wrap64_id (by omega) (by omega)
  have hl4 : ¬ (19 : Int) < (s.length : Int) - 1 := by omega
  have hl5 : ((1 : Int) == (r.length : Int) + 1) = false := beq_eq_false_iff_ne.2 (by omega)
  have hl6 : ¬ (19 : Int) < (r.length : Int) := by omega
  go_enter Tryz.func71, Tryz.ntmps71
  go_wp2
  go_loopw [5, 6] (fun u i wr => ∃ j : Nat, j ≤ r.length ∧ i = .int .i64 ((1 + j : Nat) : Int) ∧ u = .int .u64 (valD (r.take j) 0 : Nat) ∧ (∀ k (hk : k < r.length), k < j → digZ r[k] = true) ∧ valD (r.take j) 0 < 10 ^ j ∧ wr = w) (fun _ i _ => s.length - (RowKit.intOf i).toNat)
  case atStart => exact ⟨0, Nat.zero_le _, rfl, by simp [valD], fun k _ hk => by omega, by simp [valD], rfl⟩
  case round =>
    obtain ⟨j, hj, rfl, rfl, hall, hlt10, rfl⟩ := hrel
    have hp19 : (10 : Nat) ^ j ≤ 10 ^ 19 := Nat.pow_le_pow_right (by decide) (by omega)
    by_cases hlt : j < r.length
    · have hp18 : (10 : Nat) ^ j ≤ 10 ^ 18 := Nat.pow_le_pow_right (by decide) (by omega)
      have hix := HGS.out j hlt
      have hst : valD (r.take (j + 1)) 0 = 10 * valD (r.take j) 0 + (r[j].toNat - 48) := by rw [List.take_succ_eq_append_getElem hlt, valD_snoc]
      have HST := Lib.hid hst
      have HALL := Lib.hid hall
      cases hd : digZ r[j] with
      | false =>
        have HB : Hid (numZD s = (0, false)) := Lib.hid (by rw [← HS.out]; exact num_badm hlt hd)
        have hcc : r[j].toNat < 48 ∨ 57 < r[j].toNat := by
          rcases Nat.lt_or_ge r[j].toNat 48 with h | h
          · exact .inl h
          · rcases Nat.lt_or_ge 57 r[j].toNat with h2 | h2
            · exact .inr h2
            · rw [dig_z.2 ⟨h, h2⟩] at hd; cases hd
        clear hst hall hd
        generalize r[j] = c at *
        rcases hcc with hcc | hcc
        · have hc1 : (c.toNat : Int) < 48 := by omega
          go_wp2
          go_ret2
          exact ⟨by rw [HB.out]; rfl, Below.refl _ _⟩
        · have hc1 : ¬ (c.toNat : Int) < 48 := by omega
          have hc2 : (57 : Int) < (c.toNat : Int) := by omega
          go_wp2
          go_ret2
          exact ⟨by rw [HB.out]; rfl, Below.refl _ _⟩
      | true =>
        obtain ⟨d1, d2⟩ := dig_z.1 hd
        have HD : Hid (∀ k (hk : k < r.length), k = j → digZ r[k] = true) := Lib.hid (fun k hk e => by subst e; exact hd)
        clear hst hall hd
        generalize r[j] = c at *
        generalize valD (r.take j) 0 = u at *
        have hc1 : ¬ (c.toNat : Int) < 48 := by omega
        have hc2 : ¬ (57 : Int) < (c.toNat : Int) := by omega
        have hu18 : u < 1000000000000000000 := by omega
        go_wp2
        case roundEnd => exact ⟨⟨j + 1, by omega, congrArg (Value.int .i64) (by omega), congrArg (Value.int .u64) (by rw [HST.out]; omega), fun k hk hkj => by
          by_cases e : k < j
          · exact HALL.out k hk e
          · exact HD.out k hk (by omega), by rw [HST.out, Nat.pow_succ]; omega, trivial⟩, by simp [RowKit.intOf]; omega⟩
    · obtain rfl : j = r.length := by omega
      rw [List.take_length] at hlt10
      have hnw : wrap64 (IntKind.u64.wrap (-((valD r 0 : Nat) : Int))) = wrap64 (-(valD r 0 : Nat)) := by
        show wrap64 ((-((valD r 0 : Nat) : Int)) % 18446744073709551616) = _
        unfold wrap64; omega
      have HG : Hid (numZD s = (wrap64 (IntKind.u64.wrap (-((valD r 0 : Nat) : Int))), itoa (wrap64 (IntKind.u64.wrap (-((valD r 0 : Nat) : Int)))) == s)) := Lib.hid (by
        rw [hnw, ← HS.out]; exact num_goodm hs0 hs (fun k hk => hall k hk hk))
      rw [List.take_length]
      clear hall hlt hnw
      have hDX := HDG.out
      have HDX := Lib.hid (fun w => hDX w (wrap64 (IntKind.u64.wrap (-((valD r 0 : Nat) : Int)))) (by unfold wrap64; omega) (by unfold wrap64; omega))
      clear hDX
      generalize valD r 0 = u at *
      go_wp2_with (fail)
      (with_reducible refine (HDX.out _).mono ?_)
      rintro e w2 ⟨rfl, hb2⟩
      have HB2 := Lib.hid hb2
      clear hb2
      go_wp2
      go_ret2
      exact ⟨by rw [HG.out]; rfl, HB2.out⟩
end Go.Proofs.YtakdhdaoklcidaaGreatDoor

namespace Go.Proofs.YtakdhdaoklcidaaGreatDoor
open Go.RowKit Go.Lib
set_option linter.unusedVariables false
set_option maxRecDepth 100000
theorem num_none {s : Bs} (h : bodyR s = [] ∨ 19 < (bodyR s).length) : numZD s = (0, false) := by
  unfold numZD
  rw [if_pos]
  rcases h with h | h
  · exact .inl h
  · exact .inr (.inl h)
theorem number_empty (w : World) : Calls Tryz.prog 71 #[str []] w fun e w' => e = .returned (.tuple #[.int .i64 0, .bool false]) ∧ Below w.heap.size w w' := by
  go_enter Tryz.func71, Tryz.ntmps71
  go_wp2
  go_ret2
  exact ⟨rfl, Below.refl _ _⟩
theorem number_dash (w : World) : Calls Tryz.prog 71 #[str [45]] w fun e w' => e = .returned (.tuple #[.int .i64 0, .bool false]) ∧ Below w.heap.size w w' := by
  go_enter Tryz.func71, Tryz.ntmps71
  go_wp2
  go_ret2
  exact ⟨rfl, Below.refl _ _⟩
theorem number_long (s : Bs) (hs : 19 < s.length) (hl : s.length ≤ 100000) (h45 : ¬ s.head? = some 45) (w : World) : Calls Tryz.prog 71 #[str s] w fun e w' => e = .returned (.tuple #[.int .i64 0, .bool false]) ∧ Below w.heap.size w w' := by
  have hbn : (((⟨s.toArray⟩ : ByteArray)[0]'(by show 0 < s.toArray.size; rw [List.size_toArray]; omega)).toNat : Int) ≠ 45 := by
    intro h
    cases s with
    | nil => cases hs
    | cons b l =>
      have : b.toNat = 45 := by have h2 : ((b.toNat : Nat) : Int) = 45 := h; omega
      exact h45 (by rw [show b = 45 from UInt8.toNat_inj.1 this]; rfl)
  have hbn2 := beq_eq_false_iff_ne.2 hbn
  clear hbn
  have hl0 : ((s.length : Int) == 0) = false := beq_eq_false_iff_ne.2 (by omega)
  have hl1 : ((0 : Int) == (s.length : Int)) = false := beq_eq_false_iff_ne.2 (by omega)
  have hl3 : (0 : Int) < (s.length : Int) := by omega
  have hl4 : (19 : Int) < (s.length : Int) := by omega
  have hw : wrap64 (s.length : Int) = (s.length : Int) := wrap64_id (by omega) (by omega)
  go_enter Tryz.func71, Tryz.ntmps71
  go_wp2
  go_ret2
  exact ⟨rfl, Below.refl _ _⟩
theorem number_longm (r s : Bs) (hS : (45 : UInt8) :: r = s) (hs : 19 < r.length) (hl : r.length ≤ 100000) (w : World) : Calls Tryz.prog 71 #[str s] w fun e w' => e = .returned (.tuple #[.int .i64 0, .bool false]) ∧ Below w.heap.size w w' := by
  have hlen : s.length = r.length + 1 := by rw [← hS]; rfl
  have hbn : ((((⟨s.toArray⟩ : ByteArray)[0]'(by show 0 < s.toArray.size; rw [List.size_toArray]; omega)).toNat : Int) == 45) = true := by subst hS; rfl
  have HS := Lib.hid hS
  clear hS
  have hl1 : ((1 : Int) == (s.length : Int)) = false := beq_eq_false_iff_ne.2 (by omega)
  have hl3 : (0 : Int) < (s.length : Int) := by omega
  have hw : wrap64 ((s.length : Int) - 1) = (s.length : Int) - 1 := wrap64_id (by omega) (by omega)
  have hl4 : (19 : Int) < (s.length : Int) - 1 := by omega
  have hl5 : ((1 : Int) == (r.length : Int) + 1) = false := beq_eq_false_iff_ne.2 (by omega)
  have hl6 : (19 : Int) < (r.length : Int) := by omega
  go_enter Tryz.func71, Tryz.ntmps71
  go_wp2
  go_ret2
  exact ⟨rfl, Below.refl _ _⟩
theorem refNumber_any (s : Bs) (hl : s.length ≤ 100000) (w : World) : Calls Tryz.prog 71 #[str s] w fun e w' => e = .returned (.tuple #[.int .i64 (numZD s).1, .bool (numZD s).2]) ∧ Below w.heap.size w w' := by
  by_cases h45 : s.head? = some 45
  · obtain ⟨r, rfl⟩ : ∃ r, s = 45 :: r := by
      cases s with
      | nil => cases h45
      | cons b l => exact ⟨l, by simp at h45; rw [h45]⟩
    have hb : bodyR (45 :: r) = r := by unfold bodyR; rw [if_pos (by rfl)]; rfl
    rw [List.length_cons] at hl
    by_cases h0 : r.length = 0
    · obtain rfl := List.eq_nil_of_length_eq_zero h0
      rw [num_none (.inl hb)]
      exact number_dash w
    by_cases h19 : 19 < r.length
    · rw [num_none (.inr (by rw [hb]; exact h19))]
      exact number_longm r _ rfl h19 (by omega) w
    · exact number_minus r _ rfl (by omega) (by omega) (fun w n h0 h1 => digits_any n h0 h1 w) w
  · have hb : bodyR s = s := by unfold bodyR; rw [if_neg h45]
    by_cases h0 : s.length = 0
    · obtain rfl := List.eq_nil_of_length_eq_zero h0
      rw [num_none (.inl hb)]
      exact number_empty w
    by_cases h19 : 19 < s.length
    · rw [num_none (.inr (by rw [hb]; exact h19))]
      exact number_long s h19 hl h45 w
    · exact number_plain s (by omega) (by omega) h45 (fun w n h0 h1 => digits_any n h0 h1 w) w
end Go.Proofs.YtakdhdaoklcidaaGreatDoor

namespace Go.Proofs.YtakdhdaoklcidaaGreatDoor
open Go.RowKit Go.Lib
set_option linter.unusedVariables false
set_option maxRecDepth 100000
theorem ext_str (l : Bs) (a b : Nat) : (⟨l.toArray⟩ : ByteArray).extract a b = ⟨((l.drop a).take (b - a)).toArray⟩ := by
  apply ByteArray.ext
  apply Array.ext'
  simp [ByteArray.data_extract, List.extract_eq_take_drop]
theorem slice_run (l : Bs) (a b : Int) (h0 : 0 ≤ a) (h1 : a ≤ b) (h2 : b ≤ l.length) (w : World) : (Instr.slice 9 (str l) (some (.int .i64 a)) (some (.int .i64 b)) none).run Tryz.prog w = .ok (str ((l.drop a.toNat).take (b.toNat - a.toNat))) w := by
  rw [run_slice_string w 9 _ .i64 .i64 a b Tryz.underlying9 h0 h1 (by show b ≤ ((l.toArray.size : Nat) : Int); rw [List.size_toArray]; exact h2), ext_str]
theorem slice_to (l : Bs) (b : Int) (h0 : 0 ≤ b) (h2 : b ≤ l.length) (w : World) : (Instr.slice 9 (str l) none (some (.int .i64 b)) none).run Tryz.prog w = .ok (str (l.take b.toNat)) w := by
  have hs : b ≤ ((⟨l.toArray⟩ : ByteArray).size : Int) := by show b ≤ ((l.toArray.size : Nat) : Int); rw [List.size_toArray]; exact h2
  have hj : 0 ≤ b ∧ b ≤ ((⟨l.toArray⟩ : ByteArray).size : Int) := ⟨h0, hs⟩
  have e : (Instr.slice 9 (str l) none (some (.int .i64 b)) none).run Tryz.prog w = .ok (.string ((⟨l.toArray⟩ : ByteArray).extract 0 b.toNat)) w := by
    simp [Instr.slice, Instr.sliceBounds, Instr.sliceBound, asIntOf, run_underlying Tryz.underlying9, hj]
  rw [e, ext_str]; simp
theorem slice_from (l : Bs) (b : Int) (h0 : 0 ≤ b) (h2 : b ≤ l.length) (w : World) : (Instr.slice 9 (str l) (some (.int .i64 b)) none none).run Tryz.prog w = .ok (str (l.drop b.toNat)) w := by
  have hs : b ≤ ((⟨l.toArray⟩ : ByteArray).size : Int) := by show b ≤ ((l.toArray.size : Nat) : Int); rw [List.size_toArray]; exact h2
  have hj : 0 ≤ b ∧ b ≤ ((⟨l.toArray⟩ : ByteArray).size : Int) := ⟨h0, hs⟩
  have e : (Instr.slice 9 (str l) (some (.int .i64 b)) none none).run Tryz.prog w = .ok (.string ((⟨l.toArray⟩ : ByteArray).extract b.toNat (⟨l.toArray⟩ : ByteArray).size)) w := by
    simp [Instr.slice, Instr.sliceBounds, Instr.sliceBound, asIntOf, run_underlying Tryz.underlying9, hj]
  rw [e, ext_str]
  show Result.ok (str ((l.drop b.toNat).take (l.toArray.size - b.toNat))) w = _
  rw [List.size_toArray, List.take_of_length_le (by rw [List.length_drop]; exact Nat.le_refl _)]
set_option maxHeartbeats 2000000 in
theorem refCut_any (l p : Bs) (hl : l.length ≤ 100000) (hp : 1 ≤ p.length ∧ p.length ≤ 10) (w : World) : Calls Tryz.prog 46 #[str l, str p] w fun e w' => e = .returned (.tuple #[str (cut l p).1, str (cut l p).2.1, .bool (cut l p).2.2]) ∧ Below w.heap.size w w' := by
  go_enter Tryz.func46, Tryz.ntmps46
  go_wp2
  go_loopw [7] (fun k wr => ∃ j : Nat, j ≤ l.length + 1 ∧ k = .int .i64 j ∧ (∀ i, i < j → occAt l p i = false) ∧ wr = w) (fun k _ => l.length + 1 - (RowKit.intOf k).toNat)
  case atStart => exact ⟨0, Nat.zero_le _, rfl, fun i hi => by omega, rfl⟩
  case round =>
    obtain ⟨j, hj, rfl, hno, rfl⟩ := hrel
    have HNO := Lib.hid hno
    clear hno
    by_cases hlt : j + p.length ≤ l.length
    · have hlt2 : (j : Int) + p.length ≤ l.length := by omega
      have hsl := slice_run l j ((j : Int) + p.length) (by omega) (by omega) (by omega) wr
      have hS : (l.drop ((j : Int).toNat)).take (((j : Int) + p.length).toNat - (j : Int).toNat) = (l.drop j).take p.length := by rw [show ((j : Int) + p.length).toNat - (j : Int).toNat = p.length by omega]; rfl
      rw [hS] at hsl
      clear hS
      have hocc : occAt l p j = ((l.drop j).take p.length == p) := by
        unfold occAt
        rw [Bool.eq_iff_iff, List.isPrefixOf_iff_prefix, List.prefix_iff_eq_take, beq_iff_eq]
        exact eq_comm
      have HOC := Lib.hid hocc
      clear hocc
      generalize (l.drop j).take p.length = S at *
      have ht : ∀ w, (Instr.slice 9 (str l) none (some (.int .i64 (j : Int))) none).run Tryz.prog w = .ok (str (l.take j)) w := fun w => slice_to l j (by omega) (by omega) w
      have hf : ∀ w, (Instr.slice 9 (str l) (some (.int .i64 ((j : Int) + p.length))) none none).run Tryz.prog w = .ok (str (l.drop (j + p.length))) w := fun w => slice_from l ((j : Int) + p.length) (by omega) (by omega) w
      have hww : IntKind.i64.wrap ((j : Int) + p.length) = (j : Int) + p.length := by
        unfold IntKind.wrap
        simp [IntKind.signed, IntKind.bits]
        omega
      cases hq : (S == p) with
      | true =>
        have HX : Hid (index l p = j) := Lib.hid (index_first (by omega) (by rw [HOC.out, hq]) HNO.out)
        go_wp2_with (fail)
        go_quiet (fail)
        go_wp2
        go_ret3
        refine ⟨?_, below_drewN (Below.refl _ _) _⟩
        unfold cut
        rw [HX.out, if_pos (by omega)]
        rfl
      | false =>
        go_wp2
        case roundEnd => exact ⟨⟨j + 1, by omega, rfl, fun i hi => by
          by_cases c : i < j
          · exact HNO.out i c
          · obtain rfl : i = j := by omega
            rw [HOC.out, hq], trivial⟩, by simp [RowKit.intOf]; omega⟩
    · have hlt2 : ¬ (j : Int) + p.length ≤ l.length := by omega
      go_wp2
      go_ret3
      have hnx : index l p = -1 := index_none fun i _ => by
        by_cases c : i < j
        · exact HNO.out i c
        · cases e : occAt l p i
          · rfl
          · unfold occAt at e
            have := (List.isPrefixOf_iff_prefix.1 e).length_le
            rw [List.length_drop] at this
            omega
      refine ⟨?_, Below.refl _ _⟩
      unfold cut
      rw [hnx]; rfl
end Go.Proofs.YtakdhdaoklcidaaGreatDoor

namespace Go.Proofs.YtakdhdaoklcidaaGreatDoor
open Go.RowKit Go.Lib
set_option linter.unusedVariables false
set_option maxRecDepth 100000
def headR (nm : Bs) : Ins :=
  if ¬ opL nm = 0 then ⟨opL nm, 0, 0, 0, 0, 0, false, false⟩
  else if 5 < nm.length ∧ nm.drop (nm.length - 5) = [46, 97, 113, 114, 108] then ⟨opL (nm.take (nm.length - 5)), 0, 0, 0, 0, 0, true, true⟩
  else if 3 < nm.length ∧ nm.drop (nm.length - 3) = [46, 97, 113] then ⟨opL (nm.take (nm.length - 3)), 0, 0, 0, 0, 0, true, false⟩
  else if 3 < nm.length ∧ nm.drop (nm.length - 3) = [46, 114, 108] then ⟨opL (nm.take (nm.length - 3)), 0, 0, 0, 0, 0, false, true⟩
  else ⟨opL nm, 0, 0, 0, 0, 0, false, false⟩
def oneN (c : UInt8) (o : Bs) : Int := if o.head? = some 120 ∧ (c = 114 ∨ c = 97 ∨ c = 98) then (numZD o.tail).1 else (numZD o).1
def putL (c : UInt8) (n : Int) (i : Ins) : Ins := if c = 114 then { i with rd := n } else if c = 97 then { i with a := n } else if c = 98 then { i with b := n } else if c = 105 then { i with imm := n } else { i with csr := n }
def putB (c : UInt8) (o lb : Bs) : Bs := if c = 105 ∧ o.head? = some 64 then o.tail else lb
def walkL : Bs → Bs → Ins → Bs → Ins × Bs
  | [], _, i, lb => (i, lb)
  | c :: cs, r, i, lb => walkL cs (cut r [44, 32]).2.1 (putL c (oneN c (cut r [44, 32]).1) i) (putB c (cut r [44, 32]).1 lb)
def lettersK (k : Nat) : Bs := if k = 0 then [] else lettersT (frmT k)
def letK (k : Nat) : Int := if k = 0 then 0 else letT (frmT k)
def guessR (l : Bs) : Ins × Bs := walkL (lettersK (headR (cut l [32]).1).op.toNat) (cut l [32]).2.1 (headR (cut l [32]).1) []
theorem opL_113 (l : Bs) : opL l ≤ 113 := by
  by_cases h : opL l = 0
  · omega
  · exact (opL_is h).2.1
theorem head_op (nm : Bs) : ∃ k : Nat, k ≤ 113 ∧ (headR nm).op = (k : Int) := by
  unfold headR
  split
  · exact ⟨_, opL_113 _, rfl⟩
  split
  · exact ⟨_, opL_113 _, rfl⟩
  split
  · exact ⟨_, opL_113 _, rfl⟩
  split
  · exact ⟨_, opL_113 _, rfl⟩
  · exact ⟨_, opL_113 _, rfl⟩
theorem refLetters_0 (w : World) : Calls Tryz.prog 32 #[.int .u8 0] w fun e w' => e = .returned (str []) ∧ w = w' := by
  go_enter Tryz.func32, Tryz.ntmps32
  go_wp2
  go_ret
  exact ⟨rfl, rfl⟩
theorem frm_15 : ∀ k, k < 114 → 1 ≤ k → frmT k < 15 := by decide +kernel
theorem letters_K (k : Nat) (hk : k ≤ 113) (w : World) : Calls Tryz.prog 32 #[.int .u8 (letK k)] w fun e w' => e = .returned (str (lettersK k)) ∧ w = w' := by
  unfold letK lettersK
  by_cases h : k = 0
  · rw [if_pos h, if_pos h]; exact refLetters_0 w
  · rw [if_neg h, if_neg h]; exact letters_any _ (frm_15 k (by omega) (by omega)) w
theorem letters_Kok (k : Nat) (hk : k ≤ 113) : (lettersK k).length ≤ 3 ∧ ∀ c ∈ lettersK k, c = 114 ∨ c = 97 ∨ c = 98 ∨ c = 105 ∨ c = 99 := by
  unfold lettersK
  split
  · exact ⟨by simp, fun c hc => by cases hc⟩
  · have : ∀ f, f < 15 → (lettersT f).length ≤ 3 ∧ ∀ c ∈ lettersT f, c = 114 ∨ c = 97 ∨ c = 98 ∨ c = 105 ∨ c = 99 := by decide +kernel
    exact this _ (frm_15 k (by omega) (by omega))
theorem rowK (k : Nat) (hk : k ≤ 113) : ∃ (s : ByteArray) (m t : Int), ∀ w, Calls Tryz.prog 31 #[.int .i64 k] w fun e w' => e = .returned (.agg #[.string s, .int .u32 m, .int .u32 t, .int .u8 (letK k)]) ∧ Below w.heap.size w w' := by
  unfold letK
  by_cases h : k = 0
  · subst h
    exact ⟨_, _, _, fun w => refRow_no 0 (by omega) w⟩
  · rw [if_neg h]
    exact ⟨_, _, _, fun w => refRow_any k (by omega) hk w⟩
theorem field_form (s : ByteArray) (m t x : Int) (wx : World) : (Instr.field 59 (.agg #[.string s, .int .u32 m, .int .u32 t, .int .u8 x]) 3).run Tryz.prog wx = .ok (.int .u8 x) wx := by kernel_rfl
def InsC (i : Ins) : Array Value := #[.int .i64 i.op, .int .i64 i.rd, .int .i64 i.a, .int .i64 i.b, .int .i64 i.imm, .int .i64 i.csr, .bool i.aq, .bool i.rl]
structure GS (w wx : World) (bi : Nat) (i : Ins) : Prop where
  inst : wx.heap[bi]? = some (.cells (InsC i) 23 (0, 0))
  res : wx.heap[w.heap.size]? = some (.cells #[.int .i64 0, .int .i64 0, .int .i64 0, .int .i64 0, .int .i64 0, .int .i64 0, .bool false, .bool false] 23 (0, 0))
  bel : Below w.heap.size w wx
  low : w.heap.size < bi
section
variable {w wx wy : World} {bi : Nat} {i : Ins}
theorem GS.below (h : GS w wx bi i) (o : Below wx.heap.size wx wy) : GS w wy bi i :=
  ⟨(o.block _ (Array.getElem?_eq_some_iff.1 h.inst).1).trans h.inst, (o.block _ (Array.getElem?_eq_some_iff.1 h.res).1).trans h.res, h.bel.trans (o.mono h.bel.size), h.low⟩
theorem GS.set (h : GS w wx bi i) {k : Nat} {v : Value} {i' : Ins} (he : (InsC i).setIfInBounds k v = InsC i') : GS w (wx.setCell ⟨bi, k, none⟩ v) bi i' := by
  have hl := h.low
  exact ⟨by rw [← he]; exact setCell_row h.inst k v, (Below.heap_setCell _ _ _ _ (by show w.heap.size ≠ bi; omega)).trans h.res, h.bel.setCell (p := ⟨bi, k, none⟩) (by show w.heap.size ≤ bi; omega) _, h.low⟩
theorem GS.op (h : GS w wx bi i) (n : Int) : GS w (wx.setCell ⟨bi, 0, none⟩ (.int .i64 n)) bi { i with op := n } := h.set rfl
theorem GS.rd (h : GS w wx bi i) (n : Int) : GS w (wx.setCell ⟨bi, 1, none⟩ (.int .i64 n)) bi { i with rd := n } := h.set rfl
theorem GS.a (h : GS w wx bi i) (n : Int) : GS w (wx.setCell ⟨bi, 2, none⟩ (.int .i64 n)) bi { i with a := n } := h.set rfl
theorem GS.b (h : GS w wx bi i) (n : Int) : GS w (wx.setCell ⟨bi, 3, none⟩ (.int .i64 n)) bi { i with b := n } := h.set rfl
theorem GS.imm (h : GS w wx bi i) (n : Int) : GS w (wx.setCell ⟨bi, 4, none⟩ (.int .i64 n)) bi { i with imm := n } := h.set rfl
theorem GS.csr (h : GS w wx bi i) (n : Int) : GS w (wx.setCell ⟨bi, 5, none⟩ (.int .i64 n)) bi { i with csr := n } := h.set rfl
theorem GS.aq (h : GS w wx bi i) (n : Bool) : GS w (wx.setCell ⟨bi, 6, none⟩ (.bool n)) bi { i with aq := n } := h.set rfl
theorem GS.rl (h : GS w wx bi i) (n : Bool) : GS w (wx.setCell ⟨bi, 7, none⟩ (.bool n)) bi { i with rl := n } := h.set rfl
theorem GS.free (h : GS w wx bi i) (k : Nat) : wx.frozen? ⟨bi, k, none⟩ = false := Lib.frozen_of_heap h.inst k
theorem GS.cell (h : GS w wx bi i) (k : Nat) : wx.cell? ⟨bi, k, none⟩ = (InsC i)[k]? := by rw [Lib.cell_of_heap h.inst]
end
end Go.Proofs.YtakdhdaoklcidaaGreatDoor

namespace Go.Proofs.YtakdhdaoklcidaaGreatDoor
open Go.RowKit Go.Lib
set_option linter.unusedVariables false
set_option maxRecDepth 100000
theorem dig_num (d : Nat) (h : d < 10) : (UInt8.ofNat (48 + d)).toNat = 48 + d := by
  rw [UInt8.toNat_ofNat']; omega
theorem val_dec : ∀ (u : Nat), valD (decDigits u) 0 = u := by
  intro u
  induction u using Nat.strongRecOn with
  | ind u ih =>
    rw [decDigits]
    by_cases h : u < 10
    · rw [dif_pos h]
      show 10 * 0 + ((UInt8.ofNat (48 + u)).toNat - 48) = u
      rw [dig_num u h]; omega
    · rw [dif_neg h, valD_snoc, ih (u / 10) (by omega), dig_num _ (by omega)]
      omega
theorem dec_digs : ∀ (u : Nat), (decDigits u).all digZ = true := by
  intro u
  induction u using Nat.strongRecOn with
  | ind u ih =>
    rw [decDigits]
    by_cases h : u < 10
    · rw [dif_pos h]
      simp only [List.all_cons, List.all_nil, Bool.and_true]
      rw [dig_z, dig_num u h]; omega
    · rw [dif_neg h, List.all_append, ih (u / 10) (by omega)]
      simp only [List.all_cons, List.all_nil, Bool.and_true, Bool.true_and]
      rw [dig_z, dig_num _ (by omega)]; omega
theorem dec_ne (u : Nat) : decDigits u ≠ [] := by
  rw [decDigits]
  split <;> simp
theorem dec_len : ∀ (k u : Nat), u < 10 ^ (k + 1) → (decDigits u).length ≤ k + 1
  | 0, u, h => by rw [decDigits, dif_pos (by simpa using h)]; simp
  | k + 1, u, h => by
    rw [decDigits]
    by_cases c : u < 10
    · rw [dif_pos c]; simp
    · rw [dif_neg c, List.length_append]
      have := dec_len k (u / 10) (by rw [Nat.pow_succ] at h; omega)
      simp only [List.length_cons, List.length_nil]; omega
theorem dec_len19 {u : Nat} (h : u < 10000000000000000000) : (decDigits u).length ≤ 19 := dec_len 18 u (by omega)
theorem head_dec (u : Nat) : ¬ (decDigits u).head? = some 45 := by
  intro h
  cases e : decDigits u with
  | nil => exact dec_ne u e
  | cons b l =>
    rw [e] at h
    simp at h
    have := List.all_eq_true.1 (dec_digs u) b (by rw [e]; exact List.mem_cons_self)
    rw [h] at this; cases this
theorem num_itoa (n : Int) (h0 : -9223372036854775808 ≤ n) (h1 : n ≤ 9223372036854775807) : (numZD (itoa n)).1 = n := by
  by_cases c : n < 0
  · have e : itoa n = 45 :: decDigits n.natAbs := by unfold itoa; rw [if_pos c]
    have hb : bodyR (45 :: decDigits n.natAbs) = decDigits n.natAbs := by unfold bodyR; rw [if_pos (by rfl)]; rfl
    rw [e]
    unfold numZD
    rw [hb, if_neg, if_pos (by rfl)]
    · show wrap64 (-(valD (decDigits n.natAbs) 0 : Int)) = n
      rw [val_dec]
      unfold wrap64; omega
    · rintro (h | h | h)
      · exact dec_ne _ h
      · have := dec_len19 (u := n.natAbs) (by omega); omega
      · rw [dec_digs] at h; cases h
  · have e : itoa n = decDigits n.toNat := by unfold itoa; rw [if_neg c]
    have hb : bodyR (decDigits n.toNat) = decDigits n.toNat := by unfold bodyR; rw [if_neg (head_dec _)]
    rw [e]
    unfold numZD
    rw [hb, if_neg, if_neg (head_dec _)]
    · show wrap64 (valD (decDigits n.toNat) 0 : Int) = n
      rw [val_dec]
      unfold wrap64; omega
    · rintro (h | h | h)
      · exact dec_ne _ h
      · have := dec_len19 (u := n.toNat) (by omega); omega
      · rw [dec_digs] at h; cases h
def valL (i : Ins) (c : UInt8) : Int := if c = 114 then i.rd else if c = 97 then i.a else if c = 98 then i.b else if c = 105 then i.imm else i.csr
theorem opOf_44 (i : Ins) (c : UInt8) : (44 : UInt8) ∉ opOf i c := by
  have n44 : ∀ n, (44 : UInt8) ∉ itoa n := fun n => num_no (by decide)
  have x44 : ∀ n, (44 : UInt8) ∉ xr n := fun n => xr_no (by decide) (by decide)
  unfold opOf
  split; exact x44 _
  split; exact x44 _
  split; exact x44 _
  split; exact n44 _
  exact n44 _
theorem one_is {i : Ins} (hb : ∀ c, -9223372036854775808 ≤ valL i c ∧ valL i c ≤ 9223372036854775807) {c : UInt8} (hc : c = 114 ∨ c = 97 ∨ c = 98 ∨ c = 105 ∨ c = 99) : oneN c (opOf i c) = valL i c := by
  have h := hb c
  rcases hc with rfl | rfl | rfl | rfl | rfl
  · exact num_itoa i.rd h.1 h.2
  · exact num_itoa i.a h.1 h.2
  · exact num_itoa i.b h.1 h.2
  · show (if _ ∧ ((105 : UInt8) = 114 ∨ (105 : UInt8) = 97 ∨ (105 : UInt8) = 98) then _ else _) = _
    rw [if_neg (fun k => absurd k.2 (by decide))]
    exact num_itoa i.imm h.1 h.2
  · show (if _ ∧ ((99 : UInt8) = 114 ∨ (99 : UInt8) = 97 ∨ (99 : UInt8) = 98) then _ else _) = _
    rw [if_neg (fun k => absurd k.2 (by decide))]
    exact num_itoa i.csr h.1 h.2
theorem itoa_at (n : Int) : ¬ (itoa n).head? = some 64 := by
  intro h
  cases e : itoa n with
  | nil => exact itoa_ne n e
  | cons b l =>
    rw [e] at h; simp at h
    have := itoa_all n b (by rw [e]; exact List.mem_cons_self)
    rw [h] at this; cases this
theorem lab_is (i : Ins) (c : UInt8) (lb : Bs) : putB c (opOf i c) lb = lb := by
  unfold putB
  rw [if_neg]
  rintro ⟨rfl, h⟩
  exact itoa_at _ h
theorem walk_is {i : Ins} (hb : ∀ c, -9223372036854775808 ≤ valL i c ∧ valL i c ≤ 9223372036854775807) : ∀ (cs : Bs) (I : Ins) (lb : Bs), (∀ c ∈ cs, c = 114 ∨ c = 97 ∨ c = 98 ∨ c = 105 ∨ c = 99) → walkL cs (remT (cs.map (opOf i))) I lb = (cs.foldl (fun I c => putL c (valL i c) I) I, lb)
  | [], I, lb, _ => rfl
  | c :: cs, I, lb, h => by
    have hc := cut_op (opOf_44 i c) (cs.map (opOf i))
    show walkL cs (cut (remT (opOf i c :: cs.map (opOf i))) [44, 32]).2.1 (putL c (oneN c (cut (remT (opOf i c :: cs.map (opOf i))) [44, 32]).1) I) (putB c (cut (remT (opOf i c :: cs.map (opOf i))) [44, 32]).1 lb) = _
    rw [show ([44, 32] : Bs) = sepC from rfl, hc.1, hc.2, one_is hb (h c List.mem_cons_self), lab_is, walk_is hb cs _ lb (fun d hd => h d (List.mem_cons_of_mem _ hd))]
    rfl
theorem head_name : ∀ k, k < 114 → 1 ≤ k → ∀ aq rl, ((headR (nameB k ++ markT aq rl)).op == (k : Int) && (headR (nameB k ++ markT aq rl)).rd == 0 && (headR (nameB k ++ markT aq rl)).a == 0 && (headR (nameB k ++ markT aq rl)).b == 0 && (headR (nameB k ++ markT aq rl)).imm == 0 && (headR (nameB k ++ markT aq rl)).csr == 0 && (headR (nameB k ++ markT aq rl)).aq == aq && (headR (nameB k ++ markT aq rl)).rl == rl) = true := by decide +kernel
theorem ins_ext {i j : Ins} (h1 : i.op = j.op) (h2 : i.rd = j.rd) (h3 : i.a = j.a) (h4 : i.b = j.b) (h5 : i.imm = j.imm) (h6 : i.csr = j.csr) (h7 : i.aq = j.aq) (h8 : i.rl = j.rl) : i = j := by
  cases i; cases j; simp_all
theorem fold_is (f : Nat) (hf : f < 15) (i : Ins) (h4 : Right (frm f) i) (himm : (frm f).imm = 0 → i.imm = 0) : (lettersT f).foldl (fun I c => putL c (valL i c) I) ⟨i.op, 0, 0, 0, 0, 0, i.aq, i.rl⟩ = i := by
  match f, hf with
  | 0, _ => refine ins_ext ?_ ?_ ?_ ?_ ?_ ?_ ?_ ?_ <;> first | rfl | exact (h4.nrd rfl).symm | exact (h4.na rfl).symm | exact (h4.nb rfl).symm | exact (h4.ncsr rfl).symm | exact (himm rfl).symm
  | 1, _ => refine ins_ext ?_ ?_ ?_ ?_ ?_ ?_ ?_ ?_ <;> first | rfl | exact (h4.nrd rfl).symm | exact (h4.na rfl).symm | exact (h4.nb rfl).symm | exact (h4.ncsr rfl).symm | exact (himm rfl).symm
  | 2, _ => refine ins_ext ?_ ?_ ?_ ?_ ?_ ?_ ?_ ?_ <;> first | rfl | exact (h4.nrd rfl).symm | exact (h4.na rfl).symm | exact (h4.nb rfl).symm | exact (h4.ncsr rfl).symm | exact (himm rfl).symm
  | 3, _ => refine ins_ext ?_ ?_ ?_ ?_ ?_ ?_ ?_ ?_ <;> first | rfl | exact (h4.nrd rfl).symm | exact (h4.na rfl).symm | exact (h4.nb rfl).symm | exact (h4.ncsr rfl).symm | exact (himm rfl).symm
  | 4, _ => refine ins_ext ?_ ?_ ?_ ?_ ?_ ?_ ?_ ?_ <;> first | rfl | exact (h4.nrd rfl).symm | exact (h4.na rfl).symm | exact (h4.nb rfl).symm | exact (h4.ncsr rfl).symm | exact (himm rfl).symm
  | 5, _ => refine ins_ext ?_ ?_ ?_ ?_ ?_ ?_ ?_ ?_ <;> first | rfl | exact (h4.nrd rfl).symm | exact (h4.na rfl).symm | exact (h4.nb rfl).symm | exact (h4.ncsr rfl).symm | exact (himm rfl).symm
  | 6, _ => refine ins_ext ?_ ?_ ?_ ?_ ?_ ?_ ?_ ?_ <;> first | rfl | exact (h4.nrd rfl).symm | exact (h4.na rfl).symm | exact (h4.nb rfl).symm | exact (h4.ncsr rfl).symm | exact (himm rfl).symm
  | 7, _ => refine ins_ext ?_ ?_ ?_ ?_ ?_ ?_ ?_ ?_ <;> first | rfl | exact (h4.nrd rfl).symm | exact (h4.na rfl).symm | exact (h4.nb rfl).symm | exact (h4.ncsr rfl).symm | exact (himm rfl).symm
  | 8, _ => refine ins_ext ?_ ?_ ?_ ?_ ?_ ?_ ?_ ?_ <;> first | rfl | exact (h4.nrd rfl).symm | exact (h4.na rfl).symm | exact (h4.nb rfl).symm | exact (h4.ncsr rfl).symm | exact (himm rfl).symm
  | 9, _ => refine ins_ext ?_ ?_ ?_ ?_ ?_ ?_ ?_ ?_ <;> first | rfl | exact (h4.nrd rfl).symm | exact (h4.na rfl).symm | exact (h4.nb rfl).symm | exact (h4.ncsr rfl).symm | exact (himm rfl).symm
  | 10, _ => refine ins_ext ?_ ?_ ?_ ?_ ?_ ?_ ?_ ?_ <;> first | rfl | exact (h4.nrd rfl).symm | exact (h4.na rfl).symm | exact (h4.nb rfl).symm | exact (h4.ncsr rfl).symm | exact (himm rfl).symm
  | 11, _ => refine ins_ext ?_ ?_ ?_ ?_ ?_ ?_ ?_ ?_ <;> first | rfl | exact (h4.nrd rfl).symm | exact (h4.na rfl).symm | exact (h4.nb rfl).symm | exact (h4.ncsr rfl).symm | exact (himm rfl).symm
  | 12, _ => refine ins_ext ?_ ?_ ?_ ?_ ?_ ?_ ?_ ?_ <;> first | rfl | exact (h4.nrd rfl).symm | exact (h4.na rfl).symm | exact (h4.nb rfl).symm | exact (h4.ncsr rfl).symm | exact (himm rfl).symm
  | 13, _ => refine ins_ext ?_ ?_ ?_ ?_ ?_ ?_ ?_ ?_ <;> first | rfl | exact (h4.nrd rfl).symm | exact (h4.na rfl).symm | exact (h4.nb rfl).symm | exact (h4.ncsr rfl).symm | exact (himm rfl).symm
  | 14, _ => refine ins_ext ?_ ?_ ?_ ?_ ?_ ?_ ?_ ?_ <;> first | rfl | exact (h4.nrd rfl).symm | exact (h4.na rfl).symm | exact (h4.nb rfl).symm | exact (h4.ncsr rfl).symm | exact (himm rfl).symm
theorem guessR_print {i : Ins} (hr : rightB i = true) : guessR (printT i) = (i, []) := by
  obtain ⟨h1, h2, h3, h4⟩ := rightT_of hr
  have hf := (fT_ok h1 (by omega)).imm
  have hI := right_imm hf h4
  have hn := cut_name (nmT_no (i := i) (c := 32) (by omega) (by decide)) (opsF (fT i.op.toNat) i)
  have hh := head_name i.op.toNat (by omega) h1 i.aq i.rl
  simp only [Bool.and_eq_true, beq_iff_eq] at hh
  obtain ⟨⟨⟨⟨⟨⟨⟨e1, e2⟩, e3⟩, e4⟩, e5⟩, e6⟩, e7⟩, e8⟩ := hh
  have hH : headR (nmT i) = ⟨i.op, 0, 0, 0, 0, 0, i.aq, i.rl⟩ := ins_ext (by rw [h3]; exact e1) e2 e3 e4 e5 e6 e7 e8
  have hfr := frm_15 i.op.toNat (by omega) h1
  have hL : lettersK i.op.toNat = lettersT (frmT i.op.toNat) := by unfold lettersK; rw [if_neg (by omega)]
  have hb : ∀ c, -9223372036854775808 ≤ valL i c ∧ valL i c ≤ 9223372036854775807 := fun c => by
    have p1 := h4.rd; have p2 := h4.a; have p3 := h4.b; have p4 := h4.csr; have p5 := hI.1
    unfold valL
    split; omega
    split; omega
    split; omega
    split; omega
    omega
  unfold guessR printT
  rw [hn.1, hn.2, hH]
  show walkL (lettersK i.op.toNat) _ _ _ = _
  rw [show fT i.op.toNat = frm (frmT i.op.toNat) from rfl, ops_letters _ hfr i, ← hL, walk_is hb _ _ _ (letters_Kok i.op.toNat (by omega)).2, hL, fold_is _ hfr i h4 hI.2]
def parseRB (l : Bs) : Bool := rightB (guessR l).1 && (printT (guessR l).1 == l)
theorem parse_one (l : Bs) : parseRB l = parseB l ∧ (parseB l = true → (guessR l).1 = guessP l) := by
  have key : ∀ i, rightB i = true → printT i = l → (guessR l).1 = i ∧ guessP l = i := fun i hr hp => by
    subst hp
    exact ⟨by rw [guessR_print hr], guessP_print hr⟩
  unfold parseRB parseB
  refine ⟨?_, fun h => ?_⟩
  · rw [Bool.eq_iff_iff, Bool.and_eq_true, Bool.and_eq_true, beq_iff_eq, beq_iff_eq]
    constructor
    · rintro ⟨h1, h2⟩
      obtain ⟨k1, k2⟩ := key _ h1 h2
      rw [k2]; exact ⟨h1, h2⟩
    · rintro ⟨h1, h2⟩
      obtain ⟨k1, k2⟩ := key _ h1 h2
      rw [k1]; exact ⟨h1, h2⟩
  · rw [Bool.and_eq_true, beq_iff_eq] at h
    exact (key _ h.1 h.2).1
end Go.Proofs.YtakdhdaoklcidaaGreatDoor

namespace Go.Proofs.YtakdhdaoklcidaaGreatDoor
open Go.RowKit Go.Lib
set_option linter.unusedVariables false
set_option maxRecDepth 100000
def regD (s : Bs) : Int × Bool := if s.head? = some 120 then ((numZD s.tail).1, (numZD s.tail).2 && (decide (0 ≤ (numZD s.tail).1) && decide ((numZD s.tail).1 ≤ 31))) else (0, false)
set_option maxHeartbeats 4000000 in
theorem refRegister_no (s : Bs) (h : ¬ s.head? = some 120) (w : World) : Calls Tryz.prog 77 #[str s] w fun e w' => e = .returned (.tuple #[.int .i64 0, .bool false]) ∧ Below w.heap.size w w' := by
  cases s with
  | nil =>
    go_enter Tryz.func77, Tryz.ntmps77
    go_wp2
    go_ret2
    exact ⟨rfl, Below.refl _ _⟩
  | cons x t =>
    have hx : ¬ x = 120 := fun e => h (by rw [e]; rfl)
    have hxb : (((x.toNat : Nat) : Int) == 120) = false := beq_eq_false_iff_ne.2 (fun h => hx (UInt8.toNat_inj.1 (by have h2 : ((x.toNat : Nat) : Int) = 120 := h; show x.toNat = 120; omega)))
    have h0x : ((⟨(x :: t).toArray⟩ : ByteArray)[0]'(by show 0 < (x :: t).toArray.size; simp)) = x := rfl
    have hl0 : ((((x :: t).length : Nat) : Int) == 0) = false := beq_eq_false_iff_ne.2 (by rw [List.length_cons]; omega)
    have hl1 : (((t.length : Nat) : Int) + 1 == 0) = false := beq_eq_false_iff_ne.2 (by omega)
    clear h hx
    go_enter Tryz.func77, Tryz.ntmps77
    go_wp2
    go_ret2
    exact ⟨rfl, Below.refl _ _⟩
set_option maxHeartbeats 1000000 in
theorem refRegister_x (t : Bs) (hl : t.length ≤ 100000) (w : World) : Calls Tryz.prog 77 #[str (120 :: t)] w fun e w' => e = .returned (.tuple #[.int .i64 (numZD t).1, .bool ((numZD t).2 && (decide (0 ≤ (numZD t).1) && decide ((numZD t).1 ≤ 31)))]) ∧ Below w.heap.size w w' := by
  have HNU := Lib.hid (fun wx => refNumber_any t hl wx)
  have hsl : (⟨(120 :: t).toArray⟩ : ByteArray).extract 1 (t.length + 1) = ⟨t.toArray⟩ := by rw [ext_str]; simp
  have h0x : ((⟨(120 :: t).toArray⟩ : ByteArray)[0]'(by show 0 < (120 :: t).toArray.size; simp)) = 120 := rfl
  generalize (numZD t).1 = n at *
  generalize (numZD t).2 = q at *
  cases q
  · go_enter Tryz.func77, Tryz.ntmps77
    go_wp2_with (fail)
    (with_reducible refine (HNU.out _).mono ?_)
    rintro e w2 ⟨rfl, hb⟩
    have HB := Lib.hid hb
    clear hb HNU
    go_wp2
    go_ret2
    exact ⟨rfl, HB.out⟩
  · by_cases h0 : 0 ≤ n
    · by_cases h1 : n ≤ 31
      · have d : (true && (decide (0 ≤ n) && decide (n ≤ 31))) = true := by simp [h0, h1]
        rw [d]
        clear d
        go_enter Tryz.func77, Tryz.ntmps77
        go_wp2_with (fail)
        (with_reducible refine (HNU.out _).mono ?_)
        rintro e w2 ⟨rfl, hb⟩
        have HB := Lib.hid hb
        clear hb HNU
        go_wp2
        go_ret2
        exact ⟨rfl, HB.out⟩
      · have d : (true && (decide (0 ≤ n) && decide (n ≤ 31))) = false := by simp; omega
        rw [d]
        clear d
        go_enter Tryz.func77, Tryz.ntmps77
        go_wp2_with (fail)
        (with_reducible refine (HNU.out _).mono ?_)
        rintro e w2 ⟨rfl, hb⟩
        have HB := Lib.hid hb
        clear hb HNU
        go_wp2
        go_ret2
        refine ⟨?_, HB.out⟩
        show Ending.returned (.tuple #[.int .i64 n, .bool (decide (n ≤ 31))]) = _
        rw [decide_eq_false (by omega)]
    · have d : (true && (decide (0 ≤ n) && decide (n ≤ 31))) = false := by simp; omega
      rw [d]
      clear d
      go_enter Tryz.func77, Tryz.ntmps77
      go_wp2_with (fail)
      (with_reducible refine (HNU.out _).mono ?_)
      rintro e w2 ⟨rfl, hb⟩
      have HB := Lib.hid hb
      clear hb HNU
      go_wp2
      go_ret2
      exact ⟨rfl, HB.out⟩
theorem refRegister_any (s : Bs) (hl : s.length ≤ 100000) (w : World) : Calls Tryz.prog 77 #[str s] w fun e w' => e = .returned (.tuple #[.int .i64 (regD s).1, .bool (regD s).2]) ∧ Below w.heap.size w w' := by
  unfold regD
  by_cases h : s.head? = some 120
  · rw [if_pos h]
    cases s with
    | nil => cases h
    | cons x t =>
      obtain rfl : x = 120 := by simpa using h
      exact refRegister_x t (by simp at hl; omega) w
  · rw [if_neg h]; exact refRegister_no s h w
end Go.Proofs.YtakdhdaoklcidaaGreatDoor

namespace Go.Proofs.YtakdhdaoklcidaaGreatDoor
open Go.RowKit Go.Lib
set_option linter.unusedVariables false
set_option maxRecDepth 100000
def InI (n : Int) : Prop := -9223372036854775808 ≤ n ∧ n ≤ 9223372036854775807
def FirstI (rd : Int) (k : Ins) : Prop := k.rd = rd ∧ k.a = 0 ∧ (k.op = 22 ∨ k.op = 1) ∧ InI k.imm ∧ rightB k = true
def RestI (rd : Int) (k : Ins) : Prop := k.rd = rd ∧ k.a = rd ∧ (k.op = 22 ∨ k.op = 31 ∨ k.op = 28) ∧ InI k.imm ∧ (k.op = 28 → 0 ≤ k.imm ∧ k.imm ≤ 63) ∧ rightB k = true
theorem z31 : (0 : Int) ≤ 0 ∧ (0 : Int) ≤ 31 := by decide
theorem z4095 : (0 : Int) ≤ 0 ∧ (0 : Int) ≤ 4095 := by decide
theorem right_addi {rd a n : Int} (hr : 0 ≤ rd ∧ rd ≤ 31) (ha : 0 ≤ a ∧ a ≤ 31) (hn : -2048 ≤ n ∧ n ≤ 2047) : rightB (addI rd a n) = true :=
  (rightB_of (k := 22) (i := addI rd a n) ⟨by decide, by decide, rfl, ⟨hr, ha, z31, z4095, fun h => absurd h (by decide +kernel), fun h => absurd h (by decide +kernel), fun _ => rfl, fun _ => rfl, fun _ => ⟨rfl, rfl⟩, by
    rw [show (fT 22).imm = 1 by decide +kernel]; exact (fit_I n).2 hn⟩⟩).1
theorem right_addiw {rd a n : Int} (hr : 0 ≤ rd ∧ rd ≤ 31) (ha : 0 ≤ a ∧ a ≤ 31) (hn : -2048 ≤ n ∧ n ≤ 2047) : rightB (addiwI rd a n) = true :=
  (rightB_of (k := 31) (i := addiwI rd a n) ⟨by decide, by decide, rfl, ⟨hr, ha, z31, z4095, fun h => absurd h (by decide +kernel), fun h => absurd h (by decide +kernel), fun _ => rfl, fun _ => rfl, fun _ => ⟨rfl, rfl⟩, by
    rw [show (fT 31).imm = 1 by decide +kernel]; exact (fit_I n).2 hn⟩⟩).1
theorem right_lui {rd n : Int} (hr : 0 ≤ rd ∧ rd ≤ 31) (hn : -2147483648 ≤ n ∧ n ≤ 2147483647 ∧ n % 4096 = 0) : rightB (luiI rd n) = true :=
  (rightB_of (k := 1) (i := luiI rd n) ⟨by decide, by decide, rfl, ⟨hr, z31, z31, z4095, fun h => absurd h (by decide +kernel), fun _ => rfl, fun _ => rfl, fun _ => rfl, fun _ => ⟨rfl, rfl⟩, by
    rw [show (fT 1).imm = 4 by decide +kernel]; exact (fit_U n).2 hn⟩⟩).1
theorem right_slli {rd n : Int} (hr : 0 ≤ rd ∧ rd ≤ 31) (hn : 0 ≤ n ∧ n ≤ 63) : rightB (slliI rd n) = true :=
  (rightB_of (k := 28) (i := slliI rd n) ⟨by decide, by decide, rfl, ⟨hr, hr, z31, z4095, fun h => absurd h (by decide +kernel), fun h => absurd h (by decide +kernel), fun _ => rfl, fun _ => rfl, fun _ => ⟨rfl, rfl⟩, by
    rw [show (fT 28).imm = 6 by decide +kernel]; exact (fit_H n).2 hn⟩⟩).1
theorem more_mem {i k : Ins} (h : k ∈ moreI i) : k = i := by
  unfold moreI at h
  split at h
  · cases h
  · simpa using h
theorem s32_hi {n : Int} (h : -2147483648 ≤ n ∧ n ≤ 2147483647) : -2147483648 ≤ s32 (n - lowZ n) ∧ s32 (n - lowZ n) ≤ 2147483647 ∧ s32 (n - lowZ n) % 4096 = 0 := by
  have a := lowZ_bd n
  have b := lowZ_mod n
  unfold s32 RowKit.wrap32
  omega
theorem liF_shape (rd : Int) (hr : 0 ≤ rd ∧ rd ≤ 31) : ∀ f n, 1 ≤ f → InI n → (-bF f ≤ n ∧ n < bF f) → ∃ h t, liF rd f n = h :: t ∧ FirstI rd h ∧ ∀ k ∈ t, RestI rd k := by
  intro f
  induction f with
  | zero => intro n h; omega
  | succ f ih =>
    intro n _ hn hb
    obtain ⟨n0, n1⟩ := hn
    obtain ⟨lo0, lo1⟩ := lowZ_bd n
    unfold liF
    by_cases c1 : -2048 ≤ n ∧ n ≤ 2047
    · rw [if_pos c1]
      exact ⟨_, _, rfl, ⟨rfl, rfl, .inl rfl, ⟨n0, n1⟩, right_addi hr ⟨by decide, by decide⟩ c1⟩, fun k hk => by cases hk⟩
    · rw [if_neg c1]
      by_cases c2 : -2147483648 ≤ n ∧ n ≤ 2147483647
      · rw [if_pos c2]
        have h3 := s32_hi c2
        refine ⟨_, _, rfl, ⟨rfl, rfl, .inr rfl, ⟨?_, ?_⟩, right_lui hr h3⟩, fun k hk => ?_⟩
        · show _ ≤ s32 (n - lowZ n); omega
        · show s32 (n - lowZ n) ≤ _; omega
        · rw [more_mem hk]
          exact ⟨rfl, rfl, .inr (.inl rfl), ⟨by show _ ≤ lowZ n; omega, by show lowZ n ≤ _; omega⟩, (fun h => absurd h (by show ¬ (31 : Int) = 28; decide)), right_addiw hr hr ⟨lo0, lo1⟩⟩
      · rw [if_neg c2]
        have hf : 1 ≤ f := by
          rcases Nat.eq_zero_or_pos f with h | h
          · subst h; rw [bF1] at hb; omega
          · exact h
        have hx := next_in hf c1 n0 n1 hb
        obtain ⟨h, t, e, h1, h2⟩ := ih (nextL n) hf hx.2.2 ⟨hx.1, hx.2.1⟩
        have hne := high_ne c1 n0 n1
        have hwi := wrap64_in (n - lowZ n)
        have hcz := (ctzI_spec _ hne.1 hwi.1 hwi.2).1
        rw [e]
        refine ⟨h, t ++ _, rfl, h1, fun k hk => ?_⟩
        rcases List.mem_append.1 hk with hk | hk
        · exact h2 k hk
        · rcases List.mem_cons.1 hk with rfl | hk
          · exact ⟨rfl, rfl, .inr (.inr rfl), ⟨by show (_ : Int) ≤ ((ctzI (wrap64 (n - lowZ n)) : Nat) : Int); omega, by show ((ctzI (wrap64 (n - lowZ n)) : Nat) : Int) ≤ _; omega⟩, (fun _ => ⟨by show (0 : Int) ≤ ((ctzI (wrap64 (n - lowZ n)) : Nat) : Int); omega, by show ((ctzI (wrap64 (n - lowZ n)) : Nat) : Int) ≤ 63; omega⟩), right_slli hr ⟨by omega, by omega⟩⟩
          · rw [more_mem hk]
            exact ⟨rfl, rfl, .inl rfl, ⟨by show _ ≤ lowZ n; omega, by show lowZ n ≤ _; omega⟩, (fun h => absurd h (by show ¬ (22 : Int) = 28; decide)), right_addi hr hr ⟨lo0, lo1⟩⟩
end Go.Proofs.YtakdhdaoklcidaaGreatDoor

namespace Go.Proofs.YtakdhdaoklcidaaGreatDoor
open Go.RowKit
set_option linter.unusedVariables false
set_option maxRecDepth 100000
theorem right_op (i : Ins) (h : ¬ (1 ≤ i.op ∧ i.op ≤ 113)) (w : World) :
    Calls Tryz.prog 30 #[.agg #[.int .i64 i.op, .int .i64 i.rd, .int .i64 i.a, .int .i64 i.b, .int .i64 i.imm, .int .i64 i.csr, .bool i.aq, .bool i.rl]] w fun e w' => e = .returned (.bool false) ∧ Below w.heap.size w w' := by
  by_cases h1 : i.op < 1
  · clear h
    go_enter Tryz.func30, Tryz.ntmps30
    go_wp2
    go_ret
    exact ⟨rfl, (Below.refl _ _).alloc (Nat.le_refl _) _⟩
  · have h2 : 113 < i.op := by omega
    clear h
    go_enter Tryz.func30, Tryz.ntmps30
    go_wp2
    go_ret
    exact ⟨rfl, (Below.refl _ _).alloc (Nat.le_refl _) _⟩
theorem refFits_form (k : Nat) (hk : 1 ≤ k ∧ k ≤ 9) (n : Int) (w : World) :
    Calls Tryz.prog 49 #[.int .i64 k, .int .i64 n] w fun e w' => e = .returned (.bool ((formL k).number ((formL k).word n) == n)) ∧ Below w.heap.size w w' := by
  have c := form_cond k hk
  have h := formOk k hk
  rw [h.fits (form_len k hk), form_sg k hk]
  exact refFits_any k hk (formP k) rfl c.1 c.2.1 c.2.2 n w
end Go.Proofs.YtakdhdaoklcidaaGreatDoor

namespace Go.Proofs.YtakdhdaoklcidaaGreatDoor
open Go.RowKit
set_option linter.unusedVariables false
set_option maxRecDepth 100000
structure FrA (l : List (Nat × Value)) (n : Nat) (a : Act) : Prop where
  get : ∀ i v, l.lookup i = some v → a.eval (.tmp i) = v
  sz : a.tmps.size = n
  df : a.defers = []
def evL (l : List (Nat × Value)) : Operand → Option Value
  | .tmp i => l.lookup i
  | .const c => some c
  | _ => none
theorem FrA.ev {l : List (Nat × Value)} {n : Nat} {a : Act} (h : FrA l n a) {x : Operand} {v : Value} (hx : evL l x = some v) : a.eval x = v := by
  cases x with
  | tmp i => exact h.get i v hx
  | const c => simp only [evL, Option.some.injEq] at hx; exact hx
  | _ => cases hx
theorem FrA.put {l : List (Nat × Value)} {n : Nat} {a : Act} (h : FrA l n a) {e : Nat} (he : e < n) (v : Value) : FrA ((e, v) :: l) n (a.put (some e) v) :=
  ⟨fun i u hi => by
    by_cases c : e = i
    · subst c
      simp at hi
      rw [Act.eval_put_same _ _ _ (by rw [h.sz]; exact he)]; exact hi
    · rw [Act.eval_put_ne _ _ _ _ c]
      refine h.get i u ?_
      rw [List.lookup_cons] at hi
      rw [show (i == e) = false by simpa using fun q : i = e => c q.symm] at hi
      exact hi, by rw [Act.size_put]; exact h.sz, by rw [Act.defers_put']; exact h.df⟩
theorem FrA.skip {l : List (Nat × Value)} {n : Nat} {a : Act} (h : FrA l n a) {e : Nat} (he : l.lookup e = none) (v : Value) : FrA l n (a.put (some e) v) :=
  ⟨fun i u hi => by
    by_cases c : e = i
    · subst c; rw [he] at hi; cases hi
    · rw [Act.eval_put_ne _ _ _ _ c]; exact h.get i u hi, by rw [Act.size_put]; exact h.sz, by rw [Act.defers_put']; exact h.df⟩
section
variable {Q : Exit → Act → World → Prop} {w : World} {ops : Array Oper} {rest : List Oper} {o : Oper} {a : Act} {l : List (Nat × Value)} {n d : Nat}
theorem then_nrm {K : Act → World → Prop} (h : K a w) : Exit.then K Q .normal a w := h
theorem then_ret {K : Act → World → Prop} (h : Q .ret a w) : Exit.then K Q .ret a w := h
theorem then_ext {K : Act → World → Prop} {i : Nat} (h : Q (.exit i) a w) : Exit.then K Q (.exit i) a w := h
theorem blk_nrm {i : Nat} (h : Q .normal a w) : Exit.inBlock i Q .normal a w := h
theorem blk_ret {i : Nat} (h : Q .ret a w) : Exit.inBlock i Q .ret a w := h
theorem blk_eq {i : Nat} (h : Q .normal a w) : Exit.inBlock i Q (.exit i) a w := by show (if i = i then _ else _); rw [if_pos rfl]; exact h
theorem W_val (hA : FrA l n a) (hg : o.guard = none) (d : Nat) (hd : o.dst = some d) (hdn : d < n) (v : Value) (w' : World) (hrun : (execOp a.eval o).run Tryz.prog w = .ok (.value v) w')
    (h : ∀ a', FrA ((d, v) :: l) n a' → wpList Tryz.prog ops Q rest a' w') : wpList Tryz.prog ops Q (o :: rest) a w := by
  refine wpList_plain hg fun K hK => ?_
  unfold Oper.wp
  rw [hrun, Oper.upon_value, hd]
  exact hK _ _ (h _ (hA.put hdn v))
theorem W_nil (h : Q .normal a w) : wpList Tryz.prog ops Q [] a w := h
theorem R_asg (hA : FrA l n a) {x : Operand} (ho : o.op = .assign x) {v : Value} (hx : evL l x = some v) (w : World) : (execOp a.eval o).run Tryz.prog w = .ok (.value v) w := by
  unfold execOp; simp only [ho, hA.ev hx]; rfl
theorem R_mov (hA : FrA l n a) {x : Operand} (ho : o.op = .move x) {v : Value} (hx : evL l x = some v) (w : World) : (execOp a.eval o).run Tryz.prog w = .ok (.value (v)) w := by
  unfold execOp; simp only [ho, hA.ev hx]; rfl
theorem R_fa (hA : FrA l n a) {T : TypeId} {x : Operand} {i : Nat} (ho : o.op = .fieldAddr T x i) {v r : Value} (hx : evL l x = some v) (hT : ∀ w, (Instr.fieldAt T v i).run Tryz.prog w = .ok r w) (w : World) : (execOp a.eval o).run Tryz.prog w = .ok (.value (r)) w := by
  unfold execOp; simp only [ho, hA.ev hx]; simp only [Sem.run_bind, hT, Result.andThen_ok, Sem.run_pure]
theorem R_ld (hA : FrA l n a) {T : TypeId} {x : Operand} (ho : o.op = .load T x) {p : Addr} (hx : evL l x = some (.pointer (some p))) {v : Value} (hag : ∀ w, (isAgg T).run Tryz.prog w = .ok false w) (hc : w.cell? p = some v) : (execOp a.eval o).run Tryz.prog w = .ok (.value (v)) w := by
  unfold execOp; simp only [ho, hA.ev hx, Instr.loadAt, Instr.sureAddr, Sem.run_bind, Sem.run_pure, Result.andThen_ok, loadVar, hag]; simp [go_sem, hc]
theorem W_test (hA : FrA l n a) {ix e f : Nat} {x : Operand} {k j : Int} {p1 p2 : String} {ty ty2 : TypeId} {af : Array Edge} {X Y : Code} (hx : evL l x = some (.int .i64 k)) (he : e < n) (hf : f < n) (hle : l.lookup e = none) (hlf : l.lookup f = none)
    (hy : (k == j) = true → ∀ a', FrA l n a' → X.wp Tryz.prog Q a' w) (hn : (k == j) = false → ∀ a', FrA l n a' → Y.wp Tryz.prog Q a' w) :
    ((Code.region ix #[{ dst := some e, op := .binOp .eql 3 x (.const (.int .i64 j)) 3, type := ty, pos := p1, after := #[], guard := none }, { dst := some f, op := .assign (.tmp e), type := ty2, pos := p2, after := af, guard := none }] false).seq (Code.cond (.tmp f) X Y)).wp Tryz.prog Q a w := by
  refine wp_seq (wp_region_list ?_)
  refine W_val hA rfl e rfl he (.bool (k == j)) w (by unfold execOp; simp only [hA.ev hx, hA.ev (show evL l (.const (.int .i64 j)) = some (.int .i64 j) from rfl)]; simp [go_sem]) fun a1 h1 => ?_
  refine wpList_plain rfl fun K hK => ?_
  have hK' := hK (a1.put (some f) (.bool (k == j))) w
  unfold Oper.wp execOp
  simp only [h1.ev (show evL ((e, Value.bool (k == j)) :: l) (.tmp e) = some (.bool (k == j)) by simp [evL])]
  refine hK' (W_nil ?_)
  show (Code.cond (.tmp f) X Y).wp Tryz.prog Q _ w
  have h0 : FrA l n a1 := ⟨fun i v hi => h1.get i v (by
    rw [List.lookup_cons]
    by_cases c : i == e
    · rw [eq_of_beq c] at hi; rw [hle] at hi; cases hi
    · rw [Bool.not_eq_true] at c; rw [c]; exact hi), h1.sz, h1.df⟩
  have h2 := h0.skip hlf (.bool (k == j))
  refine wp_cond_split (t := (k == j)) (Act.eval_put_same _ _ _ (by rw [h1.sz]; exact hf)) (fun h => hy h _ h2) (fun h => hn h _ h2)
end
end Go.Proofs.YtakdhdaoklcidaaGreatDoor

namespace Go.Proofs.YtakdhdaoklcidaaGreatDoor
open Go.RowKit
set_option linter.unusedVariables false
set_option maxRecDepth 100000
theorem FrA.nil {n : Nat} {a : Act} (h : a.tmps.size = n) (hd : a.defers = []) : FrA [] n a := ⟨fun i v hi => (by cases hi), h, hd⟩
theorem FrA.add {l : List (Nat × Value)} {n : Nat} {a : Act} (h : FrA l n a) (e : Nat) (v : Value) (he : a.eval (.tmp e) = v) : FrA ((e, v) :: l) n a :=
  ⟨fun i u hi => by
    rw [List.lookup_cons] at hi
    by_cases c : i == e
    · rw [c] at hi
      rw [eq_of_beq c, he]
      simpa using hi
    · rw [Bool.not_eq_true] at c
      rw [c] at hi
      exact h.get i u hi, h.sz, h.df⟩
theorem begin_fr {c : Code} {Q : Exit → Act → World → Prop} {a : Act} {w : World} (l : List (Nat × Value)) (n : Nat) (hA : FrA l n a) (h : ∀ a', FrA l n a' → c.wp Tryz.prog Q a' w) : c.wp Tryz.prog Q a w := h a hA
theorem ag_u8 (w : World) : (isAgg 5).run Tryz.prog w = .ok false w := by kernel_rfl
theorem ag_bool (w : World) : (isAgg 4).run Tryz.prog w = .ok false w := by kernel_rfl
section
variable {Q : Exit → Act → World → Prop} {w : World} {ops : Array Oper} {rest : List Oper} {o : Oper} {a : Act} {l : List (Nat × Value)} {n d : Nat}
theorem R_add (hA : FrA l n a) {x y : Operand} (ho : o.op = .binOp .add 36 x y 36) {u v : Int} (hx : evL l x = some (.int .u64 u)) (hy : evL l y = some (.int .u64 v)) (w : World) : (execOp a.eval o).run Tryz.prog w = .ok (.value (.int .u64 (IntKind.u64.wrap (u + v)))) w := by
  unfold execOp; simp only [ho, hA.ev hx, hA.ev hy]; simp [go_sem]
theorem R_mul (hA : FrA l n a) {x y : Operand} (ho : o.op = .binOp .mul 36 x y 36) {u v : Int} (hx : evL l x = some (.int .u64 u)) (hy : evL l y = some (.int .u64 v)) (w : World) : (execOp a.eval o).run Tryz.prog w = .ok (.value (.int .u64 (IntKind.u64.wrap (u * v)))) w := by
  unfold execOp; simp only [ho, hA.ev hx, hA.ev hy]; simp [go_sem]
theorem R_not (hA : FrA l n a) {x : Operand} (ho : o.op = .unOp .not 4 x) {u : Bool} (hx : evL l x = some (.bool u)) (w : World) : (execOp a.eval o).run Tryz.prog w = .ok (.value (.bool !u)) w := by
  unfold execOp; simp only [ho, hA.ev hx]; simp [go_sem]
theorem R_neqU (hA : FrA l n a) {x y : Operand} (ho : o.op = .binOp .neq 36 x y 36) {u v : Int} (hx : evL l x = some (.int .u64 u)) (hy : evL l y = some (.int .u64 v)) (w : World) : (execOp a.eval o).run Tryz.prog w = .ok (.value (.bool (u != v))) w := by
  unfold execOp; simp only [ho, hA.ev hx, hA.ev hy]; simp [go_sem]
theorem R_box (hA : FrA l n a) {T : TypeId} {x : Operand} (ho : o.op = .box T x) {cs : Array Value} (hx : evL l x = some (.agg cs)) (w : World) : (execOp a.eval o).run Tryz.prog w = .ok (.value (.pointer (some ⟨w.heap.size, 0, none⟩))) (w.alloc (.cells cs T)) := by
  unfold execOp; simp only [ho, hA.ev hx, Sem.run_bind, Instr.box, newVar, newRow, run_newObj_alloc, Sem.run_pure, Result.andThen_ok, Value.cells]
theorem R_alloc (hA : FrA l n a) {T : TypeId} (ho : o.op = .alloc T) {cs : Array Value} (hz : ∀ w, (zeroValue T).run Tryz.prog w = .ok (.agg cs) w) (w : World) : (execOp a.eval o).run Tryz.prog w = .ok (.value (.pointer (some ⟨w.heap.size, 0, none⟩))) (w.alloc (.cells cs T)) := by
  unfold execOp; simp only [ho, Instr.alloc]; simp [go_sem, hz, newVar, newRow, Value.cells]
theorem R_row (hA : FrA l n a) {T : TypeId} {x : Operand} (ho : o.op = .load T x) {b : Nat} (hx : evL l x = some (.pointer (some ⟨b, 0, none⟩))) {cs : Array Value} {fs : Array Field} (hw : w.heap[b]? = some (.cells cs T (0, 0)))
    (hu : Tryz.prog.underlying T = some (.struct fs)) (hi : (Tryz.prog.info? T).map (·.size) = some cs.size) : (execOp a.eval o).run Tryz.prog w = .ok (.value (.agg cs)) w := by
  unfold execOp; simp only [ho, hA.ev hx, Instr.loadAt, Instr.sureAddr, Sem.run_bind, Sem.run_pure, Result.andThen_ok, run_loadVar_row w b T T cs (0, 0) _ hw hu rfl hi]
theorem R_addI (hA : FrA l n a) {x y : Operand} (ho : o.op = .binOp .add 3 x y 3) {u v : Int} (hx : evL l x = some (.int .i64 u)) (hy : evL l y = some (.int .i64 v)) (w : World) : (execOp a.eval o).run Tryz.prog w = .ok (.value (.int .i64 (IntKind.i64.wrap (u + v)))) w := by
  unfold execOp; simp only [ho, hA.ev hx, hA.ev hy]; simp [go_sem]
theorem R_subI (hA : FrA l n a) {x y : Operand} (ho : o.op = .binOp .sub 3 x y 3) {u v : Int} (hx : evL l x = some (.int .i64 u)) (hy : evL l y = some (.int .i64 v)) (w : World) : (execOp a.eval o).run Tryz.prog w = .ok (.value (.int .i64 (IntKind.i64.wrap (u - v)))) w := by
  unfold execOp; simp only [ho, hA.ev hx, hA.ev hy]; simp [go_sem]
theorem R_eqlI (hA : FrA l n a) {x y : Operand} (ho : o.op = .binOp .eql 3 x y 3) {u v : Int} (hx : evL l x = some (.int .i64 u)) (hy : evL l y = some (.int .i64 v)) (w : World) : (execOp a.eval o).run Tryz.prog w = .ok (.value (.bool (u == v))) w := by
  unfold execOp; simp only [ho, hA.ev hx, hA.ev hy]; simp [go_sem]
theorem R_pick (hA : FrA l n a) {c x y : Operand} (ho : o.op = .pick c x y) {q : Bool} (hc : evL l c = some (.bool q)) {v : Value} (hv : (if q then evL l x else evL l y) = some v) (w : World) : (execOp a.eval o).run Tryz.prog w = .ok (.value v) w := by
  unfold execOp; simp only [ho, hA.ev hc]
  cases q
  · simp only [hA.ev (show evL l y = some v from hv)]; simp [go_sem]
  · simp only [hA.ev (show evL l x = some v from hv)]; simp [go_sem]
theorem wanted_g (hA : FrA l n a) {j dj : Nat} {want q : Bool} (hg : o.guard = some (j, want)) (hd : ((ops[j]?).bind (·.dst)) = some dj) (hv : l.lookup dj = some (.bool q)) : Region.wanted o (yielded ops a.tmps) = (q == want) := by
  have e : a.eval (.tmp dj) = .bool q := hA.get _ _ hv
  have e' : a.tmps.getD dj undef = .bool q := e
  have e2 : a.tmps[dj]? = some (.bool q) := by
    rw [Array.getD_eq_getD_getElem?] at e'
    cases c : a.tmps[dj]? with
    | none => rw [c] at e'; cases e'
    | some u => rw [c] at e'; exact congrArg some e'
  simp only [Region.wanted, hg, yielded, hd, Option.bind_some, e2]
  cases q <;> cases want <;> rfl
theorem W_gval (hA : FrA l n a) {j dj : Nat} {want : Bool} (hg : o.guard = some (j, want)) (hdj : ((ops[j]?).bind (·.dst)) = some dj) (hq : l.lookup dj = some (.bool want)) (d : Nat) (hd : o.dst = some d) (hdn : d < n) (v : Value) (w' : World) (hrun : (execOp a.eval o).run Tryz.prog w = .ok (.value v) w')
    (h : ∀ a', FrA ((d, v) :: l) n a' → wpList Tryz.prog ops Q rest a' w') : wpList Tryz.prog ops Q (o :: rest) a w := by
  refine wpList_step fun K hK => ?_
  rw [wanted_g hA hg hdj hq, if_pos (by simp)]
  unfold Oper.wp
  rw [hrun, Oper.upon_value, hd]
  exact hK _ _ (h _ (hA.put hdn v))
theorem W_gskip (hA : FrA l n a) {j dj : Nat} {want : Bool} (hg : o.guard = some (j, want)) (hdj : ((ops[j]?).bind (·.dst)) = some dj) (hq : l.lookup dj = some (.bool !want)) (d : Nat) (hd : o.dst = some d) (hdn : d < n)
    (h : ∀ a', FrA ((d, undef) :: l) n a' → wpList Tryz.prog ops Q rest a' w) : wpList Tryz.prog ops Q (o :: rest) a w := by
  refine wpList_step fun K hK => ?_
  rw [wanted_g hA hg hdj hq, if_neg (by simp), hd]
  exact hK _ _ (h _ (hA.put hdn undef))
theorem W_split (hA : FrA l n a) (s : Nat) {q : Bool} {L : List Oper} (hs : l.lookup s = some (.bool q)) (ht : q = true → FrA ((s, .bool true) :: l) n a → wpList Tryz.prog ops Q L a w) (hf : q = false → FrA ((s, .bool false) :: l) n a → wpList Tryz.prog ops Q L a w) : wpList Tryz.prog ops Q L a w := by
  cases q
  · exact hf rfl (hA.add s _ (hA.get _ _ hs))
  · exact ht rfl (hA.add s _ (hA.get _ _ hs))
theorem W_gcall {f : Nat} {xs : Array Operand} {ts : Array TypeId} {ty : TypeId} {ps : String} {af : Array Edge} {j dj : Nat} {want : Bool} (hA : FrA l n a) (hdj : ((ops[j]?).bind (·.dst)) = some dj) (hq : l.lookup dj = some (.bool want)) (hdn : d < n) {args : Array Value} {v : Value} {S : World → Prop} (hcf : ∀ vs w, (callFunc f vs).run Tryz.prog w = .ok (.enter f vs) w) (hargs : xs.map a.eval = args)
    (hc : Calls Tryz.prog f args w fun e w' => e = .returned v ∧ S w') (h : ∀ w', S w' → ∀ a', FrA ((d, v) :: l) n a' → wpList Tryz.prog ops Q rest a' w') :
    wpList Tryz.prog ops Q ({ dst := some d, op := .call { callee := .value (.func f), args := xs, argTypes := ts }, type := ty, pos := ps, after := af, guard := some (j, want) } :: rest) a w := by
  refine wpList_step fun K hK => ?_
  rw [wanted_g hA rfl hdj hq, if_pos (by simp)]
  have e1 : execOp a.eval { dst := some d, op := .call { callee := .value (.func f), args := xs, argTypes := ts }, type := ty, pos := ps, after := af, guard := some (j, want) } = callFunc f (#[] ++ xs.map a.eval ++ #[]) := rfl
  unfold Oper.wp
  rw [e1, hargs, Array.empty_append, Array.append_empty, hcf, Oper.upon_enter]
  refine hc.mono fun e w'' hh => ?_
  obtain ⟨rfl, hs⟩ := hh
  exact hK _ _ (h _ hs _ (hA.put hdn v))
theorem W_callA {f : Nat} {xs : Array Operand} {ts : Array TypeId} {ty : TypeId} {ps : String} {af : Array Edge} (hA : FrA l n a) (hdn : d < n) {args : Array Value} {v : Value} {S : World → Prop} (hcf : ∀ vs w, (callFunc f vs).run Tryz.prog w = .ok (.enter f vs) w) (hargs : xs.map a.eval = args)
    (hc : Calls Tryz.prog f args w fun e w' => e = .returned v ∧ S w') (h : ∀ w', S w' → ∀ a', FrA ((d, v) :: l) n a' → wpList Tryz.prog ops Q rest a' w') :
    wpList Tryz.prog ops Q ({ dst := some d, op := .call { callee := .value (.func f), args := xs, argTypes := ts }, type := ty, pos := ps, after := af, guard := none } :: rest) a w := by
  refine wpList_plain rfl fun K hK => ?_
  have e1 : execOp a.eval { dst := some d, op := .call { callee := .value (.func f), args := xs, argTypes := ts }, type := ty, pos := ps, after := af, guard := none } = callFunc f (#[] ++ xs.map a.eval ++ #[]) := rfl
  unfold Oper.wp
  rw [e1, hargs, Array.empty_append, Array.append_empty, hcf, Oper.upon_enter]
  refine hc.mono fun e w'' hh => ?_
  obtain ⟨rfl, hs⟩ := hh
  exact hK _ _ (h _ hs _ (hA.put hdn v))
theorem W_call1 {f : Nat} {x : Operand} {ts : Array TypeId} {ty : TypeId} {ps : String} {af : Array Edge} (hA : FrA l n a) (hdn : d < n) {u v : Value} {S : World → Prop} (hcf : ∀ vs w, (callFunc f vs).run Tryz.prog w = .ok (.enter f vs) w) (hx : evL l x = some u)
    (hc : Calls Tryz.prog f #[u] w fun e w' => e = .returned v ∧ S w') (h : ∀ w', S w' → ∀ a', FrA ((d, v) :: l) n a' → wpList Tryz.prog ops Q rest a' w') :
    wpList Tryz.prog ops Q ({ dst := some d, op := .call { callee := .value (.func f), args := #[x], argTypes := ts }, type := ty, pos := ps, after := af, guard := none } :: rest) a w :=
  W_callA hA hdn hcf (by simp only [List.map_toArray, List.map_cons, List.map_nil, hA.ev hx]) hc h
theorem W_st (hA : FrA l n a) (hg : o.guard = none) (hd : o.dst = none) {T : TypeId} {x y : Operand} (ho : o.op = .store T x y) {p : Addr} {v : Value} (hx : evL l x = some (.pointer (some p))) (hy : evL l y = some v)
    (hs : (storeVar T p v).run Tryz.prog w = .ok () (w.setCell p v)) (h : wpList Tryz.prog ops Q rest a (w.setCell p v)) : wpList Tryz.prog ops Q (o :: rest) a w := by
  refine wpList_plain hg fun K hK => ?_
  unfold Oper.wp execOp
  simp only [ho, hA.ev hx, hA.ev hy, Instr.storeAt, Instr.sureAddr, Sem.run_bind, Sem.run_pure, Result.andThen_ok, hs]
  have := hK _ _ h
  rw [show a = a.put o.dst undef by rw [hd]; rfl] at this
  exact this
theorem W_strow (hA : FrA l n a) (hg : o.guard = none) (hd : o.dst = none) {T : TypeId} {x y : Operand} (ho : o.op = .store T x y) {b : Nat} {cs old : Array Value} (hx : evL l x = some (.pointer (some ⟨b, 0, none⟩))) (hy : evL l y = some (.agg cs))
    (hw : w.heap[b]? = some (.cells old T (0, 0))) (hi : (Tryz.prog.info? T).map (·.size) = some cs.size) (ho2 : old.size = cs.size) (h1 : cs.all (·.oneCell') = true) (h : wpList Tryz.prog ops Q rest a (w.setRow b cs)) : wpList Tryz.prog ops Q (o :: rest) a w := by
  refine wpList_store_row (by simp only [Region.wanted, hg]) T x y ho b cs (hA.ev hx) (hA.ev hy) T old hw hi ho2 h1 ?_
  rw [hd]; exact h
theorem R_lssI (hA : FrA l n a) {x y : Operand} (ho : o.op = .binOp .lss 3 x y 3) {u v : Int} (hx : evL l x = some (.int .i64 u)) (hy : evL l y = some (.int .i64 v)) (w : World) : (execOp a.eval o).run Tryz.prog w = .ok (.value (.bool (decide (u < v)))) w := by
  unfold execOp; simp only [ho, hA.ev hx, hA.ev hy]; simp [go_sem]
theorem R_index (hA : FrA l n a) {T : TypeId} {x y : Operand} (ho : o.op = .index T x y) {u v r : Value} (hx : evL l x = some u) (hy : evL l y = some v) (hT : ∀ w, (Instr.index T u v).run Tryz.prog w = .ok r w) (w : World) : (execOp a.eval o).run Tryz.prog w = .ok (.value r) w := by
  unfold execOp; simp only [ho, hA.ev hx, hA.ev hy, Sem.run_bind, hT, Result.andThen_ok, Sem.run_pure]
theorem evs (hA : FrA l n a) : ∀ (ps : List (Nat × Operand)) (vs : List (Nat × Value)), ps.map (fun p => (p.1, evL l p.2)) = vs.map (fun q => (q.1, some q.2)) → ps.map (fun p => (p.1, a.eval p.2)) = vs
  | [], [], _ => rfl
  | [], _ :: _, h => by cases h
  | _ :: _, [], h => by cases h
  | p :: ps, v :: vs, h => by
    simp only [List.map_cons, List.cons.injEq, Prod.mk.injEq] at h
    simp only [List.map_cons, List.cons.injEq]
    exact ⟨by rw [hA.ev h.1.2, h.1.1], evs hA ps vs h.2⟩
theorem R_build (hA : FrA l n a) {T : TypeId} {ps : List (Nat × Operand)} (ho : o.op = .build T ps.toArray) (vs : List (Nat × Value)) (hv : ps.map (fun p => (p.1, evL l p.2)) = vs.map (fun q => (q.1, some q.2))) {cs : Array Value} (hb : Tryz.prog.built T vs = some cs) (w : World) : (execOp a.eval o).run Tryz.prog w = .ok (.value (.agg cs)) w := by
  have e := evs hA ps vs hv
  have e2 : (ps.toArray.map fun (i, x) => (i, a.eval x)).toList = vs := by simpa using e
  unfold execOp
  simp only [ho]
  have h2 := run_build (P := Tryz.prog) w T (ps.toArray.map fun (i, x) => (i, a.eval x)) cs (by rw [e2]; exact hb)
  simp only [Sem.run_bind, h2, Result.andThen_ok, Sem.run_pure]
def cntA (a : Act) (s : Nat) : Nat := match a.eval (.tmp s) with | .int _ n => n.toNat | _ => 0
theorem loop_cnt {c : Code} (s N : Nat) (I : Nat → Act → World → Prop) (hI : ∀ k a w, I k a w → ∃ ik, a.eval (.tmp s) = .int ik (k : Int)) (h0 : I 0 a w) (round : ∀ k a w, k ≤ N → I k a w → c.wp Tryz.prog (Exit.then (fun a' w' => k < N ∧ I (k + 1) a' w') Q) a w) : (Code.loop c).wp Tryz.prog Q a w := by
  have hc : ∀ k a w, I k a w → cntA a s = k := fun k a w h => by
    obtain ⟨ik, e⟩ := hI k a w h
    unfold cntA; rw [e]; simp
  refine wp_loop (fun a w => ∃ k, k ≤ N ∧ I k a w) (fun a w => N - cntA a s) ⟨0, Nat.zero_le _, h0⟩ (fun a w h => ?_)
  obtain ⟨k, hk, h⟩ := h
  refine wp_mono (round k a w hk h) ?_
  intro e a' w' q
  cases e with
  | normal =>
    obtain ⟨h1, h2⟩ := q
    refine ⟨⟨k + 1, h1, h2⟩, ?_⟩
    rw [hc _ _ _ h, hc _ _ _ h2]; omega
  | _ => exact q
theorem args1 (hA : FrA l n a) {x : Operand} {u : Value} (hx : evL l x = some u) : #[x].map a.eval = #[u] := by simp only [List.map_toArray, List.map_cons, List.map_nil, hA.ev hx]
theorem args2 (hA : FrA l n a) {x y : Operand} {u v : Value} (hx : evL l x = some u) (hy : evL l y = some v) : #[x, y].map a.eval = #[u, v] := by simp only [List.map_toArray, List.map_cons, List.map_nil, hA.ev hx, hA.ev hy]
theorem args3 (hA : FrA l n a) {x y z : Operand} {u v p : Value} (hx : evL l x = some u) (hy : evL l y = some v) (hz : evL l z = some p) : #[x, y, z].map a.eval = #[u, v, p] := by simp only [List.map_toArray, List.map_cons, List.map_nil, hA.ev hx, hA.ev hy, hA.ev hz]
def Sets (n : Nat) (l : List (Nat × Value)) (f : Nat) (b : Bool) (C : Code) : Prop := ∀ (Q : Exit → Act → World → Prop) (a : Act) (w : World), FrA l n a → (∀ a', FrA l n a' → a'.eval (.tmp f) = .bool b → Q .normal a' w) → C.wp Tryz.prog Q a w
theorem ret_tmp {fn : Func} {R : Ending → World → Prop} {j : Nat} {v : Value} (hr : fn.results = #[.tmp j]) (hA : FrA l n a) (hj : j < n) (hv : l.lookup j = some v) (hR : R (.returned v) w) : bodyPost Tryz.prog fn R .ret a w := by
  refine bodyPost_ret (v := v) ?_ hA.df hR
  have e : a.eval (.tmp j) = v := hA.get _ _ hv
  have e' : a.tmps.getD j undef = v := e
  simp [results, hr, go_sem]
  simpa using e'
theorem ret_row {fn : Func} {R : Ending → World → Prop} {j b : Nat} {T : TypeId} {cs : Array Value} {fs : Array Field} (hr : fn.results = #[.cell j T]) (hA : FrA l n a) (hv : l.lookup j = some (.pointer (some ⟨b, 0, none⟩))) (hw : w.heap[b]? = some (.cells cs T (0, 0)))
    (hu : Tryz.prog.underlying T = some (.struct fs)) (hi : (Tryz.prog.info? T).map (·.size) = some cs.size) (hR : R (.returned (.agg cs)) w) : bodyPost Tryz.prog fn R .ret a w :=
  bodyPost_ret (results_cell_row hr _ _ b T cs (0, 0) _ (hA.get _ _ hv) hw hu rfl hi) hA.df hR
end
section
variable {ops : Array Oper} {md : Region.Mode} {Q : Exit → Act → World → Prop} {S : World → Prop} {l : List (Nat × Value)} {n : Nat}
theorem takeF {i : Nat} {oi : Oper} {v : Value} {fuel : Nat} {listed : Array Bool} {a : Act} {w : World} (hA : FrA l n a) (d : Nat) (hi : ops[i]? = some oi) (hd : oi.dst = some d) (hdn : d < n) (hg : oi.guard = none)
    (hs : Region.noSelect ops = true) (hf : Region.free md ops listed i = true) (hr : (Region.ready md ops listed).contains i = true)
    (hQ : ∀ c a w, Q (.panic c) (a.put (some d) v) w → Q (.panic c) a w) (hS : S w) (hy : ∀ w, S w → (execOp a.eval oi).run Tryz.prog w = .ok (.value v) w)
    (h : ∀ a', FrA ((d, v) :: l) n a' → wpAnyH Tryz.prog md ops Q S fuel (listed.setIfInBounds i true) a' w) : wpAnyH Tryz.prog md ops Q S (fuel + 1) listed a w :=
  takeD (some d) hi hd hs hf hr hQ (by simp only [Region.wanted, hg]) hS hy (h _ (hA.put hdn v))
end
end Go.Proofs.YtakdhdaoklcidaaGreatDoor
