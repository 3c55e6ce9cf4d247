/- Layer 9: fill makes the table. -/
import Derived.Test.YtehlihhnkojjeaaDoorOnB
import Derived.Test.YtehlihhnkojjeaaDoorDcB
import Derived.Deep.RegionLaw
namespace Go.Proofs.YtehlihhnkojjeaaDoor
open Go.RowKit
set_option linter.unusedVariables false
set_option maxRecDepth 100000

/-- An append whose run is known, at a step of a region that draws. -/
theorem step_append_run {P : Program} {w : World} {ops : Array Oper} {o : Oper} {a : Act} {K : Act → World → Prop} {Q : Exit → Act → World → Prop} {E : Prop} (hgd : o.guard = none) (s x : Operand) (t : TypeId)
    (ho : o.op = .call { callee := .builtin .append, args := #[s, x], argTypes := #[t, t] }) (v v2 v' : Value) (w' : World) (hs : a.eval s = v) (hx : a.eval x = v2)
    (hr : (Builtin.append_ #[t, t] o.type #[v, v2]).run P w = .ok v' w') (h : K (a.put o.dst v') w') :
    if Region.wanted o (yielded ops a.tmps) = true then Oper.wp P o a w K Q else E := by
  have hw : Region.wanted o (yielded ops a.tmps) = true := by simp [Region.wanted, hgd]
  rw [if_pos hw]
  exact wp_append_run s x t ho v v2 v' w' hs hx hr h
/-- The Ops below j whose word's lowest seven bits are a. -/
def lowL (j a : Nat) : List Int := ((List.range j).filter fun k => decide (1 ≤ k) && decide (matT k % 128 = a)).map fun (k : Nat) => (k : Int)
theorem lowL_one (a : Nat) : lowL 1 a = [] := rfl
theorem lowL_succ (j : Nat) (hj : 1 ≤ j) : lowL (j + 1) = updL (lowL j) (matT j % 128) (lowL j (matT j % 128) ++ [(j : Int)]) := by
  funext a
  unfold updL lowL
  rw [List.range_succ, List.filter_append, List.map_append]
  by_cases e : a = matT j % 128
  · rw [if_pos e, e]; simp [hj]
  · rw [if_neg e]
    have : decide (matT j % 128 = a) = false := by simp; omega
    simp [this]
theorem lowL_len (j a : Nat) : (lowL j a).length ≤ j := by
  unfold lowL
  rw [List.length_map]
  exact Nat.le_trans (List.length_filter_le _ _) (by simp)
theorem lowL_mem {j a : Nat} {x : Int} : x ∈ lowL j a ↔ ∃ k : Nat, x = k ∧ 1 ≤ k ∧ k < j ∧ matT k % 128 = a := by
  unfold lowL
  simp only [List.mem_map, List.mem_filter, List.mem_range, Bool.and_eq_true, decide_eq_true_eq]
  constructor
  · rintro ⟨k, ⟨h1, h2, h3⟩, rfl⟩; exact ⟨k, rfl, h2, h1, h3⟩
  · rintro ⟨k, rfl, h1, h2, h3⟩; exact ⟨k, ⟨h2, h1, h3⟩, rfl⟩

/-- What fill leaves. -/
def FillE (w : World) (b : Nat) (d s : Int) (e : Ending) (w' : World) : Prop := e = .returned (.tuple #[]) ∧ Only (fun i => i = b) w w' ∧ ∃ K V, Tbl w' b w.heap.size d s K V (lowL 114)
set_option maxHeartbeats 4000000 in
theorem fill_any (w : World) (b : Nat) (d s : Int) (K : Nat → Nat) (h : Tbl w b w.heap.size d s K (fun _ => .slice none 0 0) (fun _ => [])) :
    Calls Tryd.prog 30 #[.pointer (some ⟨b, 0, none⟩)] w (FillE w b d s) := by
  have H := Lib.hid h
  clear h
  go_enter Tryd.func30, Tryd.ntmps30
  go_wp2
  go_loopw [2] (fun i wr => ∃ j : Nat, 1 ≤ j ∧ j ≤ 114 ∧ i = .int .i64 j ∧ Only (fun i => i = b) w wr ∧ ∃ K V, Tbl wr b w.heap.size d s K V (lowL j)) (fun i _ => (115 - intOf i).toNat)
  case atStart => exact ⟨1, by omega, by omega, rfl, Only.refl _ _, K, _, H.out⟩
  case round =>
    obtain ⟨j, hj1, hj2, rfl, ho, K1, V, ht⟩ := hrel
    have HO := Lib.hid ho
    have HT := Lib.hid ht
    clear ho ht
    by_cases e : j ≤ 113
    · have hj3 : (j : Int) ≤ 113 := by omega
      have HF := Lib.hid fun w => dfind_any j hj1 (by omega) w
      have HL := Lib.hid (lowL_succ j hj1)
      have hlen := lowL_len j (matT j % 128)
      have ha : matT j % 128 < 128 := by omega
      have hmod : (matT j : Int) % 128 = ((matT j % 128 : Nat) : Int) := by omega
      generalize hA : matT j % 128 = a at *
      clear hA
      generalize nameT j = nm at *
      generalize frmT j = f at *
      have hmt0 : (0 : Int) ≤ matT j := by omega
      generalize (matT j : Int) = mt at *
      have HM := Lib.hid hmod
      clear hmod
      have hm := HM.out
      go_wp2_with (go_at_call 20; (with_reducible refine (HF.out _).mono ?_); rintro e1 w1 ⟨rfl, hb1⟩; have HT1 := Lib.hid ((HT.out.below hb1).below ((Below.refl w1.heap.size w1).alloc (Nat.le_refl _) (.cells #[.string nm, .int .u32 mt, .int .u8 f] 57))); have HO1 := Lib.hid ((HO.out.thenBelow hb1).alloc (.cells #[.string nm, .int .u32 mt, .int .u8 f] 57)); clear hb1)
      have hB : w.heap.size ≤ (w1.alloc (.cells #[.string nm, .int .u32 mt, .int .u8 f] 57)).heap.size := HO1.out.size
      generalize hww : (w1.alloc (.cells #[.string nm, .int .u32 mt, .int .u8 f] 57)) = ww at *
      clear hww
      obtain ⟨A, n, C, A2, n2, C2, w', hv, hr, hc, hf, ⟨K', ht'⟩, ho'⟩ := HT1.out.push hB ha (by omega) j 48
      have hcell := HT1.out.at ha
      have hfr := HT1.out.free (3 + a)
      have hbl := HT1.out.lt
      rw [hv] at hcell
      have HRUN := Lib.hid hr
      have HTE := Lib.hid ht'
      have HOE := Lib.hid (HO1.out.step ho' fun i hi => by rcases hi with hi | hi; exact .inl hi; exact .inr hi)
      clear hr ht' ho' hv hB hlen
      have ha2 : (a : Int) < 128 := by omega
      have ha0 : (0 : Int) ≤ a := by omega
      go_region_law (first | (refine step_append_run rfl (.tmp 25) (.tmp 27) 48 rfl (.slice A n C) (.slice (some ⟨ww.heap.size, 0, none⟩) 1 1) (.slice A2 n2 C2) w' rfl rfl HRUN.out ?_))
      all_goals
        go_wp2
        go_roundw
        case rel => exact ⟨j + 1, by omega, by omega, by go_num, HOE.out, K', _, by rw [HL.out]; exact HTE.out⟩
        case measure => simp [intOf]; omega
    · obtain rfl : j = 114 := by omega
      go_wp2
      go_end0
      exact ⟨rfl, HO.out, K1, V, HT.out⟩

end Go.Proofs.YtehlihhnkojjeaaDoor
