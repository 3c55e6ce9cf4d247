/- A hart that is handed in, opened. -/
import Derived.Test.YtkfhpmleelmcfaaHa
import Derived.Deep.Fields
import Derived.ChangeArms
import Derived.OpenShut
namespace Go.Proofs.Ytkfhpmleelmcfaa
open Go.ChangeShapes Go.WideShapes Go.RowKit Go.Deep
set_option linter.unusedVariables false
set_option maxRecDepth 100000

/-- Of what kind cell j of a hart is. -/
def IsK (j : Nat) (v : Value) : Prop :=
  if j = 33 then ∃ n, v = .int .u8 n ∧ (Lit.int .u8 n).wf = true else if 34 ≤ j ∧ j ≤ 36 then ∃ b, v = .bool b else ∃ n, v = .int .u64 n ∧ (Lit.int .u64 n).wf = true
def offH (i : Nat) : Nat := if i = 0 then 0 else if i = 1 then 1 else i + 31
def typH (i : Nat) : TypeId := if i = 1 then 23 else if i = 2 then 5 else if 3 ≤ i ∧ i ≤ 5 then 4 else 22
theorem hart_fields : ∃ fs, Try.prog.underlying 25 = some (.struct fs) ∧ fs.size = 46 ∧ ∀ i, i < 46 → fs[i]?.map (fun f => (f.offset, f.type)) = some (offH i, typH i) :=
  ⟨_, Try.underlying25, rfl, by decide +kernel⟩
theorem cells_u64 : Try.prog.cellsOf 22 = 1 := by kernel_rfl
theorem cells_u8 : Try.prog.cellsOf 5 = 1 := by kernel_rfl
theorem cells_bool : Try.prog.cellsOf 4 = 1 := by kernel_rfl
theorem cells_x : Try.prog.cellsOf 23 = 32 := by kernel_rfl
theorem cells_hart : Try.prog.cellsOf 25 = 77 := by kernel_rfl
theorem take_one {cs : List Value} {o : Nat} {c : Value} (h : (cs.drop o).take 1 = [c]) : cs[o]? = some c := by
  have := congrArg (fun l => l[0]?) h
  simpa [List.getElem?_drop] using this

section
variable {H : Type} {enc : TypeId × Value → H} {w : World} {base : Nat} {spare : Nat → Bool} {held : Bool}
theorem cell_u64 {n o : Nat} {cs : List Value} {y : DataW H × List MemPlace} (h : DataW.trod enc Try.prog w base spare held n 22 ((cs.drop o).take 1) = some y) : ∃ x, cs[o]? = some (.int .u64 x) ∧ (Lit.int .u64 x).wf = true := by
  obtain ⟨x, e, _, wf⟩ := DataW.trod_int Try.underlying22 h
  exact ⟨x, take_one e, wf⟩
theorem hart_cells {cs : List Value} {n : Nat} {x : DataW H × List MemPlace} (h : DataW.trod enc Try.prog w base spare held n 25 cs = some x) : cs.length = 77 ∧ ∀ j, j < 77 → ∃ v, cs[j]? = some v ∧ IsK j v := by
  obtain ⟨fs, hu, hs, hf⟩ := hart_fields
  obtain ⟨xs, m, _, _, hl, hxl, hg⟩ := DataW.trod_struct hu h
  refine ⟨hl.trans cells_hart, fun j hj => ?_⟩
  have fld : ∀ i, i < 46 → ∃ y, DataW.trod enc Try.prog w base spare held m (typH i) ((cs.drop (offH i)).take (Try.prog.cellsOf (typH i))) = some y := fun i hi => by
    have e := hf i hi
    obtain ⟨f, hfi⟩ : ∃ f, fs[i]? = some f := by
      cases c : fs[i]? with
      | none => rw [c] at e; cases e
      | some f => exact ⟨f, rfl⟩
    rw [hfi] at e
    simp only [Option.map_some, Option.some.injEq, Prod.mk.injEq] at e
    have g := hg i f hfi
    rw [e.1, e.2] at g
    have hil : i < xs.length := by rw [hxl, hs]; exact hi
    rw [List.getElem?_eq_getElem hil] at g
    exact ⟨_, g⟩
  by_cases h0 : j = 0
  · subst h0
    obtain ⟨y, hy⟩ := fld 0 (by omega)
    have hy' : DataW.trod enc Try.prog w base spare held m 22 ((cs.drop 0).take (Try.prog.cellsOf 22)) = some y := hy
    rw [cells_u64] at hy'
    obtain ⟨x, e, wf⟩ := cell_u64 hy'
    exact ⟨_, e, x, rfl, wf⟩
  by_cases h1 : j < 33
  · obtain ⟨y, hy⟩ := fld 1 (by omega)
    have hy' : DataW.trod enc Try.prog w base spare held m 23 ((cs.drop 1).take (Try.prog.cellsOf 23)) = some y := hy
    rw [cells_x] at hy'
    obtain ⟨ys, q, _, _, _, hyl, hyg⟩ := DataW.trod_array Try.underlying23 hy'
    have g := hyg (j - 1) (by omega)
    rw [cells_u64, Nat.mul_one] at g
    have hil : j - 1 < ys.length := by omega
    rw [List.getElem?_eq_getElem hil, List.drop_take, List.take_take, List.drop_drop, show 1 + (j - 1) = j by omega, Nat.min_eq_left (by omega)] at g
    obtain ⟨x, e, wf⟩ := cell_u64 g
    refine ⟨_, e, ?_⟩
    unfold IsK; rw [if_neg (by omega), if_neg (by omega)]; exact ⟨x, rfl, wf⟩
  by_cases h2 : j = 33
  · subst h2
    obtain ⟨y, hy⟩ := fld 2 (by omega)
    have hy' : DataW.trod enc Try.prog w base spare held m 5 ((cs.drop 33).take (Try.prog.cellsOf 5)) = some y := hy
    rw [cells_u8] at hy'
    obtain ⟨x, e, _, wf⟩ := DataW.trod_int Try.underlying5 hy'
    exact ⟨_, take_one e, x, rfl, wf⟩
  by_cases h3 : j ≤ 36
  · obtain ⟨y, hy⟩ := fld (j - 31) (by omega)
    have e1 : offH (j - 31) = j := by unfold offH; rw [if_neg (by omega), if_neg (by omega)]; omega
    have e2 : typH (j - 31) = 4 := by unfold typH; rw [if_neg (by omega), if_neg (by omega), if_pos (by omega)]
    rw [e1, e2, cells_bool] at hy
    obtain ⟨b, e, _⟩ := DataW.trod_bool Try.underlying4 hy
    refine ⟨_, take_one e, ?_⟩
    unfold IsK; rw [if_neg (by omega), if_pos (by omega)]; exact ⟨b, rfl⟩
  · obtain ⟨y, hy⟩ := fld (j - 31) (by omega)
    have e1 : offH (j - 31) = j := by unfold offH; rw [if_neg (by omega), if_neg (by omega)]; omega
    have e2 : typH (j - 31) = 22 := by unfold typH; rw [if_neg (by omega), if_neg (by omega), if_neg (by omega)]
    rw [e1, e2, cells_u64] at hy
    obtain ⟨x, e, wf⟩ := cell_u64 hy
    refine ⟨_, e, ?_⟩
    unfold IsK; rw [if_neg (by omega), if_neg (by omega)]; exact ⟨x, rfl, wf⟩
def numV : Option Value → Int
  | some (.int _ n) => n
  | _ => 0
def boolV : Option Value → Bool
  | some (.bool b) => b
  | _ => false
theorem in_u8 {x : Int} (h : (Lit.int .u8 x).wf = true) : 0 ≤ x ∧ x < 256 := by
  have h2 := h
  simp [Lit.wf, IntKind.min, IntKind.max, IntKind.signed, IntKind.bits] at h2
  omega
theorem open_hart {r : Reach} {b0 : Nat} {v : Value} {d : DataW H} {p : List MemPlace} (hv : Value.okWide Try.prog w r b0 25 v) (h : DataW.Trod enc Try.prog w base spare held 25 v d p) :
    ∃ t : HS, v = hartV t ∧ HOk t := by
  obtain ⟨fs, hu, _, _⟩ := hart_fields
  obtain ⟨⟨l⟩, rfl, hsz⟩ := okWide_struct hu hv
  obtain ⟨fuel, hf⟩ := h
  obtain ⟨hl, hc⟩ := hart_cells hf
  have hl' : l.length = 77 := hl
  have hc' : ∀ j, j < 77 → ∃ v, l[j]? = some v ∧ IsK j v := hc
  refine ⟨⟨fun i => numV l[i]?, boolV l[34]?, boolV l[35]?, boolV l[36]?⟩, ?_, ?_, ?_⟩
  · have e : l = (List.range 77).map (hCell ⟨fun i => numV l[i]?, boolV l[34]?, boolV l[35]?, boolV l[36]?⟩) := by
      apply List.ext_getElem?
      intro j
      by_cases hj : j < 77
      · obtain ⟨v, e, k⟩ := hc' j hj
        rw [List.getElem?_map, List.getElem?_range hj]
        show l[j]? = some _
        rw [e]
        congr 1
        unfold IsK at k
        unfold hCell
        by_cases h1 : j = 33
        · subst h1
          obtain ⟨n, rfl, _⟩ := k
          show _ = Value.int .u8 (numV l[33]?)
          rw [e]; rfl
        · rw [if_neg h1] at k ⊢
          by_cases h2 : 34 ≤ j ∧ j ≤ 36
          · rw [if_pos h2] at k
            obtain ⟨b, rfl⟩ := k
            rcases (show j = 34 ∨ j = 35 ∨ j = 36 by omega) with q | q | q <;> subst q
            · show _ = Value.bool (boolV l[34]?); rw [e]; rfl
            · show _ = Value.bool (boolV l[35]?); rw [e]; rfl
            · show _ = Value.bool (boolV l[36]?); rw [e]; rfl
          · rw [if_neg h2] at k
            obtain ⟨n, rfl, _⟩ := k
            rw [if_neg (by omega), if_neg (by omega), if_neg (by omega)]
            show _ = Value.int .u64 (numV l[j]?)
            rw [e]; rfl
      · rw [List.getElem?_eq_none (by omega), List.getElem?_eq_none (by simp; omega)]
    show Value.agg ⟨l⟩ = Value.agg (varr 77 _)
    unfold varr
    rw [← e]
  · intro i
    show In64 (numV l[i]?)
    by_cases hi : i < 77
    · obtain ⟨v, e, k⟩ := hc' i hi
      rw [e]
      unfold IsK at k
      by_cases h1 : i = 33
      · rw [if_pos h1] at k
        obtain ⟨n, rfl, wf⟩ := k
        have := in_u8 wf
        show In64 n
        unfold In64; omega
      · rw [if_neg h1] at k
        by_cases h2 : 34 ≤ i ∧ i ≤ 36
        · rw [if_pos h2] at k
          obtain ⟨b, rfl⟩ := k
          show In64 0
          unfold In64; omega
        · rw [if_neg h2] at k
          obtain ⟨n, rfl, wf⟩ := k
          exact of_wf wf
    · rw [List.getElem?_eq_none (by omega)]
      show In64 0
      unfold In64; omega
  · obtain ⟨v, e, k⟩ := hc' 33 (by omega)
    obtain ⟨n, rfl, wf⟩ := k
    show numV l[33]? < 256
    rw [e]; exact (in_u8 wf).2
end
end Go.Proofs.Ytkfhpmleelmcfaa
