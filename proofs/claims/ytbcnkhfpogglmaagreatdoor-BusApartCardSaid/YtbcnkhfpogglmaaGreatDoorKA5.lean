/- Joined: BuN ClSR PlSR Un RfA RfC BuV BuActs BuW PlEq7 Uq BuX RfN RfO BuSm BuY BuZ BuZb BuO BuP -/
import Derived.Test.YtbcnkhfpogglmaaGreatDoorKA4
import Derived.Test.YtbcnkhfpogglmaaGreatDoorRows
import Derived.Laws.BytesArg
import Derived.Deep.Slices
import Derived.Deep.Fields
import Derived.ChangeSame
import Derived.WalkKit
import Derived.ProofKit
import Derived.Below
import Derived.Laws.Tables
import Derived.Laws.StructEq
namespace Go.Proofs.YtbcnkhfpogglmaaGreatDoor
open Go.RowKit
set_option linter.unusedVariables false
set_option maxRecDepth 100000

theorem info_lines : (Tryz.prog.info? 33).map (·.size) = some 6 := by kernel_rfl
theorem built_lines (a b c d : Bool) (t : Int) : Tryz.prog.built 33 [(0, .bool a), (1, .bool b), (2, .bool c), (3, .bool d), (5, .int .u64 t)] = some #[.bool a, .bool b, .bool c, .bool d, .int .u64 0, .int .u64 t] := by kernel_rfl
/-- What Lines tells. -/
def linesW (a b c d u : Bool) (t : Int) : Value := .agg #[.bool a, .bool b, .bool c, .bool d, .int .u64 (if u = true then 2 else 0), .int .u64 t]
def linesV (st : BS) : Value := linesW st.c.s (C4.mtC st.c) (P5.lineT st.p 0) (P5.lineT st.p 1) (P5.upT st.p 31) st.c.n
def LinesE (w : World) (v : Value) (e : Ending) (w' : World) : Prop := e = .returned v ∧ Below w.heap.size w w'
set_option maxHeartbeats 8000000 in
theorem busLines_any {w : World} {b g : Nat} {K : Nat → Nat} {vp : Value} {ul : List Nat} {st : BS} (h : BusP w b K g vp ul st) : Calls Tryz.prog 12 #[.pointer (some ⟨b, 0, none⟩)] w (LinesE w (linesV st)) := by
  have hw1 : Below w.heap.size w (w.alloc (.cells #[.bool false, .bool false, .bool false, .bool false, .int .u64 0, .int .u64 0] 33)) := (Below.refl _ _).alloc (Nat.le_refl _) _
  have H := Lib.hid (h.below hw1)
  have HRES : Hid ((w.alloc (.cells #[.bool false, .bool false, .bool false, .bool false, .int .u64 0, .int .u64 0] 33)).heap[w.heap.size]? = some (.cells #[.bool false, .bool false, .bool false, .bool false, .int .u64 0, .int .u64 0] 33 (0, 0))) := Lib.hid (heap_alloc_new w _)
  have HZ1 : Hid (w.heap.size < (w.alloc (.cells #[.bool false, .bool false, .bool false, .bool false, .int .u64 0, .int .u64 0] 33)).heap.size) := Lib.hid (by rw [World.size_alloc]; omega)
  have HW1 := Lib.hid hw1
  have HSZ : Hid ((Tryz.prog.info? 69).map (·.size) = some (varr 39 (P5.cellQ st.p)).size) := Lib.hid (P5.size_progP.trans (by rw [varr_size]))
  have HC1 : Hid (∀ wx, Calls Tryz.prog 38 #[.agg #[.bool st.c.s, .int .u64 st.c.c, .int .u64 st.c.n]] wx fun e w' => e = .returned (.bool st.c.s) ∧ Below wx.heap.size wx w') := Lib.hid fun wx => C4.msip_any wx st.c
  have HC2 : Hid (∀ wx, Calls Tryz.prog 39 #[.agg #[.int .u64 st.c.c, .int .u64 st.c.n]] wx fun e w' => e = .returned (.bool (C4.mtC st.c)) ∧ Below wx.heap.size wx w') := Lib.hid fun wx => C4.mtip_any wx st.c
  have HC3 : Hid (∀ wx, Calls Tryz.prog 40 #[.agg (varr 39 (P5.cellQ st.p)), .int .i64 0] wx fun e w' => e = .returned (.bool (P5.lineT st.p 0)) ∧ Below wx.heap.size wx w') := Lib.hid fun wx => P5.line_0 wx st.p h.pok
  have HC4 : Hid (∀ wx, Calls Tryz.prog 40 #[.agg (varr 39 (P5.cellQ st.p)), .int .i64 1] wx fun e w' => e = .returned (.bool (P5.lineT st.p 1)) ∧ Below wx.heap.size wx w') := Lib.hid fun wx => P5.line_1 wx st.p h.pok
  have HC5 : Hid (∀ wx, Calls Tryz.prog 41 #[.agg #[.int .u64 st.c.c, .int .u64 st.c.n]] wx fun e w' => e = .returned (.int .u64 st.c.n) ∧ Below wx.heap.size wx w') := Lib.hid fun wx => C4.time_any wx st.c
  have HUP : Hid (∀ wx, Calls Tryz.prog 42 #[.agg (varr 39 (P5.cellQ st.p)), .int .i64 31] wx fun e w' => e = .returned (.bool (P5.upT st.p 31)) ∧ Below wx.heap.size wx w') := Lib.hid fun wx => P5.up_any wx st.p h.pok 31
  show Calls Tryz.prog 12 #[.pointer (some ⟨b, 0, none⟩)] w (LinesE w (linesW st.c.s (C4.mtC st.c) (P5.lineT st.p 0) (P5.lineT st.p 1) (P5.upT st.p 31) st.c.n))
  clear h hw1
  have HRG : Hid (∀ wx, Below (w.alloc (.cells #[.bool false, .bool false, .bool false, .bool false, .int .u64 0, .int .u64 0] 33)).heap.size (w.alloc (.cells #[.bool false, .bool false, .bool false, .bool false, .int .u64 0, .int .u64 0] 33)) wx → wx.rangeAt b 4 (varr 39 (P5.cellQ st.p)).toList) := Lib.hid fun wx hx => (H.out.below hx).obj.range
  have HOB : Hid (∀ wx, Below (w.alloc (.cells #[.bool false, .bool false, .bool false, .bool false, .int .u64 0, .int .u64 0] 33)).heap.size (w.alloc (.cells #[.bool false, .bool false, .bool false, .bool false, .int .u64 0, .int .u64 0] 33)) wx → BusAt wx b g st.c st.p vp (regs b g st.size ul)) := Lib.hid fun wx hx => (H.out.below hx).obj
  generalize hrow : varr 39 (P5.cellQ st.p) = row at *
  generalize P5.lineT st.p 0 = l0 at *
  generalize P5.lineT st.p 1 = l1 at *
  generalize P5.upT st.p 31 = up at *
  generalize C4.mtC st.c = mt at *
  generalize hcs : st.c.s = cs at *
  generalize hcc : st.c.c = cc at *
  generalize hcn : st.c.n = cn at *
  clear hrow
  have HOC : Hid (∀ wx, Below (w.alloc (.cells #[.bool false, .bool false, .bool false, .bool false, .int .u64 0, .int .u64 0] 33)).heap.size (w.alloc (.cells #[.bool false, .bool false, .bool false, .bool false, .int .u64 0, .int .u64 0] 33)) wx → wx.cell? ⟨b, 1, none⟩ = some (.bool cs) ∧ wx.cell? ⟨b, 2, none⟩ = some (.int .u64 cc) ∧ wx.cell? ⟨b, 3, none⟩ = some (.int .u64 cn)) := Lib.hid fun wx hx => by
    have := (HOB.out wx hx).clint_
    rwa [hcs, hcc, hcn] at this
  clear hcs hcc hcn HOB H
  go_enter Tryz.func12, Tryz.ntmps12
  go_wp2_with fail
  generalize w.alloc (.cells #[.bool false, .bool false, .bool false, .bool false, .int .u64 0, .int .u64 0] 33) = w1 at *
  refine wp_region_held_drew (S := fun wx => Below w1.heap.size w1 wx) (by kernel_rfl) ((Below.refl _ _).drew) (fun hHeld0 => ?_)
  have HS := Lib.hid hHeld0
  clear hHeld0
  generalize w1.drew = wd at *
  refine takeD (i := 0) (some 7) (v := ?_) rfl rfl (by kernel_rfl) (by kernel_rfl) (by kernel_rfl) (fun _ _ _ h => h) (by rfl) HS.out ?_ ?_
  rotate_left
  · intro wx hSx
    clear hSx
    go_simp
    try (with_reducible rfl)
  simp only [Act.put, List.setIfInBounds_toArray, List.set_cons_zero, List.set_cons_succ]
  refine takeD (i := 1) (some 8) (v := ?_) rfl rfl (by kernel_rfl) (by kernel_rfl) (by kernel_rfl) (fun _ _ _ h => h) (by rfl) HS.out ?_ ?_
  rotate_left
  · intro wx hSx
    clear hSx
    go_simp
    try (with_reducible rfl)
  simp only [Act.put, List.setIfInBounds_toArray, List.set_cons_zero, List.set_cons_succ]
  refine takeD (i := 2) (some 9) (v := ?_) rfl rfl (by kernel_rfl) (by kernel_rfl) (by kernel_rfl) (fun _ _ _ h => h) (by rfl) HS.out ?_ ?_
  rotate_left
  · intro wx hSx
    clear hSx
    go_simp
    try (with_reducible rfl)
  simp only [Act.put, List.setIfInBounds_toArray, List.set_cons_zero, List.set_cons_succ]
  refine takeD (i := 3) (some 10) (v := ?_) rfl rfl (by kernel_rfl) (by kernel_rfl) (by kernel_rfl) (fun _ _ _ h => h) (by rfl) HS.out ?_ ?_
  rotate_left
  · intro wx hSx
    obtain ⟨k1, k2, k3⟩ := HOC.out wx hSx
    skip
    clear hSx
    go_simp
    try (with_reducible rfl)
  simp only [Act.put, List.setIfInBounds_toArray, List.set_cons_zero, List.set_cons_succ]
  refine takeD (i := 5) (some 12) (v := ?_) rfl rfl (by kernel_rfl) (by kernel_rfl) (by kernel_rfl) (fun _ _ _ h => h) (by rfl) HS.out ?_ ?_
  rotate_left
  · intro wx hSx
    clear hSx
    go_simp
    try (with_reducible rfl)
  simp only [Act.put, List.setIfInBounds_toArray, List.set_cons_zero, List.set_cons_succ]
  refine takeD (i := 6) (some 13) (v := ?_) rfl rfl (by kernel_rfl) (by kernel_rfl) (by kernel_rfl) (fun _ _ _ h => h) (by rfl) HS.out ?_ ?_
  rotate_left
  · intro wx hSx
    clear hSx
    go_simp
    try (with_reducible rfl)
  simp only [Act.put, List.setIfInBounds_toArray, List.set_cons_zero, List.set_cons_succ]
  refine takeD (i := 7) (some 14) (v := ?_) rfl rfl (by kernel_rfl) (by kernel_rfl) (by kernel_rfl) (fun _ _ _ h => h) (by rfl) HS.out ?_ ?_
  rotate_left
  · intro wx hSx
    clear hSx
    go_simp
    try (with_reducible rfl)
  simp only [Act.put, List.setIfInBounds_toArray, List.set_cons_zero, List.set_cons_succ]
  refine takeD (i := 8) (some 15) (v := ?_) rfl rfl (by kernel_rfl) (by kernel_rfl) (by kernel_rfl) (fun _ _ _ h => h) (by rfl) HS.out ?_ ?_
  rotate_left
  · intro wx hSx
    clear hSx
    go_simp
    try (with_reducible rfl)
  simp only [Act.put, List.setIfInBounds_toArray, List.set_cons_zero, List.set_cons_succ]
  refine takeD (i := 9) (some 16) (v := ?_) rfl rfl (by kernel_rfl) (by kernel_rfl) (by kernel_rfl) (fun _ _ _ h => h) (by rfl) HS.out ?_ ?_
  rotate_left
  · intro wx hSx
    obtain ⟨k1, k2, k3⟩ := HOC.out wx hSx
    skip
    clear hSx
    go_simp
    try (with_reducible rfl)
  simp only [Act.put, List.setIfInBounds_toArray, List.set_cons_zero, List.set_cons_succ]
  refine takeD (i := 11) (some 18) (v := ?_) rfl rfl (by kernel_rfl) (by kernel_rfl) (by kernel_rfl) (fun _ _ _ h => h) (by rfl) HS.out ?_ ?_
  rotate_left
  · intro wx hSx
    clear hSx
    go_simp
    try (with_reducible rfl)
  simp only [Act.put, List.setIfInBounds_toArray, List.set_cons_zero, List.set_cons_succ]
  refine takeD (i := 12) (some 19) (v := ?_) rfl rfl (by kernel_rfl) (by kernel_rfl) (by kernel_rfl) (fun _ _ _ h => h) (by rfl) HS.out ?_ ?_
  rotate_left
  · intro wx hSx
    clear hSx
    go_simp
    try (with_reducible rfl)
  simp only [Act.put, List.setIfInBounds_toArray, List.set_cons_zero, List.set_cons_succ]
  refine takeD (i := 13) (some 20) (v := ?_) rfl rfl (by kernel_rfl) (by kernel_rfl) (by kernel_rfl) (fun _ _ _ h => h) (by rfl) HS.out ?_ ?_
  rotate_left
  · intro wx hSx
    clear hSx
    go_simp
    try (with_reducible rfl)
  simp only [Act.put, List.setIfInBounds_toArray, List.set_cons_zero, List.set_cons_succ]
  refine takeD (i := 14) (some 21) (v := ?_) rfl rfl (by kernel_rfl) (by kernel_rfl) (by kernel_rfl) (fun _ _ _ h => h) (by rfl) HS.out ?_ ?_
  rotate_left
  · intro wx hSx
    exact (by refine yield_fr _ (.tmp 20) ?_ b 4 ?_ (run_load_fr wx b 4 69 row _ (HRG.out wx hSx) Tryz.underlying69 rfl HSZ.out) <;> rfl)
  simp only [Act.put, List.setIfInBounds_toArray, List.set_cons_zero, List.set_cons_succ]
  refine takeD (i := 16) (some 23) (v := ?_) rfl rfl (by kernel_rfl) (by kernel_rfl) (by kernel_rfl) (fun _ _ _ h => h) (by rfl) HS.out ?_ ?_
  rotate_left
  · intro wx hSx
    clear hSx
    go_simp
    try (with_reducible rfl)
  simp only [Act.put, List.setIfInBounds_toArray, List.set_cons_zero, List.set_cons_succ]
  refine takeD (i := 17) (some 24) (v := ?_) rfl rfl (by kernel_rfl) (by kernel_rfl) (by kernel_rfl) (fun _ _ _ h => h) (by rfl) HS.out ?_ ?_
  rotate_left
  · intro wx hSx
    clear hSx
    go_simp
    try (with_reducible rfl)
  simp only [Act.put, List.setIfInBounds_toArray, List.set_cons_zero, List.set_cons_succ]
  refine takeD (i := 18) (some 25) (v := ?_) rfl rfl (by kernel_rfl) (by kernel_rfl) (by kernel_rfl) (fun _ _ _ h => h) (by rfl) HS.out ?_ ?_
  rotate_left
  · intro wx hSx
    clear hSx
    go_simp
    try (with_reducible rfl)
  simp only [Act.put, List.setIfInBounds_toArray, List.set_cons_zero, List.set_cons_succ]
  refine takeD (i := 19) (some 26) (v := ?_) rfl rfl (by kernel_rfl) (by kernel_rfl) (by kernel_rfl) (fun _ _ _ h => h) (by rfl) HS.out ?_ ?_
  rotate_left
  · intro wx hSx
    exact (by refine yield_fr _ (.tmp 25) ?_ b 4 ?_ (run_load_fr wx b 4 69 row _ (HRG.out wx hSx) Tryz.underlying69 rfl HSZ.out) <;> rfl)
  simp only [Act.put, List.setIfInBounds_toArray, List.set_cons_zero, List.set_cons_succ]
  refine takeD (i := 21) (some 28) (v := ?_) rfl rfl (by kernel_rfl) (by kernel_rfl) (by kernel_rfl) (fun _ _ _ h => h) (by rfl) HS.out ?_ ?_
  rotate_left
  · intro wx hSx
    clear hSx
    go_simp
    try (with_reducible rfl)
  simp only [Act.put, List.setIfInBounds_toArray, List.set_cons_zero, List.set_cons_succ]
  refine takeD (i := 22) (some 29) (v := ?_) rfl rfl (by kernel_rfl) (by kernel_rfl) (by kernel_rfl) (fun _ _ _ h => h) (by rfl) HS.out ?_ ?_
  rotate_left
  · intro wx hSx
    clear hSx
    go_simp
    try (with_reducible rfl)
  simp only [Act.put, List.setIfInBounds_toArray, List.set_cons_zero, List.set_cons_succ]
  refine takeD (i := 23) (some 30) (v := ?_) rfl rfl (by kernel_rfl) (by kernel_rfl) (by kernel_rfl) (fun _ _ _ h => h) (by rfl) HS.out ?_ ?_
  rotate_left
  · intro wx hSx
    clear hSx
    go_simp
    try (with_reducible rfl)
  simp only [Act.put, List.setIfInBounds_toArray, List.set_cons_zero, List.set_cons_succ]
  refine takeD (i := 24) (some 31) (v := ?_) rfl rfl (by kernel_rfl) (by kernel_rfl) (by kernel_rfl) (fun _ _ _ h => h) (by rfl) HS.out ?_ ?_
  rotate_left
  · intro wx hSx
    clear hSx
    go_simp
    try (with_reducible rfl)
  simp only [Act.put, List.setIfInBounds_toArray, List.set_cons_zero, List.set_cons_succ]
  refine takeD (i := 25) (some 32) (v := ?_) rfl rfl (by kernel_rfl) (by kernel_rfl) (by kernel_rfl) (fun _ _ _ h => h) (by rfl) HS.out ?_ ?_
  rotate_left
  · intro wx hSx
    obtain ⟨k1, k2, k3⟩ := HOC.out wx hSx
    skip
    clear hSx
    go_simp
    try (with_reducible rfl)
  simp only [Act.put, List.setIfInBounds_toArray, List.set_cons_zero, List.set_cons_succ]
  refine wpAnyH_ready (rs := [4, 28]) (by kernel_rfl) (by simp) ?_
  refine AllReadyH.cons rfl (fun K hK => ?_) (AllReadyH.cons rfl (fun K hK => ?_) AllReadyH.nil)
  · go_simp
    (with_reducible refine (HC1.out _).mono ?_)
    rintro e wc1 ⟨rfl, hb⟩
    have HSn : Hid (Below w1.heap.size w1 wc1) := Lib.hid (HS.out.trans (hb.mono HS.out.size))
    clear hb
    go_simp
    refine hK.out _ _ ?_ (fun hHeld => ?_)
    · exact HSn.out
    clear hHeld hK K
    try simp only [Act.put, List.setIfInBounds_toArray, List.set_cons_zero, List.set_cons_succ]
    replace HS := HSn
    clear HSn
    refine wpAnyH_ready (rs := [10, 28]) (by kernel_rfl) (by simp) ?_
    refine AllReadyH.cons rfl (fun K hK => ?_) (AllReadyH.cons rfl (fun K hK => ?_) AllReadyH.nil)
    · go_simp
      (with_reducible refine (HC2.out _).mono ?_)
      rintro e wc2 ⟨rfl, hb⟩
      have HSn : Hid (Below w1.heap.size w1 wc2) := Lib.hid (HS.out.trans (hb.mono HS.out.size))
      clear hb
      go_simp
      refine hK.out _ _ ?_ (fun hHeld => ?_)
      · exact HSn.out
      clear hHeld hK K
      try simp only [Act.put, List.setIfInBounds_toArray, List.set_cons_zero, List.set_cons_succ]
      replace HS := HSn
      clear HSn
      refine wpAnyH_ready (rs := [15, 28]) (by kernel_rfl) (by simp) ?_
      refine AllReadyH.cons rfl (fun K hK => ?_) (AllReadyH.cons rfl (fun K hK => ?_) AllReadyH.nil)
      · go_simp
        (with_reducible refine (HC3.out _).mono ?_)
        rintro e wc3 ⟨rfl, hb⟩
        have HSn : Hid (Below w1.heap.size w1 wc3) := Lib.hid (HS.out.trans (hb.mono HS.out.size))
        clear hb
        go_simp
        refine hK.out _ _ ?_ (fun hHeld => ?_)
        · exact HSn.out
        clear hHeld hK K
        try simp only [Act.put, List.setIfInBounds_toArray, List.set_cons_zero, List.set_cons_succ]
        replace HS := HSn
        clear HSn
        refine wpAnyH_ready (rs := [20, 28]) (by kernel_rfl) (by simp) ?_
        refine AllReadyH.cons rfl (fun K hK => ?_) (AllReadyH.cons rfl (fun K hK => ?_) AllReadyH.nil)
        · go_simp
          (with_reducible refine (HC4.out _).mono ?_)
          rintro e wc4 ⟨rfl, hb⟩
          have HSn : Hid (Below w1.heap.size w1 wc4) := Lib.hid (HS.out.trans (hb.mono HS.out.size))
          clear hb
          go_simp
          refine hK.out _ _ ?_ (fun hHeld => ?_)
          · exact HSn.out
          clear hHeld hK K
          try simp only [Act.put, List.setIfInBounds_toArray, List.set_cons_zero, List.set_cons_succ]
          replace HS := HSn
          clear HSn
          refine wpAnyH_ready (rs := [26, 28]) (by kernel_rfl) (by simp) ?_
          refine AllReadyH.cons rfl (fun K hK => ?_) (AllReadyH.cons rfl (fun K hK => ?_) AllReadyH.nil)
          · go_simp
            (with_reducible refine (HC5.out _).mono ?_)
            rintro e wc5 ⟨rfl, hb⟩
            have HSn : Hid (Below w1.heap.size w1 wc5) := Lib.hid (HS.out.trans (hb.mono HS.out.size))
            clear hb
            go_simp
            refine hK.out _ _ ?_ (fun hHeld => ?_)
            · exact HSn.out
            clear hHeld hK K
            try simp only [Act.put, List.setIfInBounds_toArray, List.set_cons_zero, List.set_cons_succ]
            replace HS := HSn
            clear HSn
            refine takeD (i := 27) (some 34) (v := ?_) rfl rfl (by kernel_rfl) (by kernel_rfl) (by kernel_rfl) (fun _ _ _ h => h) (by rfl) HS.out ?_ ?_
            rotate_left
            · intro wx hSx
              exact (by refine yield_build 33 #[(0, .tmp 11), (1, .tmp 17), (2, .tmp 22), (3, .tmp 27), (5, .tmp 33)] ?_ [(0, .bool cs), (1, .bool mt), (2, .bool l0), (3, .bool l1), (5, .int .u64 cn)] ?_ (built_lines cs mt l0 l1 cn) <;> first | rfl | simp [Act.eval, Act.put])
            simp only [Act.put, List.setIfInBounds_toArray, List.set_cons_zero, List.set_cons_succ]
            refine wpAnyH_ready (rs := [28]) (by kernel_rfl) (by simp) ?_
            refine AllReadyH.cons rfl (fun K hK => ?_) AllReadyH.nil
            go_simp
            refine hK.out _ _ ?_ (fun hHeld => ?_)
            · exact HS.out.alloc HS.out.size _
            clear hHeld hK K
            try simp only [Act.put, List.setIfInBounds_toArray, List.set_cons_zero, List.set_cons_succ]
            have HX : Hid (w1.heap.size ≤ wc5.heap.size) := Lib.hid HS.out.size
            have HSn : Hid (Below w1.heap.size w1 (wc5.alloc (.cells #[.bool false, .bool false, .bool false, .bool false, .int .u64 0, .int .u64 0] 33))) := Lib.hid (HS.out.alloc HS.out.size _)
            have HDA : Hid ((wc5.alloc (.cells #[.bool false, .bool false, .bool false, .bool false, .int .u64 0, .int .u64 0] 33)).heap[wc5.heap.size]? = some (.cells #[.bool false, .bool false, .bool false, .bool false, .int .u64 0, .int .u64 0] 33 (0, 0))) := Lib.hid (heap_alloc_new wc5 _)
            have HZA : Hid (wc5.heap.size < (wc5.alloc (.cells #[.bool false, .bool false, .bool false, .bool false, .int .u64 0, .int .u64 0] 33)).heap.size) := Lib.hid (by rw [World.size_alloc]; omega)
            replace HS := HSn
            clear HSn
            generalize wc5.alloc (.cells #[.bool false, .bool false, .bool false, .bool false, .int .u64 0, .int .u64 0] 33) = wa at *
            generalize wc5.heap.size = x at *
            have HA : Hid (Below wa.heap.size wa wa) := Lib.hid (Below.refl _ _)
            refine wpAnyH_ready (rs := [29]) (by kernel_rfl) (by simp) ?_
            refine AllReadyH.cons rfl (fun K hK => ?_) AllReadyH.nil
            rw [if_pos (by rfl)]
            have hD : wa.heap[x]? = some (.cells #[.bool false, .bool false, .bool false, .bool false, .int .u64 0, .int .u64 0] 33 (0, 0)) := (HA.out.block x HZA.out).trans HDA.out
            refine wp_store_row 33 (.tmp 3) (.tmp 34) rfl x #[.bool cs, .bool mt, .bool l0, .bool l1, .int .u64 0, .int .u64 cn] rfl rfl 33 #[.bool false, .bool false, .bool false, .bool false, .int .u64 0, .int .u64 0] hD info_lines rfl (by simp [Value.oneCell']) ?_
            have HSn : Hid (Below w1.heap.size w1 (wa.setRow x #[.bool cs, .bool mt, .bool l0, .bool l1, .int .u64 0, .int .u64 cn])) := Lib.hid (below_setRow HS.out HX.out _)
            have HXR : Hid ((wa.setRow x #[.bool cs, .bool mt, .bool l0, .bool l1, .int .u64 0, .int .u64 cn]).heap[x]? = some (.cells #[.bool cs, .bool mt, .bool l0, .bool l1, .int .u64 0, .int .u64 cn] 33 (0, 0))) := Lib.hid (setRow_heap wa x _ _ _ _ hD)
            refine hK.out _ _ ?_ (fun hHeld => ?_)
            · exact HSn.out
            clear hHeld hK K hD
            try simp only [Act.put, List.setIfInBounds_toArray, List.set_cons_zero, List.set_cons_succ]
            replace HS := HSn
            clear HSn HA HZA HDA
            refine wpAnyH_done (by kernel_rfl) ?_ _
            generalize (wa.setRow x #[.bool cs, .bool mt, .bool l0, .bool l1, .int .u64 0, .int .u64 cn]) = wz at *
            have HRZ := Lib.hid (HRG.out wz HS.out)
            have hxz : x < wz.heap.size := (Array.getElem?_eq_some_iff.1 HXR.out).1
            go_wp2_with (refine wpList_load_fr rfl _ _ rfl b 4 rfl _ _ HRZ.out Tryz.underlying69 rfl ?_ ?_; · exact HSZ.out)
            (with_reducible refine (HUP.out _).mono ?_)
            rintro e wu ⟨rfl, hb⟩
            have hxw : wu.heap[x]? = some (.cells #[.bool cs, .bool mt, .bool l0, .bool l1, .int .u64 0, .int .u64 cn] 33 (0, 0)) := (hb.block x hxz).trans HXR.out
            have HBW : Hid (Below w1.heap.size w1 wu) := Lib.hid (HS.out.trans (hb.mono HS.out.size))
            have hrw : wu.heap[w.heap.size]? = some (.cells #[.bool false, .bool false, .bool false, .bool false, .int .u64 0, .int .u64 0] 33 (0, 0)) := (HBW.out.block _ HZ1.out).trans HRES.out
            have hne : ¬ w.heap.size = x := by have := HX.out; have := HZ1.out; omega
            have fx : wu.frozen? ⟨x, 4, none⟩ = false := frozen_of_row wu x 4 _ _ hxw
            have cx : wu.cell? ⟨x, 4, none⟩ = some (.int .u64 0) := by rw [cell_of_row wu x 4 _ _ _ hxw]; rfl
            have hx2 : (wu.setCell ⟨x, 4, none⟩ (.int .u64 2)).heap[x]? = some (.cells #[.bool cs, .bool mt, .bool l0, .bool l1, .int .u64 2, .int .u64 cn] 33 (0, 0)) := by rw [heap_setCell_same wu x 4 _ _ _ hxw]; rfl
            have hr2 : (wu.setCell ⟨x, 4, none⟩ (.int .u64 2)).heap[w.heap.size]? = some (.cells #[.bool false, .bool false, .bool false, .bool false, .int .u64 0, .int .u64 0] 33 (0, 0)) := by rw [heap_setCell_other wu ⟨x, 4, none⟩ w.heap.size _ hne]; exact hrw
            have HX1 := Lib.hid hxw
            have HR1 := Lib.hid hrw
            have HX2 := Lib.hid hx2
            have HR2 := Lib.hid hr2
            have HB2 : Hid (Below w1.heap.size w1 (wu.setCell ⟨x, 4, none⟩ (.int .u64 2))) := Lib.hid (HBW.out.setCell HX.out _)
            have HW1B := Lib.hid HW1.out.size
            clear hb hxw hrw hx2 hr2 hxz hne HRZ HUP HRG HOC HSZ HS HXR HC1 HC2 HC3 HC4 HC5
            cases up with
            | false =>
              go_wp2_with (first | (refine wpList_load_row rfl _ _ rfl x rfl 33 _ _ _ HX1.out Tryz.underlying33 rfl ?_ ?_; · exact info_lines) | (refine wpList_store_row rfl 33 (.tmp 2) (.tmp 41) rfl w.heap.size #[.bool cs, .bool mt, .bool l0, .bool l1, .int .u64 0, .int .u64 cn] rfl rfl 33 #[.bool false, .bool false, .bool false, .bool false, .int .u64 0, .int .u64 0] HR1.out info_lines rfl (by simp [Value.oneCell']) ?_))
              exact bodyPost_ret (v := linesW cs mt l0 l1 false cn) (results_cell_row (show Tryz.f12.results = #[.cell 2 33] by kernel_rfl) _ _ w.heap.size 33 _ _ _ rfl (setRow_heap _ _ _ _ _ _ HR1.out) Tryz.underlying33 rfl info_lines) rfl ⟨rfl, below_setRow (HW1.out.trans (HBW.out.mono HW1B.out)) (Nat.le_refl _) _⟩
            | true =>
              go_wp2_with (first | (refine wpList_load_row rfl _ _ rfl x rfl 33 _ _ _ HX2.out Tryz.underlying33 rfl ?_ ?_; · exact info_lines) | (refine wpList_store_row rfl 33 (.tmp 2) (.tmp 41) rfl w.heap.size #[.bool cs, .bool mt, .bool l0, .bool l1, .int .u64 2, .int .u64 cn] rfl rfl 33 #[.bool false, .bool false, .bool false, .bool false, .int .u64 0, .int .u64 0] HR2.out info_lines rfl (by simp [Value.oneCell']) ?_))
              exact bodyPost_ret (v := linesW cs mt l0 l1 true cn) (results_cell_row (show Tryz.f12.results = #[.cell 2 33] by kernel_rfl) _ _ w.heap.size 33 _ _ _ rfl (setRow_heap _ _ _ _ _ _ HR2.out) Tryz.underlying33 rfl info_lines) rfl ⟨rfl, below_setRow (HW1.out.trans (HB2.out.mono HW1B.out)) (Nat.le_refl _) _⟩
          · go_simp
            refine hK.out _ _ ?_ (fun hHeld => ?_)
            · exact HS.out.alloc HS.out.size _
            clear hHeld hK K
            try simp only [Act.put, List.setIfInBounds_toArray, List.set_cons_zero, List.set_cons_succ]
            have HX : Hid (w1.heap.size ≤ wc4.heap.size) := Lib.hid HS.out.size
            have HSn : Hid (Below w1.heap.size w1 (wc4.alloc (.cells #[.bool false, .bool false, .bool false, .bool false, .int .u64 0, .int .u64 0] 33))) := Lib.hid (HS.out.alloc HS.out.size _)
            have HDA : Hid ((wc4.alloc (.cells #[.bool false, .bool false, .bool false, .bool false, .int .u64 0, .int .u64 0] 33)).heap[wc4.heap.size]? = some (.cells #[.bool false, .bool false, .bool false, .bool false, .int .u64 0, .int .u64 0] 33 (0, 0))) := Lib.hid (heap_alloc_new wc4 _)
            have HZA : Hid (wc4.heap.size < (wc4.alloc (.cells #[.bool false, .bool false, .bool false, .bool false, .int .u64 0, .int .u64 0] 33)).heap.size) := Lib.hid (by rw [World.size_alloc]; omega)
            replace HS := HSn
            clear HSn
            generalize wc4.alloc (.cells #[.bool false, .bool false, .bool false, .bool false, .int .u64 0, .int .u64 0] 33) = wa at *
            generalize wc4.heap.size = x at *
            have HA : Hid (Below wa.heap.size wa wa) := Lib.hid (Below.refl _ _)
            refine wpAnyH_ready (rs := [26]) (by kernel_rfl) (by simp) ?_
            refine AllReadyH.cons rfl (fun K hK => ?_) AllReadyH.nil
            go_simp
            (with_reducible refine (HC5.out _).mono ?_)
            rintro e wc6 ⟨rfl, hb⟩
            have HSn : Hid (Below w1.heap.size w1 wc6) := Lib.hid (HS.out.trans (hb.mono HS.out.size))
            have HAn : Hid (Below wa.heap.size wa wc6) := Lib.hid (HA.out.trans (hb.mono HA.out.size))
            clear hb
            go_simp
            refine hK.out _ _ ?_ (fun hHeld => ?_)
            · exact HSn.out
            clear hHeld hK K
            try simp only [Act.put, List.setIfInBounds_toArray, List.set_cons_zero, List.set_cons_succ]
            replace HS := HSn
            clear HSn
            replace HA := HAn
            clear HAn
            refine takeD (i := 27) (some 34) (v := ?_) rfl rfl (by kernel_rfl) (by kernel_rfl) (by kernel_rfl) (fun _ _ _ h => h) (by rfl) HS.out ?_ ?_
            rotate_left
            · intro wx hSx
              exact (by refine yield_build 33 #[(0, .tmp 11), (1, .tmp 17), (2, .tmp 22), (3, .tmp 27), (5, .tmp 33)] ?_ [(0, .bool cs), (1, .bool mt), (2, .bool l0), (3, .bool l1), (5, .int .u64 cn)] ?_ (built_lines cs mt l0 l1 cn) <;> first | rfl | simp [Act.eval, Act.put])
            simp only [Act.put, List.setIfInBounds_toArray, List.set_cons_zero, List.set_cons_succ]
            refine wpAnyH_ready (rs := [29]) (by kernel_rfl) (by simp) ?_
            refine AllReadyH.cons rfl (fun K hK => ?_) AllReadyH.nil
            rw [if_pos (by rfl)]
            have hD : wc6.heap[x]? = some (.cells #[.bool false, .bool false, .bool false, .bool false, .int .u64 0, .int .u64 0] 33 (0, 0)) := (HA.out.block x HZA.out).trans HDA.out
            refine wp_store_row 33 (.tmp 3) (.tmp 34) rfl x #[.bool cs, .bool mt, .bool l0, .bool l1, .int .u64 0, .int .u64 cn] rfl rfl 33 #[.bool false, .bool false, .bool false, .bool false, .int .u64 0, .int .u64 0] hD info_lines rfl (by simp [Value.oneCell']) ?_
            have HSn : Hid (Below w1.heap.size w1 (wc6.setRow x #[.bool cs, .bool mt, .bool l0, .bool l1, .int .u64 0, .int .u64 cn])) := Lib.hid (below_setRow HS.out HX.out _)
            have HXR : Hid ((wc6.setRow x #[.bool cs, .bool mt, .bool l0, .bool l1, .int .u64 0, .int .u64 cn]).heap[x]? = some (.cells #[.bool cs, .bool mt, .bool l0, .bool l1, .int .u64 0, .int .u64 cn] 33 (0, 0))) := Lib.hid (setRow_heap wc6 x _ _ _ _ hD)
            refine hK.out _ _ ?_ (fun hHeld => ?_)
            · exact HSn.out
            clear hHeld hK K hD
            try simp only [Act.put, List.setIfInBounds_toArray, List.set_cons_zero, List.set_cons_succ]
            replace HS := HSn
            clear HSn HA HZA HDA
            refine wpAnyH_done (by kernel_rfl) ?_ _
            generalize (wc6.setRow x #[.bool cs, .bool mt, .bool l0, .bool l1, .int .u64 0, .int .u64 cn]) = wz at *
            have HRZ := Lib.hid (HRG.out wz HS.out)
            have hxz : x < wz.heap.size := (Array.getElem?_eq_some_iff.1 HXR.out).1
            go_wp2_with (refine wpList_load_fr rfl _ _ rfl b 4 rfl _ _ HRZ.out Tryz.underlying69 rfl ?_ ?_; · exact HSZ.out)
            (with_reducible refine (HUP.out _).mono ?_)
            rintro e wu ⟨rfl, hb⟩
            have hxw : wu.heap[x]? = some (.cells #[.bool cs, .bool mt, .bool l0, .bool l1, .int .u64 0, .int .u64 cn] 33 (0, 0)) := (hb.block x hxz).trans HXR.out
            have HBW : Hid (Below w1.heap.size w1 wu) := Lib.hid (HS.out.trans (hb.mono HS.out.size))
            have hrw : wu.heap[w.heap.size]? = some (.cells #[.bool false, .bool false, .bool false, .bool false, .int .u64 0, .int .u64 0] 33 (0, 0)) := (HBW.out.block _ HZ1.out).trans HRES.out
            have hne : ¬ w.heap.size = x := by have := HX.out; have := HZ1.out; omega
            have fx : wu.frozen? ⟨x, 4, none⟩ = false := frozen_of_row wu x 4 _ _ hxw
            have cx : wu.cell? ⟨x, 4, none⟩ = some (.int .u64 0) := by rw [cell_of_row wu x 4 _ _ _ hxw]; rfl
            have hx2 : (wu.setCell ⟨x, 4, none⟩ (.int .u64 2)).heap[x]? = some (.cells #[.bool cs, .bool mt, .bool l0, .bool l1, .int .u64 2, .int .u64 cn] 33 (0, 0)) := by rw [heap_setCell_same wu x 4 _ _ _ hxw]; rfl
            have hr2 : (wu.setCell ⟨x, 4, none⟩ (.int .u64 2)).heap[w.heap.size]? = some (.cells #[.bool false, .bool false, .bool false, .bool false, .int .u64 0, .int .u64 0] 33 (0, 0)) := by rw [heap_setCell_other wu ⟨x, 4, none⟩ w.heap.size _ hne]; exact hrw
            have HX1 := Lib.hid hxw
            have HR1 := Lib.hid hrw
            have HX2 := Lib.hid hx2
            have HR2 := Lib.hid hr2
            have HB2 : Hid (Below w1.heap.size w1 (wu.setCell ⟨x, 4, none⟩ (.int .u64 2))) := Lib.hid (HBW.out.setCell HX.out _)
            have HW1B := Lib.hid HW1.out.size
            clear hb hxw hrw hx2 hr2 hxz hne HRZ HUP HRG HOC HSZ HS HXR HC1 HC2 HC3 HC4 HC5
            cases up with
            | false =>
              go_wp2_with (first | (refine wpList_load_row rfl _ _ rfl x rfl 33 _ _ _ HX1.out Tryz.underlying33 rfl ?_ ?_; · exact info_lines) | (refine wpList_store_row rfl 33 (.tmp 2) (.tmp 41) rfl w.heap.size #[.bool cs, .bool mt, .bool l0, .bool l1, .int .u64 0, .int .u64 cn] rfl rfl 33 #[.bool false, .bool false, .bool false, .bool false, .int .u64 0, .int .u64 0] HR1.out info_lines rfl (by simp [Value.oneCell']) ?_))
              exact bodyPost_ret (v := linesW cs mt l0 l1 false cn) (results_cell_row (show Tryz.f12.results = #[.cell 2 33] by kernel_rfl) _ _ w.heap.size 33 _ _ _ rfl (setRow_heap _ _ _ _ _ _ HR1.out) Tryz.underlying33 rfl info_lines) rfl ⟨rfl, below_setRow (HW1.out.trans (HBW.out.mono HW1B.out)) (Nat.le_refl _) _⟩
            | true =>
              go_wp2_with (first | (refine wpList_load_row rfl _ _ rfl x rfl 33 _ _ _ HX2.out Tryz.underlying33 rfl ?_ ?_; · exact info_lines) | (refine wpList_store_row rfl 33 (.tmp 2) (.tmp 41) rfl w.heap.size #[.bool cs, .bool mt, .bool l0, .bool l1, .int .u64 2, .int .u64 cn] rfl rfl 33 #[.bool false, .bool false, .bool false, .bool false, .int .u64 0, .int .u64 0] HR2.out info_lines rfl (by simp [Value.oneCell']) ?_))
              exact bodyPost_ret (v := linesW cs mt l0 l1 true cn) (results_cell_row (show Tryz.f12.results = #[.cell 2 33] by kernel_rfl) _ _ w.heap.size 33 _ _ _ rfl (setRow_heap _ _ _ _ _ _ HR2.out) Tryz.underlying33 rfl info_lines) rfl ⟨rfl, below_setRow (HW1.out.trans (HB2.out.mono HW1B.out)) (Nat.le_refl _) _⟩
        · go_simp
          refine hK.out _ _ ?_ (fun hHeld => ?_)
          · exact HS.out.alloc HS.out.size _
          clear hHeld hK K
          try simp only [Act.put, List.setIfInBounds_toArray, List.set_cons_zero, List.set_cons_succ]
          have HX : Hid (w1.heap.size ≤ wc3.heap.size) := Lib.hid HS.out.size
          have HSn : Hid (Below w1.heap.size w1 (wc3.alloc (.cells #[.bool false, .bool false, .bool false, .bool false, .int .u64 0, .int .u64 0] 33))) := Lib.hid (HS.out.alloc HS.out.size _)
          have HDA : Hid ((wc3.alloc (.cells #[.bool false, .bool false, .bool false, .bool false, .int .u64 0, .int .u64 0] 33)).heap[wc3.heap.size]? = some (.cells #[.bool false, .bool false, .bool false, .bool false, .int .u64 0, .int .u64 0] 33 (0, 0))) := Lib.hid (heap_alloc_new wc3 _)
          have HZA : Hid (wc3.heap.size < (wc3.alloc (.cells #[.bool false, .bool false, .bool false, .bool false, .int .u64 0, .int .u64 0] 33)).heap.size) := Lib.hid (by rw [World.size_alloc]; omega)
          replace HS := HSn
          clear HSn
          generalize wc3.alloc (.cells #[.bool false, .bool false, .bool false, .bool false, .int .u64 0, .int .u64 0] 33) = wa at *
          generalize wc3.heap.size = x at *
          have HA : Hid (Below wa.heap.size wa wa) := Lib.hid (Below.refl _ _)
          refine wpAnyH_ready (rs := [20]) (by kernel_rfl) (by simp) ?_
          refine AllReadyH.cons rfl (fun K hK => ?_) AllReadyH.nil
          go_simp
          (with_reducible refine (HC4.out _).mono ?_)
          rintro e wc7 ⟨rfl, hb⟩
          have HSn : Hid (Below w1.heap.size w1 wc7) := Lib.hid (HS.out.trans (hb.mono HS.out.size))
          have HAn : Hid (Below wa.heap.size wa wc7) := Lib.hid (HA.out.trans (hb.mono HA.out.size))
          clear hb
          go_simp
          refine hK.out _ _ ?_ (fun hHeld => ?_)
          · exact HSn.out
          clear hHeld hK K
          try simp only [Act.put, List.setIfInBounds_toArray, List.set_cons_zero, List.set_cons_succ]
          replace HS := HSn
          clear HSn
          replace HA := HAn
          clear HAn
          refine wpAnyH_ready (rs := [26]) (by kernel_rfl) (by simp) ?_
          refine AllReadyH.cons rfl (fun K hK => ?_) AllReadyH.nil
          go_simp
          (with_reducible refine (HC5.out _).mono ?_)
          rintro e wc8 ⟨rfl, hb⟩
          have HSn : Hid (Below w1.heap.size w1 wc8) := Lib.hid (HS.out.trans (hb.mono HS.out.size))
          have HAn : Hid (Below wa.heap.size wa wc8) := Lib.hid (HA.out.trans (hb.mono HA.out.size))
          clear hb
          go_simp
          refine hK.out _ _ ?_ (fun hHeld => ?_)
          · exact HSn.out
          clear hHeld hK K
          try simp only [Act.put, List.setIfInBounds_toArray, List.set_cons_zero, List.set_cons_succ]
          replace HS := HSn
          clear HSn
          replace HA := HAn
          clear HAn
          refine takeD (i := 27) (some 34) (v := ?_) rfl rfl (by kernel_rfl) (by kernel_rfl) (by kernel_rfl) (fun _ _ _ h => h) (by rfl) HS.out ?_ ?_
          rotate_left
          · intro wx hSx
            exact (by refine yield_build 33 #[(0, .tmp 11), (1, .tmp 17), (2, .tmp 22), (3, .tmp 27), (5, .tmp 33)] ?_ [(0, .bool cs), (1, .bool mt), (2, .bool l0), (3, .bool l1), (5, .int .u64 cn)] ?_ (built_lines cs mt l0 l1 cn) <;> first | rfl | simp [Act.eval, Act.put])
          simp only [Act.put, List.setIfInBounds_toArray, List.set_cons_zero, List.set_cons_succ]
          refine wpAnyH_ready (rs := [29]) (by kernel_rfl) (by simp) ?_
          refine AllReadyH.cons rfl (fun K hK => ?_) AllReadyH.nil
          rw [if_pos (by rfl)]
          have hD : wc8.heap[x]? = some (.cells #[.bool false, .bool false, .bool false, .bool false, .int .u64 0, .int .u64 0] 33 (0, 0)) := (HA.out.block x HZA.out).trans HDA.out
          refine wp_store_row 33 (.tmp 3) (.tmp 34) rfl x #[.bool cs, .bool mt, .bool l0, .bool l1, .int .u64 0, .int .u64 cn] rfl rfl 33 #[.bool false, .bool false, .bool false, .bool false, .int .u64 0, .int .u64 0] hD info_lines rfl (by simp [Value.oneCell']) ?_
          have HSn : Hid (Below w1.heap.size w1 (wc8.setRow x #[.bool cs, .bool mt, .bool l0, .bool l1, .int .u64 0, .int .u64 cn])) := Lib.hid (below_setRow HS.out HX.out _)
          have HXR : Hid ((wc8.setRow x #[.bool cs, .bool mt, .bool l0, .bool l1, .int .u64 0, .int .u64 cn]).heap[x]? = some (.cells #[.bool cs, .bool mt, .bool l0, .bool l1, .int .u64 0, .int .u64 cn] 33 (0, 0))) := Lib.hid (setRow_heap wc8 x _ _ _ _ hD)
          refine hK.out _ _ ?_ (fun hHeld => ?_)
          · exact HSn.out
          clear hHeld hK K hD
          try simp only [Act.put, List.setIfInBounds_toArray, List.set_cons_zero, List.set_cons_succ]
          replace HS := HSn
          clear HSn HA HZA HDA
          refine wpAnyH_done (by kernel_rfl) ?_ _
          generalize (wc8.setRow x #[.bool cs, .bool mt, .bool l0, .bool l1, .int .u64 0, .int .u64 cn]) = wz at *
          have HRZ := Lib.hid (HRG.out wz HS.out)
          have hxz : x < wz.heap.size := (Array.getElem?_eq_some_iff.1 HXR.out).1
          go_wp2_with (refine wpList_load_fr rfl _ _ rfl b 4 rfl _ _ HRZ.out Tryz.underlying69 rfl ?_ ?_; · exact HSZ.out)
          (with_reducible refine (HUP.out _).mono ?_)
          rintro e wu ⟨rfl, hb⟩
          have hxw : wu.heap[x]? = some (.cells #[.bool cs, .bool mt, .bool l0, .bool l1, .int .u64 0, .int .u64 cn] 33 (0, 0)) := (hb.block x hxz).trans HXR.out
          have HBW : Hid (Below w1.heap.size w1 wu) := Lib.hid (HS.out.trans (hb.mono HS.out.size))
          have hrw : wu.heap[w.heap.size]? = some (.cells #[.bool false, .bool false, .bool false, .bool false, .int .u64 0, .int .u64 0] 33 (0, 0)) := (HBW.out.block _ HZ1.out).trans HRES.out
          have hne : ¬ w.heap.size = x := by have := HX.out; have := HZ1.out; omega
          have fx : wu.frozen? ⟨x, 4, none⟩ = false := frozen_of_row wu x 4 _ _ hxw
          have cx : wu.cell? ⟨x, 4, none⟩ = some (.int .u64 0) := by rw [cell_of_row wu x 4 _ _ _ hxw]; rfl
          have hx2 : (wu.setCell ⟨x, 4, none⟩ (.int .u64 2)).heap[x]? = some (.cells #[.bool cs, .bool mt, .bool l0, .bool l1, .int .u64 2, .int .u64 cn] 33 (0, 0)) := by rw [heap_setCell_same wu x 4 _ _ _ hxw]; rfl
          have hr2 : (wu.setCell ⟨x, 4, none⟩ (.int .u64 2)).heap[w.heap.size]? = some (.cells #[.bool false, .bool false, .bool false, .bool false, .int .u64 0, .int .u64 0] 33 (0, 0)) := by rw [heap_setCell_other wu ⟨x, 4, none⟩ w.heap.size _ hne]; exact hrw
          have HX1 := Lib.hid hxw
          have HR1 := Lib.hid hrw
          have HX2 := Lib.hid hx2
          have HR2 := Lib.hid hr2
          have HB2 : Hid (Below w1.heap.size w1 (wu.setCell ⟨x, 4, none⟩ (.int .u64 2))) := Lib.hid (HBW.out.setCell HX.out _)
          have HW1B := Lib.hid HW1.out.size
          clear hb hxw hrw hx2 hr2 hxz hne HRZ HUP HRG HOC HSZ HS HXR HC1 HC2 HC3 HC4 HC5
          cases up with
          | false =>
            go_wp2_with (first | (refine wpList_load_row rfl _ _ rfl x rfl 33 _ _ _ HX1.out Tryz.underlying33 rfl ?_ ?_; · exact info_lines) | (refine wpList_store_row rfl 33 (.tmp 2) (.tmp 41) rfl w.heap.size #[.bool cs, .bool mt, .bool l0, .bool l1, .int .u64 0, .int .u64 cn] rfl rfl 33 #[.bool false, .bool false, .bool false, .bool false, .int .u64 0, .int .u64 0] HR1.out info_lines rfl (by simp [Value.oneCell']) ?_))
            exact bodyPost_ret (v := linesW cs mt l0 l1 false cn) (results_cell_row (show Tryz.f12.results = #[.cell 2 33] by kernel_rfl) _ _ w.heap.size 33 _ _ _ rfl (setRow_heap _ _ _ _ _ _ HR1.out) Tryz.underlying33 rfl info_lines) rfl ⟨rfl, below_setRow (HW1.out.trans (HBW.out.mono HW1B.out)) (Nat.le_refl _) _⟩
          | true =>
            go_wp2_with (first | (refine wpList_load_row rfl _ _ rfl x rfl 33 _ _ _ HX2.out Tryz.underlying33 rfl ?_ ?_; · exact info_lines) | (refine wpList_store_row rfl 33 (.tmp 2) (.tmp 41) rfl w.heap.size #[.bool cs, .bool mt, .bool l0, .bool l1, .int .u64 2, .int .u64 cn] rfl rfl 33 #[.bool false, .bool false, .bool false, .bool false, .int .u64 0, .int .u64 0] HR2.out info_lines rfl (by simp [Value.oneCell']) ?_))
            exact bodyPost_ret (v := linesW cs mt l0 l1 true cn) (results_cell_row (show Tryz.f12.results = #[.cell 2 33] by kernel_rfl) _ _ w.heap.size 33 _ _ _ rfl (setRow_heap _ _ _ _ _ _ HR2.out) Tryz.underlying33 rfl info_lines) rfl ⟨rfl, below_setRow (HW1.out.trans (HB2.out.mono HW1B.out)) (Nat.le_refl _) _⟩
      · go_simp
        refine hK.out _ _ ?_ (fun hHeld => ?_)
        · exact HS.out.alloc HS.out.size _
        clear hHeld hK K
        try simp only [Act.put, List.setIfInBounds_toArray, List.set_cons_zero, List.set_cons_succ]
        have HX : Hid (w1.heap.size ≤ wc2.heap.size) := Lib.hid HS.out.size
        have HSn : Hid (Below w1.heap.size w1 (wc2.alloc (.cells #[.bool false, .bool false, .bool false, .bool false, .int .u64 0, .int .u64 0] 33))) := Lib.hid (HS.out.alloc HS.out.size _)
        have HDA : Hid ((wc2.alloc (.cells #[.bool false, .bool false, .bool false, .bool false, .int .u64 0, .int .u64 0] 33)).heap[wc2.heap.size]? = some (.cells #[.bool false, .bool false, .bool false, .bool false, .int .u64 0, .int .u64 0] 33 (0, 0))) := Lib.hid (heap_alloc_new wc2 _)
        have HZA : Hid (wc2.heap.size < (wc2.alloc (.cells #[.bool false, .bool false, .bool false, .bool false, .int .u64 0, .int .u64 0] 33)).heap.size) := Lib.hid (by rw [World.size_alloc]; omega)
        replace HS := HSn
        clear HSn
        generalize wc2.alloc (.cells #[.bool false, .bool false, .bool false, .bool false, .int .u64 0, .int .u64 0] 33) = wa at *
        generalize wc2.heap.size = x at *
        have HA : Hid (Below wa.heap.size wa wa) := Lib.hid (Below.refl _ _)
        refine wpAnyH_ready (rs := [15]) (by kernel_rfl) (by simp) ?_
        refine AllReadyH.cons rfl (fun K hK => ?_) AllReadyH.nil
        go_simp
        (with_reducible refine (HC3.out _).mono ?_)
        rintro e wc9 ⟨rfl, hb⟩
        have HSn : Hid (Below w1.heap.size w1 wc9) := Lib.hid (HS.out.trans (hb.mono HS.out.size))
        have HAn : Hid (Below wa.heap.size wa wc9) := Lib.hid (HA.out.trans (hb.mono HA.out.size))
        clear hb
        go_simp
        refine hK.out _ _ ?_ (fun hHeld => ?_)
        · exact HSn.out
        clear hHeld hK K
        try simp only [Act.put, List.setIfInBounds_toArray, List.set_cons_zero, List.set_cons_succ]
        replace HS := HSn
        clear HSn
        replace HA := HAn
        clear HAn
        refine wpAnyH_ready (rs := [20]) (by kernel_rfl) (by simp) ?_
        refine AllReadyH.cons rfl (fun K hK => ?_) AllReadyH.nil
        go_simp
        (with_reducible refine (HC4.out _).mono ?_)
        rintro e wc10 ⟨rfl, hb⟩
        have HSn : Hid (Below w1.heap.size w1 wc10) := Lib.hid (HS.out.trans (hb.mono HS.out.size))
        have HAn : Hid (Below wa.heap.size wa wc10) := Lib.hid (HA.out.trans (hb.mono HA.out.size))
        clear hb
        go_simp
        refine hK.out _ _ ?_ (fun hHeld => ?_)
        · exact HSn.out
        clear hHeld hK K
        try simp only [Act.put, List.setIfInBounds_toArray, List.set_cons_zero, List.set_cons_succ]
        replace HS := HSn
        clear HSn
        replace HA := HAn
        clear HAn
        refine wpAnyH_ready (rs := [26]) (by kernel_rfl) (by simp) ?_
        refine AllReadyH.cons rfl (fun K hK => ?_) AllReadyH.nil
        go_simp
        (with_reducible refine (HC5.out _).mono ?_)
        rintro e wc11 ⟨rfl, hb⟩
        have HSn : Hid (Below w1.heap.size w1 wc11) := Lib.hid (HS.out.trans (hb.mono HS.out.size))
        have HAn : Hid (Below wa.heap.size wa wc11) := Lib.hid (HA.out.trans (hb.mono HA.out.size))
        clear hb
        go_simp
        refine hK.out _ _ ?_ (fun hHeld => ?_)
        · exact HSn.out
        clear hHeld hK K
        try simp only [Act.put, List.setIfInBounds_toArray, List.set_cons_zero, List.set_cons_succ]
        replace HS := HSn
        clear HSn
        replace HA := HAn
        clear HAn
        refine takeD (i := 27) (some 34) (v := ?_) rfl rfl (by kernel_rfl) (by kernel_rfl) (by kernel_rfl) (fun _ _ _ h => h) (by rfl) HS.out ?_ ?_
        rotate_left
        · intro wx hSx
          exact (by refine yield_build 33 #[(0, .tmp 11), (1, .tmp 17), (2, .tmp 22), (3, .tmp 27), (5, .tmp 33)] ?_ [(0, .bool cs), (1, .bool mt), (2, .bool l0), (3, .bool l1), (5, .int .u64 cn)] ?_ (built_lines cs mt l0 l1 cn) <;> first | rfl | simp [Act.eval, Act.put])
        simp only [Act.put, List.setIfInBounds_toArray, List.set_cons_zero, List.set_cons_succ]
        refine wpAnyH_ready (rs := [29]) (by kernel_rfl) (by simp) ?_
        refine AllReadyH.cons rfl (fun K hK => ?_) AllReadyH.nil
        rw [if_pos (by rfl)]
        have hD : wc11.heap[x]? = some (.cells #[.bool false, .bool false, .bool false, .bool false, .int .u64 0, .int .u64 0] 33 (0, 0)) := (HA.out.block x HZA.out).trans HDA.out
        refine wp_store_row 33 (.tmp 3) (.tmp 34) rfl x #[.bool cs, .bool mt, .bool l0, .bool l1, .int .u64 0, .int .u64 cn] rfl rfl 33 #[.bool false, .bool false, .bool false, .bool false, .int .u64 0, .int .u64 0] hD info_lines rfl (by simp [Value.oneCell']) ?_
        have HSn : Hid (Below w1.heap.size w1 (wc11.setRow x #[.bool cs, .bool mt, .bool l0, .bool l1, .int .u64 0, .int .u64 cn])) := Lib.hid (below_setRow HS.out HX.out _)
        have HXR : Hid ((wc11.setRow x #[.bool cs, .bool mt, .bool l0, .bool l1, .int .u64 0, .int .u64 cn]).heap[x]? = some (.cells #[.bool cs, .bool mt, .bool l0, .bool l1, .int .u64 0, .int .u64 cn] 33 (0, 0))) := Lib.hid (setRow_heap wc11 x _ _ _ _ hD)
        refine hK.out _ _ ?_ (fun hHeld => ?_)
        · exact HSn.out
        clear hHeld hK K hD
        try simp only [Act.put, List.setIfInBounds_toArray, List.set_cons_zero, List.set_cons_succ]
        replace HS := HSn
        clear HSn HA HZA HDA
        refine wpAnyH_done (by kernel_rfl) ?_ _
        generalize (wc11.setRow x #[.bool cs, .bool mt, .bool l0, .bool l1, .int .u64 0, .int .u64 cn]) = wz at *
        have HRZ := Lib.hid (HRG.out wz HS.out)
        have hxz : x < wz.heap.size := (Array.getElem?_eq_some_iff.1 HXR.out).1
        go_wp2_with (refine wpList_load_fr rfl _ _ rfl b 4 rfl _ _ HRZ.out Tryz.underlying69 rfl ?_ ?_; · exact HSZ.out)
        (with_reducible refine (HUP.out _).mono ?_)
        rintro e wu ⟨rfl, hb⟩
        have hxw : wu.heap[x]? = some (.cells #[.bool cs, .bool mt, .bool l0, .bool l1, .int .u64 0, .int .u64 cn] 33 (0, 0)) := (hb.block x hxz).trans HXR.out
        have HBW : Hid (Below w1.heap.size w1 wu) := Lib.hid (HS.out.trans (hb.mono HS.out.size))
        have hrw : wu.heap[w.heap.size]? = some (.cells #[.bool false, .bool false, .bool false, .bool false, .int .u64 0, .int .u64 0] 33 (0, 0)) := (HBW.out.block _ HZ1.out).trans HRES.out
        have hne : ¬ w.heap.size = x := by have := HX.out; have := HZ1.out; omega
        have fx : wu.frozen? ⟨x, 4, none⟩ = false := frozen_of_row wu x 4 _ _ hxw
        have cx : wu.cell? ⟨x, 4, none⟩ = some (.int .u64 0) := by rw [cell_of_row wu x 4 _ _ _ hxw]; rfl
        have hx2 : (wu.setCell ⟨x, 4, none⟩ (.int .u64 2)).heap[x]? = some (.cells #[.bool cs, .bool mt, .bool l0, .bool l1, .int .u64 2, .int .u64 cn] 33 (0, 0)) := by rw [heap_setCell_same wu x 4 _ _ _ hxw]; rfl
        have hr2 : (wu.setCell ⟨x, 4, none⟩ (.int .u64 2)).heap[w.heap.size]? = some (.cells #[.bool false, .bool false, .bool false, .bool false, .int .u64 0, .int .u64 0] 33 (0, 0)) := by rw [heap_setCell_other wu ⟨x, 4, none⟩ w.heap.size _ hne]; exact hrw
        have HX1 := Lib.hid hxw
        have HR1 := Lib.hid hrw
        have HX2 := Lib.hid hx2
        have HR2 := Lib.hid hr2
        have HB2 : Hid (Below w1.heap.size w1 (wu.setCell ⟨x, 4, none⟩ (.int .u64 2))) := Lib.hid (HBW.out.setCell HX.out _)
        have HW1B := Lib.hid HW1.out.size
        clear hb hxw hrw hx2 hr2 hxz hne HRZ HUP HRG HOC HSZ HS HXR HC1 HC2 HC3 HC4 HC5
        cases up with
        | false =>
          go_wp2_with (first | (refine wpList_load_row rfl _ _ rfl x rfl 33 _ _ _ HX1.out Tryz.underlying33 rfl ?_ ?_; · exact info_lines) | (refine wpList_store_row rfl 33 (.tmp 2) (.tmp 41) rfl w.heap.size #[.bool cs, .bool mt, .bool l0, .bool l1, .int .u64 0, .int .u64 cn] rfl rfl 33 #[.bool false, .bool false, .bool false, .bool false, .int .u64 0, .int .u64 0] HR1.out info_lines rfl (by simp [Value.oneCell']) ?_))
          exact bodyPost_ret (v := linesW cs mt l0 l1 false cn) (results_cell_row (show Tryz.f12.results = #[.cell 2 33] by kernel_rfl) _ _ w.heap.size 33 _ _ _ rfl (setRow_heap _ _ _ _ _ _ HR1.out) Tryz.underlying33 rfl info_lines) rfl ⟨rfl, below_setRow (HW1.out.trans (HBW.out.mono HW1B.out)) (Nat.le_refl _) _⟩
        | true =>
          go_wp2_with (first | (refine wpList_load_row rfl _ _ rfl x rfl 33 _ _ _ HX2.out Tryz.underlying33 rfl ?_ ?_; · exact info_lines) | (refine wpList_store_row rfl 33 (.tmp 2) (.tmp 41) rfl w.heap.size #[.bool cs, .bool mt, .bool l0, .bool l1, .int .u64 2, .int .u64 cn] rfl rfl 33 #[.bool false, .bool false, .bool false, .bool false, .int .u64 0, .int .u64 0] HR2.out info_lines rfl (by simp [Value.oneCell']) ?_))
          exact bodyPost_ret (v := linesW cs mt l0 l1 true cn) (results_cell_row (show Tryz.f12.results = #[.cell 2 33] by kernel_rfl) _ _ w.heap.size 33 _ _ _ rfl (setRow_heap _ _ _ _ _ _ HR2.out) Tryz.underlying33 rfl info_lines) rfl ⟨rfl, below_setRow (HW1.out.trans (HB2.out.mono HW1B.out)) (Nat.le_refl _) _⟩
    · go_simp
      refine hK.out _ _ ?_ (fun hHeld => ?_)
      · exact HS.out.alloc HS.out.size _
      clear hHeld hK K
      try simp only [Act.put, List.setIfInBounds_toArray, List.set_cons_zero, List.set_cons_succ]
      have HX : Hid (w1.heap.size ≤ wc1.heap.size) := Lib.hid HS.out.size
      have HSn : Hid (Below w1.heap.size w1 (wc1.alloc (.cells #[.bool false, .bool false, .bool false, .bool false, .int .u64 0, .int .u64 0] 33))) := Lib.hid (HS.out.alloc HS.out.size _)
      have HDA : Hid ((wc1.alloc (.cells #[.bool false, .bool false, .bool false, .bool false, .int .u64 0, .int .u64 0] 33)).heap[wc1.heap.size]? = some (.cells #[.bool false, .bool false, .bool false, .bool false, .int .u64 0, .int .u64 0] 33 (0, 0))) := Lib.hid (heap_alloc_new wc1 _)
      have HZA : Hid (wc1.heap.size < (wc1.alloc (.cells #[.bool false, .bool false, .bool false, .bool false, .int .u64 0, .int .u64 0] 33)).heap.size) := Lib.hid (by rw [World.size_alloc]; omega)
      replace HS := HSn
      clear HSn
      generalize wc1.alloc (.cells #[.bool false, .bool false, .bool false, .bool false, .int .u64 0, .int .u64 0] 33) = wa at *
      generalize wc1.heap.size = x at *
      have HA : Hid (Below wa.heap.size wa wa) := Lib.hid (Below.refl _ _)
      refine wpAnyH_ready (rs := [10]) (by kernel_rfl) (by simp) ?_
      refine AllReadyH.cons rfl (fun K hK => ?_) AllReadyH.nil
      go_simp
      (with_reducible refine (HC2.out _).mono ?_)
      rintro e wc12 ⟨rfl, hb⟩
      have HSn : Hid (Below w1.heap.size w1 wc12) := Lib.hid (HS.out.trans (hb.mono HS.out.size))
      have HAn : Hid (Below wa.heap.size wa wc12) := Lib.hid (HA.out.trans (hb.mono HA.out.size))
      clear hb
      go_simp
      refine hK.out _ _ ?_ (fun hHeld => ?_)
      · exact HSn.out
      clear hHeld hK K
      try simp only [Act.put, List.setIfInBounds_toArray, List.set_cons_zero, List.set_cons_succ]
      replace HS := HSn
      clear HSn
      replace HA := HAn
      clear HAn
      refine wpAnyH_ready (rs := [15]) (by kernel_rfl) (by simp) ?_
      refine AllReadyH.cons rfl (fun K hK => ?_) AllReadyH.nil
      go_simp
      (with_reducible refine (HC3.out _).mono ?_)
      rintro e wc13 ⟨rfl, hb⟩
      have HSn : Hid (Below w1.heap.size w1 wc13) := Lib.hid (HS.out.trans (hb.mono HS.out.size))
      have HAn : Hid (Below wa.heap.size wa wc13) := Lib.hid (HA.out.trans (hb.mono HA.out.size))
      clear hb
      go_simp
      refine hK.out _ _ ?_ (fun hHeld => ?_)
      · exact HSn.out
      clear hHeld hK K
      try simp only [Act.put, List.setIfInBounds_toArray, List.set_cons_zero, List.set_cons_succ]
      replace HS := HSn
      clear HSn
      replace HA := HAn
      clear HAn
      refine wpAnyH_ready (rs := [20]) (by kernel_rfl) (by simp) ?_
      refine AllReadyH.cons rfl (fun K hK => ?_) AllReadyH.nil
      go_simp
      (with_reducible refine (HC4.out _).mono ?_)
      rintro e wc14 ⟨rfl, hb⟩
      have HSn : Hid (Below w1.heap.size w1 wc14) := Lib.hid (HS.out.trans (hb.mono HS.out.size))
      have HAn : Hid (Below wa.heap.size wa wc14) := Lib.hid (HA.out.trans (hb.mono HA.out.size))
      clear hb
      go_simp
      refine hK.out _ _ ?_ (fun hHeld => ?_)
      · exact HSn.out
      clear hHeld hK K
      try simp only [Act.put, List.setIfInBounds_toArray, List.set_cons_zero, List.set_cons_succ]
      replace HS := HSn
      clear HSn
      replace HA := HAn
      clear HAn
      refine wpAnyH_ready (rs := [26]) (by kernel_rfl) (by simp) ?_
      refine AllReadyH.cons rfl (fun K hK => ?_) AllReadyH.nil
      go_simp
      (with_reducible refine (HC5.out _).mono ?_)
      rintro e wc15 ⟨rfl, hb⟩
      have HSn : Hid (Below w1.heap.size w1 wc15) := Lib.hid (HS.out.trans (hb.mono HS.out.size))
      have HAn : Hid (Below wa.heap.size wa wc15) := Lib.hid (HA.out.trans (hb.mono HA.out.size))
      clear hb
      go_simp
      refine hK.out _ _ ?_ (fun hHeld => ?_)
      · exact HSn.out
      clear hHeld hK K
      try simp only [Act.put, List.setIfInBounds_toArray, List.set_cons_zero, List.set_cons_succ]
      replace HS := HSn
      clear HSn
      replace HA := HAn
      clear HAn
      refine takeD (i := 27) (some 34) (v := ?_) rfl rfl (by kernel_rfl) (by kernel_rfl) (by kernel_rfl) (fun _ _ _ h => h) (by rfl) HS.out ?_ ?_
      rotate_left
      · intro wx hSx
        exact (by refine yield_build 33 #[(0, .tmp 11), (1, .tmp 17), (2, .tmp 22), (3, .tmp 27), (5, .tmp 33)] ?_ [(0, .bool cs), (1, .bool mt), (2, .bool l0), (3, .bool l1), (5, .int .u64 cn)] ?_ (built_lines cs mt l0 l1 cn) <;> first | rfl | simp [Act.eval, Act.put])
      simp only [Act.put, List.setIfInBounds_toArray, List.set_cons_zero, List.set_cons_succ]
      refine wpAnyH_ready (rs := [29]) (by kernel_rfl) (by simp) ?_
      refine AllReadyH.cons rfl (fun K hK => ?_) AllReadyH.nil
      rw [if_pos (by rfl)]
      have hD : wc15.heap[x]? = some (.cells #[.bool false, .bool false, .bool false, .bool false, .int .u64 0, .int .u64 0] 33 (0, 0)) := (HA.out.block x HZA.out).trans HDA.out
      refine wp_store_row 33 (.tmp 3) (.tmp 34) rfl x #[.bool cs, .bool mt, .bool l0, .bool l1, .int .u64 0, .int .u64 cn] rfl rfl 33 #[.bool false, .bool false, .bool false, .bool false, .int .u64 0, .int .u64 0] hD info_lines rfl (by simp [Value.oneCell']) ?_
      have HSn : Hid (Below w1.heap.size w1 (wc15.setRow x #[.bool cs, .bool mt, .bool l0, .bool l1, .int .u64 0, .int .u64 cn])) := Lib.hid (below_setRow HS.out HX.out _)
      have HXR : Hid ((wc15.setRow x #[.bool cs, .bool mt, .bool l0, .bool l1, .int .u64 0, .int .u64 cn]).heap[x]? = some (.cells #[.bool cs, .bool mt, .bool l0, .bool l1, .int .u64 0, .int .u64 cn] 33 (0, 0))) := Lib.hid (setRow_heap wc15 x _ _ _ _ hD)
      refine hK.out _ _ ?_ (fun hHeld => ?_)
      · exact HSn.out
      clear hHeld hK K hD
      try simp only [Act.put, List.setIfInBounds_toArray, List.set_cons_zero, List.set_cons_succ]
      replace HS := HSn
      clear HSn HA HZA HDA
      refine wpAnyH_done (by kernel_rfl) ?_ _
      generalize (wc15.setRow x #[.bool cs, .bool mt, .bool l0, .bool l1, .int .u64 0, .int .u64 cn]) = wz at *
      have HRZ := Lib.hid (HRG.out wz HS.out)
      have hxz : x < wz.heap.size := (Array.getElem?_eq_some_iff.1 HXR.out).1
      go_wp2_with (refine wpList_load_fr rfl _ _ rfl b 4 rfl _ _ HRZ.out Tryz.underlying69 rfl ?_ ?_; · exact HSZ.out)
      (with_reducible refine (HUP.out _).mono ?_)
      rintro e wu ⟨rfl, hb⟩
      have hxw : wu.heap[x]? = some (.cells #[.bool cs, .bool mt, .bool l0, .bool l1, .int .u64 0, .int .u64 cn] 33 (0, 0)) := (hb.block x hxz).trans HXR.out
      have HBW : Hid (Below w1.heap.size w1 wu) := Lib.hid (HS.out.trans (hb.mono HS.out.size))
      have hrw : wu.heap[w.heap.size]? = some (.cells #[.bool false, .bool false, .bool false, .bool false, .int .u64 0, .int .u64 0] 33 (0, 0)) := (HBW.out.block _ HZ1.out).trans HRES.out
      have hne : ¬ w.heap.size = x := by have := HX.out; have := HZ1.out; omega
      have fx : wu.frozen? ⟨x, 4, none⟩ = false := frozen_of_row wu x 4 _ _ hxw
      have cx : wu.cell? ⟨x, 4, none⟩ = some (.int .u64 0) := by rw [cell_of_row wu x 4 _ _ _ hxw]; rfl
      have hx2 : (wu.setCell ⟨x, 4, none⟩ (.int .u64 2)).heap[x]? = some (.cells #[.bool cs, .bool mt, .bool l0, .bool l1, .int .u64 2, .int .u64 cn] 33 (0, 0)) := by rw [heap_setCell_same wu x 4 _ _ _ hxw]; rfl
      have hr2 : (wu.setCell ⟨x, 4, none⟩ (.int .u64 2)).heap[w.heap.size]? = some (.cells #[.bool false, .bool false, .bool false, .bool false, .int .u64 0, .int .u64 0] 33 (0, 0)) := by rw [heap_setCell_other wu ⟨x, 4, none⟩ w.heap.size _ hne]; exact hrw
      have HX1 := Lib.hid hxw
      have HR1 := Lib.hid hrw
      have HX2 := Lib.hid hx2
      have HR2 := Lib.hid hr2
      have HB2 : Hid (Below w1.heap.size w1 (wu.setCell ⟨x, 4, none⟩ (.int .u64 2))) := Lib.hid (HBW.out.setCell HX.out _)
      have HW1B := Lib.hid HW1.out.size
      clear hb hxw hrw hx2 hr2 hxz hne HRZ HUP HRG HOC HSZ HS HXR HC1 HC2 HC3 HC4 HC5
      cases up with
      | false =>
        go_wp2_with (first | (refine wpList_load_row rfl _ _ rfl x rfl 33 _ _ _ HX1.out Tryz.underlying33 rfl ?_ ?_; · exact info_lines) | (refine wpList_store_row rfl 33 (.tmp 2) (.tmp 41) rfl w.heap.size #[.bool cs, .bool mt, .bool l0, .bool l1, .int .u64 0, .int .u64 cn] rfl rfl 33 #[.bool false, .bool false, .bool false, .bool false, .int .u64 0, .int .u64 0] HR1.out info_lines rfl (by simp [Value.oneCell']) ?_))
        exact bodyPost_ret (v := linesW cs mt l0 l1 false cn) (results_cell_row (show Tryz.f12.results = #[.cell 2 33] by kernel_rfl) _ _ w.heap.size 33 _ _ _ rfl (setRow_heap _ _ _ _ _ _ HR1.out) Tryz.underlying33 rfl info_lines) rfl ⟨rfl, below_setRow (HW1.out.trans (HBW.out.mono HW1B.out)) (Nat.le_refl _) _⟩
      | true =>
        go_wp2_with (first | (refine wpList_load_row rfl _ _ rfl x rfl 33 _ _ _ HX2.out Tryz.underlying33 rfl ?_ ?_; · exact info_lines) | (refine wpList_store_row rfl 33 (.tmp 2) (.tmp 41) rfl w.heap.size #[.bool cs, .bool mt, .bool l0, .bool l1, .int .u64 2, .int .u64 cn] rfl rfl 33 #[.bool false, .bool false, .bool false, .bool false, .int .u64 0, .int .u64 0] HR2.out info_lines rfl (by simp [Value.oneCell']) ?_))
        exact bodyPost_ret (v := linesW cs mt l0 l1 true cn) (results_cell_row (show Tryz.f12.results = #[.cell 2 33] by kernel_rfl) _ _ w.heap.size 33 _ _ _ rfl (setRow_heap _ _ _ _ _ _ HR2.out) Tryz.underlying33 rfl info_lines) rfl ⟨rfl, below_setRow (HW1.out.trans (HB2.out.mono HW1B.out)) (Nat.le_refl _) _⟩
  · go_simp
    refine hK.out _ _ ?_ (fun hHeld => ?_)
    · exact HS.out.alloc HS.out.size _
    clear hHeld hK K
    try simp only [Act.put, List.setIfInBounds_toArray, List.set_cons_zero, List.set_cons_succ]
    have HX : Hid (w1.heap.size ≤ wd.heap.size) := Lib.hid HS.out.size
    have HSn : Hid (Below w1.heap.size w1 (wd.alloc (.cells #[.bool false, .bool false, .bool false, .bool false, .int .u64 0, .int .u64 0] 33))) := Lib.hid (HS.out.alloc HS.out.size _)
    have HDA : Hid ((wd.alloc (.cells #[.bool false, .bool false, .bool false, .bool false, .int .u64 0, .int .u64 0] 33)).heap[wd.heap.size]? = some (.cells #[.bool false, .bool false, .bool false, .bool false, .int .u64 0, .int .u64 0] 33 (0, 0))) := Lib.hid (heap_alloc_new wd _)
    have HZA : Hid (wd.heap.size < (wd.alloc (.cells #[.bool false, .bool false, .bool false, .bool false, .int .u64 0, .int .u64 0] 33)).heap.size) := Lib.hid (by rw [World.size_alloc]; omega)
    replace HS := HSn
    clear HSn
    generalize wd.alloc (.cells #[.bool false, .bool false, .bool false, .bool false, .int .u64 0, .int .u64 0] 33) = wa at *
    generalize wd.heap.size = x at *
    have HA : Hid (Below wa.heap.size wa wa) := Lib.hid (Below.refl _ _)
    refine wpAnyH_ready (rs := [4]) (by kernel_rfl) (by simp) ?_
    refine AllReadyH.cons rfl (fun K hK => ?_) AllReadyH.nil
    go_simp
    (with_reducible refine (HC1.out _).mono ?_)
    rintro e wc16 ⟨rfl, hb⟩
    have HSn : Hid (Below w1.heap.size w1 wc16) := Lib.hid (HS.out.trans (hb.mono HS.out.size))
    have HAn : Hid (Below wa.heap.size wa wc16) := Lib.hid (HA.out.trans (hb.mono HA.out.size))
    clear hb
    go_simp
    refine hK.out _ _ ?_ (fun hHeld => ?_)
    · exact HSn.out
    clear hHeld hK K
    try simp only [Act.put, List.setIfInBounds_toArray, List.set_cons_zero, List.set_cons_succ]
    replace HS := HSn
    clear HSn
    replace HA := HAn
    clear HAn
    refine wpAnyH_ready (rs := [10]) (by kernel_rfl) (by simp) ?_
    refine AllReadyH.cons rfl (fun K hK => ?_) AllReadyH.nil
    go_simp
    (with_reducible refine (HC2.out _).mono ?_)
    rintro e wc17 ⟨rfl, hb⟩
    have HSn : Hid (Below w1.heap.size w1 wc17) := Lib.hid (HS.out.trans (hb.mono HS.out.size))
    have HAn : Hid (Below wa.heap.size wa wc17) := Lib.hid (HA.out.trans (hb.mono HA.out.size))
    clear hb
    go_simp
    refine hK.out _ _ ?_ (fun hHeld => ?_)
    · exact HSn.out
    clear hHeld hK K
    try simp only [Act.put, List.setIfInBounds_toArray, List.set_cons_zero, List.set_cons_succ]
    replace HS := HSn
    clear HSn
    replace HA := HAn
    clear HAn
    refine wpAnyH_ready (rs := [15]) (by kernel_rfl) (by simp) ?_
    refine AllReadyH.cons rfl (fun K hK => ?_) AllReadyH.nil
    go_simp
    (with_reducible refine (HC3.out _).mono ?_)
    rintro e wc18 ⟨rfl, hb⟩
    have HSn : Hid (Below w1.heap.size w1 wc18) := Lib.hid (HS.out.trans (hb.mono HS.out.size))
    have HAn : Hid (Below wa.heap.size wa wc18) := Lib.hid (HA.out.trans (hb.mono HA.out.size))
    clear hb
    go_simp
    refine hK.out _ _ ?_ (fun hHeld => ?_)
    · exact HSn.out
    clear hHeld hK K
    try simp only [Act.put, List.setIfInBounds_toArray, List.set_cons_zero, List.set_cons_succ]
    replace HS := HSn
    clear HSn
    replace HA := HAn
    clear HAn
    refine wpAnyH_ready (rs := [20]) (by kernel_rfl) (by simp) ?_
    refine AllReadyH.cons rfl (fun K hK => ?_) AllReadyH.nil
    go_simp
    (with_reducible refine (HC4.out _).mono ?_)
    rintro e wc19 ⟨rfl, hb⟩
    have HSn : Hid (Below w1.heap.size w1 wc19) := Lib.hid (HS.out.trans (hb.mono HS.out.size))
    have HAn : Hid (Below wa.heap.size wa wc19) := Lib.hid (HA.out.trans (hb.mono HA.out.size))
    clear hb
    go_simp
    refine hK.out _ _ ?_ (fun hHeld => ?_)
    · exact HSn.out
    clear hHeld hK K
    try simp only [Act.put, List.setIfInBounds_toArray, List.set_cons_zero, List.set_cons_succ]
    replace HS := HSn
    clear HSn
    replace HA := HAn
    clear HAn
    refine wpAnyH_ready (rs := [26]) (by kernel_rfl) (by simp) ?_
    refine AllReadyH.cons rfl (fun K hK => ?_) AllReadyH.nil
    go_simp
    (with_reducible refine (HC5.out _).mono ?_)
    rintro e wc20 ⟨rfl, hb⟩
    have HSn : Hid (Below w1.heap.size w1 wc20) := Lib.hid (HS.out.trans (hb.mono HS.out.size))
    have HAn : Hid (Below wa.heap.size wa wc20) := Lib.hid (HA.out.trans (hb.mono HA.out.size))
    clear hb
    go_simp
    refine hK.out _ _ ?_ (fun hHeld => ?_)
    · exact HSn.out
    clear hHeld hK K
    try simp only [Act.put, List.setIfInBounds_toArray, List.set_cons_zero, List.set_cons_succ]
    replace HS := HSn
    clear HSn
    replace HA := HAn
    clear HAn
    refine takeD (i := 27) (some 34) (v := ?_) rfl rfl (by kernel_rfl) (by kernel_rfl) (by kernel_rfl) (fun _ _ _ h => h) (by rfl) HS.out ?_ ?_
    rotate_left
    · intro wx hSx
      exact (by refine yield_build 33 #[(0, .tmp 11), (1, .tmp 17), (2, .tmp 22), (3, .tmp 27), (5, .tmp 33)] ?_ [(0, .bool cs), (1, .bool mt), (2, .bool l0), (3, .bool l1), (5, .int .u64 cn)] ?_ (built_lines cs mt l0 l1 cn) <;> first | rfl | simp [Act.eval, Act.put])
    simp only [Act.put, List.setIfInBounds_toArray, List.set_cons_zero, List.set_cons_succ]
    refine wpAnyH_ready (rs := [29]) (by kernel_rfl) (by simp) ?_
    refine AllReadyH.cons rfl (fun K hK => ?_) AllReadyH.nil
    rw [if_pos (by rfl)]
    have hD : wc20.heap[x]? = some (.cells #[.bool false, .bool false, .bool false, .bool false, .int .u64 0, .int .u64 0] 33 (0, 0)) := (HA.out.block x HZA.out).trans HDA.out
    refine wp_store_row 33 (.tmp 3) (.tmp 34) rfl x #[.bool cs, .bool mt, .bool l0, .bool l1, .int .u64 0, .int .u64 cn] rfl rfl 33 #[.bool false, .bool false, .bool false, .bool false, .int .u64 0, .int .u64 0] hD info_lines rfl (by simp [Value.oneCell']) ?_
    have HSn : Hid (Below w1.heap.size w1 (wc20.setRow x #[.bool cs, .bool mt, .bool l0, .bool l1, .int .u64 0, .int .u64 cn])) := Lib.hid (below_setRow HS.out HX.out _)
    have HXR : Hid ((wc20.setRow x #[.bool cs, .bool mt, .bool l0, .bool l1, .int .u64 0, .int .u64 cn]).heap[x]? = some (.cells #[.bool cs, .bool mt, .bool l0, .bool l1, .int .u64 0, .int .u64 cn] 33 (0, 0))) := Lib.hid (setRow_heap wc20 x _ _ _ _ hD)
    refine hK.out _ _ ?_ (fun hHeld => ?_)
    · exact HSn.out
    clear hHeld hK K hD
    try simp only [Act.put, List.setIfInBounds_toArray, List.set_cons_zero, List.set_cons_succ]
    replace HS := HSn
    clear HSn HA HZA HDA
    refine wpAnyH_done (by kernel_rfl) ?_ _
    generalize (wc20.setRow x #[.bool cs, .bool mt, .bool l0, .bool l1, .int .u64 0, .int .u64 cn]) = wz at *
    have HRZ := Lib.hid (HRG.out wz HS.out)
    have hxz : x < wz.heap.size := (Array.getElem?_eq_some_iff.1 HXR.out).1
    go_wp2_with (refine wpList_load_fr rfl _ _ rfl b 4 rfl _ _ HRZ.out Tryz.underlying69 rfl ?_ ?_; · exact HSZ.out)
    (with_reducible refine (HUP.out _).mono ?_)
    rintro e wu ⟨rfl, hb⟩
    have hxw : wu.heap[x]? = some (.cells #[.bool cs, .bool mt, .bool l0, .bool l1, .int .u64 0, .int .u64 cn] 33 (0, 0)) := (hb.block x hxz).trans HXR.out
    have HBW : Hid (Below w1.heap.size w1 wu) := Lib.hid (HS.out.trans (hb.mono HS.out.size))
    have hrw : wu.heap[w.heap.size]? = some (.cells #[.bool false, .bool false, .bool false, .bool false, .int .u64 0, .int .u64 0] 33 (0, 0)) := (HBW.out.block _ HZ1.out).trans HRES.out
    have hne : ¬ w.heap.size = x := by have := HX.out; have := HZ1.out; omega
    have fx : wu.frozen? ⟨x, 4, none⟩ = false := frozen_of_row wu x 4 _ _ hxw
    have cx : wu.cell? ⟨x, 4, none⟩ = some (.int .u64 0) := by rw [cell_of_row wu x 4 _ _ _ hxw]; rfl
    have hx2 : (wu.setCell ⟨x, 4, none⟩ (.int .u64 2)).heap[x]? = some (.cells #[.bool cs, .bool mt, .bool l0, .bool l1, .int .u64 2, .int .u64 cn] 33 (0, 0)) := by rw [heap_setCell_same wu x 4 _ _ _ hxw]; rfl
    have hr2 : (wu.setCell ⟨x, 4, none⟩ (.int .u64 2)).heap[w.heap.size]? = some (.cells #[.bool false, .bool false, .bool false, .bool false, .int .u64 0, .int .u64 0] 33 (0, 0)) := by rw [heap_setCell_other wu ⟨x, 4, none⟩ w.heap.size _ hne]; exact hrw
    have HX1 := Lib.hid hxw
    have HR1 := Lib.hid hrw
    have HX2 := Lib.hid hx2
    have HR2 := Lib.hid hr2
    have HB2 : Hid (Below w1.heap.size w1 (wu.setCell ⟨x, 4, none⟩ (.int .u64 2))) := Lib.hid (HBW.out.setCell HX.out _)
    have HW1B := Lib.hid HW1.out.size
    clear hb hxw hrw hx2 hr2 hxz hne HRZ HUP HRG HOC HSZ HS HXR HC1 HC2 HC3 HC4 HC5
    cases up with
    | false =>
      go_wp2_with (first | (refine wpList_load_row rfl _ _ rfl x rfl 33 _ _ _ HX1.out Tryz.underlying33 rfl ?_ ?_; · exact info_lines) | (refine wpList_store_row rfl 33 (.tmp 2) (.tmp 41) rfl w.heap.size #[.bool cs, .bool mt, .bool l0, .bool l1, .int .u64 0, .int .u64 cn] rfl rfl 33 #[.bool false, .bool false, .bool false, .bool false, .int .u64 0, .int .u64 0] HR1.out info_lines rfl (by simp [Value.oneCell']) ?_))
      exact bodyPost_ret (v := linesW cs mt l0 l1 false cn) (results_cell_row (show Tryz.f12.results = #[.cell 2 33] by kernel_rfl) _ _ w.heap.size 33 _ _ _ rfl (setRow_heap _ _ _ _ _ _ HR1.out) Tryz.underlying33 rfl info_lines) rfl ⟨rfl, below_setRow (HW1.out.trans (HBW.out.mono HW1B.out)) (Nat.le_refl _) _⟩
    | true =>
      go_wp2_with (first | (refine wpList_load_row rfl _ _ rfl x rfl 33 _ _ _ HX2.out Tryz.underlying33 rfl ?_ ?_; · exact info_lines) | (refine wpList_store_row rfl 33 (.tmp 2) (.tmp 41) rfl w.heap.size #[.bool cs, .bool mt, .bool l0, .bool l1, .int .u64 2, .int .u64 cn] rfl rfl 33 #[.bool false, .bool false, .bool false, .bool false, .int .u64 0, .int .u64 0] HR2.out info_lines rfl (by simp [Value.oneCell']) ?_))
      exact bodyPost_ret (v := linesW cs mt l0 l1 true cn) (results_cell_row (show Tryz.f12.results = #[.cell 2 33] by kernel_rfl) _ _ w.heap.size 33 _ _ _ rfl (setRow_heap _ _ _ _ _ _ HR2.out) Tryz.underlying33 rfl info_lines) rfl ⟨rfl, below_setRow (HW1.out.trans (HB2.out.mono HW1B.out)) (Nat.le_refl _) _⟩

end Go.Proofs.YtbcnkhfpogglmaaGreatDoor

namespace Go.Proofs.YtbcnkhfpogglmaaGreatDoor.C4.In
open Go.RowKit
set_option linter.unusedVariables false
set_option maxRecDepth 100000
variable {fr : Fr 1}

/-- The document's clint t stands one cell behind the beginning of block b. -/
def RefC (fr : Fr 1) (w : World) (b : Nat) (t : Cl) : Prop := w.heap[b]? = some (.cells (fr.all #[.int .u64 (sI t.s), .int .u64 t.c, .int .u64 t.n]) fr.ty (0, 0)) ∧ t.ok
theorem RefC.keeps {w w' : World} {b : Nat} {t : Cl} {T : Nat → Prop} (h : RefC fr w b t) (o : Only T w w') (hb : ¬ T b) : RefC fr w' b t := ⟨o.keeps hb h.1, h.2⟩
theorem RefC.lt {w : World} {b : Nat} {t : Cl} (h : RefC fr w b t) : b < w.heap.size := (Array.getElem?_eq_some_iff.1 h.1).1
theorem RefC.below {w w' : World} {b : Nat} {t : Cl} (h : RefC fr w b t) (o : Below w.heap.size w w') : RefC fr w' b t := ⟨(o.block b h.lt).trans h.1, h.2⟩
theorem RefC.cells {w : World} {b : Nat} {t : Cl} (h : RefC fr w b t) : w.cell? ⟨b, 1, none⟩ = some (.int .u64 (sI t.s)) ∧ w.cell? ⟨b, 2, none⟩ = some (.int .u64 t.c) ∧ w.cell? ⟨b, 3, none⟩ = some (.int .u64 t.n) := by
  refine ⟨?_, ?_, ?_⟩
  · rw [cell_of_row w b _ _ _ _ h.1]; exact fr.get _ 0 (by simp)
  · rw [cell_of_row w b _ _ _ _ h.1]; exact fr.get _ 1 (by simp)
  · rw [cell_of_row w b _ _ _ _ h.1]; exact fr.get _ 2 (by simp)
theorem RefC.free {w : World} {b : Nat} {t : Cl} (h : RefC fr w b t) (k : Nat) : w.frozen? ⟨b, k, none⟩ = false := frozen_of_row w b k _ _ h.1
/-- What a call leaves that turns the clint. -/
def RefEnd (fr : Fr 1) (w : World) (b : Nat) (r : Value) (t' : Cl) (e : Ending) (w' : World) : Prop := e = .returned r ∧ Only (fun i => i = b) w w' ∧ RefC fr w' b t'
end Go.Proofs.YtbcnkhfpogglmaaGreatDoor.C4.In

namespace Go.Proofs.YtbcnkhfpogglmaaGreatDoor.P5.In
open Go.RowKit
set_option linter.unusedVariables false
set_option maxRecDepth 100000
variable {fr : Fr 4}

/-- The document's plic t stands four cells behind the beginning of block b. -/
def RefP (fr : Fr 4) (w : World) (b : Nat) (t : PS) : Prop := w.heap[b]? = some (.cells (fr.all (varr 194 (cellR t))) fr.ty (0, 0))
theorem RefP.lt {w : World} {b : Nat} {t : PS} (h : RefP fr w b t) : b < w.heap.size := (Array.getElem?_eq_some_iff.1 h).1
theorem RefP.below {w w' : World} {b : Nat} {t : PS} (h : RefP fr w b t) (o : Below w.heap.size w w') : RefP fr w' b t := (o.block b h.lt).trans h
theorem RefP.keeps {w w' : World} {b : Nat} {t : PS} {T : Nat → Prop} (h : RefP fr w b t) (o : Only T w w') (hb : ¬ T b) : RefP fr w' b t := o.keeps hb h
theorem RefP.floor_ {w : World} {b : Nat} {t : PS} (h : RefP fr w b t) {c : Nat} (hc : c < 2) : w.cell? ⟨b, 196 + c, none⟩ = some (.int .u64 (t.floor c)) := by
  rw [show 196 + c = 4 + (192 + c) by omega, cell_of_row w b _ _ _ _ h, fr.get _ _ (by rw [varr_size]; omega), varr_get _ _ _ (by omega), cellR_floor]
theorem RefP.free {w : World} {b : Nat} {t : PS} (h : RefP fr w b t) (k : Nat) : w.frozen? ⟨b, k, none⟩ = false := frozen_of_row w b k _ _ h
/-- One cell of a source turned. -/
theorem RefP.set {w : World} {b : Nat} {t t' : PS} (h : RefP fr w b t) {s j : Nat} (v : Value) (hs : s < 32) (hj : j < 6) (he : ∀ s' j', s' < 32 → j' < 6 → srcCell t' s' j' = if s' = s ∧ j' = j then v else srcCell t s' j') (hf : t'.floor = t.floor) :
    RefP fr (w.setCell ⟨b, 4 + s * 6 + j, none⟩ v) b t' := by
  unfold RefP
  rw [Nat.add_assoc, heap_setCell_same w b _ _ _ _ h, fr.set _ _ _ (by rw [varr_size]; omega), varr_set]
  have e : (varr 194 fun i => if i = s * 6 + j then v else cellR t i) = varr 194 (cellR t') := varr_congr fun i hi => by
    by_cases h1 : i < 192
    · have h2 : i = i / 6 * 6 + i % 6 := by omega
      have e1 : cellR t' i = srcCell t' (i / 6) (i % 6) := by unfold cellR; rw [if_pos h1]
      have e2 : cellR t i = srcCell t (i / 6) (i % 6) := by unfold cellR; rw [if_pos h1]
      rw [e1, e2, he _ _ (by omega) (by omega)]
      by_cases c : i = s * 6 + j
      · rw [if_pos c, if_pos ⟨by omega, by omega⟩]
      · rw [if_neg c, if_neg (by omega)]
    · rw [if_neg (by omega)]
      unfold cellR
      rw [if_neg h1, if_neg h1, hf]
  rw [e]
def SetP (fr : Fr 4) (w : World) (b : Nat) (t' : PS) (e : Ending) (w' : World) : Prop := (∃ u, e = .returned u) ∧ Only (fun i => i = b) w w' ∧ RefP fr w' b t'
def RefPEnd (fr : Fr 4) (w : World) (b : Nat) (r : Value) (t' : PS) (e : Ending) (w' : World) : Prop := e = .returned r ∧ Only (fun i => i = b) w w' ∧ RefP fr w' b t'
theorem RefP.congr {w : World} {b : Nat} {t t' : PS} (h : RefP fr w b t) (hs : ∀ s j, s < 32 → j < 6 → srcCell t s j = srcCell t' s j) (hf : ∀ c, c < 2 → t.floor c = t'.floor c) : RefP fr w b t' := by
  unfold RefP at *
  have e : varr 194 (cellR t) = varr 194 (cellR t') := varr_congr fun i hi => by
    unfold cellR
    by_cases h1 : i < 192
    · rw [if_pos h1, if_pos h1]; exact hs _ _ (by omega) (by omega)
    · rw [if_neg h1, if_neg h1, hf _ (by omega)]
  rw [← e]; exact h
end Go.Proofs.YtbcnkhfpogglmaaGreatDoor.P5.In

namespace Go.Proofs.YtbcnkhfpogglmaaGreatDoor.U6
open Go.RowKit
set_option linter.unusedVariables false
set_option maxRecDepth 100000

section
variable {w : World} {b : Nat} {F : Nat → Prop} {t : US} {vi vo : Value}
end
def TellR (w : World) (b : Nat) (F : Nat → Prop) (x : Value) (t' : US) (e : Ending) (w' : World) : Prop := e = .returned x ∧ EndU cellsR 111 w b F t' w'

end Go.Proofs.YtbcnkhfpogglmaaGreatDoor.U6

namespace Go.Proofs.YtbcnkhfpogglmaaGreatDoor
open Go.RowKit
set_option linter.unusedVariables false
set_option maxRecDepth 100000

/-- What lies round the document's plic, and round its clint. -/
def fqP (g : Nat) (c : C4.Cl) (vp : Value) : Fr 4 := ⟨#[.pointer (some ⟨g, 0, none⟩), .int .u64 (C4.sI c.s), .int .u64 c.c, .int .u64 c.n], #[vp], 107, rfl⟩
def fqC (g : Nat) (p : P5.PS) (vp : Value) : Fr 1 := ⟨#[.pointer (some ⟨g, 0, none⟩)], varr 194 (P5.cellR p) ++ #[vp], 107, rfl⟩
def refRow (g : Nat) (c : C4.Cl) (p : P5.PS) (vp : Value) : Array Value := (fqP g c vp).all (varr 194 (P5.cellR p))
theorem refRow_c (g : Nat) (c : C4.Cl) (p : P5.PS) (vp : Value) : refRow g c p vp = (fqC g p vp).all #[.int .u64 (C4.sI c.s), .int .u64 c.c, .int .u64 c.n] := by
  unfold refRow Fr.all fqP fqC
  simp only
  generalize varr 194 (P5.cellR p) = row
  have e : (#[.pointer (some ⟨g, 0, none⟩), .int .u64 (C4.sI c.s), .int .u64 c.c, .int .u64 c.n] : Array Value) = #[.pointer (some ⟨g, 0, none⟩)] ++ #[.int .u64 (C4.sI c.s), .int .u64 c.c, .int .u64 c.n] := by simp
  rw [e]
  generalize (#[.pointer (some ⟨g, 0, none⟩)] : Array Value) = x
  generalize (#[.int .u64 (C4.sI c.s), .int .u64 c.c, .int .u64 c.n] : Array Value) = y
  rw [Array.append_assoc]
def RefAt (w : World) (b g : Nat) (c : C4.Cl) (p : P5.PS) (vp : Value) : Prop := w.heap[b]? = some (.cells (refRow g c p vp) 107 (0, 0))
section
variable {w : World} {b g : Nat} {c : C4.Cl} {p : P5.PS} {vp : Value}
theorem RefAt.lt (h : RefAt w b g c p vp) : b < w.heap.size := (Array.getElem?_eq_some_iff.1 h).1
theorem RefAt.keeps {w' : World} {T : Nat → Prop} (h : RefAt w b g c p vp) (o : Only T w w') (hb : ¬ T b) : RefAt w' b g c p vp := o.keeps hb h
theorem RefAt.free (h : RefAt w b g c p vp) (k : Nat) : w.frozen? ⟨b, k, none⟩ = false := frozen_of_row w b k _ _ h
theorem RefAt.plic (h : RefAt w b g c p vp) : P5.In.RefP (fqP g c vp) w b p := h
theorem RefAt.clint (h : RefAt w b g c p vp) (ok : c.ok) : C4.In.RefC (fqC g p vp) w b c := ⟨by rw [← refRow_c]; exact h, ok⟩
theorem RefAt.ofPlic {p' : P5.PS} (h : P5.In.RefP (fqP g c vp) w b p') : RefAt w b g c p' vp := h
theorem RefAt.ofClint {c' : C4.Cl} (h : C4.In.RefC (fqC g p vp) w b c') : RefAt w b g c' p vp := by
  unfold RefAt; rw [refRow_c]; exact h.1
theorem RefAt.ram_ (h : RefAt w b g c p vp) : w.cell? ⟨b, 0, none⟩ = some (.pointer (some ⟨g, 0, none⟩)) := by
  rw [cell_of_row w b _ _ _ _ h]; exact Fr.ahead _ _ 0 (by omega)
theorem RefAt.clint_ (h : RefAt w b g c p vp) : w.cell? ⟨b, 1, none⟩ = some (.int .u64 (C4.sI c.s)) ∧ w.cell? ⟨b, 2, none⟩ = some (.int .u64 c.c) ∧ w.cell? ⟨b, 3, none⟩ = some (.int .u64 c.n) := by
  refine ⟨?_, ?_, ?_⟩
  · rw [cell_of_row w b _ _ _ _ h]; exact Fr.ahead _ _ 1 (by omega)
  · rw [cell_of_row w b _ _ _ _ h]; exact Fr.ahead _ _ 2 (by omega)
  · rw [cell_of_row w b _ _ _ _ h]; exact Fr.ahead _ _ 3 (by omega)
theorem RefAt.range (h : RefAt w b g c p vp) : w.rangeAt b 4 (varr 194 (P5.cellR p)).toList := Fr.range (fqP g c vp) h
end
/-- The row of the uarts' pointers. -/
def UartsAt (w : World) (b : Nat) (K : Nat → Nat) (vp : Value) (ul : List Nat) : Prop :=
  (ul = [] ∧ vp = .slice none 0 0) ∨ ∃ gp cap, vp = .slice (some ⟨gp, 0, none⟩) ul.length cap ∧ ul.length ≤ cap ∧ K gp = 1 ∧ ¬ gp = b ∧ Lays w gp (ul.map fun u => .pointer (some ⟨u, 0, none⟩))
theorem UartsAt.keeps {w w' : World} {b : Nat} {K K' : Nat → Nat} {vp : Value} {ul : List Nat} {T : Nat → Prop} (h : UartsAt w b K vp ul) (o : Only T w w') (hT : ∀ i, T i → ¬ K i = 1 ∨ i = b) (hK : ∀ i, i < w.heap.size → K' i = K i) : UartsAt w' b K' vp ul := by
  rcases h with h | ⟨gp, cap, h1, h2, h3, h4, h5⟩
  · exact .inl h
  · refine .inr ⟨gp, cap, h1, h2, by rw [hK _ h5.lt]; exact h3, h4, h5.keeps o fun ht => ?_⟩
    rcases hT _ ht with h6 | h6
    · exact h6 h3
    · exact h4 h6
theorem UartsAt.len {w : World} {b : Nat} {K : Nat → Nat} {vp : Value} {ul : List Nat} (h : UartsAt w b K vp ul) : ∃ a c, vp = .slice a ul.length c ∧ ul.length ≤ c := by
  rcases h with ⟨rfl, rfl⟩ | ⟨gp, cap, h1, h2, _⟩
  · exact ⟨none, 0, rfl, Nat.le_refl _⟩
  · exact ⟨_, cap, h1, h2⟩
theorem UartsAt.cells {w : World} {b : Nat} {K : Nat → Nat} {vp : Value} {ul : List Nat} (h : UartsAt w b K vp ul) {k : Nat} (hk : k < ul.length) : ∃ gp cap, vp = .slice (some ⟨gp, 0, none⟩) ul.length cap ∧ ul.length ≤ cap ∧ w.cell? ⟨gp, k, none⟩ = some (.pointer (some ⟨ul.getD k 0, 0, none⟩)) := by
  rcases h with ⟨rfl, _⟩ | ⟨gp, cap, h1, h2, h3, h4, h5⟩
  · simp at hk
  · refine ⟨gp, cap, h1, h2, h5.cell ?_⟩
    rw [List.getElem?_map, List.getElem?_eq_getElem hk, List.getD_eq_getElem?_getD, List.getElem?_eq_getElem hk]; rfl
/-- The document's memory, its blocks labelled 2. -/
def MemR (w : World) (g : Nat) (K : Nat → Nat) (size : Int) (N : Nat) (m : Int → Int) : Prop := K g = 2 ∧ ∃ gl, K gl = 2 ∧ M3.RefMem w g gl 2147483648 size N m
theorem U6.UR.keeps {w w' : World} {b : Nat} {F : Nat → Prop} {t : U6.US} {T : Nat → Prop} (h : U6.UR w b F t) (o : Only T w w') (hd : ∀ i, F i → ¬ T i) : U6.UR w' b F t := by
  obtain ⟨vi, vo, h⟩ := h; exact ⟨vi, vo, h.keeps o hd⟩
theorem U6.UR.mono {w : World} {b : Nat} {F G : Nat → Prop} {t : U6.US} (h : U6.UR w b F t) (hs : ∀ i, F i → G i) (hl : ∀ i, G i → i < w.heap.size) : U6.UR w b G t := by
  obtain ⟨vi, vo, h⟩ := h; exact ⟨vi, vo, h.mono hs hl⟩
theorem U6.UR.lt {w : World} {b : Nat} {F : Nat → Prop} {t : U6.US} (h : U6.UR w b F t) : ∀ i, F i → i < w.heap.size := by
  obtain ⟨vi, vo, h⟩ := h; exact h.lt
/-- The document's bus st stands in block b; its memory's list is no longer than N. -/
structure BusR (w : World) (b : Nat) (K : Nat → Nat) (g : Nat) (vp : Value) (ul : List Nat) (N : Nat) (st : BS) : Prop where
  obj : RefAt w b g st.c st.p vp
  uarts : UartsAt w b K vp ul
  mem : MemR w g K st.size N st.m
  fits : M3.Fits 2147483648 st.size
  uart : ∀ j, j < ul.length → U6.UR w (ul.getD j 0) (fun i => K i = 3 + j) (st.us.getD j U6.u0)
  len : st.us.length = ul.length
  le : ul.length ≤ 8
  kb : K b = 1
  lt : ∀ i, ¬ K i = 0 → i < w.heap.size
  cok : st.c.ok
def RefBE (w : World) (b : Nat) (K : Nat → Nat) (g : Nat) (vp : Value) (ul : List Nat) (N : Nat) (r : Value) (st' : BS) (e : Ending) (w' : World) : Prop :=
  e = .returned r ∧ Only (fun i => ¬ K i = 0) w w' ∧ ∃ K', Grow w K K' ∧ BusR w' b K' g vp ul N st'
section
variable {w w' : World} {b g : Nat} {K : Nat → Nat} {vp : Value} {ul : List Nat} {N : Nat} {st : BS}
theorem BusR.keeps {T : Nat → Prop} (h : BusR w b K g vp ul N st) (o : Only T w w') (hT : ∀ i, ¬ K i = 0 → ¬ T i) : BusR w' b K g vp ul N st := by
  obtain ⟨hg, gl, hl, hm⟩ := h.mem
  exact ⟨h.obj.keeps o (hT _ (by rw [h.kb]; omega)), h.uarts.keeps o (fun i ht => .inl fun hk => hT i (by omega) ht) (fun _ _ => rfl), ⟨hg, gl, hl, hm.keeps o (hT _ (by omega)) (hT _ (by omega))⟩, h.fits,
    fun j hj => (h.uart j hj).keeps o fun i hi => hT i (by have : K i = 3 + j := hi; omega), h.len, h.le, h.kb, fun i hi => Nat.lt_of_lt_of_le (h.lt i hi) o.size, h.cok⟩
theorem BusR.below (h : BusR w b K g vp ul N st) (o : Below w.heap.size w w') : BusR w' b K g vp ul N st := h.keeps (Only.of_below (fun _ => False) o) fun _ _ => id
theorem BusR.more {N' : Nat} (h : BusR w b K g vp ul N st) (hN : N ≤ N') : BusR w b K g vp ul N' st := by
  obtain ⟨hg, gl, hl, hm⟩ := h.mem
  exact ⟨h.obj, h.uarts, ⟨hg, gl, hl, hm.congr (fun _ => rfl) hN⟩, h.fits, h.uart, h.len, h.le, h.kb, h.lt, h.cok⟩
theorem BusR.end_same (h : BusR w b K g vp ul N st) {r : Value} (o : Below w.heap.size w w') : RefBE w b K g vp ul N r st (.returned r) w' := ⟨rfl, Only.of_below _ o, K, Grow.refl _ _, h.below o⟩
theorem BusR.setPlic (h : BusR w b K g vp ul N st) {p' : P5.PS} (o : Only (fun i => i = b) w w') (hp : P5.In.RefP (fqP g st.c vp) w' b p') : BusR w' b K g vp ul N { st with p := p' } := by
  have kb := h.kb
  obtain ⟨hg, gl, hl, hm⟩ := h.mem
  exact ⟨RefAt.ofPlic hp, h.uarts.keeps o (fun i hi => .inr hi) (fun _ _ => rfl), ⟨hg, gl, hl, hm.keeps o (fun e => by subst e; omega) (fun e => by subst e; omega)⟩, h.fits, fun j hj => (h.uart j hj).keeps o fun i hi e => by have : K i = 3 + j := hi; subst e; omega, h.len, h.le, h.kb,
    fun i hi => Nat.lt_of_lt_of_le (h.lt i hi) o.size, h.cok⟩
theorem BusR.setClint (h : BusR w b K g vp ul N st) {c' : C4.Cl} (o : Only (fun i => i = b) w w') (hp : C4.In.RefC (fqC g st.p vp) w' b c') : BusR w' b K g vp ul N { st with c := c' } := by
  have kb := h.kb
  obtain ⟨hg, gl, hl, hm⟩ := h.mem
  exact ⟨RefAt.ofClint hp, h.uarts.keeps o (fun i hi => .inr hi) (fun _ _ => rfl), ⟨hg, gl, hl, hm.keeps o (fun e => by subst e; omega) (fun e => by subst e; omega)⟩, h.fits, fun j hj => (h.uart j hj).keeps o fun i hi e => by have : K i = 3 + j := hi; subst e; omega, h.len, h.le, h.kb,
    fun i hi => Nat.lt_of_lt_of_le (h.lt i hi) o.size, hp.2⟩
/-- A part's call: all the others stand. -/
theorem BusR.part (h : BusR w b K g vp ul N st) {k : Nat} (hk : 2 ≤ k) (o : Only (fun i => K i = k) w w') {N' : Nat} {st' : BS} (hc : st'.c = st.c) (hp : st'.p = st.p) (hs : st'.size = st.size) (hlen : st'.us.length = st.us.length)
    (hm : MemR w' g (relabel w K k w') st.size N' st'.m) (hu : ∀ j, j < ul.length → U6.UR w' (ul.getD j 0) (fun i => relabel w K k w' i = 3 + j) (st'.us.getD j U6.u0)) : BusR w' b (relabel w K k w') g vp ul N' st' := by
  have kb := h.kb
  obtain ⟨size', m', c', p', us'⟩ := st'
  simp only at hc hp hs hlen hm hu
  subst hc hp hs
  exact ⟨h.obj.keeps o (by show ¬ K b = k; omega), h.uarts.keeps o (fun i hi => .inl (by show ¬ K i = 1; have : K i = k := hi; omega)) (relabel_grow w K k w'), hm, h.fits, hu, hlen.trans h.len, h.le, relabel_old h.lt (by omega) kb, relabel_lt h.lt o.size, h.cok⟩
/-- A uart turned. -/
theorem BusR.setUart (h : BusR w b K g vp ul N st) {j : Nat} (hj : j < ul.length) {t' : U6.US} (k : U6.EndU U6.cellsR 111 w (ul.getD j 0) (fun i => K i = 3 + j) t' w') : BusR w' b (relabel w K (3 + j) w') g vp ul N { st with us := st.us.set j t' } := by
  obtain ⟨o, F', hF', hu⟩ := k
  have hu : U6.UR w' (ul.getD j 0) F' t' := hu
  obtain ⟨hg, gl, hl, hm⟩ := h.mem
  refine h.part (by omega) o rfl rfl rfl (by simp) ⟨relabel_old h.lt (by omega) hg, gl, relabel_old h.lt (by omega) hl, hm.keeps o (by show ¬ K g = 3 + j; omega) (by show ¬ K gl = 3 + j; omega)⟩ ?_
  intro i hi
  by_cases e : i = j
  · subst e
    have e1 : (st.us.set i t').getD i U6.u0 = t' := by
      rw [List.getD_eq_getElem?_getD, List.getElem?_set_self (by rw [h.len]; exact hi)]; rfl
    rw [e1]
    exact hu.mono (fun x hx => relabel_new (hF' x hx) (hu.lt x hx)) fun x hx => relabel_in h.lt o.size (by omega) hx
  · have e1 : (st.us.set j t').getD i U6.u0 = st.us.getD i U6.u0 := by
      rw [List.getD_eq_getElem?_getD, List.getD_eq_getElem?_getD, List.getElem?_set_ne (fun e' => e e'.symm)]
    rw [e1]
    exact ((h.uart i hi).keeps o fun x hx => by show ¬ K x = 3 + j; have : K x = 3 + i := hx; omega).mono (fun x hx => relabel_old h.lt (by omega) hx) fun x hx => relabel_in h.lt o.size (by omega) hx
/-- The memory turned. -/
theorem BusR.setMem (h : BusR w b K g vp ul N st) {N' : Nat} {m' : Int → Int} {r : Bool} {e : Ending} (k : ∀ gl, M3.RefMem w g gl 2147483648 st.size N st.m → M3.MemEnd w g gl 2147483648 st.size N' m' r e w') : e = .returned (.bool r) ∧ Only (fun i => K i = 2) w w' ∧ BusR w' b (relabel w K 2 w') g vp ul N' { st with m := m' } := by
  obtain ⟨hg, gl, hl, hm⟩ := h.mem
  obtain ⟨he, o0, g', hg', hR⟩ := k gl hm
  obtain ⟨g2, hg2, hlt2, hR2⟩ := M3.RefMem.norm hR
  have o : Only (fun i => K i = 2) w w' := o0.mono fun i hi => .inl (by subst hi; exact hg)
  refine ⟨he, o, h.part (by omega) o rfl rfl rfl rfl ⟨relabel_old h.lt (by omega) hg, g2, ?_, hR2⟩ ?_⟩
  · rcases hg2 with rfl | rfl
    · rcases hg' with rfl | hg'
      · exact relabel_old h.lt (by omega) hl
      · exact relabel_new (.inr hg') hlt2
    · exact relabel_old h.lt (by omega) hg
  · intro i hi
    exact ((h.uart i hi).keeps o fun x hx => by show ¬ K x = 2; have : K x = 3 + i := hx; omega).mono (fun x hx => relabel_old h.lt (by omega) hx) fun x hx => relabel_in h.lt o.size (by omega) hx
end

end Go.Proofs.YtbcnkhfpogglmaaGreatDoor

namespace Go.Proofs.YtbcnkhfpogglmaaGreatDoor
open Go.RowKit
set_option linter.unusedVariables false
set_option maxRecDepth 100000

section
variable {size a : Int} {n : Nat}
end
section
variable {w w' w1 : World} {b g : Nat} {K : Nat → Nat} {vp : Value} {ul : List Nat} {N : Nat} {st : BS}
theorem BusR.uartEnd (h : BusR w b K g vp ul N st) {i : Nat} (hi : i < ul.length) {r : Value} {t' : U6.US} {e : Ending} (k : U6.TellR w (ul.getD i 0) (fun x => K x = 3 + i) r t' e w') : RefBE w b K g vp ul N r (uartS st i t') e w' := by
  obtain ⟨he, k⟩ := k
  exact ⟨he, k.1.mono fun x hx => .inl (by show ¬ K x = 0; have : K x = 3 + i := hx; omega), _, relabel_grow w K (3 + i) w', h.setUart hi k⟩
theorem BusR.plicEnd (h : BusR w b K g vp ul N st) {r : Value} {p' : P5.PS} {e : Ending} (k : P5.In.RefPEnd (fqP g st.c vp) w b r p' e w') : RefBE w b K g vp ul N r { st with p := p' } e w' :=
  ⟨k.1, k.2.1.mono fun i hi => .inl (by subst hi; rw [h.kb]; omega), K, Grow.refl _ _, h.setPlic k.2.1 k.2.2⟩
theorem BusR.clintEnd (h : BusR w b K g vp ul N st) {r : Value} {c' : C4.Cl} {e : Ending} (k : C4.In.RefEnd (fqC g st.p vp) w b r c' e w') : RefBE w b K g vp ul N r { st with c := c' } e w' :=
  ⟨k.1, k.2.1.mono fun i hi => .inl (by subst hi; rw [h.kb]; omega), K, Grow.refl _ _, h.setClint k.2.1 k.2.2⟩
theorem BusR.ramRd (h : BusR w b K g vp ul N st) {q : Int × Bool} {e : Ending} (k : M3.ReadEnd w q e w') : RefBE w b K g vp ul N (.tuple #[.int .u64 q.1, .bool q.2]) st e w' := by
  obtain ⟨rfl, kb⟩ := k; exact h.end_same kb
theorem BusR.clRd (h : BusR w b K g vp ul N st) {x : Int} {r : Bool} {e : Ending} (k : C4.ReadC w x r e w') : RefBE w b K g vp ul N (.tuple #[.int .u64 x, .bool r]) st e w' := by
  obtain ⟨rfl, kb⟩ := k; exact h.end_same kb
theorem BusR.memEnd (h : BusR w b K g vp ul N st) {N' : Nat} {m' : Int → Int} {r : Bool} {e : Ending} (k : ∀ gl, M3.RefMem w g gl 2147483648 st.size N st.m → M3.MemEnd w g gl 2147483648 st.size N' m' r e w') : RefBE w b K g vp ul N' (.bool r) { st with m := m' } e w' := by
  obtain ⟨he, o, hp⟩ := h.setMem k
  exact ⟨he, o.mono fun i hi => .inl (by show ¬ K i = 0; have : K i = 2 := hi; omega), _, relabel_grow w K 2 w', hp⟩
theorem RefBE.more {N' : Nat} {r : Value} {st' : BS} {e : Ending} (hN : N ≤ N') (k : RefBE w b K g vp ul N r st' e w') : RefBE w b K g vp ul N' r st' e w' := by
  obtain ⟨he, o, K', hg, hp⟩ := k
  exact ⟨he, o, K', hg, hp.more hN⟩
end
end Go.Proofs.YtbcnkhfpogglmaaGreatDoor

namespace Go.Proofs.YtbcnkhfpogglmaaGreatDoor
open Go.RowKit
set_option linter.unusedVariables false
set_option maxRecDepth 100000

/-- The program's bus b says st, the document's d says su, apart, in blocks of F. -/
def Two (w : World) (F : Nat → Prop) (b d : Nat) (N : Nat) (st su : BS) : Prop :=
  ∃ g K vp ul h L vq um, BusP w b K g vp ul st ∧ BusR w d L h vq um N su ∧ (∀ i, ¬ K i = 0 → L i = 0) ∧ (∀ i, TabB i → ¬ F i) ∧ (∀ i, (¬ K i = 0 ∨ ¬ L i = 0) → F i) ∧ (∀ i, F i → i < w.heap.size)
def NewF (w w' : World) (F F' : Nat → Prop) : Prop := Only F w w' ∧ ∀ i, F' i → F i ∨ w.heap.size ≤ i
theorem NewF.same {w w' : World} (F : Nat → Prop) (h : Below w.heap.size w w') : NewF w w' F F := ⟨Only.of_below F h, fun _ => .inl⟩
theorem NewF.refl (w : World) (F : Nat → Prop) : NewF w w F F := ⟨Only.refl F w, fun _ => .inl⟩
theorem NewF.trans {w w1 w2 : World} {F F1 F2 : Nat → Prop} (h : NewF w w1 F F1) (k : NewF w1 w2 F1 F2) : NewF w w2 F F2 :=
  ⟨h.1.step k.1 h.2, fun i hi => by
    rcases k.2 i hi with a | a
    · exact h.2 i a
    · right; have := h.1.size; omega⟩
/-- What a call tells, and leaves of both. -/
def TellT (w : World) (F : Nat → Prop) (b d : Nat) (N : Nat) (r : Value) (st su : BS) (e : Ending) (w' : World) : Prop := e = .returned r ∧ ∃ F', NewF w w' F F' ∧ Two w' F' b d N st su
section
variable {w w' : World} {F : Nat → Prop} {b d N : Nat} {st su : BS}
theorem Two.below (h : Two w F b d N st su) (o : Below w.heap.size w w') : Two w' F b d N st su := by
  obtain ⟨g, K, vp, ul, h, L, vq, um, P, R, ap, tb, cov, lt⟩ := h
  exact ⟨g, K, vp, ul, h, L, vq, um, P.below o, R.below o, ap, tb, cov, fun i hi => Nat.lt_of_lt_of_le (lt i hi) o.size⟩
theorem Two.keeps {G : Nat → Prop} (h : Two w F b d N st su) (o : Only G w w') (hG : ∀ i, F i ∨ TabB i → ¬ G i) : Two w' F b d N st su := by
  obtain ⟨g, K, vp, ul, h, L, vq, um, P, R, ap, tb, cov, lt⟩ := h
  refine ⟨g, K, vp, ul, h, L, vq, um, P.keeps o fun i hi => hG i ?_, R.keeps o fun i hi => hG i (.inl (cov i (.inr hi))), ap, tb, cov, fun i hi => Nat.lt_of_lt_of_le (lt i hi) o.size⟩
  rcases hi with a | a
  · exact .inl (cov i (.inl a))
  · exact .inr a
theorem Two.lt (h : Two w F b d N st su) : ∀ i, F i → i < w.heap.size := by
  obtain ⟨g, K, vp, ul, h, L, vq, um, P, R, ap, tb, cov, lt⟩ := h
  exact lt
theorem Two.tabs (h : Two w F b d N st su) : Tabs w := by
  obtain ⟨g, K, vp, ul, h, L, vq, um, P, R, ap, tb, cov, lt⟩ := h
  exact P.tabs
theorem Two.more {N' : Nat} (h : Two w F b d N st su) (hN : N ≤ N') : Two w F b d N' st su := by
  obtain ⟨g, K, vp, ul, h, L, vq, um, P, R, ap, tb, cov, lt⟩ := h
  exact ⟨g, K, vp, ul, h, L, vq, um, P, R.more hN, ap, tb, cov, lt⟩
/-! ### the calls -/
def TellU (w : World) (F : Nat → Prop) (b d : Nat) (N : Nat) (st su : BS) (e : Ending) (w' : World) : Prop := ∃ r, TellT w F b d N r st su e w'
theorem tOut (H : Two w F b d N st su) (i : Int) : Calls Tryz.prog 17 #[.pointer (some ⟨b, 0, none⟩), .int .i64 i] w (OutE w (busOt st.us i)) := by
  obtain ⟨g, K, vp, ul, h, L, vq, um, P, R, ap, tb, cov, lt⟩ := H
  exact busOut_any P i
theorem tLines (H : Two w F b d N st su) : Calls Tryz.prog 12 #[.pointer (some ⟨b, 0, none⟩)] w (LinesE w (linesV st)) := by
  obtain ⟨g, K, vp, ul, h, L, vq, um, P, R, ap, tb, cov, lt⟩ := H
  exact busLines_any P
/-- The memories themselves: where they lie, and a write into them. -/
def memS (st : BS) (a n v : Int) : BS := { st with m := M3.writeM 2147483648 st.size st.m a n v }
end
end Go.Proofs.YtbcnkhfpogglmaaGreatDoor

namespace Go.Proofs.YtbcnkhfpogglmaaGreatDoor
open Go.RowKit Go.ChangeShapes Go.WideShapes Go.Deep
set_option linter.unusedVariables false
set_option maxRecDepth 100000

section
variable {H : Type} {enc : TypeId × Value → H} {P : Program} {w : World} {base : Nat} {spare : Nat → Bool} {held : Bool}
end
/-- An act, as the program's data tell it. -/
structure ActV where
  d : Int
  a : Int
  n : Int
  v : Int
  i : Int
/-- The act that stands in cells from an address on. -/
def ActAt (w : World) (ad : Addr) (x : ActV) : Prop :=
  w.cell? (ad.add 0) = some (.int .i64 x.d) ∧ w.cell? (ad.add 1) = some (.int .u64 x.a) ∧ w.cell? (ad.add 2) = some (.int .i64 x.n) ∧ w.cell? (ad.add 3) = some (.int .u64 x.v) ∧ w.cell? (ad.add 4) = some (.int .i64 x.i) ∧ In63 x.d ∧ In64 x.a ∧ In63 x.n ∧ In64 x.v ∧ In63 x.i
/-- The acts that stand there, in a block below B. -/
def ActsIn (B : Nat) (w : World) (v : Value) (xs : List ActV) : Prop :=
  ∃ a c, v = .slice a xs.length c ∧ xs.length ≤ maxLen ∧ (xs = [] ∨ ∃ b off, a = some ⟨b, off, none⟩ ∧ b < B ∧ ∀ i (h : i < xs.length), ActAt w ⟨b, off + i * 5, none⟩ xs[i])
theorem ActAt.below {B : Nat} {w w' : World} {b off : Nat} {x : ActV} (h : ActAt w ⟨b, off, none⟩ x) (k : Below B w w') (hb : b < B) : ActAt w' ⟨b, off, none⟩ x := by
  unfold ActAt at *
  simp only [add_none] at *
  obtain ⟨h0, h1, h2, h3, h4, hr⟩ := h
  exact ⟨(k.cell (p := ⟨b, off + 0, none⟩) hb).trans h0, (k.cell (p := ⟨b, off + 1, none⟩) hb).trans h1, (k.cell (p := ⟨b, off + 2, none⟩) hb).trans h2, (k.cell (p := ⟨b, off + 3, none⟩) hb).trans h3, (k.cell (p := ⟨b, off + 4, none⟩) hb).trans h4, hr⟩
theorem ActsIn.below {B : Nat} {w w' : World} {v : Value} {xs : List ActV} (h : ActsIn B w v xs) (k : Below B w w') : ActsIn B w' v xs := by
  obtain ⟨a, c, hv, hm, h⟩ := h
  refine ⟨a, c, hv, hm, ?_⟩
  rcases h with h | ⟨b, off, ha, hb, hc⟩
  · exact .inl h
  · exact .inr ⟨b, off, ha, hb, fun i hi => (hc i hi).below k hb⟩
end Go.Proofs.YtbcnkhfpogglmaaGreatDoor

namespace Go.Proofs.YtbcnkhfpogglmaaGreatDoor
open Go.RowKit
set_option linter.unusedVariables false
set_option maxRecDepth 100000

/-- The act's box. -/
def BoxA (w : World) (q : Nat) (x : ActV) : Prop := w.heap[q]? = some (.cells #[.int .i64 x.d, .int .u64 x.a, .int .i64 x.n, .int .u64 x.v, .int .i64 x.i] 50 (0, 0))
theorem BoxA.cells {w : World} {q : Nat} {x : ActV} (h : BoxA w q x) : w.cell? ⟨q, 0, none⟩ = some (.int .i64 x.d) ∧ w.cell? ⟨q, 1, none⟩ = some (.int .u64 x.a) ∧ w.cell? ⟨q, 2, none⟩ = some (.int .i64 x.n) ∧ w.cell? ⟨q, 3, none⟩ = some (.int .u64 x.v) ∧ w.cell? ⟨q, 4, none⟩ = some (.int .i64 x.i) := by
  refine ⟨?_, ?_, ?_, ?_, ?_⟩ <;> (rw [cell_of_row w q _ _ _ _ h]; rfl)
theorem BoxA.lt {w : World} {q : Nat} {x : ActV} (h : BoxA w q x) : q < w.heap.size := (Array.getElem?_eq_some_iff.1 h).1
theorem BoxA.keeps {w w' : World} {q : Nat} {x : ActV} {S : Nat → Prop} (h : BoxA w q x) (o : Only S w w') (hq : ¬ S q) : BoxA w' q x := Only.keeps o hq h
theorem BoxA.below {w w' : World} {q : Nat} {x : ActV} (h : BoxA w q x) (o : Below w.heap.size w w') : BoxA w' q x := (o.block q h.lt).trans h
abbrev actV (x : ActV) : Value := .agg #[.int .i64 x.d, .int .u64 x.a, .int .i64 x.n, .int .u64 x.v, .int .i64 x.i]
/-- In the midst of an act: both, apart, and the act's box. -/
structure Bx (w0 w : World) (F0 F : Nat → Prop) (x : ActV) (q b d : Nat) (N : Nat) (st su : BS) : Prop where
  new : NewF w0 w F0 F
  two : Two w F b d N st su
  box : BoxA w q x
  far : ¬ F q
theorem Bx.below {w0 w w' : World} {F0 F : Nat → Prop} {x : ActV} {q b d N : Nat} {st su : BS} (h : Bx w0 w F0 F x q b d N st su) (o : Below w.heap.size w w') : Bx w0 w' F0 F x q b d N st su :=
  ⟨h.new.trans (NewF.same F o), h.two.below o, (o.block q h.box.lt).trans h.box, h.far⟩
/-- What an act leaves of both. -/
def BothE (w : World) (F : Nat → Prop) (b d N : Nat) (e : Ending) (w' : World) : Prop := e = .returned (.bool true) ∧ ∃ F' st', NewF w w' F F' ∧ Two w' F' b d (N + 8) st' st'
theorem Bx.done {w0 w : World} {F0 F : Nat → Prop} {x : ActV} {q b d N N' : Nat} {st : BS} (h : Bx w0 w F0 F x q b d N' st st) (hN : N' ≤ N + 8) {r : Value} (hr : r = .bool true) : BothE w0 F0 b d N (.returned r) w := by
  subst hr; exact ⟨rfl, F, st, h.new, h.two.more hN⟩
theorem out_len {w : World} {F : Nat → Prop} {b d N : Nat} {st su : BS} (h : Two w F b d N st su) (i : Int) : (busOt st.us i).length ≤ 70000 := by
  obtain ⟨g, K, vp, ul, h, L, vq, um, P, R, ap, tb, cov, lt⟩ := h
  unfold busOt
  by_cases c : isU st.us.length i = true
  · rw [if_pos c]
    have hi := isU_nat c
    obtain ⟨k, rfl, hk⟩ := hi
    obtain ⟨vi, vo, hh⟩ := P.uart k (by rw [← P.len]; exact hk)
    have := hh.ok.lo
    simp only [Int.toNat_natCast]
    omega
  · rw [if_neg c]; exact Nat.zero_le _

def NoneE (w : World) (e : Ending) (w' : World) : Prop := e = .returned (.bool true) ∧ Below w.heap.size w w'
section
variable {w : World} {F : Nat → Prop} {b d N : Nat} {st : BS}
end
end Go.Proofs.YtbcnkhfpogglmaaGreatDoor

namespace Go.Proofs.YtbcnkhfpogglmaaGreatDoor.P5
open Go.RowKit M3
set_option linter.unusedVariables false
set_option maxRecDepth 100000

theorem extract_varr (n : Nat) (f : Nat → Value) (a k : Nat) (h : a + k ≤ n) : (varr n f).extract a (a + k) = varr k fun i => f (a + i) := by
  unfold varr
  apply Array.ext'
  simp only [List.extract_toArray]
  apply List.ext_getElem?
  intro i
  simp only [List.extract_eq_take_drop, List.getElem?_take, List.getElem?_drop, List.getElem?_map, List.getElem?_range]
  by_cases hi : i < k
  · rw [if_pos (by omega)]
    rw [List.getElem?_range (by omega), List.getElem?_range hi]; rfl
  · rw [if_neg (by omega), List.getElem?_eq_none (by simp; omega)]; rfl

section
variable {P : Program} (w : World)
theorem run_part_one {e : TypeId} (ha : (isAgg e).run P w = .ok false w) {n : Nat} {f : Nat → Value} {i : Nat} (h : i < n) : (part e (varr n f) i).run P w = .ok (f i) w := by
  simp [part, ha, varr_get n f i h]
theorem run_part_row {e : TypeId} {k : Nat} (ha : (isAgg e).run P w = .ok true w) (hs : (sizeOf e).run P w = .ok k w) {n : Nat} {f : Nat → Value} {i : Nat} (h : i + k ≤ n) : (part e (varr n f) i).run P w = .ok (.agg (varr k fun j => f (i + j))) w := by
  simp [part, ha, hs, extract_varr n f i k h]
/-- '==' of two arrays, where the elements' is known. -/
theorem run_alls {d : Nat} {e : TypeId} {sz : Nat} (xs ys : Array Value) (q : Nat → Bool) (l : List Nat)
    (h : ∀ i ∈ l, ∃ x y, (part e xs (i * sz)).run P w = .ok x w ∧ (part e ys (i * sz)).run P w = .ok y w ∧ (Op.equalIn d e x y).run P w = .ok (q i) w) :
    ((forIn l ((none, ()) : Option Bool × Unit) fun i _ => do
        let x ← part e xs (i * sz)
        let y ← part e ys (i * sz)
        let r ← Op.equalIn d e x y
        if (!r) = true then pure (ForInStep.done (some false, ())) else pure (ForInStep.yield (none, ()))).run P w) =
      .ok (if l.all q = true then (none, ()) else (some false, ())) w := by
  induction l with
  | nil => simp
  | cons i l ih =>
    obtain ⟨x, y, h1, h2, h3⟩ := h i (by simp)
    have ih := ih fun j hj => h j (by simp [hj])
    rw [List.forIn_cons]
    simp only [Sem.run_bind, h1, h2, h3, Result.andThen_ok]
    cases hc : q i
    · simp [hc]
    · simp only [Bool.not_true, Bool.false_eq_true, if_false, Sem.run_pure, Result.andThen_ok, List.all_cons, hc, Bool.true_and]
      exact ih
theorem run_equalIn_arr {d : Nat} {t e : TypeId} {n sz : Nat} (ht : P.underlying t = some (.array n e)) (hs : (sizeOf e).run P w = .ok sz w) (xs ys : Array Value) (q : Nat → Bool)
    (h : ∀ i, i < n → ∃ x y, (part e xs (i * sz)).run P w = .ok x w ∧ (part e ys (i * sz)).run P w = .ok y w ∧ (Op.equalIn d e x y).run P w = .ok (q i) w) :
    (Op.equalIn (d + 1) t (.agg xs) (.agg ys)).run P w = .ok ((List.range n).all q) w := by
  rw [Op.equalIn]
  simp only [Sem.run_bind, run_underlying ht, Result.andThen_ok, hs]
  rw [Std.Legacy.Range.forIn_eq_forIn_range']
  simp only [Std.Legacy.Range.size]
  have e1 : (n - 0 + 1 - 1) / 1 = n := by simp
  rw [e1, ← List.range_eq_range', run_alls w xs ys q (List.range n) fun i hi => h i (List.mem_range.1 hi), Result.andThen_ok]
  cases (List.range n).all q <;> simp
/-- '==' of two structs, field by field. -/
theorem run_fields_nil (d : Nat) (xs ys : Array Value) : (Op.eqFields d xs ys []).run P w = .ok true w := rfl
theorem run_fields_cons {d : Nat} {xs ys : Array Value} {f : Field} {fs : List Field} {x y : Value} {r s : Bool} (hn : f.name ≠ "_") (h1 : (part f.type xs f.offset).run P w = .ok x w) (h2 : (part f.type ys f.offset).run P w = .ok y w)
    (h3 : (Op.equalIn d f.type x y).run P w = .ok r w) (h4 : (Op.eqFields d xs ys fs).run P w = .ok s w) : (Op.eqFields d xs ys (f :: fs)).run P w = .ok (r && s) w := by
  unfold Op.eqFields
  rw [if_pos hn]
  simp only [Sem.run_bind, h1, h2, h3, Result.andThen_ok]
  cases r
  · simp
  · simp [h4]
end

def eqQ (t u : PS) : Bool :=
  (bits32 t.up == bits32 u.up) && ((bits32 t.pend == bits32 u.pend) && ((bits32 t.busy == bits32 u.busy) && (((List.range 32).all fun s => t.prio s == u.prio s) && (((List.range 2).all fun c => bits32 (fun s => t.on s c) == bits32 (fun s => u.on s c)) && (((List.range 2).all fun c => t.floor c == u.floor c) && true)))))
theorem eq_prog (t u : PS) (w : World) : (Op.equalIn 10000 69 (.agg (varr 39 (cellQ t))) (.agg (varr 39 (cellQ u)))).run Tryz.prog w = .ok (eqQ t u) w := by
  rw [run_equalIn_struct w 9999 69 _ _ (by kernel_rfl) (by kernel_rfl)]
  simp only [Program.fieldsOf, Tryz.underlying69]
  have a22 : ∀ w, (isAgg 64).run Tryz.prog w = .ok false w := fun _ => by kernel_rfl
  have a5 : ∀ w, (isAgg 5).run Tryz.prog w = .ok false w := fun _ => by kernel_rfl
  have s22 : ∀ w, (sizeOf 64).run Tryz.prog w = .ok 1 w := fun _ => by kernel_rfl
  have s5 : ∀ w, (sizeOf 5).run Tryz.prog w = .ok 1 w := fun _ => by kernel_rfl
  unfold eqQ
  refine run_fields_cons w (by decide) (run_part_one w (a22 w) (by decide)) (run_part_one w (a22 w) (by decide)) (run_equalIn_int w 9998 _ .u32 .u32 _ _ Tryz.underlying64) ?_
  refine run_fields_cons w (by decide) (run_part_one w (a22 w) (by decide)) (run_part_one w (a22 w) (by decide)) (run_equalIn_int w 9998 _ .u32 .u32 _ _ Tryz.underlying64) ?_
  refine run_fields_cons w (by decide) (run_part_one w (a22 w) (by decide)) (run_part_one w (a22 w) (by decide)) (run_equalIn_int w 9998 _ .u32 .u32 _ _ Tryz.underlying64) ?_
  refine run_fields_cons w (by decide) (run_part_row w (k := 32) (by kernel_rfl) (by kernel_rfl) (by decide)) (run_part_row w (k := 32) (by kernel_rfl) (by kernel_rfl) (by decide))
    (run_equalIn_arr w Tryz.underlying65 (s5 w) _ _ _ fun i hi => ⟨.int .u8 (t.prio i), .int .u8 (u.prio i), ?_, ?_, run_equalIn_int w 9997 _ .u8 .u8 _ _ Tryz.underlying5⟩) ?_
  · rw [Nat.mul_one, run_part_one w (a5 w) hi, cellQ_prio t hi]
  · rw [Nat.mul_one, run_part_one w (a5 w) hi, cellQ_prio u hi]
  refine run_fields_cons w (by decide) (run_part_row w (k := 2) (by kernel_rfl) (by kernel_rfl) (by decide)) (run_part_row w (k := 2) (by kernel_rfl) (by kernel_rfl) (by decide))
    (run_equalIn_arr w Tryz.underlying66 (s22 w) _ _ _ fun i hi => ⟨.int .u32 (bits32 fun s => t.on s i), .int .u32 (bits32 fun s => u.on s i), ?_, ?_, run_equalIn_int w 9997 _ .u32 .u32 _ _ Tryz.underlying64⟩) ?_
  · rw [Nat.mul_one, run_part_one w (a22 w) hi, cellQ_on t hi]
  · rw [Nat.mul_one, run_part_one w (a22 w) hi, cellQ_on u hi]
  refine run_fields_cons w (by decide) (run_part_row w (k := 2) (by kernel_rfl) (by kernel_rfl) (by decide)) (run_part_row w (k := 2) (by kernel_rfl) (by kernel_rfl) (by decide))
    (run_equalIn_arr w Tryz.underlying67 (s5 w) _ _ _ fun i hi => ⟨.int .u8 (t.floor i), .int .u8 (u.floor i), ?_, ?_, run_equalIn_int w 9997 _ .u8 .u8 _ _ Tryz.underlying5⟩) ?_
  · rw [Nat.mul_one, run_part_one w (a5 w) hi, cellQ_floor t hi]
  · rw [Nat.mul_one, run_part_one w (a5 w) hi, cellQ_floor u hi]
  exact run_fields_nil w _ _ _

def eqS (t u : PS) (s : Nat) : Bool := (t.prio s == u.prio s) && ((t.up s == u.up s) && ((t.pend s == u.pend s) && ((t.busy s == u.busy s) && (((List.range 2).all fun c => t.on s c == u.on s c) && true))))
def eqR (t u : PS) : Bool := ((List.range 32).all fun s => eqS t u s) && (((List.range 2).all fun c => t.floor c == u.floor c) && true)
/-- Equal here just where equal there. -/
theorem eq_both (t u : PS) : eqQ t u = eqR t u := by
  rw [Bool.eq_iff_iff]
  unfold eqQ eqR eqS
  simp only [Bool.and_true, Bool.and_eq_true, beq_iff_eq, List.all_eq_true, List.mem_range]
  constructor
  · rintro ⟨h1, h2, h3, h4, h5, h6⟩
    exact ⟨fun s hs => ⟨h4 s hs, bits32_inj h1 hs, bits32_inj h2 hs, bits32_inj h3 hs, fun c hc => bits32_inj (h5 c hc) hs⟩, h6⟩
  · rintro ⟨h, h6⟩
    exact ⟨bits32_congr fun s hs => (h s hs).2.1, bits32_congr fun s hs => (h s hs).2.2.1, bits32_congr fun s hs => (h s hs).2.2.2.1, fun s hs => (h s hs).1, fun c hc => bits32_congr fun s hs => (h s hs).2.2.2.2 c hc, h6⟩
/-- As the walk meets them. -/
theorem eql_prog (t u : PS) (w : World) : (binOp .eql 69 (.agg (varr 39 (cellQ t))) (.agg (varr 39 (cellQ u)))).run Tryz.prog w = .ok (.bool (eqQ t u)) w := by
  rw [run_eql_struct, eq_prog]; rfl
end Go.Proofs.YtbcnkhfpogglmaaGreatDoor.P5

namespace Go.Proofs.YtbcnkhfpogglmaaGreatDoor.U6
open Go.RowKit
set_option linter.unusedVariables false
set_option maxRecDepth 100000

/-- What the document's Same meets on its way: two strings of each, marks, registers. -/
structure Meets (w : World) (a b : Nat) (t u : US) (s1 s2 s3 s4 : ByteArray) (vi vo ui uo : Value) : Prop where
  e1 : ∀ n, (convert 40 9 vi).run Tryz.prog (w.drewN n) = .ok (.string s1) (w.drewN n)
  e2 : ∀ n, (convert 40 9 ui).run Tryz.prog (w.drewN n) = .ok (.string s2) (w.drewN n)
  e3 : ∀ n, (convert 40 9 vo).run Tryz.prog (w.drewN n) = .ok (.string s3) (w.drewN n)
  e4 : ∀ n, (convert 40 9 uo).run Tryz.prog (w.drewN n) = .ok (.string s4) (w.drewN n)
  a_lost : w.cell? ⟨a, 9, none⟩ = some (.bool t.lost)
  b_lost : w.cell? ⟨b, 9, none⟩ = some (.bool u.lost)
  a_sent : w.cell? ⟨a, 10, none⟩ = some (.bool t.sent)
  b_sent : w.cell? ⟨b, 10, none⟩ = some (.bool u.sent)
  a_ier : w.cell? ⟨a, 2, none⟩ = some (.int .u8 t.ier)
  b_ier : w.cell? ⟨b, 2, none⟩ = some (.int .u8 u.ier)
  a_fcr : w.cell? ⟨a, 3, none⟩ = some (.int .u8 t.fcr)
  b_fcr : w.cell? ⟨b, 3, none⟩ = some (.int .u8 u.fcr)
  a_lcr : w.cell? ⟨a, 4, none⟩ = some (.int .u8 t.lcr)
  b_lcr : w.cell? ⟨b, 4, none⟩ = some (.int .u8 u.lcr)
  a_mcr : w.cell? ⟨a, 5, none⟩ = some (.int .u8 t.mcr)
  b_mcr : w.cell? ⟨b, 5, none⟩ = some (.int .u8 u.mcr)
  a_scr : w.cell? ⟨a, 6, none⟩ = some (.int .u8 t.scr)
  b_scr : w.cell? ⟨b, 6, none⟩ = some (.int .u8 u.scr)
  a_dl : w.cell? ⟨a, 7, none⟩ = some (.int .u8 t.dl)
  b_dl : w.cell? ⟨b, 7, none⟩ = some (.int .u8 u.dl)
  a_dm : w.cell? ⟨a, 8, none⟩ = some (.int .u8 t.dm)
  b_dm : w.cell? ⟨b, 8, none⟩ = some (.int .u8 u.dm)
  a0 : w.cell? ⟨a, 0, none⟩ = some vi
  a1 : w.cell? ⟨a, 1, none⟩ = some vo
  b0 : w.cell? ⟨b, 0, none⟩ = some ui
  b1 : w.cell? ⟨b, 1, none⟩ = some uo
  c1 : (s1.toList == s2.toList) = decide (t.inn = u.inn)
  c2 : (s3.toList == s4.toList) = decide (t.out = u.out)
theorem Meets.drewN {w : World} {a b : Nat} {t u : US} {s1 s2 s3 s4 : ByteArray} {vi vo ui uo : Value} (h : Meets w a b t u s1 s2 s3 s4 vi vo ui uo) (k : Nat) : Meets (w.drewN k) a b t u s1 s2 s3 s4 vi vo ui uo := by
  obtain ⟨e1, e2, e3, e4, x1, x2, x3, x4, x5, x6, x7, x8, x9, x10, x11, x12, x13, x14, x15, x16, x17, x18, a0, a1, b0, b1, c1, c2⟩ := h
  exact ⟨fun n => by rw [World.drewN_drewN]; exact e1 _, fun n => by rw [World.drewN_drewN]; exact e2 _, fun n => by rw [World.drewN_drewN]; exact e3 _, fun n => by rw [World.drewN_drewN]; exact e4 _, x1, x2, x3, x4, x5, x6, x7, x8, x9, x10, x11, x12, x13, x14, x15, x16, x17, x18, a0, a1, b0, b1, c1, c2⟩
end Go.Proofs.YtbcnkhfpogglmaaGreatDoor.U6

namespace Go.Proofs.YtbcnkhfpogglmaaGreatDoor
open Go.RowKit
set_option linter.unusedVariables false
set_option maxRecDepth 100000

/-- The law's own pair: one state, in blocks that are the law's. -/
def OwnT (w0 w : World) (b d N : Nat) (st : BS) : Prop := Below w0.heap.size w0 w ∧ ∃ F, Two w F b d N st st ∧ ∀ i, F i → w0.heap.size ≤ i
section
variable {w0 w w' : World} {b d N : Nat} {st : BS}
theorem OwnT.below (h : OwnT w0 w b d N st) (o : Below w.heap.size w w') : OwnT w0 w' b d N st := by
  obtain ⟨hb, F, ht, hF⟩ := h
  exact ⟨hb.trans (o.mono hb.size), F, ht.below o, hF⟩
theorem OwnT.lines (h : OwnT w0 w b d N st) : Calls Tryz.prog 12 #[.pointer (some ⟨b, 0, none⟩)] w (LinesE w (linesV st)) := by
  obtain ⟨hb, F, ht, hF⟩ := h
  exact tLines ht
theorem OwnT.out (h : OwnT w0 w b d N st) (i : Int) : Calls Tryz.prog 17 #[.pointer (some ⟨b, 0, none⟩), .int .i64 i] w (OutE w (busOt st.us i)) := by
  obtain ⟨hb, F, ht, hF⟩ := h
  exact tOut ht i
theorem OwnT.len (h : OwnT w0 w b d N st) (i : Int) : (busOt st.us i).length ≤ 70000 := by
  obtain ⟨hb, F, ht, hF⟩ := h
  exact out_len ht i
/-- A twin's pair, and the old one, apart. -/
def TrioT (w0 w : World) (b d N : Nat) (st : BS) (bo : Nat) (so : BS) : Prop :=
  Below w0.heap.size w0 w ∧ ∃ F g K vp ul, Two w F b d N st st ∧ BusP w bo K g vp ul so ∧ (∀ i, ¬ K i = 0 → ¬ F i) ∧ ∀ i, (F i ∨ ¬ K i = 0) → w0.heap.size ≤ i
theorem TrioT.call {bo : Nat} {so so' : BS} (h : TrioT w0 w b d N st bo so) {r : Value} {f : FuncId} {args : Array Value} (hc : ∀ K g vp ul, BusP w bo K g vp ul so → Calls Tryz.prog f args w (BusEnd w bo K g vp ul r so')) : Calls Tryz.prog f args w fun e w' => e = .returned r ∧ TrioT w0 w' b d N st bo so' := by
  have h' := h
  obtain ⟨hb, F, g, K, vp, ul, ht, P, dj, hF⟩ := h
  refine (hc K g vp ul P).mono fun e w' k => ?_
  obtain ⟨he, o, K', hg, P'⟩ := k
  refine ⟨he, Below.thenOnly hb o (fun i hi => hF i (.inr hi)) hb.size, F, g, K', vp, ul, ht.keeps o fun i hi hk => ?_, P', fun i hi hx => ?_, fun i hi => ?_⟩
  · rcases hi with a | a
    · exact dj i hk a
    · exact hk (P.kt i a)
  · by_cases c : i < w.heap.size
    · rw [hg i c] at hi; exact dj i hi hx
    · have := ht.lt i hx; omega
  · rcases hi with a | a
    · exact hF i (.inl a)
    · by_cases c : i < w.heap.size
      · rw [hg i c] at a; exact hF i (.inr a)
      · have := hb.size; omega
theorem TrioT.write {bo : Nat} {so : BS} (h : TrioT w0 w b d N st bo so) (a n v : Int) (ha : In64 a) (hv : In64 v) : Calls Tryz.prog 9 #[.pointer (some ⟨bo, 0, none⟩), .int .u64 a, .int .i64 n, .int .u64 v] w fun e w' => ∃ r so', e = .returned r ∧ TrioT w0 w' b d N st bo so' :=
  (h.call fun K g vp ul P => busWrite_any P a n v ha hv).mono fun e w' ⟨he, k⟩ => ⟨_, _, he, k⟩
theorem TrioT.own {bo : Nat} {so : BS} (h : TrioT w0 w b d N st bo so) : OwnT w0 w b d N st := by
  obtain ⟨hb, F, g, K, vp, ul, ht, P, dj, hF⟩ := h
  exact ⟨hb, F, ht, fun i hi => hF i (.inl hi)⟩
end
end Go.Proofs.YtbcnkhfpogglmaaGreatDoor

namespace Go.Proofs.YtbcnkhfpogglmaaGreatDoor
open Go.RowKit
set_option linter.unusedVariables false
set_option maxRecDepth 100000

section
variable {w : World} {a b g h : Nat} {K L : Nat → Nat} {vp vq : Value} {ul um : List Nat} {N M : Nat} {st su : BS}
def SameE7 (w : World) (p : Prop) (e : Ending) (w' : World) : Prop := Below w.heap.size w w' ∧ ∃ r : Bool, e = .returned (.bool r) ∧ (r = true ↔ p)
end

end Go.Proofs.YtbcnkhfpogglmaaGreatDoor

namespace Go.Proofs.YtbcnkhfpogglmaaGreatDoor
open Go.RowKit
set_option linter.unusedVariables false
set_option maxRecDepth 100000

section
variable {w : World} {a b g h : Nat} {K L : Nat → Nat} {vp vq : Value} {ul um : List Nat} {N M : Nat} {st su : BS}
/-- What the document's Same asks. -/
def SameB (st su : BS) : Prop := st.us.length = su.us.length ∧ st.c = su.c ∧ P5.eqR st.p su.p = true ∧ st.size = su.size ∧ (∀ y, st.m y = su.m y) ∧ ∀ j, j < st.us.length → U6.sameU (st.us.getD j U6.u0) (su.us.getD j U6.u0) = true
end

end Go.Proofs.YtbcnkhfpogglmaaGreatDoor

namespace Go.Proofs.YtbcnkhfpogglmaaGreatDoor
open Go.RowKit
set_option linter.unusedVariables false
set_option maxRecDepth 100000

section
variable {P : Program}
theorem yield_eql7 {op : Oper} {a : Act} {w : World} (t ty : TypeId) (x y : Operand) (ho : op.op = .binOp .eql t x y ty) (xs ys : Array Value) (hx : a.eval x = .agg xs) (hy : a.eval y = .agg ys) (hm : P.eqGuardType P.depth t = false) (r : Bool)
    (hr : (binOp .eql t (.agg xs) (.agg ys)).run P w = .ok (.bool r) w) : (execOp a.eval op).run P w = .ok (.value (.bool r)) w := by
  unfold execOp
  simp only [ho, hx, hy, Sem.run_bind, run_eqGuard_agg w .eql t x y _ _ hm, hr, Result.andThen_ok, Sem.run_pure]
end
def rowCp (c : C4.Cl) : Array Value := #[.bool c.s, .int .u64 c.c, .int .u64 c.n]
def eqCp (c d : C4.Cl) : Bool := (c.s == d.s) && (((c.c == d.c) && ((c.n == d.n) && true)) && true)
theorem part_times (c : C4.Cl) (w : World) : (part 60 (rowCp c) 1).run Tryz.prog w = .ok (.agg #[.int .u64 c.c, .int .u64 c.n]) w := by
  obtain ⟨s, a, n⟩ := c
  kernel_rfl
theorem eq_times (a b c d : Int) (w : World) : (Op.equalIn 9999 60 (.agg #[.int .u64 a, .int .u64 b]) (.agg #[.int .u64 c, .int .u64 d])).run Tryz.prog w = .ok ((a == c) && ((b == d) && true)) w := by
  rw [run_equalIn_struct w 9998 60 _ _ (by kernel_rfl) (by kernel_rfl)]
  simp only [Program.fieldsOf, Tryz.underlying60]
  have a30 : ∀ w, (isAgg 26).run Tryz.prog w = .ok false w := fun _ => by kernel_rfl
  refine P5.run_fields_cons w (by decide) (x := .int .u64 a) (y := .int .u64 c) (by simp [part, a30 w]) (by simp [part, a30 w]) (run_equalIn_int w 9997 _ .u64 .u64 _ _ Tryz.underlying26) ?_
  refine P5.run_fields_cons w (by decide) (x := .int .u64 b) (y := .int .u64 d) (by simp [part, a30 w]) (by simp [part, a30 w]) (run_equalIn_int w 9997 _ .u64 .u64 _ _ Tryz.underlying26) ?_
  exact P5.run_fields_nil w _ _ _
theorem eq_progc (c d : C4.Cl) (w : World) : (Op.equalIn 10000 62 (.agg (rowCp c)) (.agg (rowCp d))).run Tryz.prog w = .ok (eqCp c d) w := by
  rw [run_equalIn_struct w 9999 62 _ _ (by kernel_rfl) (by kernel_rfl)]
  simp only [Program.fieldsOf, Tryz.underlying62]
  have a31 : ∀ w, (isAgg 4).run Tryz.prog w = .ok false w := fun _ => by kernel_rfl
  unfold eqCp
  refine P5.run_fields_cons w (by decide) (x := .bool c.s) (y := .bool d.s) (by simp [part, a31 w, rowCp]) (by simp [part, a31 w, rowCp]) (run_equalIn_bool' w 9998 _ _ _ Tryz.underlying4) ?_
  refine P5.run_fields_cons w (by decide) (x := .agg #[.int .u64 c.c, .int .u64 c.n]) (y := .agg #[.int .u64 d.c, .int .u64 d.n]) (part_times c w) (part_times d w) (eq_times _ _ _ _ w) ?_
  exact P5.run_fields_nil w _ _ _
theorem eqCp_iff (c d : C4.Cl) : eqCp c d = true ↔ c = d := by
  obtain ⟨s1, c1, n1⟩ := c
  obtain ⟨s2, c2, n2⟩ := d
  unfold eqCp
  simp only [Bool.and_true, Bool.and_eq_true, beq_iff_eq, C4.Cl.mk.injEq]
theorem BusAt.rangeCp {w : World} {b g : Nat} {c : C4.Cl} {p : P5.PS} {vp : Value} {R : Array Value} (h : BusAt w b g c p vp R) : w.rangeAt b 1 (rowCp c).toList := Fr.range (frC g p vp R) (by have h' := h; unfold BusAt at h'; rw [busRow_c] at h'; exact h')
theorem U6.UP.below7 {w w' : World} {b : Nat} {F : Nat → Prop} {t : U6.US} (h : U6.UP w b F t) (o : Below w.heap.size w w') : U6.UP w' b F t := h.keeps (Only.of_below (fun _ => False) o) fun _ _ => id
set_option maxHeartbeats 1000000 in
theorem samePort_any (w : World) (u v : Nat) (pa pb : Value) (xa xb : Int) (hpa : ∃ p, pa = .pointer p) (hpb : ∃ p, pb = .pointer p) (Fa Fb : Nat → Prop) (t s : U6.US) (h : U6.UP w u Fa t) (k : U6.UP w v Fb s) :
    Calls Tryz.prog 51 #[.agg #[.pointer (some ⟨u, 0, none⟩), pa, .int .i64 xa], .agg #[.pointer (some ⟨v, 0, none⟩), pb, .int .i64 xb]] w (U6.SaysB w (U6.sameU t s)) := by
  obtain ⟨pa, rfl⟩ := hpa
  obtain ⟨pb, rfl⟩ := hpb
  have HC : Hid (∀ wx, Below w.heap.size w wx → Calls Tryz.prog 95 #[.pointer (some ⟨u, 0, none⟩), .pointer (some ⟨v, 0, none⟩)] wx (U6.SaysB wx (U6.sameU t s))) := Lib.hid fun wx o => U6.same_any wx u v Fa Fb t s (h.below7 o) (k.below7 o)
  clear h k
  generalize U6.sameU t s = r at *
  go_enter Tryz.func51, Tryz.ntmps51
  go_wp2_with fail
  (with_reducible refine (HC.out _ (((Below.refl _ _).alloc (Nat.le_refl _) _).alloc (by simp) _)).mono ?_)
  rintro e w1 ⟨rfl, hb⟩
  have HB := Lib.hid ((((Below.refl _ _).alloc (Nat.le_refl _) _).alloc (by simp) _).trans (hb.mono (by simp; omega)))
  clear hb
  go_wp2
  go_ret
  exact ⟨rfl, HB.out⟩
section
variable {w : World} {a b g h : Nat} {K L : Nat → Nat} {vp vq : Value} {ul um : List Nat} {st su : BS}
set_option maxHeartbeats 2000000 in
theorem equalPorts_any (H : BusP w a K g vp ul st) (I : BusP w b L h vq um su) : Calls Tryz.prog 50 #[vp, vq, .func (.func 51) #[] #[]] w (SameE7 w (ul.length = um.length ∧ ∀ j, j < ul.length → U6.sameU (st.us.getD j U6.u0) (su.us.getD j U6.u0) = true)) := by
  have HAA : Hid (∀ wx j, Below w.heap.size w wx → j < ul.length → ∃ gp cap, vp = .slice (some ⟨gp, 0, none⟩) ul.length cap ∧ ul.length ≤ cap ∧ wx.cell? ⟨gp, j * 3, none⟩ = some (.pointer (some ⟨ul.getD j 0, 0, none⟩)) ∧ wx.cell? ⟨gp, j * 3 + 1, none⟩ = some (.pointer (some ⟨a, 4, none⟩)) ∧ wx.cell? ⟨gp, j * 3 + 2, none⟩ = some (.int .i64 (10 + (j : Int)))) := Lib.hid fun wx j o hj => (H.below o).ports.cells hj
  have HBB : Hid (∀ wx j, Below w.heap.size w wx → j < um.length → ∃ gp cap, vq = .slice (some ⟨gp, 0, none⟩) um.length cap ∧ um.length ≤ cap ∧ wx.cell? ⟨gp, j * 3, none⟩ = some (.pointer (some ⟨um.getD j 0, 0, none⟩)) ∧ wx.cell? ⟨gp, j * 3 + 1, none⟩ = some (.pointer (some ⟨b, 4, none⟩)) ∧ wx.cell? ⟨gp, j * 3 + 2, none⟩ = some (.int .i64 (10 + (j : Int)))) := Lib.hid fun wx j o hj => (I.below o).ports.cells hj
  have HUU : Hid (∀ wx j, Below w.heap.size w wx → j < ul.length → j < um.length → Calls Tryz.prog 51 #[.agg #[.pointer (some ⟨ul.getD j 0, 0, none⟩), .pointer (some ⟨a, 4, none⟩), .int .i64 (10 + (j : Int))], .agg #[.pointer (some ⟨um.getD j 0, 0, none⟩), .pointer (some ⟨b, 4, none⟩), .int .i64 (10 + (j : Int))]] wx (U6.SaysB wx (U6.sameU (st.us.getD j U6.u0) (su.us.getD j U6.u0)))) := Lib.hid fun wx j o h1 h2 => samePort_any wx _ _ _ _ _ _ ⟨_, rfl⟩ ⟨_, rfl⟩ _ _ _ _ ((H.below o).uart j h1) ((I.below o).uart j h2)
  obtain ⟨av, cv, rfl, hcap⟩ := H.ports.len
  obtain ⟨aw, cw, rfl, hcaw⟩ := I.ports.len
  have hle := H.le
  have hlf := I.le
  clear H I
  generalize ul.length = n at *
  generalize um.length = m at *
  by_cases hne : n = m
  rotate_left
  · have hq : ((n : Int) != (m : Int)) = true := by rw [bne_iff_ne]; omega
    have hq2 : (n != m) = true := by simpa using hne
    have HNE := Lib.hid hne
    clear hne
    go_enter Tryz.func50, Tryz.ntmps50
    go_wp2
    go_ret
    exact ⟨Below.refl _ _, false, rfl, by simp only [Bool.false_eq_true, false_iff]; exact fun h => HNE.out h.1⟩
  subst hne
  have hq : ((n : Int) != (n : Int)) = false := by simp
  go_enter Tryz.func50, Tryz.ntmps50
  go_wp2
  go_loopw [17] (fun i wr => ∃ k : Nat, k ≤ n ∧ i = .int .i64 k ∧ Hid (Below w.heap.size w wr ∧ ∀ j, j < k → U6.sameU (st.us.getD j U6.u0) (su.us.getD j U6.u0) = true)) (fun i wr => (n - (intOf i).toNat))
  case atStart => exact ⟨0, by omega, rfl, Lib.hid ⟨Below.refl _ _, fun j hj => by omega⟩⟩
  case round =>
    obtain ⟨k, hk, rfl, HL⟩ := hrel
    by_cases hlt : k < n
    · have hb := HL.out.1
      obtain ⟨ga, ca, h1, _, d0, d1, d2⟩ := HAA.out wr k hb hlt
      obtain ⟨gb, cb, h2, _, f0, f1, f2⟩ := HBB.out wr k hb hlt
      injection h1 with h1 _ h1c
      injection h2 with h2 _ h2c
      subst h1 h2 h1c h2c
      have hga : ga < wr.heap.size := World.block_lt_of_cell? _ _ d0
      have hgb : gb < wr.heap.size := World.block_lt_of_cell? _ _ f0
      have HC := Lib.hid fun wx o => HUU.out wx k o hlt hlt
      have HBR := Lib.hid hb
      clear hb HAA HBB
      generalize ul.getD k 0 = ua at *
      generalize um.getD k 0 = ub at *
      have hlk : (k : Int) < n := by omega
      obtain ⟨q, hqq⟩ : ∃ q, q = U6.sameU (st.us.getD k U6.u0) (su.us.getD k U6.u0) := ⟨_, rfl⟩
      rw [← hqq] at HC
      have HQ := Lib.hid hqq
      clear hqq
      go_wp2_with fail
      (with_reducible refine (HC.out _ (HBR.out.trans ((((Below.refl _ _).alloc (Nat.le_refl _) _).alloc (by simp) _).mono HBR.out.size))).mono ?_)
      rintro e w5 ⟨rfl, hb5⟩
      have HB5 : Hid (Below w.heap.size w w5) := Lib.hid ((HBR.out.trans ((((Below.refl _ _).alloc (Nat.le_refl _) _).alloc (by simp) _).mono HBR.out.size)).trans (hb5.mono (by have := HBR.out.size; simp; omega)))
      clear hb5 d0 d1 d2 f0 f1 f2
      cases q with
      | false =>
        go_wp2
        go_ret
        exact ⟨HB5.out, false, rfl, by simp only [Bool.false_eq_true, false_iff]; rintro ⟨_, h4⟩; have := h4 k hlt; rw [← HQ.out] at this; cases this⟩
      | true =>
        go_wp2
        go_roundw
        case rel => exact ⟨k + 1, by omega, by go_num, Lib.hid ⟨HB5.out, fun j hj => by
          by_cases e : j = k
          · subst e; exact HQ.out.symm
          · exact HL.out.2 j (by omega)⟩⟩
        case measure => simp [intOf]; omega
    · have hkl : k = n := by omega
      subst hkl
      go_wp2
      go_ret
      exact ⟨HL.out.1, true, rfl, by simp only [true_iff]; exact ⟨by first | rfl | trivial, HL.out.2⟩⟩
def SameP (st su : BS) (n m : Nat) : Prop := ((2147483648 : Int) = 2147483648 ∧ st.size = su.size ∧ ∀ y, st.m y = su.m y) ∧ eqCp st.c su.c = true ∧ P5.eqQ st.p su.p = true ∧ n = m ∧ ∀ j, j < n → U6.sameU (st.us.getD j U6.u0) (su.us.getD j U6.u0) = true
set_option maxHeartbeats 8000000 in
theorem progSame7_any (H : BusP w a K g vp ul st) (I : BusP w b L h vq um su) : Calls Tryz.prog 19 #[.pointer (some ⟨a, 0, none⟩), .pointer (some ⟨b, 0, none⟩)] w (SameE7 w (SameP st su ul.length um.length)) := by
  obtain ⟨av, cv, rfl, hcap⟩ := H.ports.len
  obtain ⟨aw, cw, rfl, hcaw⟩ := I.ports.len
  have HUA : Hid (∀ wx, Below w.heap.size w wx → wx.cell? ⟨a, 43, none⟩ = some (.slice av ul.length cv)) := Lib.hid fun wx o => (H.below o).obj.ports_
  have HUB : Hid (∀ wx, Below w.heap.size w wx → wx.cell? ⟨b, 43, none⟩ = some (.slice aw um.length cw)) := Lib.hid fun wx o => (I.below o).obj.ports_
  have HRA : Hid (∀ wx, Below w.heap.size w wx → wx.cell? ⟨a, 0, none⟩ = some (.pointer (some ⟨g, 0, none⟩))) := Lib.hid fun wx o => (H.below o).obj.ram_
  have HRB : Hid (∀ wx, Below w.heap.size w wx → wx.cell? ⟨b, 0, none⟩ = some (.pointer (some ⟨h, 0, none⟩))) := Lib.hid fun wx o => (I.below o).obj.ram_
  have HCA : Hid (∀ wx, Below w.heap.size w wx → wx.rangeAt a 1 (rowCp st.c).toList) := Lib.hid fun wx o => (H.below o).obj.rangeCp
  have HCB : Hid (∀ wx, Below w.heap.size w wx → wx.rangeAt b 1 (rowCp su.c).toList) := Lib.hid fun wx o => (I.below o).obj.rangeCp
  have HPA : Hid (∀ wx, Below w.heap.size w wx → wx.rangeAt a 4 (varr 39 (P5.cellQ st.p)).toList) := Lib.hid fun wx o => (H.below o).obj.range
  have HPB : Hid (∀ wx, Below w.heap.size w wx → wx.rangeAt b 4 (varr 39 (P5.cellQ su.p)).toList) := Lib.hid fun wx o => (I.below o).obj.range
  have HZA : Hid ((Tryz.prog.info? 62).map (·.size) = some (rowCp st.c).size) := Lib.hid (by kernel_rfl)
  have HZB : Hid ((Tryz.prog.info? 62).map (·.size) = some (rowCp su.c).size) := Lib.hid (by kernel_rfl)
  have HYA : Hid ((Tryz.prog.info? 69).map (·.size) = some (varr 39 (P5.cellQ st.p)).size) := Lib.hid (P5.size_progP.trans (by rw [varr_size]))
  have HYB : Hid ((Tryz.prog.info? 69).map (·.size) = some (varr 39 (P5.cellQ su.p)).size) := Lib.hid (P5.size_progP.trans (by rw [varr_size]))
  have HEC : Hid (∀ wx : World, (binOp .eql 62 (.agg (rowCp st.c)) (.agg (rowCp su.c))).run Tryz.prog wx = .ok (.bool (eqCp st.c su.c)) wx) := Lib.hid fun wx => by rw [run_eql_struct, eq_progc]; rfl
  have HEP : Hid (∀ wx : World, (binOp .eql 69 (.agg (varr 39 (P5.cellQ st.p))) (.agg (varr 39 (P5.cellQ su.p)))).run Tryz.prog wx = .ok (.bool (P5.eqQ st.p su.p)) wx) := Lib.hid fun wx => P5.eql_prog _ _ wx
  have HM : Hid (∀ wx, Below w.heap.size w wx → Calls Tryz.prog 49 #[.pointer (some ⟨g, 0, none⟩), .pointer (some ⟨h, 0, none⟩)] wx (M3.SameTold wx ((2147483648 : Int) = 2147483648 ∧ st.size = su.size ∧ ∀ y, st.m y = su.m y))) := Lib.hid fun wx o => M3.progSame_any (H.below o).mem (I.below o).mem
  have HEF : Hid (∀ wx, Below w.heap.size w wx → Calls Tryz.prog 50 #[.slice av ul.length cv, .slice aw um.length cw, .func (.func 51) #[] #[]] wx (SameE7 wx (ul.length = um.length ∧ ∀ j, j < ul.length → U6.sameU (st.us.getD j U6.u0) (su.us.getD j U6.u0) = true))) := Lib.hid fun wx o => equalPorts_any (H.below o) (I.below o)
  obtain ⟨ce, hce⟩ : ∃ ce, ce = eqCp st.c su.c := ⟨_, rfl⟩
  obtain ⟨pe, hpe⟩ : ∃ pe, pe = P5.eqQ st.p su.p := ⟨_, rfl⟩
  have HCE := Lib.hid hce
  have HPE := Lib.hid hpe
  rw [← hce] at HEC
  rw [← hpe] at HEP
  have hrs : ∀ r : Bool, (r = true ↔ SameP st su ul.length um.length) → Hid (r = true ↔ SameP st su ul.length um.length) := fun _ h => Lib.hid h
  clear hce hpe H I hcap hcaw hrs
  obtain ⟨SP, hSP⟩ : ∃ SP, SP = SameP st su ul.length um.length := ⟨_, rfl⟩
  have HSP := Lib.hid hSP
  rw [← hSP]
  clear hSP
  generalize rowCp st.c = ra at *
  generalize rowCp su.c = rb at *
  generalize varr 39 (P5.cellQ st.p) = pa at *
  generalize varr 39 (P5.cellQ su.p) = pb at *
  go_enter Tryz.func19, Tryz.ntmps19
  go_wp2
  refine wp_region_held_drew (S := fun wx => Below w.heap.size w wx) (by kernel_rfl) ((Below.refl _ _).drew) (fun hHeld0 => ?_)
  have HS := Lib.hid hHeld0
  clear hHeld0
  refine takeD (i := 0) (some 14) (v := ?_) rfl rfl (by kernel_rfl) (by kernel_rfl) (by kernel_rfl) (fun _ _ _ h => h) (by rfl) HS.out ?_ ?_
  rotate_left
  · intro wx hSx
    clear hSx
    go_simp
    try (with_reducible rfl)
  simp only [Act.put, List.setIfInBounds_toArray, List.set_cons_zero, List.set_cons_succ]
  refine takeD (i := 1) (some 15) (v := ?_) rfl rfl (by kernel_rfl) (by kernel_rfl) (by kernel_rfl) (fun _ _ _ h => h) (by rfl) HS.out ?_ ?_
  rotate_left
  · intro wx hSx
    clear hSx
    go_simp
    try (with_reducible rfl)
  simp only [Act.put, List.setIfInBounds_toArray, List.set_cons_zero, List.set_cons_succ]
  refine takeD (i := 2) (some 16) (v := ?_) rfl rfl (by kernel_rfl) (by kernel_rfl) (by kernel_rfl) (fun _ _ _ h => h) (by rfl) HS.out ?_ ?_
  rotate_left
  · intro wx hSx
    clear hSx
    go_simp
    try (with_reducible rfl)
  simp only [Act.put, List.setIfInBounds_toArray, List.set_cons_zero, List.set_cons_succ]
  refine takeD (i := 3) (some 17) (v := ?_) rfl rfl (by kernel_rfl) (by kernel_rfl) (by kernel_rfl) (fun _ _ _ h => h) (by rfl) HS.out ?_ ?_
  rotate_left
  · intro wx hSx
    have ka := HRA.out wx hSx
    clear hSx
    go_simp
    try (with_reducible rfl)
  simp only [Act.put, List.setIfInBounds_toArray, List.set_cons_zero, List.set_cons_succ]
  refine takeD (i := 4) (some 18) (v := ?_) rfl rfl (by kernel_rfl) (by kernel_rfl) (by kernel_rfl) (fun _ _ _ h => h) (by rfl) HS.out ?_ ?_
  rotate_left
  · intro wx hSx
    clear hSx
    go_simp
    try (with_reducible rfl)
  simp only [Act.put, List.setIfInBounds_toArray, List.set_cons_zero, List.set_cons_succ]
  refine takeD (i := 5) (some 19) (v := ?_) rfl rfl (by kernel_rfl) (by kernel_rfl) (by kernel_rfl) (fun _ _ _ h => h) (by rfl) HS.out ?_ ?_
  rotate_left
  · intro wx hSx
    clear hSx
    go_simp
    try (with_reducible rfl)
  simp only [Act.put, List.setIfInBounds_toArray, List.set_cons_zero, List.set_cons_succ]
  refine takeD (i := 6) (some 20) (v := ?_) rfl rfl (by kernel_rfl) (by kernel_rfl) (by kernel_rfl) (fun _ _ _ h => h) (by rfl) HS.out ?_ ?_
  rotate_left
  · intro wx hSx
    clear hSx
    go_simp
    try (with_reducible rfl)
  simp only [Act.put, List.setIfInBounds_toArray, List.set_cons_zero, List.set_cons_succ]
  refine takeD (i := 7) (some 21) (v := ?_) rfl rfl (by kernel_rfl) (by kernel_rfl) (by kernel_rfl) (fun _ _ _ h => h) (by rfl) HS.out ?_ ?_
  rotate_left
  · intro wx hSx
    have kb := HRB.out wx hSx
    clear hSx
    go_simp
    try (with_reducible rfl)
  simp only [Act.put, List.setIfInBounds_toArray, List.set_cons_zero, List.set_cons_succ]
  refine wpAnyH_ready (rs := [8]) (by kernel_rfl) (by simp) ?_
  refine AllReadyH.cons rfl (fun K hK => ?_) AllReadyH.nil
  go_simp
  (with_reducible refine (HM.out _ HS.out).mono ?_)
  rintro e wc ⟨hbc, rm, rfl, hrm⟩
  have HBC := Lib.hid (HS.out.trans (hbc.mono HS.out.size))
  have HRM := Lib.hid hrm
  clear hbc hrm
  go_simp
  refine hK.out _ _ ?_ (fun hHeld => ?_)
  · exact HBC.out
  clear hHeld hK K
  try simp only [Act.put, List.setIfInBounds_toArray, List.set_cons_zero, List.set_cons_succ]
  replace HS := HBC
  clear HM
  rcases (show rm = false ∨ (rm = true ∧ ce = false) ∨ (rm = true ∧ ce = true ∧ pe = false) ∨ (rm = true ∧ ce = true ∧ pe = true) by cases rm <;> cases ce <;> cases pe <;> simp) with rfl | ⟨rfl, rfl⟩ | ⟨rfl, rfl, rfl⟩ | ⟨rfl, rfl, rfl⟩
  · clear HEC HEP HEF
    refine takeD (i := 9) (some 23) (v := ?_) rfl rfl (by kernel_rfl) (by kernel_rfl) (by kernel_rfl) (fun _ _ _ h => h) (by rfl) HS.out ?_ ?_
    rotate_left
    · intro wx hSx
      clear hSx
      go_simp
      try (with_reducible rfl)
    simp only [Act.put, List.setIfInBounds_toArray, List.set_cons_zero, List.set_cons_succ]
    refine skipD (i := 10) (some 24) rfl rfl (by kernel_rfl) (by kernel_rfl) (by kernel_rfl) (fun _ _ _ h => h) (by rfl) HS.out ?_
    simp only [Act.put, List.setIfInBounds_toArray, List.set_cons_zero, List.set_cons_succ]
    refine skipD (i := 11) (some 25) rfl rfl (by kernel_rfl) (by kernel_rfl) (by kernel_rfl) (fun _ _ _ h => h) (by rfl) HS.out ?_
    simp only [Act.put, List.setIfInBounds_toArray, List.set_cons_zero, List.set_cons_succ]
    refine skipD (i := 12) (some 26) rfl rfl (by kernel_rfl) (by kernel_rfl) (by kernel_rfl) (fun _ _ _ h => h) (by rfl) HS.out ?_
    simp only [Act.put, List.setIfInBounds_toArray, List.set_cons_zero, List.set_cons_succ]
    refine skipD (i := 13) (some 27) rfl rfl (by kernel_rfl) (by kernel_rfl) (by kernel_rfl) (fun _ _ _ h => h) (by rfl) HS.out ?_
    simp only [Act.put, List.setIfInBounds_toArray, List.set_cons_zero, List.set_cons_succ]
    refine skipD (i := 14) (some 28) rfl rfl (by kernel_rfl) (by kernel_rfl) (by kernel_rfl) (fun _ _ _ h => h) (by rfl) HS.out ?_
    simp only [Act.put, List.setIfInBounds_toArray, List.set_cons_zero, List.set_cons_succ]
    refine skipD (i := 15) (some 29) rfl rfl (by kernel_rfl) (by kernel_rfl) (by kernel_rfl) (fun _ _ _ h => h) (by rfl) HS.out ?_
    simp only [Act.put, List.setIfInBounds_toArray, List.set_cons_zero, List.set_cons_succ]
    refine skipD (i := 16) (some 30) rfl rfl (by kernel_rfl) (by kernel_rfl) (by kernel_rfl) (fun _ _ _ h => h) (by rfl) HS.out ?_
    simp only [Act.put, List.setIfInBounds_toArray, List.set_cons_zero, List.set_cons_succ]
    refine skipD (i := 17) (some 31) rfl rfl (by kernel_rfl) (by kernel_rfl) (by kernel_rfl) (fun _ _ _ h => h) (by rfl) HS.out ?_
    simp only [Act.put, List.setIfInBounds_toArray, List.set_cons_zero, List.set_cons_succ]
    refine skipD (i := 18) (some 32) rfl rfl (by kernel_rfl) (by kernel_rfl) (by kernel_rfl) (fun _ _ _ h => h) (by rfl) HS.out ?_
    simp only [Act.put, List.setIfInBounds_toArray, List.set_cons_zero, List.set_cons_succ]
    refine takeD (i := 19) (some 33) (v := ?_) rfl rfl (by kernel_rfl) (by kernel_rfl) (by kernel_rfl) (fun _ _ _ h => h) (by rfl) HS.out ?_ ?_
    rotate_left
    · intro wx hSx
      clear hSx
      go_simp
      try (with_reducible rfl)
    simp only [Act.put, List.setIfInBounds_toArray, List.set_cons_zero, List.set_cons_succ]
    refine takeD (i := 20) (some 34) (v := ?_) rfl rfl (by kernel_rfl) (by kernel_rfl) (by kernel_rfl) (fun _ _ _ h => h) (by rfl) HS.out ?_ ?_
    rotate_left
    · intro wx hSx
      clear hSx
      go_simp
      try (with_reducible rfl)
    simp only [Act.put, List.setIfInBounds_toArray, List.set_cons_zero, List.set_cons_succ]
    refine skipD (i := 21) (some 35) rfl rfl (by kernel_rfl) (by kernel_rfl) (by kernel_rfl) (fun _ _ _ h => h) (by rfl) HS.out ?_
    simp only [Act.put, List.setIfInBounds_toArray, List.set_cons_zero, List.set_cons_succ]
    refine skipD (i := 22) (some 36) rfl rfl (by kernel_rfl) (by kernel_rfl) (by kernel_rfl) (fun _ _ _ h => h) (by rfl) HS.out ?_
    simp only [Act.put, List.setIfInBounds_toArray, List.set_cons_zero, List.set_cons_succ]
    refine skipD (i := 23) (some 37) rfl rfl (by kernel_rfl) (by kernel_rfl) (by kernel_rfl) (fun _ _ _ h => h) (by rfl) HS.out ?_
    simp only [Act.put, List.setIfInBounds_toArray, List.set_cons_zero, List.set_cons_succ]
    refine skipD (i := 24) (some 38) rfl rfl (by kernel_rfl) (by kernel_rfl) (by kernel_rfl) (fun _ _ _ h => h) (by rfl) HS.out ?_
    simp only [Act.put, List.setIfInBounds_toArray, List.set_cons_zero, List.set_cons_succ]
    refine skipD (i := 25) (some 39) rfl rfl (by kernel_rfl) (by kernel_rfl) (by kernel_rfl) (fun _ _ _ h => h) (by rfl) HS.out ?_
    simp only [Act.put, List.setIfInBounds_toArray, List.set_cons_zero, List.set_cons_succ]
    refine skipD (i := 26) (some 40) rfl rfl (by kernel_rfl) (by kernel_rfl) (by kernel_rfl) (fun _ _ _ h => h) (by rfl) HS.out ?_
    simp only [Act.put, List.setIfInBounds_toArray, List.set_cons_zero, List.set_cons_succ]
    refine skipD (i := 27) (some 41) rfl rfl (by kernel_rfl) (by kernel_rfl) (by kernel_rfl) (fun _ _ _ h => h) (by rfl) HS.out ?_
    simp only [Act.put, List.setIfInBounds_toArray, List.set_cons_zero, List.set_cons_succ]
    refine skipD (i := 28) (some 42) rfl rfl (by kernel_rfl) (by kernel_rfl) (by kernel_rfl) (fun _ _ _ h => h) (by rfl) HS.out ?_
    simp only [Act.put, List.setIfInBounds_toArray, List.set_cons_zero, List.set_cons_succ]
    refine skipD (i := 29) (some 43) rfl rfl (by kernel_rfl) (by kernel_rfl) (by kernel_rfl) (fun _ _ _ h => h) (by rfl) HS.out ?_
    simp only [Act.put, List.setIfInBounds_toArray, List.set_cons_zero, List.set_cons_succ]
    refine takeD (i := 30) (some 44) (v := ?_) rfl rfl (by kernel_rfl) (by kernel_rfl) (by kernel_rfl) (fun _ _ _ h => h) (by rfl) HS.out ?_ ?_
    rotate_left
    · intro wx hSx
      clear hSx
      go_simp
      try (with_reducible rfl)
    simp only [Act.put, List.setIfInBounds_toArray, List.set_cons_zero, List.set_cons_succ]
    refine takeD (i := 31) (some 45) (v := ?_) rfl rfl (by kernel_rfl) (by kernel_rfl) (by kernel_rfl) (fun _ _ _ h => h) (by rfl) HS.out ?_ ?_
    rotate_left
    · intro wx hSx
      clear hSx
      go_simp
      try (with_reducible rfl)
    simp only [Act.put, List.setIfInBounds_toArray, List.set_cons_zero, List.set_cons_succ]
    refine skipD (i := 32) (some 46) rfl rfl (by kernel_rfl) (by kernel_rfl) (by kernel_rfl) (fun _ _ _ h => h) (by rfl) HS.out ?_
    simp only [Act.put, List.setIfInBounds_toArray, List.set_cons_zero, List.set_cons_succ]
    refine skipD (i := 33) (some 47) rfl rfl (by kernel_rfl) (by kernel_rfl) (by kernel_rfl) (fun _ _ _ h => h) (by rfl) HS.out ?_
    simp only [Act.put, List.setIfInBounds_toArray, List.set_cons_zero, List.set_cons_succ]
    refine skipD (i := 34) (some 48) rfl rfl (by kernel_rfl) (by kernel_rfl) (by kernel_rfl) (fun _ _ _ h => h) (by rfl) HS.out ?_
    simp only [Act.put, List.setIfInBounds_toArray, List.set_cons_zero, List.set_cons_succ]
    refine skipD (i := 35) (some 49) rfl rfl (by kernel_rfl) (by kernel_rfl) (by kernel_rfl) (fun _ _ _ h => h) (by rfl) HS.out ?_
    simp only [Act.put, List.setIfInBounds_toArray, List.set_cons_zero, List.set_cons_succ]
    refine skipD (i := 36) (some 50) rfl rfl (by kernel_rfl) (by kernel_rfl) (by kernel_rfl) (fun _ _ _ h => h) (by rfl) HS.out ?_
    simp only [Act.put, List.setIfInBounds_toArray, List.set_cons_zero, List.set_cons_succ]
    refine skipD (i := 37) (some 51) rfl rfl (by kernel_rfl) (by kernel_rfl) (by kernel_rfl) (fun _ _ _ h => h) (by rfl) HS.out ?_
    simp only [Act.put, List.setIfInBounds_toArray, List.set_cons_zero, List.set_cons_succ]
    refine skipD (i := 38) (some 52) rfl rfl (by kernel_rfl) (by kernel_rfl) (by kernel_rfl) (fun _ _ _ h => h) (by rfl) HS.out ?_
    simp only [Act.put, List.setIfInBounds_toArray, List.set_cons_zero, List.set_cons_succ]
    refine skipD (i := 39) (some 53) rfl rfl (by kernel_rfl) (by kernel_rfl) (by kernel_rfl) (fun _ _ _ h => h) (by rfl) HS.out ?_
    simp only [Act.put, List.setIfInBounds_toArray, List.set_cons_zero, List.set_cons_succ]
    refine skipD (i := 40) (some 54) rfl rfl (by kernel_rfl) (by kernel_rfl) (by kernel_rfl) (fun _ _ _ h => h) (by rfl) HS.out ?_
    simp only [Act.put, List.setIfInBounds_toArray, List.set_cons_zero, List.set_cons_succ]
    refine takeD (i := 41) (some 55) (v := ?_) rfl rfl (by kernel_rfl) (by kernel_rfl) (by kernel_rfl) (fun _ _ _ h => h) (by rfl) HS.out ?_ ?_
    rotate_left
    · intro wx hSx
      clear hSx
      go_simp
      try (with_reducible rfl)
    simp only [Act.put, List.setIfInBounds_toArray, List.set_cons_zero, List.set_cons_succ]
    refine takeD (i := 42) (some 4) (v := ?_) rfl rfl (by kernel_rfl) (by kernel_rfl) (by kernel_rfl) (fun _ _ _ h => h) (by rfl) HS.out ?_ ?_
    rotate_left
    · intro wx hSx
      clear hSx
      go_simp
      try (with_reducible rfl)
    simp only [Act.put, List.setIfInBounds_toArray, List.set_cons_zero, List.set_cons_succ]
    refine wpAnyH_done (by kernel_rfl) ?_ _
    go_wp2
    go_ret
    exact ⟨HS.out, false, rfl, by simp only [Bool.false_eq_true, false_iff]; rw [HSP.out]; exact fun h => by have := HRM.out.2 ⟨by first | rfl | trivial, h.1.2⟩; cases this⟩
  · clear HEP HEF
    refine takeD (i := 9) (some 23) (v := ?_) rfl rfl (by kernel_rfl) (by kernel_rfl) (by kernel_rfl) (fun _ _ _ h => h) (by rfl) HS.out ?_ ?_
    rotate_left
    · intro wx hSx
      clear hSx
      go_simp
      try (with_reducible rfl)
    simp only [Act.put, List.setIfInBounds_toArray, List.set_cons_zero, List.set_cons_succ]
    refine takeD (i := 10) (some 24) (v := ?_) rfl rfl (by kernel_rfl) (by kernel_rfl) (by kernel_rfl) (fun _ _ _ h => h) (by rfl) HS.out ?_ ?_
    rotate_left
    · intro wx hSx
      clear hSx
      go_simp
      try (with_reducible rfl)
    simp only [Act.put, List.setIfInBounds_toArray, List.set_cons_zero, List.set_cons_succ]
    refine takeD (i := 11) (some 25) (v := ?_) rfl rfl (by kernel_rfl) (by kernel_rfl) (by kernel_rfl) (fun _ _ _ h => h) (by rfl) HS.out ?_ ?_
    rotate_left
    · intro wx hSx
      clear hSx
      go_simp
      try (with_reducible rfl)
    simp only [Act.put, List.setIfInBounds_toArray, List.set_cons_zero, List.set_cons_succ]
    refine takeD (i := 12) (some 26) (v := ?_) rfl rfl (by kernel_rfl) (by kernel_rfl) (by kernel_rfl) (fun _ _ _ h => h) (by rfl) HS.out ?_ ?_
    rotate_left
    · intro wx hSx
      clear hSx
      go_simp
      try (with_reducible rfl)
    simp only [Act.put, List.setIfInBounds_toArray, List.set_cons_zero, List.set_cons_succ]
    refine takeD (i := 13) (some 27) (v := ?_) rfl rfl (by kernel_rfl) (by kernel_rfl) (by kernel_rfl) (fun _ _ _ h => h) (by rfl) HS.out ?_ ?_
    rotate_left
    · intro wx hSx
      exact (by refine yield_fr _ (.tmp 26) ?_ a 1 ?_ (run_load_fr wx a 1 62 ra _ (HCA.out wx hSx) Tryz.underlying62 rfl HZA.out) <;> rfl)
    simp only [Act.put, List.setIfInBounds_toArray, List.set_cons_zero, List.set_cons_succ]
    refine takeD (i := 14) (some 28) (v := ?_) rfl rfl (by kernel_rfl) (by kernel_rfl) (by kernel_rfl) (fun _ _ _ h => h) (by rfl) HS.out ?_ ?_
    rotate_left
    · intro wx hSx
      clear hSx
      go_simp
      try (with_reducible rfl)
    simp only [Act.put, List.setIfInBounds_toArray, List.set_cons_zero, List.set_cons_succ]
    refine takeD (i := 15) (some 29) (v := ?_) rfl rfl (by kernel_rfl) (by kernel_rfl) (by kernel_rfl) (fun _ _ _ h => h) (by rfl) HS.out ?_ ?_
    rotate_left
    · intro wx hSx
      clear hSx
      go_simp
      try (with_reducible rfl)
    simp only [Act.put, List.setIfInBounds_toArray, List.set_cons_zero, List.set_cons_succ]
    refine takeD (i := 16) (some 30) (v := ?_) rfl rfl (by kernel_rfl) (by kernel_rfl) (by kernel_rfl) (fun _ _ _ h => h) (by rfl) HS.out ?_ ?_
    rotate_left
    · intro wx hSx
      clear hSx
      go_simp
      try (with_reducible rfl)
    simp only [Act.put, List.setIfInBounds_toArray, List.set_cons_zero, List.set_cons_succ]
    refine takeD (i := 17) (some 31) (v := ?_) rfl rfl (by kernel_rfl) (by kernel_rfl) (by kernel_rfl) (fun _ _ _ h => h) (by rfl) HS.out ?_ ?_
    rotate_left
    · intro wx hSx
      exact (by refine yield_fr _ (.tmp 30) ?_ b 1 ?_ (run_load_fr wx b 1 62 rb _ (HCB.out wx hSx) Tryz.underlying62 rfl HZB.out) <;> rfl)
    simp only [Act.put, List.setIfInBounds_toArray, List.set_cons_zero, List.set_cons_succ]
    refine takeD (i := 18) (some 32) (v := ?_) rfl rfl (by kernel_rfl) (by kernel_rfl) (by kernel_rfl) (fun _ _ _ h => h) (by rfl) HS.out ?_ ?_
    rotate_left
    · intro wx hSx
      exact (by refine yield_eql7 62 62 (.tmp 27) (.tmp 31) ?_ ra rb ?_ ?_ (by kernel_rfl) _ (HEC.out wx) <;> rfl)
    simp only [Act.put, List.setIfInBounds_toArray, List.set_cons_zero, List.set_cons_succ]
    refine takeD (i := 19) (some 33) (v := ?_) rfl rfl (by kernel_rfl) (by kernel_rfl) (by kernel_rfl) (fun _ _ _ h => h) (by rfl) HS.out ?_ ?_
    rotate_left
    · intro wx hSx
      clear hSx
      go_simp
      try (with_reducible rfl)
    simp only [Act.put, List.setIfInBounds_toArray, List.set_cons_zero, List.set_cons_succ]
    refine takeD (i := 20) (some 34) (v := ?_) rfl rfl (by kernel_rfl) (by kernel_rfl) (by kernel_rfl) (fun _ _ _ h => h) (by rfl) HS.out ?_ ?_
    rotate_left
    · intro wx hSx
      clear hSx
      go_simp
      try (with_reducible rfl)
    simp only [Act.put, List.setIfInBounds_toArray, List.set_cons_zero, List.set_cons_succ]
    refine skipD (i := 21) (some 35) rfl rfl (by kernel_rfl) (by kernel_rfl) (by kernel_rfl) (fun _ _ _ h => h) (by rfl) HS.out ?_
    simp only [Act.put, List.setIfInBounds_toArray, List.set_cons_zero, List.set_cons_succ]
    refine skipD (i := 22) (some 36) rfl rfl (by kernel_rfl) (by kernel_rfl) (by kernel_rfl) (fun _ _ _ h => h) (by rfl) HS.out ?_
    simp only [Act.put, List.setIfInBounds_toArray, List.set_cons_zero, List.set_cons_succ]
    refine skipD (i := 23) (some 37) rfl rfl (by kernel_rfl) (by kernel_rfl) (by kernel_rfl) (fun _ _ _ h => h) (by rfl) HS.out ?_
    simp only [Act.put, List.setIfInBounds_toArray, List.set_cons_zero, List.set_cons_succ]
    refine skipD (i := 24) (some 38) rfl rfl (by kernel_rfl) (by kernel_rfl) (by kernel_rfl) (fun _ _ _ h => h) (by rfl) HS.out ?_
    simp only [Act.put, List.setIfInBounds_toArray, List.set_cons_zero, List.set_cons_succ]
    refine skipD (i := 25) (some 39) rfl rfl (by kernel_rfl) (by kernel_rfl) (by kernel_rfl) (fun _ _ _ h => h) (by rfl) HS.out ?_
    simp only [Act.put, List.setIfInBounds_toArray, List.set_cons_zero, List.set_cons_succ]
    refine skipD (i := 26) (some 40) rfl rfl (by kernel_rfl) (by kernel_rfl) (by kernel_rfl) (fun _ _ _ h => h) (by rfl) HS.out ?_
    simp only [Act.put, List.setIfInBounds_toArray, List.set_cons_zero, List.set_cons_succ]
    refine skipD (i := 27) (some 41) rfl rfl (by kernel_rfl) (by kernel_rfl) (by kernel_rfl) (fun _ _ _ h => h) (by rfl) HS.out ?_
    simp only [Act.put, List.setIfInBounds_toArray, List.set_cons_zero, List.set_cons_succ]
    refine skipD (i := 28) (some 42) rfl rfl (by kernel_rfl) (by kernel_rfl) (by kernel_rfl) (fun _ _ _ h => h) (by rfl) HS.out ?_
    simp only [Act.put, List.setIfInBounds_toArray, List.set_cons_zero, List.set_cons_succ]
    refine skipD (i := 29) (some 43) rfl rfl (by kernel_rfl) (by kernel_rfl) (by kernel_rfl) (fun _ _ _ h => h) (by rfl) HS.out ?_
    simp only [Act.put, List.setIfInBounds_toArray, List.set_cons_zero, List.set_cons_succ]
    refine takeD (i := 30) (some 44) (v := ?_) rfl rfl (by kernel_rfl) (by kernel_rfl) (by kernel_rfl) (fun _ _ _ h => h) (by rfl) HS.out ?_ ?_
    rotate_left
    · intro wx hSx
      clear hSx
      go_simp
      try (with_reducible rfl)
    simp only [Act.put, List.setIfInBounds_toArray, List.set_cons_zero, List.set_cons_succ]
    refine takeD (i := 31) (some 45) (v := ?_) rfl rfl (by kernel_rfl) (by kernel_rfl) (by kernel_rfl) (fun _ _ _ h => h) (by rfl) HS.out ?_ ?_
    rotate_left
    · intro wx hSx
      clear hSx
      go_simp
      try (with_reducible rfl)
    simp only [Act.put, List.setIfInBounds_toArray, List.set_cons_zero, List.set_cons_succ]
    refine skipD (i := 32) (some 46) rfl rfl (by kernel_rfl) (by kernel_rfl) (by kernel_rfl) (fun _ _ _ h => h) (by rfl) HS.out ?_
    simp only [Act.put, List.setIfInBounds_toArray, List.set_cons_zero, List.set_cons_succ]
    refine skipD (i := 33) (some 47) rfl rfl (by kernel_rfl) (by kernel_rfl) (by kernel_rfl) (fun _ _ _ h => h) (by rfl) HS.out ?_
    simp only [Act.put, List.setIfInBounds_toArray, List.set_cons_zero, List.set_cons_succ]
    refine skipD (i := 34) (some 48) rfl rfl (by kernel_rfl) (by kernel_rfl) (by kernel_rfl) (fun _ _ _ h => h) (by rfl) HS.out ?_
    simp only [Act.put, List.setIfInBounds_toArray, List.set_cons_zero, List.set_cons_succ]
    refine skipD (i := 35) (some 49) rfl rfl (by kernel_rfl) (by kernel_rfl) (by kernel_rfl) (fun _ _ _ h => h) (by rfl) HS.out ?_
    simp only [Act.put, List.setIfInBounds_toArray, List.set_cons_zero, List.set_cons_succ]
    refine skipD (i := 36) (some 50) rfl rfl (by kernel_rfl) (by kernel_rfl) (by kernel_rfl) (fun _ _ _ h => h) (by rfl) HS.out ?_
    simp only [Act.put, List.setIfInBounds_toArray, List.set_cons_zero, List.set_cons_succ]
    refine skipD (i := 37) (some 51) rfl rfl (by kernel_rfl) (by kernel_rfl) (by kernel_rfl) (fun _ _ _ h => h) (by rfl) HS.out ?_
    simp only [Act.put, List.setIfInBounds_toArray, List.set_cons_zero, List.set_cons_succ]
    refine skipD (i := 38) (some 52) rfl rfl (by kernel_rfl) (by kernel_rfl) (by kernel_rfl) (fun _ _ _ h => h) (by rfl) HS.out ?_
    simp only [Act.put, List.setIfInBounds_toArray, List.set_cons_zero, List.set_cons_succ]
    refine skipD (i := 39) (some 53) rfl rfl (by kernel_rfl) (by kernel_rfl) (by kernel_rfl) (fun _ _ _ h => h) (by rfl) HS.out ?_
    simp only [Act.put, List.setIfInBounds_toArray, List.set_cons_zero, List.set_cons_succ]
    refine skipD (i := 40) (some 54) rfl rfl (by kernel_rfl) (by kernel_rfl) (by kernel_rfl) (fun _ _ _ h => h) (by rfl) HS.out ?_
    simp only [Act.put, List.setIfInBounds_toArray, List.set_cons_zero, List.set_cons_succ]
    refine takeD (i := 41) (some 55) (v := ?_) rfl rfl (by kernel_rfl) (by kernel_rfl) (by kernel_rfl) (fun _ _ _ h => h) (by rfl) HS.out ?_ ?_
    rotate_left
    · intro wx hSx
      clear hSx
      go_simp
      try (with_reducible rfl)
    simp only [Act.put, List.setIfInBounds_toArray, List.set_cons_zero, List.set_cons_succ]
    refine takeD (i := 42) (some 4) (v := ?_) rfl rfl (by kernel_rfl) (by kernel_rfl) (by kernel_rfl) (fun _ _ _ h => h) (by rfl) HS.out ?_ ?_
    rotate_left
    · intro wx hSx
      clear hSx
      go_simp
      try (with_reducible rfl)
    simp only [Act.put, List.setIfInBounds_toArray, List.set_cons_zero, List.set_cons_succ]
    refine wpAnyH_done (by kernel_rfl) ?_ _
    go_wp2
    go_ret
    exact ⟨HS.out, false, rfl, by simp only [Bool.false_eq_true, false_iff]; rw [HSP.out]; exact fun h => by have := h.2.1; rw [← HCE.out] at this; cases this⟩
  · clear HEF
    refine takeD (i := 9) (some 23) (v := ?_) rfl rfl (by kernel_rfl) (by kernel_rfl) (by kernel_rfl) (fun _ _ _ h => h) (by rfl) HS.out ?_ ?_
    rotate_left
    · intro wx hSx
      clear hSx
      go_simp
      try (with_reducible rfl)
    simp only [Act.put, List.setIfInBounds_toArray, List.set_cons_zero, List.set_cons_succ]
    refine takeD (i := 10) (some 24) (v := ?_) rfl rfl (by kernel_rfl) (by kernel_rfl) (by kernel_rfl) (fun _ _ _ h => h) (by rfl) HS.out ?_ ?_
    rotate_left
    · intro wx hSx
      clear hSx
      go_simp
      try (with_reducible rfl)
    simp only [Act.put, List.setIfInBounds_toArray, List.set_cons_zero, List.set_cons_succ]
    refine takeD (i := 11) (some 25) (v := ?_) rfl rfl (by kernel_rfl) (by kernel_rfl) (by kernel_rfl) (fun _ _ _ h => h) (by rfl) HS.out ?_ ?_
    rotate_left
    · intro wx hSx
      clear hSx
      go_simp
      try (with_reducible rfl)
    simp only [Act.put, List.setIfInBounds_toArray, List.set_cons_zero, List.set_cons_succ]
    refine takeD (i := 12) (some 26) (v := ?_) rfl rfl (by kernel_rfl) (by kernel_rfl) (by kernel_rfl) (fun _ _ _ h => h) (by rfl) HS.out ?_ ?_
    rotate_left
    · intro wx hSx
      clear hSx
      go_simp
      try (with_reducible rfl)
    simp only [Act.put, List.setIfInBounds_toArray, List.set_cons_zero, List.set_cons_succ]
    refine takeD (i := 13) (some 27) (v := ?_) rfl rfl (by kernel_rfl) (by kernel_rfl) (by kernel_rfl) (fun _ _ _ h => h) (by rfl) HS.out ?_ ?_
    rotate_left
    · intro wx hSx
      exact (by refine yield_fr _ (.tmp 26) ?_ a 1 ?_ (run_load_fr wx a 1 62 ra _ (HCA.out wx hSx) Tryz.underlying62 rfl HZA.out) <;> rfl)
    simp only [Act.put, List.setIfInBounds_toArray, List.set_cons_zero, List.set_cons_succ]
    refine takeD (i := 14) (some 28) (v := ?_) rfl rfl (by kernel_rfl) (by kernel_rfl) (by kernel_rfl) (fun _ _ _ h => h) (by rfl) HS.out ?_ ?_
    rotate_left
    · intro wx hSx
      clear hSx
      go_simp
      try (with_reducible rfl)
    simp only [Act.put, List.setIfInBounds_toArray, List.set_cons_zero, List.set_cons_succ]
    refine takeD (i := 15) (some 29) (v := ?_) rfl rfl (by kernel_rfl) (by kernel_rfl) (by kernel_rfl) (fun _ _ _ h => h) (by rfl) HS.out ?_ ?_
    rotate_left
    · intro wx hSx
      clear hSx
      go_simp
      try (with_reducible rfl)
    simp only [Act.put, List.setIfInBounds_toArray, List.set_cons_zero, List.set_cons_succ]
    refine takeD (i := 16) (some 30) (v := ?_) rfl rfl (by kernel_rfl) (by kernel_rfl) (by kernel_rfl) (fun _ _ _ h => h) (by rfl) HS.out ?_ ?_
    rotate_left
    · intro wx hSx
      clear hSx
      go_simp
      try (with_reducible rfl)
    simp only [Act.put, List.setIfInBounds_toArray, List.set_cons_zero, List.set_cons_succ]
    refine takeD (i := 17) (some 31) (v := ?_) rfl rfl (by kernel_rfl) (by kernel_rfl) (by kernel_rfl) (fun _ _ _ h => h) (by rfl) HS.out ?_ ?_
    rotate_left
    · intro wx hSx
      exact (by refine yield_fr _ (.tmp 30) ?_ b 1 ?_ (run_load_fr wx b 1 62 rb _ (HCB.out wx hSx) Tryz.underlying62 rfl HZB.out) <;> rfl)
    simp only [Act.put, List.setIfInBounds_toArray, List.set_cons_zero, List.set_cons_succ]
    refine takeD (i := 18) (some 32) (v := ?_) rfl rfl (by kernel_rfl) (by kernel_rfl) (by kernel_rfl) (fun _ _ _ h => h) (by rfl) HS.out ?_ ?_
    rotate_left
    · intro wx hSx
      exact (by refine yield_eql7 62 62 (.tmp 27) (.tmp 31) ?_ ra rb ?_ ?_ (by kernel_rfl) _ (HEC.out wx) <;> rfl)
    simp only [Act.put, List.setIfInBounds_toArray, List.set_cons_zero, List.set_cons_succ]
    refine takeD (i := 19) (some 33) (v := ?_) rfl rfl (by kernel_rfl) (by kernel_rfl) (by kernel_rfl) (fun _ _ _ h => h) (by rfl) HS.out ?_ ?_
    rotate_left
    · intro wx hSx
      clear hSx
      go_simp
      try (with_reducible rfl)
    simp only [Act.put, List.setIfInBounds_toArray, List.set_cons_zero, List.set_cons_succ]
    refine takeD (i := 20) (some 34) (v := ?_) rfl rfl (by kernel_rfl) (by kernel_rfl) (by kernel_rfl) (fun _ _ _ h => h) (by rfl) HS.out ?_ ?_
    rotate_left
    · intro wx hSx
      clear hSx
      go_simp
      try (with_reducible rfl)
    simp only [Act.put, List.setIfInBounds_toArray, List.set_cons_zero, List.set_cons_succ]
    refine takeD (i := 21) (some 35) (v := ?_) rfl rfl (by kernel_rfl) (by kernel_rfl) (by kernel_rfl) (fun _ _ _ h => h) (by rfl) HS.out ?_ ?_
    rotate_left
    · intro wx hSx
      clear hSx
      go_simp
      try (with_reducible rfl)
    simp only [Act.put, List.setIfInBounds_toArray, List.set_cons_zero, List.set_cons_succ]
    refine takeD (i := 22) (some 36) (v := ?_) rfl rfl (by kernel_rfl) (by kernel_rfl) (by kernel_rfl) (fun _ _ _ h => h) (by rfl) HS.out ?_ ?_
    rotate_left
    · intro wx hSx
      clear hSx
      go_simp
      try (with_reducible rfl)
    simp only [Act.put, List.setIfInBounds_toArray, List.set_cons_zero, List.set_cons_succ]
    refine takeD (i := 23) (some 37) (v := ?_) rfl rfl (by kernel_rfl) (by kernel_rfl) (by kernel_rfl) (fun _ _ _ h => h) (by rfl) HS.out ?_ ?_
    rotate_left
    · intro wx hSx
      clear hSx
      go_simp
      try (with_reducible rfl)
    simp only [Act.put, List.setIfInBounds_toArray, List.set_cons_zero, List.set_cons_succ]
    refine takeD (i := 24) (some 38) (v := ?_) rfl rfl (by kernel_rfl) (by kernel_rfl) (by kernel_rfl) (fun _ _ _ h => h) (by rfl) HS.out ?_ ?_
    rotate_left
    · intro wx hSx
      exact (by refine yield_fr _ (.tmp 37) ?_ a 4 ?_ (run_load_fr wx a 4 69 pa _ (HPA.out wx hSx) Tryz.underlying69 rfl HYA.out) <;> rfl)
    simp only [Act.put, List.setIfInBounds_toArray, List.set_cons_zero, List.set_cons_succ]
    refine takeD (i := 25) (some 39) (v := ?_) rfl rfl (by kernel_rfl) (by kernel_rfl) (by kernel_rfl) (fun _ _ _ h => h) (by rfl) HS.out ?_ ?_
    rotate_left
    · intro wx hSx
      clear hSx
      go_simp
      try (with_reducible rfl)
    simp only [Act.put, List.setIfInBounds_toArray, List.set_cons_zero, List.set_cons_succ]
    refine takeD (i := 26) (some 40) (v := ?_) rfl rfl (by kernel_rfl) (by kernel_rfl) (by kernel_rfl) (fun _ _ _ h => h) (by rfl) HS.out ?_ ?_
    rotate_left
    · intro wx hSx
      clear hSx
      go_simp
      try (with_reducible rfl)
    simp only [Act.put, List.setIfInBounds_toArray, List.set_cons_zero, List.set_cons_succ]
    refine takeD (i := 27) (some 41) (v := ?_) rfl rfl (by kernel_rfl) (by kernel_rfl) (by kernel_rfl) (fun _ _ _ h => h) (by rfl) HS.out ?_ ?_
    rotate_left
    · intro wx hSx
      clear hSx
      go_simp
      try (with_reducible rfl)
    simp only [Act.put, List.setIfInBounds_toArray, List.set_cons_zero, List.set_cons_succ]
    refine takeD (i := 28) (some 42) (v := ?_) rfl rfl (by kernel_rfl) (by kernel_rfl) (by kernel_rfl) (fun _ _ _ h => h) (by rfl) HS.out ?_ ?_
    rotate_left
    · intro wx hSx
      exact (by refine yield_fr _ (.tmp 41) ?_ b 4 ?_ (run_load_fr wx b 4 69 pb _ (HPB.out wx hSx) Tryz.underlying69 rfl HYB.out) <;> rfl)
    simp only [Act.put, List.setIfInBounds_toArray, List.set_cons_zero, List.set_cons_succ]
    refine takeD (i := 29) (some 43) (v := ?_) rfl rfl (by kernel_rfl) (by kernel_rfl) (by kernel_rfl) (fun _ _ _ h => h) (by rfl) HS.out ?_ ?_
    rotate_left
    · intro wx hSx
      exact (by refine yield_eql7 69 69 (.tmp 38) (.tmp 42) ?_ pa pb ?_ ?_ (by kernel_rfl) _ (HEP.out wx) <;> rfl)
    simp only [Act.put, List.setIfInBounds_toArray, List.set_cons_zero, List.set_cons_succ]
    refine takeD (i := 30) (some 44) (v := ?_) rfl rfl (by kernel_rfl) (by kernel_rfl) (by kernel_rfl) (fun _ _ _ h => h) (by rfl) HS.out ?_ ?_
    rotate_left
    · intro wx hSx
      clear hSx
      go_simp
      try (with_reducible rfl)
    simp only [Act.put, List.setIfInBounds_toArray, List.set_cons_zero, List.set_cons_succ]
    refine takeD (i := 31) (some 45) (v := ?_) rfl rfl (by kernel_rfl) (by kernel_rfl) (by kernel_rfl) (fun _ _ _ h => h) (by rfl) HS.out ?_ ?_
    rotate_left
    · intro wx hSx
      clear hSx
      go_simp
      try (with_reducible rfl)
    simp only [Act.put, List.setIfInBounds_toArray, List.set_cons_zero, List.set_cons_succ]
    refine skipD (i := 32) (some 46) rfl rfl (by kernel_rfl) (by kernel_rfl) (by kernel_rfl) (fun _ _ _ h => h) (by rfl) HS.out ?_
    simp only [Act.put, List.setIfInBounds_toArray, List.set_cons_zero, List.set_cons_succ]
    refine skipD (i := 33) (some 47) rfl rfl (by kernel_rfl) (by kernel_rfl) (by kernel_rfl) (fun _ _ _ h => h) (by rfl) HS.out ?_
    simp only [Act.put, List.setIfInBounds_toArray, List.set_cons_zero, List.set_cons_succ]
    refine skipD (i := 34) (some 48) rfl rfl (by kernel_rfl) (by kernel_rfl) (by kernel_rfl) (fun _ _ _ h => h) (by rfl) HS.out ?_
    simp only [Act.put, List.setIfInBounds_toArray, List.set_cons_zero, List.set_cons_succ]
    refine skipD (i := 35) (some 49) rfl rfl (by kernel_rfl) (by kernel_rfl) (by kernel_rfl) (fun _ _ _ h => h) (by rfl) HS.out ?_
    simp only [Act.put, List.setIfInBounds_toArray, List.set_cons_zero, List.set_cons_succ]
    refine skipD (i := 36) (some 50) rfl rfl (by kernel_rfl) (by kernel_rfl) (by kernel_rfl) (fun _ _ _ h => h) (by rfl) HS.out ?_
    simp only [Act.put, List.setIfInBounds_toArray, List.set_cons_zero, List.set_cons_succ]
    refine skipD (i := 37) (some 51) rfl rfl (by kernel_rfl) (by kernel_rfl) (by kernel_rfl) (fun _ _ _ h => h) (by rfl) HS.out ?_
    simp only [Act.put, List.setIfInBounds_toArray, List.set_cons_zero, List.set_cons_succ]
    refine skipD (i := 38) (some 52) rfl rfl (by kernel_rfl) (by kernel_rfl) (by kernel_rfl) (fun _ _ _ h => h) (by rfl) HS.out ?_
    simp only [Act.put, List.setIfInBounds_toArray, List.set_cons_zero, List.set_cons_succ]
    refine skipD (i := 39) (some 53) rfl rfl (by kernel_rfl) (by kernel_rfl) (by kernel_rfl) (fun _ _ _ h => h) (by rfl) HS.out ?_
    simp only [Act.put, List.setIfInBounds_toArray, List.set_cons_zero, List.set_cons_succ]
    refine skipD (i := 40) (some 54) rfl rfl (by kernel_rfl) (by kernel_rfl) (by kernel_rfl) (fun _ _ _ h => h) (by rfl) HS.out ?_
    simp only [Act.put, List.setIfInBounds_toArray, List.set_cons_zero, List.set_cons_succ]
    refine takeD (i := 41) (some 55) (v := ?_) rfl rfl (by kernel_rfl) (by kernel_rfl) (by kernel_rfl) (fun _ _ _ h => h) (by rfl) HS.out ?_ ?_
    rotate_left
    · intro wx hSx
      clear hSx
      go_simp
      try (with_reducible rfl)
    simp only [Act.put, List.setIfInBounds_toArray, List.set_cons_zero, List.set_cons_succ]
    refine takeD (i := 42) (some 4) (v := ?_) rfl rfl (by kernel_rfl) (by kernel_rfl) (by kernel_rfl) (fun _ _ _ h => h) (by rfl) HS.out ?_ ?_
    rotate_left
    · intro wx hSx
      clear hSx
      go_simp
      try (with_reducible rfl)
    simp only [Act.put, List.setIfInBounds_toArray, List.set_cons_zero, List.set_cons_succ]
    refine wpAnyH_done (by kernel_rfl) ?_ _
    go_wp2
    go_ret
    exact ⟨HS.out, false, rfl, by simp only [Bool.false_eq_true, false_iff]; rw [HSP.out]; exact fun h => by have := h.2.2.1; rw [← HPE.out] at this; cases this⟩
  · skip
    refine takeD (i := 9) (some 23) (v := ?_) rfl rfl (by kernel_rfl) (by kernel_rfl) (by kernel_rfl) (fun _ _ _ h => h) (by rfl) HS.out ?_ ?_
    rotate_left
    · intro wx hSx
      clear hSx
      go_simp
      try (with_reducible rfl)
    simp only [Act.put, List.setIfInBounds_toArray, List.set_cons_zero, List.set_cons_succ]
    refine takeD (i := 10) (some 24) (v := ?_) rfl rfl (by kernel_rfl) (by kernel_rfl) (by kernel_rfl) (fun _ _ _ h => h) (by rfl) HS.out ?_ ?_
    rotate_left
    · intro wx hSx
      clear hSx
      go_simp
      try (with_reducible rfl)
    simp only [Act.put, List.setIfInBounds_toArray, List.set_cons_zero, List.set_cons_succ]
    refine takeD (i := 11) (some 25) (v := ?_) rfl rfl (by kernel_rfl) (by kernel_rfl) (by kernel_rfl) (fun _ _ _ h => h) (by rfl) HS.out ?_ ?_
    rotate_left
    · intro wx hSx
      clear hSx
      go_simp
      try (with_reducible rfl)
    simp only [Act.put, List.setIfInBounds_toArray, List.set_cons_zero, List.set_cons_succ]
    refine takeD (i := 12) (some 26) (v := ?_) rfl rfl (by kernel_rfl) (by kernel_rfl) (by kernel_rfl) (fun _ _ _ h => h) (by rfl) HS.out ?_ ?_
    rotate_left
    · intro wx hSx
      clear hSx
      go_simp
      try (with_reducible rfl)
    simp only [Act.put, List.setIfInBounds_toArray, List.set_cons_zero, List.set_cons_succ]
    refine takeD (i := 13) (some 27) (v := ?_) rfl rfl (by kernel_rfl) (by kernel_rfl) (by kernel_rfl) (fun _ _ _ h => h) (by rfl) HS.out ?_ ?_
    rotate_left
    · intro wx hSx
      exact (by refine yield_fr _ (.tmp 26) ?_ a 1 ?_ (run_load_fr wx a 1 62 ra _ (HCA.out wx hSx) Tryz.underlying62 rfl HZA.out) <;> rfl)
    simp only [Act.put, List.setIfInBounds_toArray, List.set_cons_zero, List.set_cons_succ]
    refine takeD (i := 14) (some 28) (v := ?_) rfl rfl (by kernel_rfl) (by kernel_rfl) (by kernel_rfl) (fun _ _ _ h => h) (by rfl) HS.out ?_ ?_
    rotate_left
    · intro wx hSx
      clear hSx
      go_simp
      try (with_reducible rfl)
    simp only [Act.put, List.setIfInBounds_toArray, List.set_cons_zero, List.set_cons_succ]
    refine takeD (i := 15) (some 29) (v := ?_) rfl rfl (by kernel_rfl) (by kernel_rfl) (by kernel_rfl) (fun _ _ _ h => h) (by rfl) HS.out ?_ ?_
    rotate_left
    · intro wx hSx
      clear hSx
      go_simp
      try (with_reducible rfl)
    simp only [Act.put, List.setIfInBounds_toArray, List.set_cons_zero, List.set_cons_succ]
    refine takeD (i := 16) (some 30) (v := ?_) rfl rfl (by kernel_rfl) (by kernel_rfl) (by kernel_rfl) (fun _ _ _ h => h) (by rfl) HS.out ?_ ?_
    rotate_left
    · intro wx hSx
      clear hSx
      go_simp
      try (with_reducible rfl)
    simp only [Act.put, List.setIfInBounds_toArray, List.set_cons_zero, List.set_cons_succ]
    refine takeD (i := 17) (some 31) (v := ?_) rfl rfl (by kernel_rfl) (by kernel_rfl) (by kernel_rfl) (fun _ _ _ h => h) (by rfl) HS.out ?_ ?_
    rotate_left
    · intro wx hSx
      exact (by refine yield_fr _ (.tmp 30) ?_ b 1 ?_ (run_load_fr wx b 1 62 rb _ (HCB.out wx hSx) Tryz.underlying62 rfl HZB.out) <;> rfl)
    simp only [Act.put, List.setIfInBounds_toArray, List.set_cons_zero, List.set_cons_succ]
    refine takeD (i := 18) (some 32) (v := ?_) rfl rfl (by kernel_rfl) (by kernel_rfl) (by kernel_rfl) (fun _ _ _ h => h) (by rfl) HS.out ?_ ?_
    rotate_left
    · intro wx hSx
      exact (by refine yield_eql7 62 62 (.tmp 27) (.tmp 31) ?_ ra rb ?_ ?_ (by kernel_rfl) _ (HEC.out wx) <;> rfl)
    simp only [Act.put, List.setIfInBounds_toArray, List.set_cons_zero, List.set_cons_succ]
    refine takeD (i := 19) (some 33) (v := ?_) rfl rfl (by kernel_rfl) (by kernel_rfl) (by kernel_rfl) (fun _ _ _ h => h) (by rfl) HS.out ?_ ?_
    rotate_left
    · intro wx hSx
      clear hSx
      go_simp
      try (with_reducible rfl)
    simp only [Act.put, List.setIfInBounds_toArray, List.set_cons_zero, List.set_cons_succ]
    refine takeD (i := 20) (some 34) (v := ?_) rfl rfl (by kernel_rfl) (by kernel_rfl) (by kernel_rfl) (fun _ _ _ h => h) (by rfl) HS.out ?_ ?_
    rotate_left
    · intro wx hSx
      clear hSx
      go_simp
      try (with_reducible rfl)
    simp only [Act.put, List.setIfInBounds_toArray, List.set_cons_zero, List.set_cons_succ]
    refine takeD (i := 21) (some 35) (v := ?_) rfl rfl (by kernel_rfl) (by kernel_rfl) (by kernel_rfl) (fun _ _ _ h => h) (by rfl) HS.out ?_ ?_
    rotate_left
    · intro wx hSx
      clear hSx
      go_simp
      try (with_reducible rfl)
    simp only [Act.put, List.setIfInBounds_toArray, List.set_cons_zero, List.set_cons_succ]
    refine takeD (i := 22) (some 36) (v := ?_) rfl rfl (by kernel_rfl) (by kernel_rfl) (by kernel_rfl) (fun _ _ _ h => h) (by rfl) HS.out ?_ ?_
    rotate_left
    · intro wx hSx
      clear hSx
      go_simp
      try (with_reducible rfl)
    simp only [Act.put, List.setIfInBounds_toArray, List.set_cons_zero, List.set_cons_succ]
    refine takeD (i := 23) (some 37) (v := ?_) rfl rfl (by kernel_rfl) (by kernel_rfl) (by kernel_rfl) (fun _ _ _ h => h) (by rfl) HS.out ?_ ?_
    rotate_left
    · intro wx hSx
      clear hSx
      go_simp
      try (with_reducible rfl)
    simp only [Act.put, List.setIfInBounds_toArray, List.set_cons_zero, List.set_cons_succ]
    refine takeD (i := 24) (some 38) (v := ?_) rfl rfl (by kernel_rfl) (by kernel_rfl) (by kernel_rfl) (fun _ _ _ h => h) (by rfl) HS.out ?_ ?_
    rotate_left
    · intro wx hSx
      exact (by refine yield_fr _ (.tmp 37) ?_ a 4 ?_ (run_load_fr wx a 4 69 pa _ (HPA.out wx hSx) Tryz.underlying69 rfl HYA.out) <;> rfl)
    simp only [Act.put, List.setIfInBounds_toArray, List.set_cons_zero, List.set_cons_succ]
    refine takeD (i := 25) (some 39) (v := ?_) rfl rfl (by kernel_rfl) (by kernel_rfl) (by kernel_rfl) (fun _ _ _ h => h) (by rfl) HS.out ?_ ?_
    rotate_left
    · intro wx hSx
      clear hSx
      go_simp
      try (with_reducible rfl)
    simp only [Act.put, List.setIfInBounds_toArray, List.set_cons_zero, List.set_cons_succ]
    refine takeD (i := 26) (some 40) (v := ?_) rfl rfl (by kernel_rfl) (by kernel_rfl) (by kernel_rfl) (fun _ _ _ h => h) (by rfl) HS.out ?_ ?_
    rotate_left
    · intro wx hSx
      clear hSx
      go_simp
      try (with_reducible rfl)
    simp only [Act.put, List.setIfInBounds_toArray, List.set_cons_zero, List.set_cons_succ]
    refine takeD (i := 27) (some 41) (v := ?_) rfl rfl (by kernel_rfl) (by kernel_rfl) (by kernel_rfl) (fun _ _ _ h => h) (by rfl) HS.out ?_ ?_
    rotate_left
    · intro wx hSx
      clear hSx
      go_simp
      try (with_reducible rfl)
    simp only [Act.put, List.setIfInBounds_toArray, List.set_cons_zero, List.set_cons_succ]
    refine takeD (i := 28) (some 42) (v := ?_) rfl rfl (by kernel_rfl) (by kernel_rfl) (by kernel_rfl) (fun _ _ _ h => h) (by rfl) HS.out ?_ ?_
    rotate_left
    · intro wx hSx
      exact (by refine yield_fr _ (.tmp 41) ?_ b 4 ?_ (run_load_fr wx b 4 69 pb _ (HPB.out wx hSx) Tryz.underlying69 rfl HYB.out) <;> rfl)
    simp only [Act.put, List.setIfInBounds_toArray, List.set_cons_zero, List.set_cons_succ]
    refine takeD (i := 29) (some 43) (v := ?_) rfl rfl (by kernel_rfl) (by kernel_rfl) (by kernel_rfl) (fun _ _ _ h => h) (by rfl) HS.out ?_ ?_
    rotate_left
    · intro wx hSx
      exact (by refine yield_eql7 69 69 (.tmp 38) (.tmp 42) ?_ pa pb ?_ ?_ (by kernel_rfl) _ (HEP.out wx) <;> rfl)
    simp only [Act.put, List.setIfInBounds_toArray, List.set_cons_zero, List.set_cons_succ]
    refine takeD (i := 30) (some 44) (v := ?_) rfl rfl (by kernel_rfl) (by kernel_rfl) (by kernel_rfl) (fun _ _ _ h => h) (by rfl) HS.out ?_ ?_
    rotate_left
    · intro wx hSx
      clear hSx
      go_simp
      try (with_reducible rfl)
    simp only [Act.put, List.setIfInBounds_toArray, List.set_cons_zero, List.set_cons_succ]
    refine takeD (i := 31) (some 45) (v := ?_) rfl rfl (by kernel_rfl) (by kernel_rfl) (by kernel_rfl) (fun _ _ _ h => h) (by rfl) HS.out ?_ ?_
    rotate_left
    · intro wx hSx
      clear hSx
      go_simp
      try (with_reducible rfl)
    simp only [Act.put, List.setIfInBounds_toArray, List.set_cons_zero, List.set_cons_succ]
    refine takeD (i := 32) (some 46) (v := ?_) rfl rfl (by kernel_rfl) (by kernel_rfl) (by kernel_rfl) (fun _ _ _ h => h) (by rfl) HS.out ?_ ?_
    rotate_left
    · intro wx hSx
      clear hSx
      go_simp
      try (with_reducible rfl)
    simp only [Act.put, List.setIfInBounds_toArray, List.set_cons_zero, List.set_cons_succ]
    refine takeD (i := 33) (some 47) (v := ?_) rfl rfl (by kernel_rfl) (by kernel_rfl) (by kernel_rfl) (fun _ _ _ h => h) (by rfl) HS.out ?_ ?_
    rotate_left
    · intro wx hSx
      clear hSx
      go_simp
      try (with_reducible rfl)
    simp only [Act.put, List.setIfInBounds_toArray, List.set_cons_zero, List.set_cons_succ]
    refine takeD (i := 34) (some 48) (v := ?_) rfl rfl (by kernel_rfl) (by kernel_rfl) (by kernel_rfl) (fun _ _ _ h => h) (by rfl) HS.out ?_ ?_
    rotate_left
    · intro wx hSx
      clear hSx
      go_simp
      try (with_reducible rfl)
    simp only [Act.put, List.setIfInBounds_toArray, List.set_cons_zero, List.set_cons_succ]
    refine takeD (i := 35) (some 49) (v := ?_) rfl rfl (by kernel_rfl) (by kernel_rfl) (by kernel_rfl) (fun _ _ _ h => h) (by rfl) HS.out ?_ ?_
    rotate_left
    · intro wx hSx
      have ka := HUA.out wx hSx
      clear hSx
      go_simp
      try (with_reducible rfl)
    simp only [Act.put, List.setIfInBounds_toArray, List.set_cons_zero, List.set_cons_succ]
    refine takeD (i := 36) (some 50) (v := ?_) rfl rfl (by kernel_rfl) (by kernel_rfl) (by kernel_rfl) (fun _ _ _ h => h) (by rfl) HS.out ?_ ?_
    rotate_left
    · intro wx hSx
      clear hSx
      go_simp
      try (with_reducible rfl)
    simp only [Act.put, List.setIfInBounds_toArray, List.set_cons_zero, List.set_cons_succ]
    refine takeD (i := 37) (some 51) (v := ?_) rfl rfl (by kernel_rfl) (by kernel_rfl) (by kernel_rfl) (fun _ _ _ h => h) (by rfl) HS.out ?_ ?_
    rotate_left
    · intro wx hSx
      clear hSx
      go_simp
      try (with_reducible rfl)
    simp only [Act.put, List.setIfInBounds_toArray, List.set_cons_zero, List.set_cons_succ]
    refine takeD (i := 38) (some 52) (v := ?_) rfl rfl (by kernel_rfl) (by kernel_rfl) (by kernel_rfl) (fun _ _ _ h => h) (by rfl) HS.out ?_ ?_
    rotate_left
    · intro wx hSx
      clear hSx
      go_simp
      try (with_reducible rfl)
    simp only [Act.put, List.setIfInBounds_toArray, List.set_cons_zero, List.set_cons_succ]
    refine takeD (i := 39) (some 53) (v := ?_) rfl rfl (by kernel_rfl) (by kernel_rfl) (by kernel_rfl) (fun _ _ _ h => h) (by rfl) HS.out ?_ ?_
    rotate_left
    · intro wx hSx
      have kb := HUB.out wx hSx
      clear hSx
      go_simp
      try (with_reducible rfl)
    simp only [Act.put, List.setIfInBounds_toArray, List.set_cons_zero, List.set_cons_succ]
    refine wpAnyH_ready (rs := [40]) (by kernel_rfl) (by simp) ?_
    refine AllReadyH.cons rfl (fun K hK => ?_) AllReadyH.nil
    go_simp
    (with_reducible refine (HEF.out _ HS.out).mono ?_)
    rintro e wd ⟨hbc, rp, rfl, hrp⟩
    have HBD := Lib.hid (HS.out.trans (hbc.mono HS.out.size))
    have HRP := Lib.hid hrp
    clear hbc hrp
    go_simp
    refine hK.out _ _ ?_ (fun hHeld => ?_)
    · exact HBD.out
    clear hHeld hK K
    try simp only [Act.put, List.setIfInBounds_toArray, List.set_cons_zero, List.set_cons_succ]
    replace HS := HBD
    refine takeD (i := 41) (some 55) (v := ?_) rfl rfl (by kernel_rfl) (by kernel_rfl) (by kernel_rfl) (fun _ _ _ h => h) (by rfl) HS.out ?_ ?_
    rotate_left
    · intro wx hSx
      clear hSx
      go_simp
      try (with_reducible rfl)
    simp only [Act.put, List.setIfInBounds_toArray, List.set_cons_zero, List.set_cons_succ]
    refine takeD (i := 42) (some 4) (v := ?_) rfl rfl (by kernel_rfl) (by kernel_rfl) (by kernel_rfl) (fun _ _ _ h => h) (by rfl) HS.out ?_ ?_
    rotate_left
    · intro wx hSx
      clear hSx
      go_simp
      try (with_reducible rfl)
    simp only [Act.put, List.setIfInBounds_toArray, List.set_cons_zero, List.set_cons_succ]
    refine wpAnyH_done (by kernel_rfl) ?_ _
    go_wp2
    go_ret
    exact ⟨HS.out, rp, rfl, by rw [HSP.out]; exact ⟨fun h => ⟨⟨rfl, (HRM.out.1 (by first | rfl | trivial)).2⟩, HCE.out.symm, HPE.out.symm, HRP.out.1 h⟩, fun h => HRP.out.2 h.2.2.2⟩⟩
theorem sameP_iff (h1 : st.us.length = ul.length) (h2 : su.us.length = um.length) : SameP st su ul.length um.length ↔ SameB st su := by
  unfold SameP SameB
  rw [eqCp_iff, P5.eq_both, h1, h2]
  constructor
  · rintro ⟨⟨_, a, b⟩, c, d, e, f⟩; exact ⟨e, c, d, a, b, f⟩
  · rintro ⟨e, c, d, a, b, f⟩; exact ⟨⟨rfl, a, b⟩, c, d, e, f⟩
theorem progSame7_is (H : BusP w a K g vp ul st) (I : BusP w b L h vq um su) : Calls Tryz.prog 19 #[.pointer (some ⟨a, 0, none⟩), .pointer (some ⟨b, 0, none⟩)] w (SameE7 w (SameB st su)) :=
  (progSame7_any H I).mono fun e w' ⟨hb, r, he, hr⟩ => ⟨hb, r, he, hr.trans (sameP_iff H.len I.len)⟩
end
end Go.Proofs.YtbcnkhfpogglmaaGreatDoor

namespace Go.Proofs.YtbcnkhfpogglmaaGreatDoor
open Go.RowKit
set_option linter.unusedVariables false
set_option maxRecDepth 100000

/-- A pair of one state, or two that are none. -/
def PairV (w : World) (F : Nat → Prop) (va vc : Value) (N : Nat) : Prop :=
  (∀ i, TabB i → ¬ F i) ∧ (∀ i, F i → i < w.heap.size) ∧ ((va = .pointer none ∧ vc = .pointer none) ∨ ∃ b d st, va = .pointer (some ⟨b, 0, none⟩) ∧ vc = .pointer (some ⟨d, 0, none⟩) ∧ Two w F b d N st st)
/-- Two pairs, apart. -/
def Quad (w0 w : World) (va vc vb vd : Value) (N M : Nat) : Prop :=
  Below w0.heap.size w0 w ∧ ∃ F G, PairV w F va vc N ∧ PairV w G vb vd M ∧ (∀ i, F i → ¬ G i) ∧ ∀ i, (F i ∨ G i) → w0.heap.size ≤ i
section
variable {w0 w w' : World} {va vc vb vd : Value} {N M : Nat} {F G : Nat → Prop}
theorem PairV.below (h : PairV w F va vc N) (o : Below w.heap.size w w') : PairV w' F va vc N := by
  obtain ⟨tb, lt, h⟩ := h
  refine ⟨tb, fun i hi => Nat.lt_of_lt_of_le (lt i hi) o.size, ?_⟩
  rcases h with h | ⟨b, d, st, h1, h2, h3⟩
  · exact .inl h
  · exact .inr ⟨b, d, st, h1, h2, h3.below o⟩
theorem PairV.keeps (h : PairV w G va vc N) (o : Only F w w') (hF : ∀ i, G i ∨ TabB i → ¬ F i) : PairV w' G va vc N := by
  obtain ⟨tb, lt, h⟩ := h
  refine ⟨tb, fun i hi => Nat.lt_of_lt_of_le (lt i hi) o.size, ?_⟩
  rcases h with h | ⟨b, d, st, h1, h2, h3⟩
  · exact .inl h
  · exact .inr ⟨b, d, st, h1, h2, h3.keeps o hF⟩
theorem Quad.swap (h : Quad w0 w va vc vb vd N M) : Quad w0 w vb vd va vc M N := by
  obtain ⟨hb, F, G, h1, h2, h3, h4⟩ := h
  exact ⟨hb, G, F, h2, h1, fun i hg hf => h3 i hf hg, fun i hi => h4 i hi.symm⟩
theorem Quad.below (h : Quad w0 w va vc vb vd N M) (o : Below w.heap.size w w') : Quad w0 w' va vc vb vd N M := by
  obtain ⟨hb, F, G, h1, h2, h3, h4⟩ := h
  exact ⟨hb.trans (o.mono hb.size), F, G, h1.below o, h2.below o, h3, h4⟩
theorem eqQ_self (p : P5.PS) : P5.eqR p p = true := by
  rw [← P5.eq_both]; unfold P5.eqQ; simp
theorem sameB_self {w : World} {b g : Nat} {K : Nat → Nat} {vp : Value} {ul : List Nat} {st : BS} (P : BusP w b K g vp ul st) : SameB st st :=
  ⟨rfl, rfl, eqQ_self _, rfl, fun _ => rfl, fun j hj => by unfold U6.sameU U6.regEq; simp⟩
/-! ### made -/
def NewPE (w : World) (size n : Int) (e : Ending) (w' : World) : Prop := ∃ va r, e = .returned (.tuple #[va, .int .i64 r]) ∧ Below w.heap.size w w' ∧ ((busOk size n = false ∧ va = .pointer none) ∨ (busOk size n = true ∧ ∃ b K g vp ul, va = .pointer (some ⟨b, 0, none⟩) ∧ (∀ i, ¬ K i = 0 → w.heap.size ≤ i) ∧ BusP w' b K g vp ul (bs0 size n.toNat)))
def NewRE (w : World) (size n : Int) (e : Ending) (w' : World) : Prop := ∃ va r, e = .returned (.tuple #[va, .int .i64 r]) ∧ Below w.heap.size w w' ∧ ((busOk size n = false ∧ va = .pointer none) ∨ (busOk size n = true ∧ ∃ b K g vp ul, va = .pointer (some ⟨b, 0, none⟩) ∧ (∀ i, ¬ K i = 0 → w.heap.size ≤ i) ∧ BusR w' b K g vp ul 0 (bs0 size n.toNat)))
end
end Go.Proofs.YtbcnkhfpogglmaaGreatDoor

namespace Go.Proofs.YtbcnkhfpogglmaaGreatDoor
open Go.RowKit
set_option linter.unusedVariables false
set_option maxRecDepth 100000

def s0 : BS := bs0 8192 3
theorem s0_len : s0.us.length = 3 := rfl
theorem s0_at {i : Nat} (h : i < 3) : s0.us.getD i U6.u0 = U6.u0 := by
  match i, h with
  | 0, _ => rfl
  | 1, _ => rfl
  | 2, _ => rfl
theorem s0_set {i : Nat} (h : i < 3) : s0.us.set i U6.u0 = s0.us := by
  match i, h with
  | 0, _ => rfl
  | 1, _ => rfl
  | 2, _ => rfl
theorem line_u0 : U6.lineU U6.u0 = false := by kernel_rfl
theorem lev_on (p : P5.PS) (s : Int) (u : Bool) : (P5.levelP p s u).on = p.on := by
  unfold P5.levelP
  split
  · unfold P5.lookP
    split <;> rfl
  · rfl
theorem upd_false (k : Nat) : P5.upd (fun _ : Nat => false) k false = fun _ => false := by
  funext x; unfold P5.upd; split <;> rfl
theorem lev_p0 (s : Int) : P5.levelP P5.p0 s false = P5.p0 := by
  unfold P5.levelP
  split
  · have e : P5.upP P5.p0 s.toNat false = P5.p0 := by
      show ({ P5.p0 with up := P5.upd (fun _ : Nat => false) s.toNat false } : P5.PS) = P5.p0
      rw [upd_false]; rfl
    rw [e]; rfl
  · rfl
theorem best_off {p : P5.PS} (h : ∀ s c, p.on s c = false) (c k : Nat) : P5.bestTo p c k = 0 := by
  induction k with
  | zero => rfl
  | succ k ih => simp only [P5.bestTo, h, Bool.and_false, Bool.false_and, ih]; rfl
theorem line_off {p : P5.PS} (h : ∀ s c, p.on s c = false) (c : Int) : P5.lineT p c = false := by
  unfold P5.lineT P5.lineC P5.bestC
  rw [best_off h]
  simp
theorem drive_s0 {i : Nat} (h : i < 3) : driveS (uartS s0 i U6.u0) i = s0 := by
  have e : uartS s0 i U6.u0 = s0 := by unfold uartS; rw [s0_set h]
  rw [e]; unfold driveS
  rw [s0_at h, line_u0]
  show ({ s0 with p := P5.levelP P5.p0 (10 + (i : Int)) false } : BS) = s0
  rw [lev_p0]; rfl
/-- The regions of the law's bus. -/
theorem reg3 {a : Int} (ha : In64 a) :
    (regK 8192 3 a = 0 ∧ 2147483648 ≤ a ∧ a < 2147491840) ∨ (regK 8192 3 a = 1 ∧ 33554432 ≤ a ∧ a < 33619968) ∨ (regK 8192 3 a = 2 ∧ 201326592 ≤ a ∧ a < 205520896) ∨
    (∃ i : Nat, i < 3 ∧ regK 8192 3 a = i + 3 ∧ 268435456 + 4096 * (i : Int) ≤ a ∧ a < 268435456 + 4096 * (i : Int) + 8) ∨ regK 8192 3 a = 11 := by
  unfold In64 at ha
  unfold regK
  split
  · next h => exact .inl ⟨rfl, by omega, by omega⟩
  split
  · next h => exact .inr (.inl ⟨rfl, by omega, by omega⟩)
  split
  · next h => exact .inr (.inr (.inl ⟨rfl, by omega, by omega⟩))
  split
  · next h => exact .inr (.inr (.inr (.inl ⟨((a - 268435456) / 4096).toNat, by omega, by omega, by omega, by omega⟩)))
  · exact .inr (.inr (.inr (.inr rfl)))
theorem base3 {i : Nat} (h : i < 3) : regBase 3 (i + 3) = 268435456 + 4096 * (i : Int) := by
  match i, h with
  | 0, _ => rfl
  | 1, _ => rfl
  | 2, _ => rfl
theorem off3 {a : Int} {i : Nat} (h : i < 3) : offK 3 (i + 3) a = a - (268435456 + 4096 * (i : Int)) := by
  unfold offK; rw [if_neg (by omega), base3 h]
theorem pl_no {off n : Int} (h0 : 0 ≤ off) (h : P5.okP (P5.plcK off n) = false) : P5.plcK off n = (5, 0) := by
  rcases P5.plc_cases off n h0 with ⟨_, k, _, _, e⟩ | ⟨_, _, e⟩ | ⟨_, _, e⟩ | ⟨_, _, e⟩ | ⟨_, _, e⟩ | ⟨_, _, e⟩ | ⟨_, _, e⟩ | ⟨_, _, e⟩ | ⟨_, _, e⟩ | ⟨_, e⟩ <;> first | exact e | (rw [e] at h; cases h)
theorem ur_k (off n : Int) : U6.plK U6.u0 off n = if n = 1 ∧ 0 ≤ off ∧ off < 8 then off.toNat else 10 := by
  unfold U6.plK
  split
  · rw [if_neg]; intro h; exact absurd h.2 (by decide)
  · rfl
theorem ur_no {off n : Int} (h : U6.okK (U6.plK U6.u0 off n) = false) : U6.plK U6.u0 off n = 10 := by
  rw [ur_k] at h ⊢
  split
  · next c => rw [if_pos c] at h; unfold U6.okK at h; rw [decide_eq_false_iff_not] at h; omega
  · rfl
theorem ur_yes {off n : Int} (h : U6.okK (U6.plK U6.u0 off n) = true) : 0 ≤ off ∧ off < 8 ∧ U6.plK U6.u0 off n = off.toNat := by
  rw [ur_k] at h ⊢
  split
  · next c => exact ⟨c.2.1, c.2.2, rfl⟩
  · next c => rw [if_neg c] at h; cases h
theorem ur_out (b : Int) (k : Nat) : (U6.wrT U6.u0 b k).out = if k = 0 then [b] else [] := by
  match k with
  | 0 => rfl
  | 1 => rfl
  | 2 => rfl
  | 3 => rfl
  | 4 => rfl
  | 5 => rfl
  | 6 => rfl
  | 7 => rfl
  | 8 => rfl
  | 9 => rfl
  | k + 10 => rfl
/-- A write that is not kept changes nothing; nor does the reading, which is none. -/
theorem ap_no {a n v : Int} (ha : In64 a) (h : (busWr s0 a n v).1 = false) : (busWr s0 a n v).2 = s0 ∧ ∃ x, busRd s0 a n = (x, false, s0) := by
  unfold busWr busRd at *
  rw [show s0.size = 8192 from rfl, s0_len] at *
  by_cases hc : M3.okN n = true ∧ regK 8192 3 a < 11
  rotate_left
  · rw [if_neg hc, if_neg hc]; exact ⟨rfl, 0, rfl⟩
  rw [if_pos hc] at h ⊢
  rw [if_pos hc]
  rcases reg3 ha with ⟨e, b1, b2⟩ | ⟨e, b1, b2⟩ | ⟨e, b1, b2⟩ | ⟨i, hi, e, b1, b2⟩ | e
  · rw [e] at h ⊢
    simp only [wrR, rdR] at h ⊢
    have h' : (M3.okN n && M3.hasZ 2147483648 8192 (offK 3 0 a) n) = false := h
    refine ⟨?_, 0, ?_⟩
    · unfold M3.writeM
      rw [show s0.size = 8192 from rfl, h', if_neg (by simp)]; rfl
    · unfold M3.readV
      rw [show s0.size = 8192 from rfl, h', if_neg (by simp)]
  · rw [e] at h ⊢
    simp only [wrR, rdR] at h ⊢
    have hk : C4.kindC (offK 3 1 a) n = 0 := by
      unfold C4.okC at h; simpa using h
    rw [hk]
    exact ⟨rfl, _, by rw [h]⟩
  · rw [e] at h ⊢
    simp only [wrR, rdR] at h ⊢
    have ho : (0 : Int) ≤ offK 3 2 a := by show 0 ≤ a - 201326592; omega
    rw [pl_no ho h]
    exact ⟨rfl, _, rfl⟩
  · rw [e] at h ⊢
    simp only [wrR, rdR] at h ⊢
    rw [s0_at hi] at h ⊢
    rw [ur_no h]
    exact ⟨drive_s0 hi, _, by rw [show U6.rdT U6.u0 10 = U6.u0 from rfl, drive_s0 hi]; rfl⟩
  · omega
/-- What a bus holds of which not the memory was written. -/
structure DevS (a : Int) (cl pl se : Bool) (st : BS) : Prop where
  size : st.size = 8192
  m : st.m = fun _ => 0
  line : pl = false → P5.lineT st.p 0 = false
  time : cl = false → st.c.n = 0
  outs : ∀ k : Nat, k < 3 → decide (0 < ((busOt st.us (k : Int)).length : Int)) = (se && decide (a = 268435456 + 4096 * (k : Int)))
theorem out_s0 (k : Nat) : busOt s0.us (k : Int) = [] := by
  unfold busOt
  split
  · next h =>
    obtain ⟨j, hj, hk⟩ := isU_nat h
    rw [s0_len] at hk
    rw [hj, show ((j : Int)).toNat = j from rfl, s0_at hk]; rfl
  · rfl
theorem outs_s0 {st : BS} (h : st.us = s0.us) (a : Int) : ∀ k : Nat, k < 3 → decide (0 < ((busOt st.us (k : Int)).length : Int)) = (false && decide (a = 268435456 + 4096 * (k : Int))) := fun k _ => by
  rw [h, out_s0]; rfl
theorem line_s0 {st : BS} (h : st.p = P5.p0) : P5.lineT st.p 0 = false := by rw [h]; exact line_off (fun _ _ => rfl) 0
theorem out_set {i k : Nat} (hi : i < 3) (hk : k < 3) (u : U6.US) : busOt (s0.us.set i u) (k : Int) = if k = i then u.out else [] := by
  match i, hi, k, hk with
  | 0, _, 0, _ => rfl
  | 0, _, 1, _ => rfl
  | 0, _, 2, _ => rfl
  | 1, _, 0, _ => rfl
  | 1, _, 1, _ => rfl
  | 1, _, 2, _ => rfl
  | 2, _, 0, _ => rfl
  | 2, _, 1, _ => rfl
  | 2, _, 2, _ => rfl
/-- A write that is kept. -/
theorem ap_yes {a n v : Int} (ha : In64 a) (h : (busWr s0 a n v).1 = true) : M3.okN n = true ∧
    ((2147483648 ≤ a ∧ a < 2147491840 ∧ M3.hasZ 2147483648 8192 a n = true ∧ (busWr s0 a n v).2 = memS s0 a n v) ∨
     (33554432 ≤ a ∧ a < 33619968 ∧ DevS a true false false (busWr s0 a n v).2) ∨
     (201326592 ≤ a ∧ a < 205520896 ∧ DevS a false true false (busWr s0 a n v).2) ∨
     (268435456 ≤ a ∧ a < 268443656 ∧ a % 4096 < 8 ∧ DevS a false false true (busWr s0 a n v).2)) := by
  unfold busWr at *
  rw [show s0.size = 8192 from rfl, s0_len] at *
  by_cases hc : M3.okN n = true ∧ regK 8192 3 a < 11
  rotate_left
  · rw [if_neg hc] at h; cases h
  rw [if_pos hc] at h ⊢
  refine ⟨hc.1, ?_⟩
  rcases reg3 ha with ⟨e, b1, b2⟩ | ⟨e, b1, b2⟩ | ⟨e, b1, b2⟩ | ⟨i, hi, e, b1, b2⟩ | e
  · rw [e] at h ⊢
    have h' : (M3.okN n && M3.hasZ 2147483648 8192 a n) = true := h
    rw [hc.1, Bool.true_and] at h'
    exact .inl ⟨b1, b2, h', rfl⟩
  · rw [e]
    exact .inr (.inl ⟨b1, b2, rfl, rfl, fun _ => line_s0 rfl, (fun h => nomatch h), outs_s0 rfl a⟩)
  · rw [e]
    exact .inr (.inr (.inl ⟨b1, b2, rfl, rfl, (fun h => nomatch h), fun _ => rfl, outs_s0 rfl a⟩))
  · rw [e] at h ⊢
    simp only [wrR] at h ⊢
    rw [s0_at hi] at h ⊢
    obtain ⟨y1, y2, y3⟩ := ur_yes h
    rw [y3]
    rw [off3 hi] at y1 y2 ⊢
    refine .inr (.inr (.inr ⟨by omega, by omega, by omega, rfl, rfl, fun _ => ?_, fun _ => rfl, fun k hk => ?_⟩))
    · refine line_off (fun s c => ?_) 0
      show (P5.levelP P5.p0 _ _).on s c = false
      rw [lev_on]; rfl
    · show decide (0 < ((busOt (s0.us.set i _) (k : Int)).length : Int)) = _
      rw [out_set hi hk, ur_out, Bool.true_and, decide_eq_decide]
      by_cases hki : k = i
      · subst hki
        rw [if_pos rfl]
        split
        · next c => simp; omega
        · next c => simp; omega
      · rw [if_neg hki]; simp; omega
  · omega
theorem lines_is (st : BS) (x : Int) : ∃ p0 p1 p3 p4 p1', linesV st = .agg #[.bool p0, .bool p1, .bool (P5.lineT st.p 0), .bool p3, .int .u64 p4, .int .u64 st.c.n] ∧ linesV (busTk st x) = .agg #[.bool p0, .bool p1', .bool (P5.lineT st.p 0), .bool p3, .int .u64 p4, .int .u64 ((st.c.n + x) % 18446744073709551616)] := ⟨_, _, _, _, _, rfl, rfl⟩
theorem lines_s0 : ∃ p0 p1 p3 p4 p5, linesV s0 = .agg #[.bool p0, .bool p1, .bool false, .bool p3, .int .u64 p4, .int .u64 p5] := ⟨_, _, _, _, _, by
  rw [← line_s0 (st := s0) rfl]; rfl⟩
theorem notRam {a n : Int} (hok : M3.okN n = true) (h : ¬ 2147483648 ≤ a) : (M3.okN n && M3.hasZ 2147483648 8192 a n) = false := by
  rw [hok, Bool.true_and]
  unfold M3.okN at hok
  unfold M3.hasZ
  rw [decide_eq_true_eq] at hok
  rw [decide_eq_false_iff_not]
  omega
end Go.Proofs.YtbcnkhfpogglmaaGreatDoor

namespace Go.Proofs.YtbcnkhfpogglmaaGreatDoor
open Go.RowKit
set_option linter.unusedVariables false
set_option maxRecDepth 100000

/-- Two buses that the law made, apart. -/
def DuoB (w0 w : World) (b d : Nat) (st su : BS) : Prop := Below w0.heap.size w0 w ∧ ∃ g K vp ul h L vq um, BusP w b K g vp ul st ∧ BusP w d L h vq um su ∧ (∀ i, ¬ K i = 0 → L i = 0) ∧ ∀ i, (¬ K i = 0 ∨ ¬ L i = 0) → w0.heap.size ≤ i
section
variable {w0 w w' : World} {b d : Nat} {st su st' : BS}
theorem DuoB.swap (H : DuoB w0 w b d st su) : DuoB w0 w d b su st := by
  obtain ⟨hb, g, K, vp, ul, h, L, vq, um, P, R, ap, lo⟩ := H
  refine ⟨hb, h, L, vq, um, g, K, vp, ul, R, P, fun i hi => ?_, fun i hi => lo i hi.symm⟩
  by_cases z : K i = 0
  · exact z
  · exact absurd (ap i z) hi
theorem DuoB.below (H : DuoB w0 w b d st su) (o : Below w.heap.size w w') : DuoB w0 w' b d st su := by
  obtain ⟨hb, g, K, vp, ul, h, L, vq, um, P, R, ap, lo⟩ := H
  exact ⟨hb.trans (o.mono hb.size), g, K, vp, ul, h, L, vq, um, P.below o, R.below o, ap, lo⟩
theorem DuoB.ended {g h : Nat} {K L : Nat → Nat} {vp vq : Value} {ul um : List Nat} (hb : Below w0.heap.size w0 w) (P : BusP w b K g vp ul st) (R : BusP w d L h vq um su) (ap : ∀ i, ¬ K i = 0 → L i = 0) (lo : ∀ i, (¬ K i = 0 ∨ ¬ L i = 0) → w0.heap.size ≤ i) {r : Value} {e : Ending} (k : BusEnd w b K g vp ul r st' e w') : e = .returned r ∧ DuoB w0 w' b d st' su := by
  obtain ⟨he, o, K', hg, P'⟩ := k
  refine ⟨he, Below.thenOnly hb o (fun i hi => lo i (.inl hi)) hb.size, g, K', vp, ul, h, L, vq, um, P', R.keeps o fun i hi hk => ?_, fun i hi => ?_, fun i hi => ?_⟩
  · rcases hi with a | a
    · exact a (ap i hk)
    · exact hk (P.kt i a)
  · by_cases c : i < w.heap.size
    · rw [hg i c] at hi; exact ap i hi
    · by_cases z : L i = 0
      · exact z
      · exact absurd (R.lt i z) c
  · rcases hi with a | a
    · by_cases c : i < w.heap.size
      · rw [hg i c] at a; exact lo i (.inl a)
      · have := hb.size; omega
    · exact lo i (.inr a)
theorem DuoB.call (H : DuoB w0 w b d st su) {r : Value} {f : FuncId} {args : Array Value} (hc : ∀ K g vp ul, BusP w b K g vp ul st → Calls Tryz.prog f args w (BusEnd w b K g vp ul r st')) : Calls Tryz.prog f args w fun e w' => e = .returned r ∧ DuoB w0 w' b d st' su := by
  obtain ⟨hb, g, K, vp, ul, h, L, vq, um, P, R, ap, lo⟩ := H
  exact (hc K g vp ul P).mono fun e w' k => DuoB.ended hb P R ap lo k
theorem DuoB.write (H : DuoB w0 w b d st su) (a n v : Int) (ha : In64 a) (hv : In64 v) : Calls Tryz.prog 9 #[.pointer (some ⟨b, 0, none⟩), .int .u64 a, .int .i64 n, .int .u64 v] w fun e w' => e = .returned (.bool (busWr st a n v).1) ∧ DuoB w0 w' b d (busWr st a n v).2 su :=
  H.call fun K g vp ul P => busWrite_any P a n v ha hv
theorem DuoB.read (H : DuoB w0 w b d st su) (a n : Int) (ha : In64 a) : Calls Tryz.prog 8 #[.pointer (some ⟨b, 0, none⟩), .int .u64 a, .int .i64 n] w fun e w' => e = .returned (.tuple #[.int .u64 (busRd st a n).1, .bool (busRd st a n).2.1]) ∧ DuoB w0 w' b d (busRd st a n).2.2 su :=
  H.call fun K g vp ul P => busRead_any P a n ha
theorem DuoB.lines (H : DuoB w0 w b d st su) : Calls Tryz.prog 12 #[.pointer (some ⟨b, 0, none⟩)] w fun e w' => e = .returned (linesV st) ∧ DuoB w0 w' b d st su := by
  have H' := H
  obtain ⟨hb, g, K, vp, ul, h, L, vq, um, P, R, ap, lo⟩ := H
  exact (busLines_any P).mono fun e w' ⟨he, o⟩ => ⟨he, H'.below o⟩
theorem DuoB.out (H : DuoB w0 w b d st su) (i : Int) : Calls Tryz.prog 17 #[.pointer (some ⟨b, 0, none⟩), .int .i64 i] w fun e w' => (∃ a c, e = .returned (.slice a (busOt st.us i).length c)) ∧ DuoB w0 w' b d st su := by
  have H' := H
  obtain ⟨hb, g, K, vp, ul, h, L, vq, um, P, R, ap, lo⟩ := H
  exact (busOut_any P i).mono fun e w' ⟨a, c, he, o, _⟩ => ⟨⟨a, c, he⟩, H'.below o⟩
theorem DuoB.isRam (H : DuoB w0 w b d st su) (a n : Int) (ha : In64 a) : Calls Tryz.prog 10 #[.pointer (some ⟨b, 0, none⟩), .int .u64 a, .int .i64 n] w fun e w' => e = .returned (.bool (M3.okN n && M3.hasZ 2147483648 st.size a n)) ∧ DuoB w0 w' b d st su := by
  have H' := H
  obtain ⟨hb, g, K, vp, ul, h, L, vq, um, P, R, ap, lo⟩ := H
  exact (busIsRam_any P a n ha).mono fun e w' ⟨he, o⟩ => ⟨he, H'.below o⟩
theorem DuoB.same (H : DuoB w0 w b d st st) : Calls Tryz.prog 19 #[.pointer (some ⟨b, 0, none⟩), .pointer (some ⟨d, 0, none⟩)] w fun e w' => e = .returned (.bool true) ∧ DuoB w0 w' b d st st := by
  have H' := H
  obtain ⟨hb, g, K, vp, ul, h, L, vq, um, P, R, ap, lo⟩ := H
  refine (progSame7_is P R).mono fun e w' ⟨o, r, he, hr⟩ => ?_
  have : r = true := hr.2 (sameB_self P)
  subst this
  exact ⟨he, H'.below o⟩
/-- The memory within: a reading, a writing, its pages. -/
theorem DuoB.ram (H : DuoB w0 w b d st su) : ∃ g, Calls Tryz.prog 16 #[.pointer (some ⟨b, 0, none⟩)] w (fun e w' => e = .returned (.pointer (some ⟨g, 0, none⟩)) ∧ w = w') ∧
    (∀ a n, In64 a → In63 n → Calls Tryz.prog 25 #[.pointer (some ⟨g, 0, none⟩), .int .u64 a, .int .i64 n] w fun e w' => e = .returned (.tuple #[.int .u64 (M3.readV 2147483648 st.size st.m a n).1, .bool (M3.readV 2147483648 st.size st.m a n).2]) ∧ DuoB w0 w' b d st su) ∧
    (∀ a n v, In64 a → In63 n → In64 v → Calls Tryz.prog 26 #[.pointer (some ⟨g, 0, none⟩), .int .u64 a, .int .i64 n, .int .u64 v] w fun e w' => e = .returned (.bool (M3.okN n && M3.hasZ 2147483648 st.size a n)) ∧ DuoB w0 w' b d (memS st a n v) su) ∧
    (st.m = (fun _ => 0) → st.size ≤ 49152 → Calls Tryz.prog 27 #[.pointer (some ⟨g, 0, none⟩)] w fun e w' => (∃ a c, e = .returned (.slice a 0 c)) ∧ DuoB w0 w' b d st su) := by
  have H' := H
  obtain ⟨hb, g, K, vp, ul, h, L, vq, um, P, R, ap, lo⟩ := H
  refine ⟨g, busRam_any P, fun a n ha hn => ?_, fun a n v ha hn hv => ?_, fun hm hs => ?_⟩
  · exact (M3.progRead_any a n P.mem P.fits ha hn).mono fun e w' k => DuoB.ended hb P R ap lo (P.ramRd k)
  · exact (M3.progWrite_any a n v P.mem P.fits ha hn hv).mono fun e w' k => DuoB.ended hb P R ap lo (P.memEnd k)
  · refine (M3.progPages_few P.mem P.fits hs).mono fun e w' k => ?_
    obtain ⟨o, a, n, c, ps, he, ho, _, hp⟩ := k
    have hnil : ps = [] := by
      cases ps with
      | nil => rfl
      | cons p ps =>
        obtain ⟨y, hy, _⟩ := (hp p).1 (by simp)
        exact absurd (by rw [hm]) hy
    subst hnil
    have hn : n = 0 := by
      rcases ho.2 with ⟨hv, h0⟩ | ⟨g, cap, cur, hv, _⟩
      · injection hv with _ h2 _
      · injection hv with _ h2 _
    subst hn
    exact ⟨⟨a, c, he⟩, H'.below o⟩
/-- How they come to be. -/
theorem DuoB.made {w1 : World} {g : Nat} {K : Nat → Nat} {vp : Value} {ul : List Nat} (hb : Below w0.heap.size w0 w) (P : BusP w b K g vp ul st) (hk : ∀ i, ¬ K i = 0 → w0.heap.size ≤ i) : Calls Tryz.prog 18 #[.pointer (some ⟨b, 0, none⟩)] w fun e w' => ∃ d, e = .returned (.pointer (some ⟨d, 0, none⟩)) ∧ DuoB w0 w' b d st st := by
  refine (busTwin_any P).mono fun e w' k => ?_
  obtain ⟨o, d, L, h, vq, um, he, hl, R⟩ := k
  refine ⟨d, he, hb.trans (o.mono hb.size), g, K, vp, ul, h, L, vq, um, P.below o, R, fun i hi => ?_, fun i hi => ?_⟩
  · by_cases z : L i = 0
    · exact z
    · have := P.lt i hi; have := hl i z; omega
  · rcases hi with a | a
    · exact hk i a
    · exact Nat.le_trans hb.size (hl i a)
theorem newB_3 (w : World) (tabs : Tabs w) : Calls Tryz.prog 7 #[.int .u64 8192, .int .i64 3] w fun e w' => ∃ b g K vp ul, e = .returned (.tuple #[.pointer (some ⟨b, 0, none⟩), .int .i64 0]) ∧ Below w.heap.size w w' ∧ BusP w' b K g vp ul s0 ∧ ∀ i, ¬ K i = 0 → w.heap.size ≤ i :=
  (busNew_any w tabs 8192 3 (by unfold In64; omega)).mono fun e w' k => by
    obtain ⟨h1, h2 | ⟨_, b, K, g, vp, ul, he, hk, hp⟩⟩ := k
    · exact absurd h2.1 (by decide)
    · exact ⟨b, g, K, vp, ul, he, h1, hp, hk⟩
end
/-- Lines that the law keeps in a box. -/
def BoxL (w : World) (o : Nat) (p0 p1 p2 p3 : Bool) (p4 p5 : Int) : Prop := w.heap[o]? = some (.cells #[.bool p0, .bool p1, .bool p2, .bool p3, .int .u64 p4, .int .u64 p5] 33)
section
variable {w w' : World} {o : Nat} {p0 p1 p2 p3 : Bool} {p4 p5 : Int}
theorem BoxL.new (w : World) (p0 p1 p2 p3 : Bool) (p4 p5 : Int) : BoxL (w.alloc (.cells #[.bool p0, .bool p1, .bool p2, .bool p3, .int .u64 p4, .int .u64 p5] 33)) w.heap.size p0 p1 p2 p3 p4 p5 := heap_alloc_new w _
theorem BoxL.lt (h : BoxL w o p0 p1 p2 p3 p4 p5) : o < w.heap.size := by
  unfold BoxL at h
  exact (Array.getElem?_eq_some_iff.1 h).1
theorem BoxL.below (h : BoxL w o p0 p1 p2 p3 p4 p5) (k : Below w.heap.size w w') : BoxL w' o p0 p1 p2 p3 p4 p5 := (k.block o h.lt).trans h
theorem BoxL.cells (h : BoxL w o p0 p1 p2 p3 p4 p5) : w.cell? ⟨o, 0, none⟩ = some (.bool p0) ∧ w.cell? ⟨o, 2, none⟩ = some (.bool p2) ∧ w.cell? ⟨o, 3, none⟩ = some (.bool p3) ∧ w.cell? ⟨o, 4, none⟩ = some (.int .u64 p4) ∧ w.cell? ⟨o, 5, none⟩ = some (.int .u64 p5) := by
  unfold BoxL at h
  simp [World.cell?, h]
end
/-- A tick beside a box that is new. -/
theorem DuoB.tickBox {w0 w : World} {b d : Nat} {st su : BS} (H : DuoB w0 w b d st su) (n : Int) (hn : In64 n) (p0 p1 p2 p3 : Bool) (p4 p5 : Int) : Calls Tryz.prog 11 #[.pointer (some ⟨b, 0, none⟩), .int .u64 n] (w.alloc (.cells #[.bool p0, .bool p1, .bool p2, .bool p3, .int .u64 p4, .int .u64 p5] 33)) fun e w' => (∃ u, e = .returned u) ∧ DuoB w0 w' b d (busTk st n) su ∧ BoxL w' w.heap.size p0 p1 p2 p3 p4 p5 := by
  have hB := (Below.refl w.heap.size w).alloc (Nat.le_refl _) (.cells #[.bool p0, .bool p1, .bool p2, .bool p3, .int .u64 p4, .int .u64 p5] 33)
  have hX := BoxL.new w p0 p1 p2 p3 p4 p5
  obtain ⟨hb, g, K, vp, ul, h, L, vq, um, P, R, ap, lo⟩ := H
  refine (busTick_any (P.below hB) n hn).mono fun e w' ⟨u, k⟩ => ?_
  have e2 := DuoB.ended (hb.trans (hB.mono hb.size)) (P.below hB) (R.below hB) ap lo k
  refine ⟨⟨u, e2.1⟩, e2.2, (k.2.1.block _ hX.lt fun hk => ?_).trans hX⟩
  have := P.lt _ hk
  omega
theorem DuoB.linesB {w0 w : World} {b d : Nat} {st su : BS} (H : DuoB w0 w b d st su) : Calls Tryz.prog 12 #[.pointer (some ⟨b, 0, none⟩)] w fun e w' => e = .returned (linesV st) ∧ Below w.heap.size w w' := by
  obtain ⟨hb, g, K, vp, ul, h, L, vq, um, P, R, ap, lo⟩ := H
  exact busLines_any P
theorem field_m2 (p0 p1 q p3 : Bool) (p4 p5 : Int) (wx : World) : (Instr.field 33 (.agg #[.bool p0, .bool p1, .bool q, .bool p3, .int .u64 p4, .int .u64 p5]) 2).run Tryz.prog wx = .ok (.bool q) wx := by kernel_rfl
theorem field_m5 (p0 p1 q p3 : Bool) (p4 p5 : Int) (wx : World) : (Instr.field 33 (.agg #[.bool p0, .bool p1, .bool q, .bool p3, .int .u64 p4, .int .u64 p5]) 5).run Tryz.prog wx = .ok (.int .u64 p5) wx := by kernel_rfl
end Go.Proofs.YtbcnkhfpogglmaaGreatDoor

namespace Go.Proofs.YtbcnkhfpogglmaaGreatDoor
open Go.RowKit
set_option linter.unusedVariables false
set_option maxRecDepth 100000

/-- A bus that the law made itself: it stands in the world w, nothing that was there when the law began has turned. -/
def OwnB (w0 : World) (b g : Nat) (vp : Value) (ul : List Nat) (st : BS) (w : World) : Prop := Below w0.heap.size w0 w ∧ ∃ K, (∀ i, ¬ K i = 0 → w0.heap.size ≤ i) ∧ BusP w b K g vp ul st
section
variable {w0 w w' : World} {b g : Nat} {vp : Value} {ul : List Nat} {st : BS}
theorem OwnB.out (h : OwnB w0 b g vp ul st w) : Below w0.heap.size w0 w := h.1
theorem OwnB.after {K : Nat → Nat} {r : Value} {st' : BS} {e : Ending} (hb : Below w0.heap.size w0 w) (hk : ∀ i, ¬ K i = 0 → w0.heap.size ≤ i) (hp : BusP w b K g vp ul st) (k : BusEnd w b K g vp ul r st' e w') : OwnB w0 b g vp ul st' w' := by
  obtain ⟨_, o, K', hg, hp'⟩ := k
  refine ⟨hb.trans (o.below (fun i hi => hk i hi) hb.size), K', fun i hi => ?_, hp'⟩
  by_cases c : i < w.heap.size
  · exact hk i (by rw [← hg i c]; exact hi)
  · have := hb.size; omega
def EndB (w0 : World) (b g : Nat) (vp : Value) (ul : List Nat) (r : Value) (st' : BS) (e : Ending) (w' : World) : Prop := e = .returned r ∧ OwnB w0 b g vp ul st' w'
theorem ownWrite (h : OwnB w0 b g vp ul st w) (a n v : Int) (ha : In64 a) (hv : In64 v) : Calls Tryz.prog 9 #[.pointer (some ⟨b, 0, none⟩), .int .u64 a, .int .i64 n, .int .u64 v] w (EndB w0 b g vp ul (.bool (busWr st a n v).1) (busWr st a n v).2) := by
  obtain ⟨hb, K, hk, hp⟩ := h
  exact (busWrite_any hp a n v ha hv).mono fun e w' k => ⟨k.1, OwnB.after hb hk hp k⟩
theorem ownRead (h : OwnB w0 b g vp ul st w) (a n : Int) (ha : In64 a) : Calls Tryz.prog 8 #[.pointer (some ⟨b, 0, none⟩), .int .u64 a, .int .i64 n] w (EndB w0 b g vp ul (.tuple #[.int .u64 (busRd st a n).1, .bool (busRd st a n).2.1]) (busRd st a n).2.2) := by
  obtain ⟨hb, K, hk, hp⟩ := h
  exact (busRead_any hp a n ha).mono fun e w' k => ⟨k.1, OwnB.after hb hk hp k⟩
theorem ownFeed (h : OwnB w0 b g vp ul st w) (i x : Int) (hx : 0 ≤ x ∧ x < 256) : Calls Tryz.prog 13 #[.pointer (some ⟨b, 0, none⟩), .int .i64 i, .int .u8 x] w (EndB w0 b g vp ul (.bool (busFd st i x).1) (busFd st i x).2) := by
  obtain ⟨hb, K, hk, hp⟩ := h
  exact (busFeed_any hp i x hx).mono fun e w' k => ⟨k.1, OwnB.after hb hk hp k⟩
/-- New, where it makes one. -/
theorem ownNew (w0 w : World) (hb : Below w0.heap.size w0 w) (tabs : Tabs w) (size n : Int) (hs : In64 size) (hok : busOk size n = true) : Calls Tryz.prog 7 #[.int .u64 size, .int .i64 n] w fun e w' => ∃ b g vp ul, e = .returned (.tuple #[.pointer (some ⟨b, 0, none⟩), .int .i64 0]) ∧ OwnB w0 b g vp ul (bs0 size n.toNat) w' :=
  (busNew_any w tabs size n hs).mono fun e w' k => by
    obtain ⟨h1, h2 | ⟨_, b, K, g, vp, ul, he, hk, hp⟩⟩ := k
    · rw [hok] at h2; cases h2.1
    · exact ⟨b, g, vp, ul, he, hb.trans (h1.mono hb.size), K, fun i hi => Nat.le_trans hb.size (hk i hi), hp⟩
end

/-! ### awake -/
def aw1 : BS := (busWr (bs0 4096 1) 2147487736 8 7).2
def aw2 : BS := (busWr aw1 268435457 1 1).2
def aw3 : BS := (busFd aw2 0 65).2
def aw4 : BS := (busWr aw3 201326632 4 1).2
def aw5 : BS := (busWr aw4 201334912 4 1024).2
def aw6 : BS := (busRd aw5 2147487736 8).2.2
theorem aw_ok : (busWr (bs0 4096 1) 2147487736 8 7).1 = true ∧ (busWr aw1 268435457 1 1).1 = true ∧ (busFd aw2 0 65).1 = true ∧ (busWr aw3 201326632 4 1).1 = true ∧ (busWr aw4 201334912 4 1024).1 = true ∧ (busRd aw5 2147487736 8).1 = 7 ∧ (busRd aw5 2147487736 8).2.1 = true ∧ (busRd aw6 203427844 4).1 = 10 ∧ (busRd aw6 203427844 4).2.1 = true := by
  refine ⟨?_, ?_, ?_, ?_, ?_, ?_, ?_, ?_, ?_⟩ <;> kernel_rfl

end Go.Proofs.YtbcnkhfpogglmaaGreatDoor

namespace Go.Proofs.YtbcnkhfpogglmaaGreatDoor
open Go.RowKit
set_option linter.unusedVariables false
set_option maxRecDepth 100000

set_option maxHeartbeats 2000000 in
theorem awake_any (w : World) (tabs : Tabs w) : Calls Tryz.prog 15 #[] w fun e w' => e = .returned (.bool true) ∧ Below w.heap.size w w' := by
  have HN := Lib.hid (ownNew w w (Below.refl _ _) tabs 4096 1 (by unfold In64; omega) (by decide))
  obtain ⟨r1, r2, r3, r4, r5, r6, r7, r8, r9⟩ := aw_ok
  have R1 := Lib.hid r1
  have R2 := Lib.hid r2
  have R3 := Lib.hid r3
  have R4 := Lib.hid r4
  have R5 := Lib.hid r5
  have R6 := Lib.hid r6
  have R7 := Lib.hid r7
  have R8 := Lib.hid r8
  have R9 := Lib.hid r9
  clear r1 r2 r3 r4 r5 r6 r7 r8 r9 tabs
  go_enter Tryz.func15, Tryz.ntmps15
  go_wp2_with fail
  (with_reducible refine HN.out.mono ?_)
  rintro e w0 ⟨b, g, vp, ul, rfl, ho⟩
  have HO0 : Hid (OwnB w b g vp ul (bs0 4096 1) w0) := Lib.hid ho
  clear ho HN
  go_wp2_with fail
  (with_reducible refine (ownWrite HO0.out 2147487736 8 7 (by unfold In64; omega) (by unfold In64; omega)).mono ?_)
  rintro e w1 ⟨rfl, ho⟩
  have HO1 : Hid (OwnB w b g vp ul aw1 w1) := Lib.hid ho
  clear ho
  rw [R1.out]
  go_wp2_with fail
  (with_reducible refine (ownWrite HO1.out 268435457 1 1 (by unfold In64; omega) (by unfold In64; omega)).mono ?_)
  rintro e w2 ⟨rfl, ho⟩
  have HO2 : Hid (OwnB w b g vp ul aw2 w2) := Lib.hid ho
  clear ho
  rw [R2.out]
  go_wp2_with fail
  (with_reducible refine (ownFeed HO2.out 0 65 (by omega)).mono ?_)
  rintro e w3 ⟨rfl, ho⟩
  have HO3 : Hid (OwnB w b g vp ul aw3 w3) := Lib.hid ho
  clear ho
  rw [R3.out]
  go_wp2_with fail
  (with_reducible refine (ownWrite HO3.out 201326632 4 1 (by unfold In64; omega) (by unfold In64; omega)).mono ?_)
  rintro e w4 ⟨rfl, ho⟩
  have HO4 : Hid (OwnB w b g vp ul aw4 w4) := Lib.hid ho
  clear ho
  rw [R4.out]
  go_wp2_with fail
  (with_reducible refine (ownWrite HO4.out 201334912 4 1024 (by unfold In64; omega) (by unfold In64; omega)).mono ?_)
  rintro e w5 ⟨rfl, ho⟩
  have HO5 : Hid (OwnB w b g vp ul aw5 w5) := Lib.hid ho
  clear ho
  rw [R5.out]
  go_wp2_with fail
  (with_reducible refine (ownRead HO5.out 2147487736 8 (by unfold In64; omega)).mono ?_)
  rintro e w6 ⟨rfl, ho⟩
  have HO6 : Hid (OwnB w b g vp ul aw6 w6) := Lib.hid ho
  clear ho
  rw [R6.out, R7.out]
  go_wp2_with fail
  (with_reducible refine (ownRead HO6.out 203427844 4 (by unfold In64; omega)).mono ?_)
  rintro e w7 ⟨rfl, ho⟩
  have HO7 : Hid (OwnB w b g vp ul (busRd aw6 203427844 4).2.2 w7) := Lib.hid ho
  clear ho
  rw [R8.out, R9.out]
  go_wp2
  go_ret
  exact ⟨rfl, HO7.out.out⟩

end Go.Proofs.YtbcnkhfpogglmaaGreatDoor
