/- Joined: BuN ClSR PlX PlSR Un Uo Up RfA -/
import Derived.Test.YtbcnkhfpogglmaaGreatDoorKP4
namespace Go.Proofs.YtbcnkhfpogglmaaGreatDoor
open Go.RowKit
set_option linter.unusedVariables false
set_option maxRecDepth 100000

theorem info_lines : (Tryz.prog.info? 33).map (·.size) = some 6 := by kernel_rfl
theorem built_lines (a b c d : Bool) (t : Int) : Tryz.prog.built 33 [(0, .bool a), (1, .bool b), (2, .bool c), (3, .bool d), (5, .int .u64 t)] = some #[.bool a, .bool b, .bool c, .bool d, .int .u64 0, .int .u64 t] := by kernel_rfl
/-- What Lines tells. -/
def linesW (a b c d u : Bool) (t : Int) : Value := .agg #[.bool a, .bool b, .bool c, .bool d, .int .u64 (if u = true then 2 else 0), .int .u64 t]
def linesV (st : BS) : Value := linesW st.c.s (C4.mtC st.c) (P5.lineT st.p 0) (P5.lineT st.p 1) (P5.upT st.p 31) st.c.n
def LinesE (w : World) (v : Value) (e : Ending) (w' : World) : Prop := e = .returned v ∧ Below w.heap.size w w'
theorem lines_none_bus (w : World) : Calls Tryz.prog 12 #[.pointer none] w (LinesE w (.agg #[.bool false, .bool false, .bool false, .bool false, .int .u64 0, .int .u64 0])) := by
  go_enter Tryz.func12, Tryz.ntmps12
  go_wp2
  exact bodyPost_ret (v := .agg #[.bool false, .bool false, .bool false, .bool false, .int .u64 0, .int .u64 0]) (by simp [results, Tryz.results12, go_sem]) rfl ⟨rfl, (Below.refl _ _).alloc (Nat.le_refl _) _⟩
set_option maxHeartbeats 8000000 in
theorem busLines_any {w : World} {b g : Nat} {K : Nat → Nat} {vp : Value} {ul : List Nat} {st : BS} (h : BusP w b K g vp ul st) : Calls Tryz.prog 12 #[.pointer (some ⟨b, 0, none⟩)] w (LinesE w (linesV st)) := by
  have hw1 : Below w.heap.size w (w.alloc (.cells #[.bool false, .bool false, .bool false, .bool false, .int .u64 0, .int .u64 0] 33)) := (Below.refl _ _).alloc (Nat.le_refl _) _
  have H := Lib.hid (h.below hw1)
  have HRES : Hid ((w.alloc (.cells #[.bool false, .bool false, .bool false, .bool false, .int .u64 0, .int .u64 0] 33)).heap[w.heap.size]? = some (.cells #[.bool false, .bool false, .bool false, .bool false, .int .u64 0, .int .u64 0] 33 (0, 0))) := Lib.hid (heap_alloc_new w _)
  have HZ1 : Hid (w.heap.size < (w.alloc (.cells #[.bool false, .bool false, .bool false, .bool false, .int .u64 0, .int .u64 0] 33)).heap.size) := Lib.hid (by rw [World.size_alloc]; omega)
  have HW1 := Lib.hid hw1
  have HSZ : Hid ((Tryz.prog.info? 69).map (·.size) = some (varr 39 (P5.cellQ st.p)).size) := Lib.hid (P5.size_progP.trans (by rw [varr_size]))
  have HC1 : Hid (∀ wx, Calls Tryz.prog 38 #[.agg #[.bool st.c.s, .int .u64 st.c.c, .int .u64 st.c.n]] wx fun e w' => e = .returned (.bool st.c.s) ∧ Below wx.heap.size wx w') := Lib.hid fun wx => C4.msip_any wx st.c
  have HC2 : Hid (∀ wx, Calls Tryz.prog 39 #[.agg #[.int .u64 st.c.c, .int .u64 st.c.n]] wx fun e w' => e = .returned (.bool (C4.mtC st.c)) ∧ Below wx.heap.size wx w') := Lib.hid fun wx => C4.mtip_any wx st.c
  have HC3 : Hid (∀ wx, Calls Tryz.prog 40 #[.agg (varr 39 (P5.cellQ st.p)), .int .i64 0] wx fun e w' => e = .returned (.bool (P5.lineT st.p 0)) ∧ Below wx.heap.size wx w') := Lib.hid fun wx => P5.line_0 wx st.p h.pok
  have HC4 : Hid (∀ wx, Calls Tryz.prog 40 #[.agg (varr 39 (P5.cellQ st.p)), .int .i64 1] wx fun e w' => e = .returned (.bool (P5.lineT st.p 1)) ∧ Below wx.heap.size wx w') := Lib.hid fun wx => P5.line_1 wx st.p h.pok
  have HC5 : Hid (∀ wx, Calls Tryz.prog 41 #[.agg #[.int .u64 st.c.c, .int .u64 st.c.n]] wx fun e w' => e = .returned (.int .u64 st.c.n) ∧ Below wx.heap.size wx w') := Lib.hid fun wx => C4.time_any wx st.c
  have HUP : Hid (∀ wx, Calls Tryz.prog 42 #[.agg (varr 39 (P5.cellQ st.p)), .int .i64 31] wx fun e w' => e = .returned (.bool (P5.upT st.p 31)) ∧ Below wx.heap.size wx w') := Lib.hid fun wx => P5.up_any wx st.p h.pok 31
  show Calls Tryz.prog 12 #[.pointer (some ⟨b, 0, none⟩)] w (LinesE w (linesW st.c.s (C4.mtC st.c) (P5.lineT st.p 0) (P5.lineT st.p 1) (P5.upT st.p 31) st.c.n))
  clear h hw1
  have HRG : Hid (∀ wx, Below (w.alloc (.cells #[.bool false, .bool false, .bool false, .bool false, .int .u64 0, .int .u64 0] 33)).heap.size (w.alloc (.cells #[.bool false, .bool false, .bool false, .bool false, .int .u64 0, .int .u64 0] 33)) wx → wx.rangeAt b 4 (varr 39 (P5.cellQ st.p)).toList) := Lib.hid fun wx hx => (H.out.below hx).obj.range
  have HOB : Hid (∀ wx, Below (w.alloc (.cells #[.bool false, .bool false, .bool false, .bool false, .int .u64 0, .int .u64 0] 33)).heap.size (w.alloc (.cells #[.bool false, .bool false, .bool false, .bool false, .int .u64 0, .int .u64 0] 33)) wx → BusAt wx b g st.c st.p vp (regs b g st.size ul)) := Lib.hid fun wx hx => (H.out.below hx).obj
  generalize hrow : varr 39 (P5.cellQ st.p) = row at *
  generalize P5.lineT st.p 0 = l0 at *
  generalize P5.lineT st.p 1 = l1 at *
  generalize P5.upT st.p 31 = up at *
  generalize C4.mtC st.c = mt at *
  generalize hcs : st.c.s = cs at *
  generalize hcc : st.c.c = cc at *
  generalize hcn : st.c.n = cn at *
  clear hrow
  have HOC : Hid (∀ wx, Below (w.alloc (.cells #[.bool false, .bool false, .bool false, .bool false, .int .u64 0, .int .u64 0] 33)).heap.size (w.alloc (.cells #[.bool false, .bool false, .bool false, .bool false, .int .u64 0, .int .u64 0] 33)) wx → wx.cell? ⟨b, 1, none⟩ = some (.bool cs) ∧ wx.cell? ⟨b, 2, none⟩ = some (.int .u64 cc) ∧ wx.cell? ⟨b, 3, none⟩ = some (.int .u64 cn)) := Lib.hid fun wx hx => by
    have := (HOB.out wx hx).clint_
    rwa [hcs, hcc, hcn] at this
  clear hcs hcc hcn HOB H
  go_enter Tryz.func12, Tryz.ntmps12
  go_wp2_with fail
  generalize w.alloc (.cells #[.bool false, .bool false, .bool false, .bool false, .int .u64 0, .int .u64 0] 33) = w1 at *
  refine wp_region_held_drew (S := fun wx => Below w1.heap.size w1 wx) (by kernel_rfl) ((Below.refl _ _).drew) (fun hHeld0 => ?_)
  have HS := Lib.hid hHeld0
  clear hHeld0
  generalize w1.drew = wd at *
  refine takeD (i := 0) (some 7) (v := ?_) rfl rfl (by kernel_rfl) (by kernel_rfl) (by kernel_rfl) (fun _ _ _ h => h) (by rfl) HS.out ?_ ?_
  rotate_left
  · intro wx hSx
    clear hSx
    go_simp
    try (with_reducible rfl)
  simp only [Act.put, List.setIfInBounds_toArray, List.set_cons_zero, List.set_cons_succ]
  refine takeD (i := 1) (some 8) (v := ?_) rfl rfl (by kernel_rfl) (by kernel_rfl) (by kernel_rfl) (fun _ _ _ h => h) (by rfl) HS.out ?_ ?_
  rotate_left
  · intro wx hSx
    clear hSx
    go_simp
    try (with_reducible rfl)
  simp only [Act.put, List.setIfInBounds_toArray, List.set_cons_zero, List.set_cons_succ]
  refine takeD (i := 2) (some 9) (v := ?_) rfl rfl (by kernel_rfl) (by kernel_rfl) (by kernel_rfl) (fun _ _ _ h => h) (by rfl) HS.out ?_ ?_
  rotate_left
  · intro wx hSx
    clear hSx
    go_simp
    try (with_reducible rfl)
  simp only [Act.put, List.setIfInBounds_toArray, List.set_cons_zero, List.set_cons_succ]
  refine takeD (i := 3) (some 10) (v := ?_) rfl rfl (by kernel_rfl) (by kernel_rfl) (by kernel_rfl) (fun _ _ _ h => h) (by rfl) HS.out ?_ ?_
  rotate_left
  · intro wx hSx
    obtain ⟨k1, k2, k3⟩ := HOC.out wx hSx
    skip
    clear hSx
    go_simp
    try (with_reducible rfl)
  simp only [Act.put, List.setIfInBounds_toArray, List.set_cons_zero, List.set_cons_succ]
  refine takeD (i := 5) (some 12) (v := ?_) rfl rfl (by kernel_rfl) (by kernel_rfl) (by kernel_rfl) (fun _ _ _ h => h) (by rfl) HS.out ?_ ?_
  rotate_left
  · intro wx hSx
    clear hSx
    go_simp
    try (with_reducible rfl)
  simp only [Act.put, List.setIfInBounds_toArray, List.set_cons_zero, List.set_cons_succ]
  refine takeD (i := 6) (some 13) (v := ?_) rfl rfl (by kernel_rfl) (by kernel_rfl) (by kernel_rfl) (fun _ _ _ h => h) (by rfl) HS.out ?_ ?_
  rotate_left
  · intro wx hSx
    clear hSx
    go_simp
    try (with_reducible rfl)
  simp only [Act.put, List.setIfInBounds_toArray, List.set_cons_zero, List.set_cons_succ]
  refine takeD (i := 7) (some 14) (v := ?_) rfl rfl (by kernel_rfl) (by kernel_rfl) (by kernel_rfl) (fun _ _ _ h => h) (by rfl) HS.out ?_ ?_
  rotate_left
  · intro wx hSx
    clear hSx
    go_simp
    try (with_reducible rfl)
  simp only [Act.put, List.setIfInBounds_toArray, List.set_cons_zero, List.set_cons_succ]
  refine takeD (i := 8) (some 15) (v := ?_) rfl rfl (by kernel_rfl) (by kernel_rfl) (by kernel_rfl) (fun _ _ _ h => h) (by rfl) HS.out ?_ ?_
  rotate_left
  · intro wx hSx
    clear hSx
    go_simp
    try (with_reducible rfl)
  simp only [Act.put, List.setIfInBounds_toArray, List.set_cons_zero, List.set_cons_succ]
  refine takeD (i := 9) (some 16) (v := ?_) rfl rfl (by kernel_rfl) (by kernel_rfl) (by kernel_rfl) (fun _ _ _ h => h) (by rfl) HS.out ?_ ?_
  rotate_left
  · intro wx hSx
    obtain ⟨k1, k2, k3⟩ := HOC.out wx hSx
    skip
    clear hSx
    go_simp
    try (with_reducible rfl)
  simp only [Act.put, List.setIfInBounds_toArray, List.set_cons_zero, List.set_cons_succ]
  refine takeD (i := 11) (some 18) (v := ?_) rfl rfl (by kernel_rfl) (by kernel_rfl) (by kernel_rfl) (fun _ _ _ h => h) (by rfl) HS.out ?_ ?_
  rotate_left
  · intro wx hSx
    clear hSx
    go_simp
    try (with_reducible rfl)
  simp only [Act.put, List.setIfInBounds_toArray, List.set_cons_zero, List.set_cons_succ]
  refine takeD (i := 12) (some 19) (v := ?_) rfl rfl (by kernel_rfl) (by kernel_rfl) (by kernel_rfl) (fun _ _ _ h => h) (by rfl) HS.out ?_ ?_
  rotate_left
  · intro wx hSx
    clear hSx
    go_simp
    try (with_reducible rfl)
  simp only [Act.put, List.setIfInBounds_toArray, List.set_cons_zero, List.set_cons_succ]
  refine takeD (i := 13) (some 20) (v := ?_) rfl rfl (by kernel_rfl) (by kernel_rfl) (by kernel_rfl) (fun _ _ _ h => h) (by rfl) HS.out ?_ ?_
  rotate_left
  · intro wx hSx
    clear hSx
    go_simp
    try (with_reducible rfl)
  simp only [Act.put, List.setIfInBounds_toArray, List.set_cons_zero, List.set_cons_succ]
  refine takeD (i := 14) (some 21) (v := ?_) rfl rfl (by kernel_rfl) (by kernel_rfl) (by kernel_rfl) (fun _ _ _ h => h) (by rfl) HS.out ?_ ?_
  rotate_left
  · intro wx hSx
    exact (by refine yield_fr _ (.tmp 20) ?_ b 4 ?_ (run_load_fr wx b 4 69 row _ (HRG.out wx hSx) Tryz.underlying69 rfl HSZ.out) <;> rfl)
  simp only [Act.put, List.setIfInBounds_toArray, List.set_cons_zero, List.set_cons_succ]
  refine takeD (i := 16) (some 23) (v := ?_) rfl rfl (by kernel_rfl) (by kernel_rfl) (by kernel_rfl) (fun _ _ _ h => h) (by rfl) HS.out ?_ ?_
  rotate_left
  · intro wx hSx
    clear hSx
    go_simp
    try (with_reducible rfl)
  simp only [Act.put, List.setIfInBounds_toArray, List.set_cons_zero, List.set_cons_succ]
  refine takeD (i := 17) (some 24) (v := ?_) rfl rfl (by kernel_rfl) (by kernel_rfl) (by kernel_rfl) (fun _ _ _ h => h) (by rfl) HS.out ?_ ?_
  rotate_left
  · intro wx hSx
    clear hSx
    go_simp
    try (with_reducible rfl)
  simp only [Act.put, List.setIfInBounds_toArray, List.set_cons_zero, List.set_cons_succ]
  refine takeD (i := 18) (some 25) (v := ?_) rfl rfl (by kernel_rfl) (by kernel_rfl) (by kernel_rfl) (fun _ _ _ h => h) (by rfl) HS.out ?_ ?_
  rotate_left
  · intro wx hSx
    clear hSx
    go_simp
    try (with_reducible rfl)
  simp only [Act.put, List.setIfInBounds_toArray, List.set_cons_zero, List.set_cons_succ]
  refine takeD (i := 19) (some 26) (v := ?_) rfl rfl (by kernel_rfl) (by kernel_rfl) (by kernel_rfl) (fun _ _ _ h => h) (by rfl) HS.out ?_ ?_
  rotate_left
  · intro wx hSx
    exact (by refine yield_fr _ (.tmp 25) ?_ b 4 ?_ (run_load_fr wx b 4 69 row _ (HRG.out wx hSx) Tryz.underlying69 rfl HSZ.out) <;> rfl)
  simp only [Act.put, List.setIfInBounds_toArray, List.set_cons_zero, List.set_cons_succ]
  refine takeD (i := 21) (some 28) (v := ?_) rfl rfl (by kernel_rfl) (by kernel_rfl) (by kernel_rfl) (fun _ _ _ h => h) (by rfl) HS.out ?_ ?_
  rotate_left
  · intro wx hSx
    clear hSx
    go_simp
    try (with_reducible rfl)
  simp only [Act.put, List.setIfInBounds_toArray, List.set_cons_zero, List.set_cons_succ]
  refine takeD (i := 22) (some 29) (v := ?_) rfl rfl (by kernel_rfl) (by kernel_rfl) (by kernel_rfl) (fun _ _ _ h => h) (by rfl) HS.out ?_ ?_
  rotate_left
  · intro wx hSx
    clear hSx
    go_simp
    try (with_reducible rfl)
  simp only [Act.put, List.setIfInBounds_toArray, List.set_cons_zero, List.set_cons_succ]
  refine takeD (i := 23) (some 30) (v := ?_) rfl rfl (by kernel_rfl) (by kernel_rfl) (by kernel_rfl) (fun _ _ _ h => h) (by rfl) HS.out ?_ ?_
  rotate_left
  · intro wx hSx
    clear hSx
    go_simp
    try (with_reducible rfl)
  simp only [Act.put, List.setIfInBounds_toArray, List.set_cons_zero, List.set_cons_succ]
  refine takeD (i := 24) (some 31) (v := ?_) rfl rfl (by kernel_rfl) (by kernel_rfl) (by kernel_rfl) (fun _ _ _ h => h) (by rfl) HS.out ?_ ?_
  rotate_left
  · intro wx hSx
    clear hSx
    go_simp
    try (with_reducible rfl)
  simp only [Act.put, List.setIfInBounds_toArray, List.set_cons_zero, List.set_cons_succ]
  refine takeD (i := 25) (some 32) (v := ?_) rfl rfl (by kernel_rfl) (by kernel_rfl) (by kernel_rfl) (fun _ _ _ h => h) (by rfl) HS.out ?_ ?_
  rotate_left
  · intro wx hSx
    obtain ⟨k1, k2, k3⟩ := HOC.out wx hSx
    skip
    clear hSx
    go_simp
    try (with_reducible rfl)
  simp only [Act.put, List.setIfInBounds_toArray, List.set_cons_zero, List.set_cons_succ]
  refine wpAnyH_ready (rs := [4, 28]) (by kernel_rfl) (by simp) ?_
  refine AllReadyH.cons rfl (fun K hK => ?_) (AllReadyH.cons rfl (fun K hK => ?_) AllReadyH.nil)
  · go_simp
    (with_reducible refine (HC1.out _).mono ?_)
    rintro e wc1 ⟨rfl, hb⟩
    have HSn : Hid (Below w1.heap.size w1 wc1) := Lib.hid (HS.out.trans (hb.mono HS.out.size))
    clear hb
    go_simp
    refine hK.out _ _ ?_ (fun hHeld => ?_)
    · exact HSn.out
    clear hHeld hK K
    try simp only [Act.put, List.setIfInBounds_toArray, List.set_cons_zero, List.set_cons_succ]
    replace HS := HSn
    clear HSn
    refine wpAnyH_ready (rs := [10, 28]) (by kernel_rfl) (by simp) ?_
    refine AllReadyH.cons rfl (fun K hK => ?_) (AllReadyH.cons rfl (fun K hK => ?_) AllReadyH.nil)
    · go_simp
      (with_reducible refine (HC2.out _).mono ?_)
      rintro e wc2 ⟨rfl, hb⟩
      have HSn : Hid (Below w1.heap.size w1 wc2) := Lib.hid (HS.out.trans (hb.mono HS.out.size))
      clear hb
      go_simp
      refine hK.out _ _ ?_ (fun hHeld => ?_)
      · exact HSn.out
      clear hHeld hK K
      try simp only [Act.put, List.setIfInBounds_toArray, List.set_cons_zero, List.set_cons_succ]
      replace HS := HSn
      clear HSn
      refine wpAnyH_ready (rs := [15, 28]) (by kernel_rfl) (by simp) ?_
      refine AllReadyH.cons rfl (fun K hK => ?_) (AllReadyH.cons rfl (fun K hK => ?_) AllReadyH.nil)
      · go_simp
        (with_reducible refine (HC3.out _).mono ?_)
        rintro e wc3 ⟨rfl, hb⟩
        have HSn : Hid (Below w1.heap.size w1 wc3) := Lib.hid (HS.out.trans (hb.mono HS.out.size))
        clear hb
        go_simp
        refine hK.out _ _ ?_ (fun hHeld => ?_)
        · exact HSn.out
        clear hHeld hK K
        try simp only [Act.put, List.setIfInBounds_toArray, List.set_cons_zero, List.set_cons_succ]
        replace HS := HSn
        clear HSn
        refine wpAnyH_ready (rs := [20, 28]) (by kernel_rfl) (by simp) ?_
        refine AllReadyH.cons rfl (fun K hK => ?_) (AllReadyH.cons rfl (fun K hK => ?_) AllReadyH.nil)
        · go_simp
          (with_reducible refine (HC4.out _).mono ?_)
          rintro e wc4 ⟨rfl, hb⟩
          have HSn : Hid (Below w1.heap.size w1 wc4) := Lib.hid (HS.out.trans (hb.mono HS.out.size))
          clear hb
          go_simp
          refine hK.out _ _ ?_ (fun hHeld => ?_)
          · exact HSn.out
          clear hHeld hK K
          try simp only [Act.put, List.setIfInBounds_toArray, List.set_cons_zero, List.set_cons_succ]
          replace HS := HSn
          clear HSn
          refine wpAnyH_ready (rs := [26, 28]) (by kernel_rfl) (by simp) ?_
          refine AllReadyH.cons rfl (fun K hK => ?_) (AllReadyH.cons rfl (fun K hK => ?_) AllReadyH.nil)
          · go_simp
            (with_reducible refine (HC5.out _).mono ?_)
            rintro e wc5 ⟨rfl, hb⟩
            have HSn : Hid (Below w1.heap.size w1 wc5) := Lib.hid (HS.out.trans (hb.mono HS.out.size))
            clear hb
            go_simp
            refine hK.out _ _ ?_ (fun hHeld => ?_)
            · exact HSn.out
            clear hHeld hK K
            try simp only [Act.put, List.setIfInBounds_toArray, List.set_cons_zero, List.set_cons_succ]
            replace HS := HSn
            clear HSn
            refine takeD (i := 27) (some 34) (v := ?_) rfl rfl (by kernel_rfl) (by kernel_rfl) (by kernel_rfl) (fun _ _ _ h => h) (by rfl) HS.out ?_ ?_
            rotate_left
            · intro wx hSx
              exact (by refine yield_build 33 #[(0, .tmp 11), (1, .tmp 17), (2, .tmp 22), (3, .tmp 27), (5, .tmp 33)] ?_ [(0, .bool cs), (1, .bool mt), (2, .bool l0), (3, .bool l1), (5, .int .u64 cn)] ?_ (built_lines cs mt l0 l1 cn) <;> first | rfl | simp [Act.eval, Act.put])
            simp only [Act.put, List.setIfInBounds_toArray, List.set_cons_zero, List.set_cons_succ]
            refine wpAnyH_ready (rs := [28]) (by kernel_rfl) (by simp) ?_
            refine AllReadyH.cons rfl (fun K hK => ?_) AllReadyH.nil
            go_simp
            refine hK.out _ _ ?_ (fun hHeld => ?_)
            · exact HS.out.alloc HS.out.size _
            clear hHeld hK K
            try simp only [Act.put, List.setIfInBounds_toArray, List.set_cons_zero, List.set_cons_succ]
            have HX : Hid (w1.heap.size ≤ wc5.heap.size) := Lib.hid HS.out.size
            have HSn : Hid (Below w1.heap.size w1 (wc5.alloc (.cells #[.bool false, .bool false, .bool false, .bool false, .int .u64 0, .int .u64 0] 33))) := Lib.hid (HS.out.alloc HS.out.size _)
            have HDA : Hid ((wc5.alloc (.cells #[.bool false, .bool false, .bool false, .bool false, .int .u64 0, .int .u64 0] 33)).heap[wc5.heap.size]? = some (.cells #[.bool false, .bool false, .bool false, .bool false, .int .u64 0, .int .u64 0] 33 (0, 0))) := Lib.hid (heap_alloc_new wc5 _)
            have HZA : Hid (wc5.heap.size < (wc5.alloc (.cells #[.bool false, .bool false, .bool false, .bool false, .int .u64 0, .int .u64 0] 33)).heap.size) := Lib.hid (by rw [World.size_alloc]; omega)
            replace HS := HSn
            clear HSn
            generalize wc5.alloc (.cells #[.bool false, .bool false, .bool false, .bool false, .int .u64 0, .int .u64 0] 33) = wa at *
            generalize wc5.heap.size = x at *
            have HA : Hid (Below wa.heap.size wa wa) := Lib.hid (Below.refl _ _)
            refine wpAnyH_ready (rs := [29]) (by kernel_rfl) (by simp) ?_
            refine AllReadyH.cons rfl (fun K hK => ?_) AllReadyH.nil
            rw [if_pos (by rfl)]
            have hD : wa.heap[x]? = some (.cells #[.bool false, .bool false, .bool false, .bool false, .int .u64 0, .int .u64 0] 33 (0, 0)) := (HA.out.block x HZA.out).trans HDA.out
            refine wp_store_row 33 (.tmp 3) (.tmp 34) rfl x #[.bool cs, .bool mt, .bool l0, .bool l1, .int .u64 0, .int .u64 cn] rfl rfl 33 #[.bool false, .bool false, .bool false, .bool false, .int .u64 0, .int .u64 0] hD info_lines rfl (by simp [Value.oneCell']) ?_
            have HSn : Hid (Below w1.heap.size w1 (wa.setRow x #[.bool cs, .bool mt, .bool l0, .bool l1, .int .u64 0, .int .u64 cn])) := Lib.hid (below_setRow HS.out HX.out _)
            have HXR : Hid ((wa.setRow x #[.bool cs, .bool mt, .bool l0, .bool l1, .int .u64 0, .int .u64 cn]).heap[x]? = some (.cells #[.bool cs, .bool mt, .bool l0, .bool l1, .int .u64 0, .int .u64 cn] 33 (0, 0))) := Lib.hid (setRow_heap wa x _ _ _ _ hD)
            refine hK.out _ _ ?_ (fun hHeld => ?_)
            · exact HSn.out
            clear hHeld hK K hD
            try simp only [Act.put, List.setIfInBounds_toArray, List.set_cons_zero, List.set_cons_succ]
            replace HS := HSn
            clear HSn HA HZA HDA
            refine wpAnyH_done (by kernel_rfl) ?_ _
            generalize (wa.setRow x #[.bool cs, .bool mt, .bool l0, .bool l1, .int .u64 0, .int .u64 cn]) = wz at *
            have HRZ := Lib.hid (HRG.out wz HS.out)
            have hxz : x < wz.heap.size := (Array.getElem?_eq_some_iff.1 HXR.out).1
            go_wp2_with (refine wpList_load_fr rfl _ _ rfl b 4 rfl _ _ HRZ.out Tryz.underlying69 rfl ?_ ?_; · exact HSZ.out)
            (with_reducible refine (HUP.out _).mono ?_)
            rintro e wu ⟨rfl, hb⟩
            have hxw : wu.heap[x]? = some (.cells #[.bool cs, .bool mt, .bool l0, .bool l1, .int .u64 0, .int .u64 cn] 33 (0, 0)) := (hb.block x hxz).trans HXR.out
            have HBW : Hid (Below w1.heap.size w1 wu) := Lib.hid (HS.out.trans (hb.mono HS.out.size))
            have hrw : wu.heap[w.heap.size]? = some (.cells #[.bool false, .bool false, .bool false, .bool false, .int .u64 0, .int .u64 0] 33 (0, 0)) := (HBW.out.block _ HZ1.out).trans HRES.out
            have hne : ¬ w.heap.size = x := by have := HX.out; have := HZ1.out; omega
            have fx : wu.frozen? ⟨x, 4, none⟩ = false := frozen_of_row wu x 4 _ _ hxw
            have cx : wu.cell? ⟨x, 4, none⟩ = some (.int .u64 0) := by rw [cell_of_row wu x 4 _ _ _ hxw]; rfl
            have hx2 : (wu.setCell ⟨x, 4, none⟩ (.int .u64 2)).heap[x]? = some (.cells #[.bool cs, .bool mt, .bool l0, .bool l1, .int .u64 2, .int .u64 cn] 33 (0, 0)) := by rw [heap_setCell_same wu x 4 _ _ _ hxw]; rfl
            have hr2 : (wu.setCell ⟨x, 4, none⟩ (.int .u64 2)).heap[w.heap.size]? = some (.cells #[.bool false, .bool false, .bool false, .bool false, .int .u64 0, .int .u64 0] 33 (0, 0)) := by rw [heap_setCell_other wu ⟨x, 4, none⟩ w.heap.size _ hne]; exact hrw
            have HX1 := Lib.hid hxw
            have HR1 := Lib.hid hrw
            have HX2 := Lib.hid hx2
            have HR2 := Lib.hid hr2
            have HB2 : Hid (Below w1.heap.size w1 (wu.setCell ⟨x, 4, none⟩ (.int .u64 2))) := Lib.hid (HBW.out.setCell HX.out _)
            have HW1B := Lib.hid HW1.out.size
            clear hb hxw hrw hx2 hr2 hxz hne HRZ HUP HRG HOC HSZ HS HXR HC1 HC2 HC3 HC4 HC5
            cases up with
            | false =>
              go_wp2_with (first | (refine wpList_load_row rfl _ _ rfl x rfl 33 _ _ _ HX1.out Tryz.underlying33 rfl ?_ ?_; · exact info_lines) | (refine wpList_store_row rfl 33 (.tmp 2) (.tmp 41) rfl w.heap.size #[.bool cs, .bool mt, .bool l0, .bool l1, .int .u64 0, .int .u64 cn] rfl rfl 33 #[.bool false, .bool false, .bool false, .bool false, .int .u64 0, .int .u64 0] HR1.out info_lines rfl (by simp [Value.oneCell']) ?_))
              exact bodyPost_ret (v := linesW cs mt l0 l1 false cn) (results_cell_row (show Tryz.f12.results = #[.cell 2 33] by kernel_rfl) _ _ w.heap.size 33 _ _ _ rfl (setRow_heap _ _ _ _ _ _ HR1.out) Tryz.underlying33 rfl info_lines) rfl ⟨rfl, below_setRow (HW1.out.trans (HBW.out.mono HW1B.out)) (Nat.le_refl _) _⟩
            | true =>
              go_wp2_with (first | (refine wpList_load_row rfl _ _ rfl x rfl 33 _ _ _ HX2.out Tryz.underlying33 rfl ?_ ?_; · exact info_lines) | (refine wpList_store_row rfl 33 (.tmp 2) (.tmp 41) rfl w.heap.size #[.bool cs, .bool mt, .bool l0, .bool l1, .int .u64 2, .int .u64 cn] rfl rfl 33 #[.bool false, .bool false, .bool false, .bool false, .int .u64 0, .int .u64 0] HR2.out info_lines rfl (by simp [Value.oneCell']) ?_))
              exact bodyPost_ret (v := linesW cs mt l0 l1 true cn) (results_cell_row (show Tryz.f12.results = #[.cell 2 33] by kernel_rfl) _ _ w.heap.size 33 _ _ _ rfl (setRow_heap _ _ _ _ _ _ HR2.out) Tryz.underlying33 rfl info_lines) rfl ⟨rfl, below_setRow (HW1.out.trans (HB2.out.mono HW1B.out)) (Nat.le_refl _) _⟩
          · go_simp
            refine hK.out _ _ ?_ (fun hHeld => ?_)
            · exact HS.out.alloc HS.out.size _
            clear hHeld hK K
            try simp only [Act.put, List.setIfInBounds_toArray, List.set_cons_zero, List.set_cons_succ]
            have HX : Hid (w1.heap.size ≤ wc4.heap.size) := Lib.hid HS.out.size
            have HSn : Hid (Below w1.heap.size w1 (wc4.alloc (.cells #[.bool false, .bool false, .bool false, .bool false, .int .u64 0, .int .u64 0] 33))) := Lib.hid (HS.out.alloc HS.out.size _)
            have HDA : Hid ((wc4.alloc (.cells #[.bool false, .bool false, .bool false, .bool false, .int .u64 0, .int .u64 0] 33)).heap[wc4.heap.size]? = some (.cells #[.bool false, .bool false, .bool false, .bool false, .int .u64 0, .int .u64 0] 33 (0, 0))) := Lib.hid (heap_alloc_new wc4 _)
            have HZA : Hid (wc4.heap.size < (wc4.alloc (.cells #[.bool false, .bool false, .bool false, .bool false, .int .u64 0, .int .u64 0] 33)).heap.size) := Lib.hid (by rw [World.size_alloc]; omega)
            replace HS := HSn
            clear HSn
            generalize wc4.alloc (.cells #[.bool false, .bool false, .bool false, .bool false, .int .u64 0, .int .u64 0] 33) = wa at *
            generalize wc4.heap.size = x at *
            have HA : Hid (Below wa.heap.size wa wa) := Lib.hid (Below.refl _ _)
            refine wpAnyH_ready (rs := [26]) (by kernel_rfl) (by simp) ?_
            refine AllReadyH.cons rfl (fun K hK => ?_) AllReadyH.nil
            go_simp
            (with_reducible refine (HC5.out _).mono ?_)
            rintro e wc6 ⟨rfl, hb⟩
            have HSn : Hid (Below w1.heap.size w1 wc6) := Lib.hid (HS.out.trans (hb.mono HS.out.size))
            have HAn : Hid (Below wa.heap.size wa wc6) := Lib.hid (HA.out.trans (hb.mono HA.out.size))
            clear hb
            go_simp
            refine hK.out _ _ ?_ (fun hHeld => ?_)
            · exact HSn.out
            clear hHeld hK K
            try simp only [Act.put, List.setIfInBounds_toArray, List.set_cons_zero, List.set_cons_succ]
            replace HS := HSn
            clear HSn
            replace HA := HAn
            clear HAn
            refine takeD (i := 27) (some 34) (v := ?_) rfl rfl (by kernel_rfl) (by kernel_rfl) (by kernel_rfl) (fun _ _ _ h => h) (by rfl) HS.out ?_ ?_
            rotate_left
            · intro wx hSx
              exact (by refine yield_build 33 #[(0, .tmp 11), (1, .tmp 17), (2, .tmp 22), (3, .tmp 27), (5, .tmp 33)] ?_ [(0, .bool cs), (1, .bool mt), (2, .bool l0), (3, .bool l1), (5, .int .u64 cn)] ?_ (built_lines cs mt l0 l1 cn) <;> first | rfl | simp [Act.eval, Act.put])
            simp only [Act.put, List.setIfInBounds_toArray, List.set_cons_zero, List.set_cons_succ]
            refine wpAnyH_ready (rs := [29]) (by kernel_rfl) (by simp) ?_
            refine AllReadyH.cons rfl (fun K hK => ?_) AllReadyH.nil
            rw [if_pos (by rfl)]
            have hD : wc6.heap[x]? = some (.cells #[.bool false, .bool false, .bool false, .bool false, .int .u64 0, .int .u64 0] 33 (0, 0)) := (HA.out.block x HZA.out).trans HDA.out
            refine wp_store_row 33 (.tmp 3) (.tmp 34) rfl x #[.bool cs, .bool mt, .bool l0, .bool l1, .int .u64 0, .int .u64 cn] rfl rfl 33 #[.bool false, .bool false, .bool false, .bool false, .int .u64 0, .int .u64 0] hD info_lines rfl (by simp [Value.oneCell']) ?_
            have HSn : Hid (Below w1.heap.size w1 (wc6.setRow x #[.bool cs, .bool mt, .bool l0, .bool l1, .int .u64 0, .int .u64 cn])) := Lib.hid (below_setRow HS.out HX.out _)
            have HXR : Hid ((wc6.setRow x #[.bool cs, .bool mt, .bool l0, .bool l1, .int .u64 0, .int .u64 cn]).heap[x]? = some (.cells #[.bool cs, .bool mt, .bool l0, .bool l1, .int .u64 0, .int .u64 cn] 33 (0, 0))) := Lib.hid (setRow_heap wc6 x _ _ _ _ hD)
            refine hK.out _ _ ?_ (fun hHeld => ?_)
            · exact HSn.out
            clear hHeld hK K hD
            try simp only [Act.put, List.setIfInBounds_toArray, List.set_cons_zero, List.set_cons_succ]
            replace HS := HSn
            clear HSn HA HZA HDA
            refine wpAnyH_done (by kernel_rfl) ?_ _
            generalize (wc6.setRow x #[.bool cs, .bool mt, .bool l0, .bool l1, .int .u64 0, .int .u64 cn]) = wz at *
            have HRZ := Lib.hid (HRG.out wz HS.out)
            have hxz : x < wz.heap.size := (Array.getElem?_eq_some_iff.1 HXR.out).1
            go_wp2_with (refine wpList_load_fr rfl _ _ rfl b 4 rfl _ _ HRZ.out Tryz.underlying69 rfl ?_ ?_; · exact HSZ.out)
            (with_reducible refine (HUP.out _).mono ?_)
            rintro e wu ⟨rfl, hb⟩
            have hxw : wu.heap[x]? = some (.cells #[.bool cs, .bool mt, .bool l0, .bool l1, .int .u64 0, .int .u64 cn] 33 (0, 0)) := (hb.block x hxz).trans HXR.out
            have HBW : Hid (Below w1.heap.size w1 wu) := Lib.hid (HS.out.trans (hb.mono HS.out.size))
            have hrw : wu.heap[w.heap.size]? = some (.cells #[.bool false, .bool false, .bool false, .bool false, .int .u64 0, .int .u64 0] 33 (0, 0)) := (HBW.out.block _ HZ1.out).trans HRES.out
            have hne : ¬ w.heap.size = x := by have := HX.out; have := HZ1.out; omega
            have fx : wu.frozen? ⟨x, 4, none⟩ = false := frozen_of_row wu x 4 _ _ hxw
            have cx : wu.cell? ⟨x, 4, none⟩ = some (.int .u64 0) := by rw [cell_of_row wu x 4 _ _ _ hxw]; rfl
            have hx2 : (wu.setCell ⟨x, 4, none⟩ (.int .u64 2)).heap[x]? = some (.cells #[.bool cs, .bool mt, .bool l0, .bool l1, .int .u64 2, .int .u64 cn] 33 (0, 0)) := by rw [heap_setCell_same wu x 4 _ _ _ hxw]; rfl
            have hr2 : (wu.setCell ⟨x, 4, none⟩ (.int .u64 2)).heap[w.heap.size]? = some (.cells #[.bool false, .bool false, .bool false, .bool false, .int .u64 0, .int .u64 0] 33 (0, 0)) := by rw [heap_setCell_other wu ⟨x, 4, none⟩ w.heap.size _ hne]; exact hrw
            have HX1 := Lib.hid hxw
            have HR1 := Lib.hid hrw
            have HX2 := Lib.hid hx2
            have HR2 := Lib.hid hr2
            have HB2 : Hid (Below w1.heap.size w1 (wu.setCell ⟨x, 4, none⟩ (.int .u64 2))) := Lib.hid (HBW.out.setCell HX.out _)
            have HW1B := Lib.hid HW1.out.size
            clear hb hxw hrw hx2 hr2 hxz hne HRZ HUP HRG HOC HSZ HS HXR HC1 HC2 HC3 HC4 HC5
            cases up with
            | false =>
              go_wp2_with (first | (refine wpList_load_row rfl _ _ rfl x rfl 33 _ _ _ HX1.out Tryz.underlying33 rfl ?_ ?_; · exact info_lines) | (refine wpList_store_row rfl 33 (.tmp 2) (.tmp 41) rfl w.heap.size #[.bool cs, .bool mt, .bool l0, .bool l1, .int .u64 0, .int .u64 cn] rfl rfl 33 #[.bool false, .bool false, .bool false, .bool false, .int .u64 0, .int .u64 0] HR1.out info_lines rfl (by simp [Value.oneCell']) ?_))
              exact bodyPost_ret (v := linesW cs mt l0 l1 false cn) (results_cell_row (show Tryz.f12.results = #[.cell 2 33] by kernel_rfl) _ _ w.heap.size 33 _ _ _ rfl (setRow_heap _ _ _ _ _ _ HR1.out) Tryz.underlying33 rfl info_lines) rfl ⟨rfl, below_setRow (HW1.out.trans (HBW.out.mono HW1B.out)) (Nat.le_refl _) _⟩
            | true =>
              go_wp2_with (first | (refine wpList_load_row rfl _ _ rfl x rfl 33 _ _ _ HX2.out Tryz.underlying33 rfl ?_ ?_; · exact info_lines) | (refine wpList_store_row rfl 33 (.tmp 2) (.tmp 41) rfl w.heap.size #[.bool cs, .bool mt, .bool l0, .bool l1, .int .u64 2, .int .u64 cn] rfl rfl 33 #[.bool false, .bool false, .bool false, .bool false, .int .u64 0, .int .u64 0] HR2.out info_lines rfl (by simp [Value.oneCell']) ?_))
              exact bodyPost_ret (v := linesW cs mt l0 l1 true cn) (results_cell_row (show Tryz.f12.results = #[.cell 2 33] by kernel_rfl) _ _ w.heap.size 33 _ _ _ rfl (setRow_heap _ _ _ _ _ _ HR2.out) Tryz.underlying33 rfl info_lines) rfl ⟨rfl, below_setRow (HW1.out.trans (HB2.out.mono HW1B.out)) (Nat.le_refl _) _⟩
        · go_simp
          refine hK.out _ _ ?_ (fun hHeld => ?_)
          · exact HS.out.alloc HS.out.size _
          clear hHeld hK K
          try simp only [Act.put, List.setIfInBounds_toArray, List.set_cons_zero, List.set_cons_succ]
          have HX : Hid (w1.heap.size ≤ wc3.heap.size) := Lib.hid HS.out.size
          have HSn : Hid (Below w1.heap.size w1 (wc3.alloc (.cells #[.bool false, .bool false, .bool false, .bool false, .int .u64 0, .int .u64 0] 33))) := Lib.hid (HS.out.alloc HS.out.size _)
          have HDA : Hid ((wc3.alloc (.cells #[.bool false, .bool false, .bool false, .bool false, .int .u64 0, .int .u64 0] 33)).heap[wc3.heap.size]? = some (.cells #[.bool false, .bool false, .bool false, .bool false, .int .u64 0, .int .u64 0] 33 (0, 0))) := Lib.hid (heap_alloc_new wc3 _)
          have HZA : Hid (wc3.heap.size < (wc3.alloc (.cells #[.bool false, .bool false, .bool false, .bool false, .int .u64 0, .int .u64 0] 33)).heap.size) := Lib.hid (by rw [World.size_alloc]; omega)
          replace HS := HSn
          clear HSn
          generalize wc3.alloc (.cells #[.bool false, .bool false, .bool false, .bool false, .int .u64 0, .int .u64 0] 33) = wa at *
          generalize wc3.heap.size = x at *
          have HA : Hid (Below wa.heap.size wa wa) := Lib.hid (Below.refl _ _)
          refine wpAnyH_ready (rs := [20]) (by kernel_rfl) (by simp) ?_
          refine AllReadyH.cons rfl (fun K hK => ?_) AllReadyH.nil
          go_simp
          (with_reducible refine (HC4.out _).mono ?_)
          rintro e wc7 ⟨rfl, hb⟩
          have HSn : Hid (Below w1.heap.size w1 wc7) := Lib.hid (HS.out.trans (hb.mono HS.out.size))
          have HAn : Hid (Below wa.heap.size wa wc7) := Lib.hid (HA.out.trans (hb.mono HA.out.size))
          clear hb
          go_simp
          refine hK.out _ _ ?_ (fun hHeld => ?_)
          · exact HSn.out
          clear hHeld hK K
          try simp only [Act.put, List.setIfInBounds_toArray, List.set_cons_zero, List.set_cons_succ]
          replace HS := HSn
          clear HSn
          replace HA := HAn
          clear HAn
          refine wpAnyH_ready (rs := [26]) (by kernel_rfl) (by simp) ?_
          refine AllReadyH.cons rfl (fun K hK => ?_) AllReadyH.nil
          go_simp
          (with_reducible refine (HC5.out _).mono ?_)
          rintro e wc8 ⟨rfl, hb⟩
          have HSn : Hid (Below w1.heap.size w1 wc8) := Lib.hid (HS.out.trans (hb.mono HS.out.size))
          have HAn : Hid (Below wa.heap.size wa wc8) := Lib.hid (HA.out.trans (hb.mono HA.out.size))
          clear hb
          go_simp
          refine hK.out _ _ ?_ (fun hHeld => ?_)
          · exact HSn.out
          clear hHeld hK K
          try simp only [Act.put, List.setIfInBounds_toArray, List.set_cons_zero, List.set_cons_succ]
          replace HS := HSn
          clear HSn
          replace HA := HAn
          clear HAn
          refine takeD (i := 27) (some 34) (v := ?_) rfl rfl (by kernel_rfl) (by kernel_rfl) (by kernel_rfl) (fun _ _ _ h => h) (by rfl) HS.out ?_ ?_
          rotate_left
          · intro wx hSx
            exact (by refine yield_build 33 #[(0, .tmp 11), (1, .tmp 17), (2, .tmp 22), (3, .tmp 27), (5, .tmp 33)] ?_ [(0, .bool cs), (1, .bool mt), (2, .bool l0), (3, .bool l1), (5, .int .u64 cn)] ?_ (built_lines cs mt l0 l1 cn) <;> first | rfl | simp [Act.eval, Act.put])
          simp only [Act.put, List.setIfInBounds_toArray, List.set_cons_zero, List.set_cons_succ]
          refine wpAnyH_ready (rs := [29]) (by kernel_rfl) (by simp) ?_
          refine AllReadyH.cons rfl (fun K hK => ?_) AllReadyH.nil
          rw [if_pos (by rfl)]
          have hD : wc8.heap[x]? = some (.cells #[.bool false, .bool false, .bool false, .bool false, .int .u64 0, .int .u64 0] 33 (0, 0)) := (HA.out.block x HZA.out).trans HDA.out
          refine wp_store_row 33 (.tmp 3) (.tmp 34) rfl x #[.bool cs, .bool mt, .bool l0, .bool l1, .int .u64 0, .int .u64 cn] rfl rfl 33 #[.bool false, .bool false, .bool false, .bool false, .int .u64 0, .int .u64 0] hD info_lines rfl (by simp [Value.oneCell']) ?_
          have HSn : Hid (Below w1.heap.size w1 (wc8.setRow x #[.bool cs, .bool mt, .bool l0, .bool l1, .int .u64 0, .int .u64 cn])) := Lib.hid (below_setRow HS.out HX.out _)
          have HXR : Hid ((wc8.setRow x #[.bool cs, .bool mt, .bool l0, .bool l1, .int .u64 0, .int .u64 cn]).heap[x]? = some (.cells #[.bool cs, .bool mt, .bool l0, .bool l1, .int .u64 0, .int .u64 cn] 33 (0, 0))) := Lib.hid (setRow_heap wc8 x _ _ _ _ hD)
          refine hK.out _ _ ?_ (fun hHeld => ?_)
          · exact HSn.out
          clear hHeld hK K hD
          try simp only [Act.put, List.setIfInBounds_toArray, List.set_cons_zero, List.set_cons_succ]
          replace HS := HSn
          clear HSn HA HZA HDA
          refine wpAnyH_done (by kernel_rfl) ?_ _
          generalize (wc8.setRow x #[.bool cs, .bool mt, .bool l0, .bool l1, .int .u64 0, .int .u64 cn]) = wz at *
          have HRZ := Lib.hid (HRG.out wz HS.out)
          have hxz : x < wz.heap.size := (Array.getElem?_eq_some_iff.1 HXR.out).1
          go_wp2_with (refine wpList_load_fr rfl _ _ rfl b 4 rfl _ _ HRZ.out Tryz.underlying69 rfl ?_ ?_; · exact HSZ.out)
          (with_reducible refine (HUP.out _).mono ?_)
          rintro e wu ⟨rfl, hb⟩
          have hxw : wu.heap[x]? = some (.cells #[.bool cs, .bool mt, .bool l0, .bool l1, .int .u64 0, .int .u64 cn] 33 (0, 0)) := (hb.block x hxz).trans HXR.out
          have HBW : Hid (Below w1.heap.size w1 wu) := Lib.hid (HS.out.trans (hb.mono HS.out.size))
          have hrw : wu.heap[w.heap.size]? = some (.cells #[.bool false, .bool false, .bool false, .bool false, .int .u64 0, .int .u64 0] 33 (0, 0)) := (HBW.out.block _ HZ1.out).trans HRES.out
          have hne : ¬ w.heap.size = x := by have := HX.out; have := HZ1.out; omega
          have fx : wu.frozen? ⟨x, 4, none⟩ = false := frozen_of_row wu x 4 _ _ hxw
          have cx : wu.cell? ⟨x, 4, none⟩ = some (.int .u64 0) := by rw [cell_of_row wu x 4 _ _ _ hxw]; rfl
          have hx2 : (wu.setCell ⟨x, 4, none⟩ (.int .u64 2)).heap[x]? = some (.cells #[.bool cs, .bool mt, .bool l0, .bool l1, .int .u64 2, .int .u64 cn] 33 (0, 0)) := by rw [heap_setCell_same wu x 4 _ _ _ hxw]; rfl
          have hr2 : (wu.setCell ⟨x, 4, none⟩ (.int .u64 2)).heap[w.heap.size]? = some (.cells #[.bool false, .bool false, .bool false, .bool false, .int .u64 0, .int .u64 0] 33 (0, 0)) := by rw [heap_setCell_other wu ⟨x, 4, none⟩ w.heap.size _ hne]; exact hrw
          have HX1 := Lib.hid hxw
          have HR1 := Lib.hid hrw
          have HX2 := Lib.hid hx2
          have HR2 := Lib.hid hr2
          have HB2 : Hid (Below w1.heap.size w1 (wu.setCell ⟨x, 4, none⟩ (.int .u64 2))) := Lib.hid (HBW.out.setCell HX.out _)
          have HW1B := Lib.hid HW1.out.size
          clear hb hxw hrw hx2 hr2 hxz hne HRZ HUP HRG HOC HSZ HS HXR HC1 HC2 HC3 HC4 HC5
          cases up with
          | false =>
            go_wp2_with (first | (refine wpList_load_row rfl _ _ rfl x rfl 33 _ _ _ HX1.out Tryz.underlying33 rfl ?_ ?_; · exact info_lines) | (refine wpList_store_row rfl 33 (.tmp 2) (.tmp 41) rfl w.heap.size #[.bool cs, .bool mt, .bool l0, .bool l1, .int .u64 0, .int .u64 cn] rfl rfl 33 #[.bool false, .bool false, .bool false, .bool false, .int .u64 0, .int .u64 0] HR1.out info_lines rfl (by simp [Value.oneCell']) ?_))
            exact bodyPost_ret (v := linesW cs mt l0 l1 false cn) (results_cell_row (show Tryz.f12.results = #[.cell 2 33] by kernel_rfl) _ _ w.heap.size 33 _ _ _ rfl (setRow_heap _ _ _ _ _ _ HR1.out) Tryz.underlying33 rfl info_lines) rfl ⟨rfl, below_setRow (HW1.out.trans (HBW.out.mono HW1B.out)) (Nat.le_refl _) _⟩
          | true =>
            go_wp2_with (first | (refine wpList_load_row rfl _ _ rfl x rfl 33 _ _ _ HX2.out Tryz.underlying33 rfl ?_ ?_; · exact info_lines) | (refine wpList_store_row rfl 33 (.tmp 2) (.tmp 41) rfl w.heap.size #[.bool cs, .bool mt, .bool l0, .bool l1, .int .u64 2, .int .u64 cn] rfl rfl 33 #[.bool false, .bool false, .bool false, .bool false, .int .u64 0, .int .u64 0] HR2.out info_lines rfl (by simp [Value.oneCell']) ?_))
            exact bodyPost_ret (v := linesW cs mt l0 l1 true cn) (results_cell_row (show Tryz.f12.results = #[.cell 2 33] by kernel_rfl) _ _ w.heap.size 33 _ _ _ rfl (setRow_heap _ _ _ _ _ _ HR2.out) Tryz.underlying33 rfl info_lines) rfl ⟨rfl, below_setRow (HW1.out.trans (HB2.out.mono HW1B.out)) (Nat.le_refl _) _⟩
      · go_simp
        refine hK.out _ _ ?_ (fun hHeld => ?_)
        · exact HS.out.alloc HS.out.size _
        clear hHeld hK K
        try simp only [Act.put, List.setIfInBounds_toArray, List.set_cons_zero, List.set_cons_succ]
        have HX : Hid (w1.heap.size ≤ wc2.heap.size) := Lib.hid HS.out.size
        have HSn : Hid (Below w1.heap.size w1 (wc2.alloc (.cells #[.bool false, .bool false, .bool false, .bool false, .int .u64 0, .int .u64 0] 33))) := Lib.hid (HS.out.alloc HS.out.size _)
        have HDA : Hid ((wc2.alloc (.cells #[.bool false, .bool false, .bool false, .bool false, .int .u64 0, .int .u64 0] 33)).heap[wc2.heap.size]? = some (.cells #[.bool false, .bool false, .bool false, .bool false, .int .u64 0, .int .u64 0] 33 (0, 0))) := Lib.hid (heap_alloc_new wc2 _)
        have HZA : Hid (wc2.heap.size < (wc2.alloc (.cells #[.bool false, .bool false, .bool false, .bool false, .int .u64 0, .int .u64 0] 33)).heap.size) := Lib.hid (by rw [World.size_alloc]; omega)
        replace HS := HSn
        clear HSn
        generalize wc2.alloc (.cells #[.bool false, .bool false, .bool false, .bool false, .int .u64 0, .int .u64 0] 33) = wa at *
        generalize wc2.heap.size = x at *
        have HA : Hid (Below wa.heap.size wa wa) := Lib.hid (Below.refl _ _)
        refine wpAnyH_ready (rs := [15]) (by kernel_rfl) (by simp) ?_
        refine AllReadyH.cons rfl (fun K hK => ?_) AllReadyH.nil
        go_simp
        (with_reducible refine (HC3.out _).mono ?_)
        rintro e wc9 ⟨rfl, hb⟩
        have HSn : Hid (Below w1.heap.size w1 wc9) := Lib.hid (HS.out.trans (hb.mono HS.out.size))
        have HAn : Hid (Below wa.heap.size wa wc9) := Lib.hid (HA.out.trans (hb.mono HA.out.size))
        clear hb
        go_simp
        refine hK.out _ _ ?_ (fun hHeld => ?_)
        · exact HSn.out
        clear hHeld hK K
        try simp only [Act.put, List.setIfInBounds_toArray, List.set_cons_zero, List.set_cons_succ]
        replace HS := HSn
        clear HSn
        replace HA := HAn
        clear HAn
        refine wpAnyH_ready (rs := [20]) (by kernel_rfl) (by simp) ?_
        refine AllReadyH.cons rfl (fun K hK => ?_) AllReadyH.nil
        go_simp
        (with_reducible refine (HC4.out _).mono ?_)
        rintro e wc10 ⟨rfl, hb⟩
        have HSn : Hid (Below w1.heap.size w1 wc10) := Lib.hid (HS.out.trans (hb.mono HS.out.size))
        have HAn : Hid (Below wa.heap.size wa wc10) := Lib.hid (HA.out.trans (hb.mono HA.out.size))
        clear hb
        go_simp
        refine hK.out _ _ ?_ (fun hHeld => ?_)
        · exact HSn.out
        clear hHeld hK K
        try simp only [Act.put, List.setIfInBounds_toArray, List.set_cons_zero, List.set_cons_succ]
        replace HS := HSn
        clear HSn
        replace HA := HAn
        clear HAn
        refine wpAnyH_ready (rs := [26]) (by kernel_rfl) (by simp) ?_
        refine AllReadyH.cons rfl (fun K hK => ?_) AllReadyH.nil
        go_simp
        (with_reducible refine (HC5.out _).mono ?_)
        rintro e wc11 ⟨rfl, hb⟩
        have HSn : Hid (Below w1.heap.size w1 wc11) := Lib.hid (HS.out.trans (hb.mono HS.out.size))
        have HAn : Hid (Below wa.heap.size wa wc11) := Lib.hid (HA.out.trans (hb.mono HA.out.size))
        clear hb
        go_simp
        refine hK.out _ _ ?_ (fun hHeld => ?_)
        · exact HSn.out
        clear hHeld hK K
        try simp only [Act.put, List.setIfInBounds_toArray, List.set_cons_zero, List.set_cons_succ]
        replace HS := HSn
        clear HSn
        replace HA := HAn
        clear HAn
        refine takeD (i := 27) (some 34) (v := ?_) rfl rfl (by kernel_rfl) (by kernel_rfl) (by kernel_rfl) (fun _ _ _ h => h) (by rfl) HS.out ?_ ?_
        rotate_left
        · intro wx hSx
          exact (by refine yield_build 33 #[(0, .tmp 11), (1, .tmp 17), (2, .tmp 22), (3, .tmp 27), (5, .tmp 33)] ?_ [(0, .bool cs), (1, .bool mt), (2, .bool l0), (3, .bool l1), (5, .int .u64 cn)] ?_ (built_lines cs mt l0 l1 cn) <;> first | rfl | simp [Act.eval, Act.put])
        simp only [Act.put, List.setIfInBounds_toArray, List.set_cons_zero, List.set_cons_succ]
        refine wpAnyH_ready (rs := [29]) (by kernel_rfl) (by simp) ?_
        refine AllReadyH.cons rfl (fun K hK => ?_) AllReadyH.nil
        rw [if_pos (by rfl)]
        have hD : wc11.heap[x]? = some (.cells #[.bool false, .bool false, .bool false, .bool false, .int .u64 0, .int .u64 0] 33 (0, 0)) := (HA.out.block x HZA.out).trans HDA.out
        refine wp_store_row 33 (.tmp 3) (.tmp 34) rfl x #[.bool cs, .bool mt, .bool l0, .bool l1, .int .u64 0, .int .u64 cn] rfl rfl 33 #[.bool false, .bool false, .bool false, .bool false, .int .u64 0, .int .u64 0] hD info_lines rfl (by simp [Value.oneCell']) ?_
        have HSn : Hid (Below w1.heap.size w1 (wc11.setRow x #[.bool cs, .bool mt, .bool l0, .bool l1, .int .u64 0, .int .u64 cn])) := Lib.hid (below_setRow HS.out HX.out _)
        have HXR : Hid ((wc11.setRow x #[.bool cs, .bool mt, .bool l0, .bool l1, .int .u64 0, .int .u64 cn]).heap[x]? = some (.cells #[.bool cs, .bool mt, .bool l0, .bool l1, .int .u64 0, .int .u64 cn] 33 (0, 0))) := Lib.hid (setRow_heap wc11 x _ _ _ _ hD)
        refine hK.out _ _ ?_ (fun hHeld => ?_)
        · exact HSn.out
        clear hHeld hK K hD
        try simp only [Act.put, List.setIfInBounds_toArray, List.set_cons_zero, List.set_cons_succ]
        replace HS := HSn
        clear HSn HA HZA HDA
        refine wpAnyH_done (by kernel_rfl) ?_ _
        generalize (wc11.setRow x #[.bool cs, .bool mt, .bool l0, .bool l1, .int .u64 0, .int .u64 cn]) = wz at *
        have HRZ := Lib.hid (HRG.out wz HS.out)
        have hxz : x < wz.heap.size := (Array.getElem?_eq_some_iff.1 HXR.out).1
        go_wp2_with (refine wpList_load_fr rfl _ _ rfl b 4 rfl _ _ HRZ.out Tryz.underlying69 rfl ?_ ?_; · exact HSZ.out)
        (with_reducible refine (HUP.out _).mono ?_)
        rintro e wu ⟨rfl, hb⟩
        have hxw : wu.heap[x]? = some (.cells #[.bool cs, .bool mt, .bool l0, .bool l1, .int .u64 0, .int .u64 cn] 33 (0, 0)) := (hb.block x hxz).trans HXR.out
        have HBW : Hid (Below w1.heap.size w1 wu) := Lib.hid (HS.out.trans (hb.mono HS.out.size))
        have hrw : wu.heap[w.heap.size]? = some (.cells #[.bool false, .bool false, .bool false, .bool false, .int .u64 0, .int .u64 0] 33 (0, 0)) := (HBW.out.block _ HZ1.out).trans HRES.out
        have hne : ¬ w.heap.size = x := by have := HX.out; have := HZ1.out; omega
        have fx : wu.frozen? ⟨x, 4, none⟩ = false := frozen_of_row wu x 4 _ _ hxw
        have cx : wu.cell? ⟨x, 4, none⟩ = some (.int .u64 0) := by rw [cell_of_row wu x 4 _ _ _ hxw]; rfl
        have hx2 : (wu.setCell ⟨x, 4, none⟩ (.int .u64 2)).heap[x]? = some (.cells #[.bool cs, .bool mt, .bool l0, .bool l1, .int .u64 2, .int .u64 cn] 33 (0, 0)) := by rw [heap_setCell_same wu x 4 _ _ _ hxw]; rfl
        have hr2 : (wu.setCell ⟨x, 4, none⟩ (.int .u64 2)).heap[w.heap.size]? = some (.cells #[.bool false, .bool false, .bool false, .bool false, .int .u64 0, .int .u64 0] 33 (0, 0)) := by rw [heap_setCell_other wu ⟨x, 4, none⟩ w.heap.size _ hne]; exact hrw
        have HX1 := Lib.hid hxw
        have HR1 := Lib.hid hrw
        have HX2 := Lib.hid hx2
        have HR2 := Lib.hid hr2
        have HB2 : Hid (Below w1.heap.size w1 (wu.setCell ⟨x, 4, none⟩ (.int .u64 2))) := Lib.hid (HBW.out.setCell HX.out _)
        have HW1B := Lib.hid HW1.out.size
        clear hb hxw hrw hx2 hr2 hxz hne HRZ HUP HRG HOC HSZ HS HXR HC1 HC2 HC3 HC4 HC5
        cases up with
        | false =>
          go_wp2_with (first | (refine wpList_load_row rfl _ _ rfl x rfl 33 _ _ _ HX1.out Tryz.underlying33 rfl ?_ ?_; · exact info_lines) | (refine wpList_store_row rfl 33 (.tmp 2) (.tmp 41) rfl w.heap.size #[.bool cs, .bool mt, .bool l0, .bool l1, .int .u64 0, .int .u64 cn] rfl rfl 33 #[.bool false, .bool false, .bool false, .bool false, .int .u64 0, .int .u64 0] HR1.out info_lines rfl (by simp [Value.oneCell']) ?_))
          exact bodyPost_ret (v := linesW cs mt l0 l1 false cn) (results_cell_row (show Tryz.f12.results = #[.cell 2 33] by kernel_rfl) _ _ w.heap.size 33 _ _ _ rfl (setRow_heap _ _ _ _ _ _ HR1.out) Tryz.underlying33 rfl info_lines) rfl ⟨rfl, below_setRow (HW1.out.trans (HBW.out.mono HW1B.out)) (Nat.le_refl _) _⟩
        | true =>
          go_wp2_with (first | (refine wpList_load_row rfl _ _ rfl x rfl 33 _ _ _ HX2.out Tryz.underlying33 rfl ?_ ?_; · exact info_lines) | (refine wpList_store_row rfl 33 (.tmp 2) (.tmp 41) rfl w.heap.size #[.bool cs, .bool mt, .bool l0, .bool l1, .int .u64 2, .int .u64 cn] rfl rfl 33 #[.bool false, .bool false, .bool false, .bool false, .int .u64 0, .int .u64 0] HR2.out info_lines rfl (by simp [Value.oneCell']) ?_))
          exact bodyPost_ret (v := linesW cs mt l0 l1 true cn) (results_cell_row (show Tryz.f12.results = #[.cell 2 33] by kernel_rfl) _ _ w.heap.size 33 _ _ _ rfl (setRow_heap _ _ _ _ _ _ HR2.out) Tryz.underlying33 rfl info_lines) rfl ⟨rfl, below_setRow (HW1.out.trans (HB2.out.mono HW1B.out)) (Nat.le_refl _) _⟩
    · go_simp
      refine hK.out _ _ ?_ (fun hHeld => ?_)
      · exact HS.out.alloc HS.out.size _
      clear hHeld hK K
      try simp only [Act.put, List.setIfInBounds_toArray, List.set_cons_zero, List.set_cons_succ]
      have HX : Hid (w1.heap.size ≤ wc1.heap.size) := Lib.hid HS.out.size
      have HSn : Hid (Below w1.heap.size w1 (wc1.alloc (.cells #[.bool false, .bool false, .bool false, .bool false, .int .u64 0, .int .u64 0] 33))) := Lib.hid (HS.out.alloc HS.out.size _)
      have HDA : Hid ((wc1.alloc (.cells #[.bool false, .bool false, .bool false, .bool false, .int .u64 0, .int .u64 0] 33)).heap[wc1.heap.size]? = some (.cells #[.bool false, .bool false, .bool false, .bool false, .int .u64 0, .int .u64 0] 33 (0, 0))) := Lib.hid (heap_alloc_new wc1 _)
      have HZA : Hid (wc1.heap.size < (wc1.alloc (.cells #[.bool false, .bool false, .bool false, .bool false, .int .u64 0, .int .u64 0] 33)).heap.size) := Lib.hid (by rw [World.size_alloc]; omega)
      replace HS := HSn
      clear HSn
      generalize wc1.alloc (.cells #[.bool false, .bool false, .bool false, .bool false, .int .u64 0, .int .u64 0] 33) = wa at *
      generalize wc1.heap.size = x at *
      have HA : Hid (Below wa.heap.size wa wa) := Lib.hid (Below.refl _ _)
      refine wpAnyH_ready (rs := [10]) (by kernel_rfl) (by simp) ?_
      refine AllReadyH.cons rfl (fun K hK => ?_) AllReadyH.nil
      go_simp
      (with_reducible refine (HC2.out _).mono ?_)
      rintro e wc12 ⟨rfl, hb⟩
      have HSn : Hid (Below w1.heap.size w1 wc12) := Lib.hid (HS.out.trans (hb.mono HS.out.size))
      have HAn : Hid (Below wa.heap.size wa wc12) := Lib.hid (HA.out.trans (hb.mono HA.out.size))
      clear hb
      go_simp
      refine hK.out _ _ ?_ (fun hHeld => ?_)
      · exact HSn.out
      clear hHeld hK K
      try simp only [Act.put, List.setIfInBounds_toArray, List.set_cons_zero, List.set_cons_succ]
      replace HS := HSn
      clear HSn
      replace HA := HAn
      clear HAn
      refine wpAnyH_ready (rs := [15]) (by kernel_rfl) (by simp) ?_
      refine AllReadyH.cons rfl (fun K hK => ?_) AllReadyH.nil
      go_simp
      (with_reducible refine (HC3.out _).mono ?_)
      rintro e wc13 ⟨rfl, hb⟩
      have HSn : Hid (Below w1.heap.size w1 wc13) := Lib.hid (HS.out.trans (hb.mono HS.out.size))
      have HAn : Hid (Below wa.heap.size wa wc13) := Lib.hid (HA.out.trans (hb.mono HA.out.size))
      clear hb
      go_simp
      refine hK.out _ _ ?_ (fun hHeld => ?_)
      · exact HSn.out
      clear hHeld hK K
      try simp only [Act.put, List.setIfInBounds_toArray, List.set_cons_zero, List.set_cons_succ]
      replace HS := HSn
      clear HSn
      replace HA := HAn
      clear HAn
      refine wpAnyH_ready (rs := [20]) (by kernel_rfl) (by simp) ?_
      refine AllReadyH.cons rfl (fun K hK => ?_) AllReadyH.nil
      go_simp
      (with_reducible refine (HC4.out _).mono ?_)
      rintro e wc14 ⟨rfl, hb⟩
      have HSn : Hid (Below w1.heap.size w1 wc14) := Lib.hid (HS.out.trans (hb.mono HS.out.size))
      have HAn : Hid (Below wa.heap.size wa wc14) := Lib.hid (HA.out.trans (hb.mono HA.out.size))
      clear hb
      go_simp
      refine hK.out _ _ ?_ (fun hHeld => ?_)
      · exact HSn.out
      clear hHeld hK K
      try simp only [Act.put, List.setIfInBounds_toArray, List.set_cons_zero, List.set_cons_succ]
      replace HS := HSn
      clear HSn
      replace HA := HAn
      clear HAn
      refine wpAnyH_ready (rs := [26]) (by kernel_rfl) (by simp) ?_
      refine AllReadyH.cons rfl (fun K hK => ?_) AllReadyH.nil
      go_simp
      (with_reducible refine (HC5.out _).mono ?_)
      rintro e wc15 ⟨rfl, hb⟩
      have HSn : Hid (Below w1.heap.size w1 wc15) := Lib.hid (HS.out.trans (hb.mono HS.out.size))
      have HAn : Hid (Below wa.heap.size wa wc15) := Lib.hid (HA.out.trans (hb.mono HA.out.size))
      clear hb
      go_simp
      refine hK.out _ _ ?_ (fun hHeld => ?_)
      · exact HSn.out
      clear hHeld hK K
      try simp only [Act.put, List.setIfInBounds_toArray, List.set_cons_zero, List.set_cons_succ]
      replace HS := HSn
      clear HSn
      replace HA := HAn
      clear HAn
      refine takeD (i := 27) (some 34) (v := ?_) rfl rfl (by kernel_rfl) (by kernel_rfl) (by kernel_rfl) (fun _ _ _ h => h) (by rfl) HS.out ?_ ?_
      rotate_left
      · intro wx hSx
        exact (by refine yield_build 33 #[(0, .tmp 11), (1, .tmp 17), (2, .tmp 22), (3, .tmp 27), (5, .tmp 33)] ?_ [(0, .bool cs), (1, .bool mt), (2, .bool l0), (3, .bool l1), (5, .int .u64 cn)] ?_ (built_lines cs mt l0 l1 cn) <;> first | rfl | simp [Act.eval, Act.put])
      simp only [Act.put, List.setIfInBounds_toArray, List.set_cons_zero, List.set_cons_succ]
      refine wpAnyH_ready (rs := [29]) (by kernel_rfl) (by simp) ?_
      refine AllReadyH.cons rfl (fun K hK => ?_) AllReadyH.nil
      rw [if_pos (by rfl)]
      have hD : wc15.heap[x]? = some (.cells #[.bool false, .bool false, .bool false, .bool false, .int .u64 0, .int .u64 0] 33 (0, 0)) := (HA.out.block x HZA.out).trans HDA.out
      refine wp_store_row 33 (.tmp 3) (.tmp 34) rfl x #[.bool cs, .bool mt, .bool l0, .bool l1, .int .u64 0, .int .u64 cn] rfl rfl 33 #[.bool false, .bool false, .bool false, .bool false, .int .u64 0, .int .u64 0] hD info_lines rfl (by simp [Value.oneCell']) ?_
      have HSn : Hid (Below w1.heap.size w1 (wc15.setRow x #[.bool cs, .bool mt, .bool l0, .bool l1, .int .u64 0, .int .u64 cn])) := Lib.hid (below_setRow HS.out HX.out _)
      have HXR : Hid ((wc15.setRow x #[.bool cs, .bool mt, .bool l0, .bool l1, .int .u64 0, .int .u64 cn]).heap[x]? = some (.cells #[.bool cs, .bool mt, .bool l0, .bool l1, .int .u64 0, .int .u64 cn] 33 (0, 0))) := Lib.hid (setRow_heap wc15 x _ _ _ _ hD)
      refine hK.out _ _ ?_ (fun hHeld => ?_)
      · exact HSn.out
      clear hHeld hK K hD
      try simp only [Act.put, List.setIfInBounds_toArray, List.set_cons_zero, List.set_cons_succ]
      replace HS := HSn
      clear HSn HA HZA HDA
      refine wpAnyH_done (by kernel_rfl) ?_ _
      generalize (wc15.setRow x #[.bool cs, .bool mt, .bool l0, .bool l1, .int .u64 0, .int .u64 cn]) = wz at *
      have HRZ := Lib.hid (HRG.out wz HS.out)
      have hxz : x < wz.heap.size := (Array.getElem?_eq_some_iff.1 HXR.out).1
      go_wp2_with (refine wpList_load_fr rfl _ _ rfl b 4 rfl _ _ HRZ.out Tryz.underlying69 rfl ?_ ?_; · exact HSZ.out)
      (with_reducible refine (HUP.out _).mono ?_)
      rintro e wu ⟨rfl, hb⟩
      have hxw : wu.heap[x]? = some (.cells #[.bool cs, .bool mt, .bool l0, .bool l1, .int .u64 0, .int .u64 cn] 33 (0, 0)) := (hb.block x hxz).trans HXR.out
      have HBW : Hid (Below w1.heap.size w1 wu) := Lib.hid (HS.out.trans (hb.mono HS.out.size))
      have hrw : wu.heap[w.heap.size]? = some (.cells #[.bool false, .bool false, .bool false, .bool false, .int .u64 0, .int .u64 0] 33 (0, 0)) := (HBW.out.block _ HZ1.out).trans HRES.out
      have hne : ¬ w.heap.size = x := by have := HX.out; have := HZ1.out; omega
      have fx : wu.frozen? ⟨x, 4, none⟩ = false := frozen_of_row wu x 4 _ _ hxw
      have cx : wu.cell? ⟨x, 4, none⟩ = some (.int .u64 0) := by rw [cell_of_row wu x 4 _ _ _ hxw]; rfl
      have hx2 : (wu.setCell ⟨x, 4, none⟩ (.int .u64 2)).heap[x]? = some (.cells #[.bool cs, .bool mt, .bool l0, .bool l1, .int .u64 2, .int .u64 cn] 33 (0, 0)) := by rw [heap_setCell_same wu x 4 _ _ _ hxw]; rfl
      have hr2 : (wu.setCell ⟨x, 4, none⟩ (.int .u64 2)).heap[w.heap.size]? = some (.cells #[.bool false, .bool false, .bool false, .bool false, .int .u64 0, .int .u64 0] 33 (0, 0)) := by rw [heap_setCell_other wu ⟨x, 4, none⟩ w.heap.size _ hne]; exact hrw
      have HX1 := Lib.hid hxw
      have HR1 := Lib.hid hrw
      have HX2 := Lib.hid hx2
      have HR2 := Lib.hid hr2
      have HB2 : Hid (Below w1.heap.size w1 (wu.setCell ⟨x, 4, none⟩ (.int .u64 2))) := Lib.hid (HBW.out.setCell HX.out _)
      have HW1B := Lib.hid HW1.out.size
      clear hb hxw hrw hx2 hr2 hxz hne HRZ HUP HRG HOC HSZ HS HXR HC1 HC2 HC3 HC4 HC5
      cases up with
      | false =>
        go_wp2_with (first | (refine wpList_load_row rfl _ _ rfl x rfl 33 _ _ _ HX1.out Tryz.underlying33 rfl ?_ ?_; · exact info_lines) | (refine wpList_store_row rfl 33 (.tmp 2) (.tmp 41) rfl w.heap.size #[.bool cs, .bool mt, .bool l0, .bool l1, .int .u64 0, .int .u64 cn] rfl rfl 33 #[.bool false, .bool false, .bool false, .bool false, .int .u64 0, .int .u64 0] HR1.out info_lines rfl (by simp [Value.oneCell']) ?_))
        exact bodyPost_ret (v := linesW cs mt l0 l1 false cn) (results_cell_row (show Tryz.f12.results = #[.cell 2 33] by kernel_rfl) _ _ w.heap.size 33 _ _ _ rfl (setRow_heap _ _ _ _ _ _ HR1.out) Tryz.underlying33 rfl info_lines) rfl ⟨rfl, below_setRow (HW1.out.trans (HBW.out.mono HW1B.out)) (Nat.le_refl _) _⟩
      | true =>
        go_wp2_with (first | (refine wpList_load_row rfl _ _ rfl x rfl 33 _ _ _ HX2.out Tryz.underlying33 rfl ?_ ?_; · exact info_lines) | (refine wpList_store_row rfl 33 (.tmp 2) (.tmp 41) rfl w.heap.size #[.bool cs, .bool mt, .bool l0, .bool l1, .int .u64 2, .int .u64 cn] rfl rfl 33 #[.bool false, .bool false, .bool false, .bool false, .int .u64 0, .int .u64 0] HR2.out info_lines rfl (by simp [Value.oneCell']) ?_))
        exact bodyPost_ret (v := linesW cs mt l0 l1 true cn) (results_cell_row (show Tryz.f12.results = #[.cell 2 33] by kernel_rfl) _ _ w.heap.size 33 _ _ _ rfl (setRow_heap _ _ _ _ _ _ HR2.out) Tryz.underlying33 rfl info_lines) rfl ⟨rfl, below_setRow (HW1.out.trans (HB2.out.mono HW1B.out)) (Nat.le_refl _) _⟩
  · go_simp
    refine hK.out _ _ ?_ (fun hHeld => ?_)
    · exact HS.out.alloc HS.out.size _
    clear hHeld hK K
    try simp only [Act.put, List.setIfInBounds_toArray, List.set_cons_zero, List.set_cons_succ]
    have HX : Hid (w1.heap.size ≤ wd.heap.size) := Lib.hid HS.out.size
    have HSn : Hid (Below w1.heap.size w1 (wd.alloc (.cells #[.bool false, .bool false, .bool false, .bool false, .int .u64 0, .int .u64 0] 33))) := Lib.hid (HS.out.alloc HS.out.size _)
    have HDA : Hid ((wd.alloc (.cells #[.bool false, .bool false, .bool false, .bool false, .int .u64 0, .int .u64 0] 33)).heap[wd.heap.size]? = some (.cells #[.bool false, .bool false, .bool false, .bool false, .int .u64 0, .int .u64 0] 33 (0, 0))) := Lib.hid (heap_alloc_new wd _)
    have HZA : Hid (wd.heap.size < (wd.alloc (.cells #[.bool false, .bool false, .bool false, .bool false, .int .u64 0, .int .u64 0] 33)).heap.size) := Lib.hid (by rw [World.size_alloc]; omega)
    replace HS := HSn
    clear HSn
    generalize wd.alloc (.cells #[.bool false, .bool false, .bool false, .bool false, .int .u64 0, .int .u64 0] 33) = wa at *
    generalize wd.heap.size = x at *
    have HA : Hid (Below wa.heap.size wa wa) := Lib.hid (Below.refl _ _)
    refine wpAnyH_ready (rs := [4]) (by kernel_rfl) (by simp) ?_
    refine AllReadyH.cons rfl (fun K hK => ?_) AllReadyH.nil
    go_simp
    (with_reducible refine (HC1.out _).mono ?_)
    rintro e wc16 ⟨rfl, hb⟩
    have HSn : Hid (Below w1.heap.size w1 wc16) := Lib.hid (HS.out.trans (hb.mono HS.out.size))
    have HAn : Hid (Below wa.heap.size wa wc16) := Lib.hid (HA.out.trans (hb.mono HA.out.size))
    clear hb
    go_simp
    refine hK.out _ _ ?_ (fun hHeld => ?_)
    · exact HSn.out
    clear hHeld hK K
    try simp only [Act.put, List.setIfInBounds_toArray, List.set_cons_zero, List.set_cons_succ]
    replace HS := HSn
    clear HSn
    replace HA := HAn
    clear HAn
    refine wpAnyH_ready (rs := [10]) (by kernel_rfl) (by simp) ?_
    refine AllReadyH.cons rfl (fun K hK => ?_) AllReadyH.nil
    go_simp
    (with_reducible refine (HC2.out _).mono ?_)
    rintro e wc17 ⟨rfl, hb⟩
    have HSn : Hid (Below w1.heap.size w1 wc17) := Lib.hid (HS.out.trans (hb.mono HS.out.size))
    have HAn : Hid (Below wa.heap.size wa wc17) := Lib.hid (HA.out.trans (hb.mono HA.out.size))
    clear hb
    go_simp
    refine hK.out _ _ ?_ (fun hHeld => ?_)
    · exact HSn.out
    clear hHeld hK K
    try simp only [Act.put, List.setIfInBounds_toArray, List.set_cons_zero, List.set_cons_succ]
    replace HS := HSn
    clear HSn
    replace HA := HAn
    clear HAn
    refine wpAnyH_ready (rs := [15]) (by kernel_rfl) (by simp) ?_
    refine AllReadyH.cons rfl (fun K hK => ?_) AllReadyH.nil
    go_simp
    (with_reducible refine (HC3.out _).mono ?_)
    rintro e wc18 ⟨rfl, hb⟩
    have HSn : Hid (Below w1.heap.size w1 wc18) := Lib.hid (HS.out.trans (hb.mono HS.out.size))
    have HAn : Hid (Below wa.heap.size wa wc18) := Lib.hid (HA.out.trans (hb.mono HA.out.size))
    clear hb
    go_simp
    refine hK.out _ _ ?_ (fun hHeld => ?_)
    · exact HSn.out
    clear hHeld hK K
    try simp only [Act.put, List.setIfInBounds_toArray, List.set_cons_zero, List.set_cons_succ]
    replace HS := HSn
    clear HSn
    replace HA := HAn
    clear HAn
    refine wpAnyH_ready (rs := [20]) (by kernel_rfl) (by simp) ?_
    refine AllReadyH.cons rfl (fun K hK => ?_) AllReadyH.nil
    go_simp
    (with_reducible refine (HC4.out _).mono ?_)
    rintro e wc19 ⟨rfl, hb⟩
    have HSn : Hid (Below w1.heap.size w1 wc19) := Lib.hid (HS.out.trans (hb.mono HS.out.size))
    have HAn : Hid (Below wa.heap.size wa wc19) := Lib.hid (HA.out.trans (hb.mono HA.out.size))
    clear hb
    go_simp
    refine hK.out _ _ ?_ (fun hHeld => ?_)
    · exact HSn.out
    clear hHeld hK K
    try simp only [Act.put, List.setIfInBounds_toArray, List.set_cons_zero, List.set_cons_succ]
    replace HS := HSn
    clear HSn
    replace HA := HAn
    clear HAn
    refine wpAnyH_ready (rs := [26]) (by kernel_rfl) (by simp) ?_
    refine AllReadyH.cons rfl (fun K hK => ?_) AllReadyH.nil
    go_simp
    (with_reducible refine (HC5.out _).mono ?_)
    rintro e wc20 ⟨rfl, hb⟩
    have HSn : Hid (Below w1.heap.size w1 wc20) := Lib.hid (HS.out.trans (hb.mono HS.out.size))
    have HAn : Hid (Below wa.heap.size wa wc20) := Lib.hid (HA.out.trans (hb.mono HA.out.size))
    clear hb
    go_simp
    refine hK.out _ _ ?_ (fun hHeld => ?_)
    · exact HSn.out
    clear hHeld hK K
    try simp only [Act.put, List.setIfInBounds_toArray, List.set_cons_zero, List.set_cons_succ]
    replace HS := HSn
    clear HSn
    replace HA := HAn
    clear HAn
    refine takeD (i := 27) (some 34) (v := ?_) rfl rfl (by kernel_rfl) (by kernel_rfl) (by kernel_rfl) (fun _ _ _ h => h) (by rfl) HS.out ?_ ?_
    rotate_left
    · intro wx hSx
      exact (by refine yield_build 33 #[(0, .tmp 11), (1, .tmp 17), (2, .tmp 22), (3, .tmp 27), (5, .tmp 33)] ?_ [(0, .bool cs), (1, .bool mt), (2, .bool l0), (3, .bool l1), (5, .int .u64 cn)] ?_ (built_lines cs mt l0 l1 cn) <;> first | rfl | simp [Act.eval, Act.put])
    simp only [Act.put, List.setIfInBounds_toArray, List.set_cons_zero, List.set_cons_succ]
    refine wpAnyH_ready (rs := [29]) (by kernel_rfl) (by simp) ?_
    refine AllReadyH.cons rfl (fun K hK => ?_) AllReadyH.nil
    rw [if_pos (by rfl)]
    have hD : wc20.heap[x]? = some (.cells #[.bool false, .bool false, .bool false, .bool false, .int .u64 0, .int .u64 0] 33 (0, 0)) := (HA.out.block x HZA.out).trans HDA.out
    refine wp_store_row 33 (.tmp 3) (.tmp 34) rfl x #[.bool cs, .bool mt, .bool l0, .bool l1, .int .u64 0, .int .u64 cn] rfl rfl 33 #[.bool false, .bool false, .bool false, .bool false, .int .u64 0, .int .u64 0] hD info_lines rfl (by simp [Value.oneCell']) ?_
    have HSn : Hid (Below w1.heap.size w1 (wc20.setRow x #[.bool cs, .bool mt, .bool l0, .bool l1, .int .u64 0, .int .u64 cn])) := Lib.hid (below_setRow HS.out HX.out _)
    have HXR : Hid ((wc20.setRow x #[.bool cs, .bool mt, .bool l0, .bool l1, .int .u64 0, .int .u64 cn]).heap[x]? = some (.cells #[.bool cs, .bool mt, .bool l0, .bool l1, .int .u64 0, .int .u64 cn] 33 (0, 0))) := Lib.hid (setRow_heap wc20 x _ _ _ _ hD)
    refine hK.out _ _ ?_ (fun hHeld => ?_)
    · exact HSn.out
    clear hHeld hK K hD
    try simp only [Act.put, List.setIfInBounds_toArray, List.set_cons_zero, List.set_cons_succ]
    replace HS := HSn
    clear HSn HA HZA HDA
    refine wpAnyH_done (by kernel_rfl) ?_ _
    generalize (wc20.setRow x #[.bool cs, .bool mt, .bool l0, .bool l1, .int .u64 0, .int .u64 cn]) = wz at *
    have HRZ := Lib.hid (HRG.out wz HS.out)
    have hxz : x < wz.heap.size := (Array.getElem?_eq_some_iff.1 HXR.out).1
    go_wp2_with (refine wpList_load_fr rfl _ _ rfl b 4 rfl _ _ HRZ.out Tryz.underlying69 rfl ?_ ?_; · exact HSZ.out)
    (with_reducible refine (HUP.out _).mono ?_)
    rintro e wu ⟨rfl, hb⟩
    have hxw : wu.heap[x]? = some (.cells #[.bool cs, .bool mt, .bool l0, .bool l1, .int .u64 0, .int .u64 cn] 33 (0, 0)) := (hb.block x hxz).trans HXR.out
    have HBW : Hid (Below w1.heap.size w1 wu) := Lib.hid (HS.out.trans (hb.mono HS.out.size))
    have hrw : wu.heap[w.heap.size]? = some (.cells #[.bool false, .bool false, .bool false, .bool false, .int .u64 0, .int .u64 0] 33 (0, 0)) := (HBW.out.block _ HZ1.out).trans HRES.out
    have hne : ¬ w.heap.size = x := by have := HX.out; have := HZ1.out; omega
    have fx : wu.frozen? ⟨x, 4, none⟩ = false := frozen_of_row wu x 4 _ _ hxw
    have cx : wu.cell? ⟨x, 4, none⟩ = some (.int .u64 0) := by rw [cell_of_row wu x 4 _ _ _ hxw]; rfl
    have hx2 : (wu.setCell ⟨x, 4, none⟩ (.int .u64 2)).heap[x]? = some (.cells #[.bool cs, .bool mt, .bool l0, .bool l1, .int .u64 2, .int .u64 cn] 33 (0, 0)) := by rw [heap_setCell_same wu x 4 _ _ _ hxw]; rfl
    have hr2 : (wu.setCell ⟨x, 4, none⟩ (.int .u64 2)).heap[w.heap.size]? = some (.cells #[.bool false, .bool false, .bool false, .bool false, .int .u64 0, .int .u64 0] 33 (0, 0)) := by rw [heap_setCell_other wu ⟨x, 4, none⟩ w.heap.size _ hne]; exact hrw
    have HX1 := Lib.hid hxw
    have HR1 := Lib.hid hrw
    have HX2 := Lib.hid hx2
    have HR2 := Lib.hid hr2
    have HB2 : Hid (Below w1.heap.size w1 (wu.setCell ⟨x, 4, none⟩ (.int .u64 2))) := Lib.hid (HBW.out.setCell HX.out _)
    have HW1B := Lib.hid HW1.out.size
    clear hb hxw hrw hx2 hr2 hxz hne HRZ HUP HRG HOC HSZ HS HXR HC1 HC2 HC3 HC4 HC5
    cases up with
    | false =>
      go_wp2_with (first | (refine wpList_load_row rfl _ _ rfl x rfl 33 _ _ _ HX1.out Tryz.underlying33 rfl ?_ ?_; · exact info_lines) | (refine wpList_store_row rfl 33 (.tmp 2) (.tmp 41) rfl w.heap.size #[.bool cs, .bool mt, .bool l0, .bool l1, .int .u64 0, .int .u64 cn] rfl rfl 33 #[.bool false, .bool false, .bool false, .bool false, .int .u64 0, .int .u64 0] HR1.out info_lines rfl (by simp [Value.oneCell']) ?_))
      exact bodyPost_ret (v := linesW cs mt l0 l1 false cn) (results_cell_row (show Tryz.f12.results = #[.cell 2 33] by kernel_rfl) _ _ w.heap.size 33 _ _ _ rfl (setRow_heap _ _ _ _ _ _ HR1.out) Tryz.underlying33 rfl info_lines) rfl ⟨rfl, below_setRow (HW1.out.trans (HBW.out.mono HW1B.out)) (Nat.le_refl _) _⟩
    | true =>
      go_wp2_with (first | (refine wpList_load_row rfl _ _ rfl x rfl 33 _ _ _ HX2.out Tryz.underlying33 rfl ?_ ?_; · exact info_lines) | (refine wpList_store_row rfl 33 (.tmp 2) (.tmp 41) rfl w.heap.size #[.bool cs, .bool mt, .bool l0, .bool l1, .int .u64 2, .int .u64 cn] rfl rfl 33 #[.bool false, .bool false, .bool false, .bool false, .int .u64 0, .int .u64 0] HR2.out info_lines rfl (by simp [Value.oneCell']) ?_))
      exact bodyPost_ret (v := linesW cs mt l0 l1 true cn) (results_cell_row (show Tryz.f12.results = #[.cell 2 33] by kernel_rfl) _ _ w.heap.size 33 _ _ _ rfl (setRow_heap _ _ _ _ _ _ HR2.out) Tryz.underlying33 rfl info_lines) rfl ⟨rfl, below_setRow (HW1.out.trans (HB2.out.mono HW1B.out)) (Nat.le_refl _) _⟩

end Go.Proofs.YtbcnkhfpogglmaaGreatDoor

namespace Go.Proofs.YtbcnkhfpogglmaaGreatDoor.C4.In
open Go.RowKit
set_option linter.unusedVariables false
set_option maxRecDepth 100000
variable {fr : Fr 1}

/-- The document's clint t stands one cell behind the beginning of block b. -/
def RefC (fr : Fr 1) (w : World) (b : Nat) (t : Cl) : Prop := w.heap[b]? = some (.cells (fr.all #[.int .u64 (sI t.s), .int .u64 t.c, .int .u64 t.n]) fr.ty (0, 0)) ∧ t.ok
theorem RefC.keeps {w w' : World} {b : Nat} {t : Cl} {T : Nat → Prop} (h : RefC fr w b t) (o : Only T w w') (hb : ¬ T b) : RefC fr w' b t := ⟨o.keeps hb h.1, h.2⟩
theorem RefC.lt {w : World} {b : Nat} {t : Cl} (h : RefC fr w b t) : b < w.heap.size := (Array.getElem?_eq_some_iff.1 h.1).1
theorem RefC.below {w w' : World} {b : Nat} {t : Cl} (h : RefC fr w b t) (o : Below w.heap.size w w') : RefC fr w' b t := ⟨(o.block b h.lt).trans h.1, h.2⟩
theorem RefC.cells {w : World} {b : Nat} {t : Cl} (h : RefC fr w b t) : w.cell? ⟨b, 1, none⟩ = some (.int .u64 (sI t.s)) ∧ w.cell? ⟨b, 2, none⟩ = some (.int .u64 t.c) ∧ w.cell? ⟨b, 3, none⟩ = some (.int .u64 t.n) := by
  refine ⟨?_, ?_, ?_⟩
  · rw [cell_of_row w b _ _ _ _ h.1]; exact fr.get _ 0 (by simp)
  · rw [cell_of_row w b _ _ _ _ h.1]; exact fr.get _ 1 (by simp)
  · rw [cell_of_row w b _ _ _ _ h.1]; exact fr.get _ 2 (by simp)
theorem RefC.free {w : World} {b : Nat} {t : Cl} (h : RefC fr w b t) (k : Nat) : w.frozen? ⟨b, k, none⟩ = false := frozen_of_row w b k _ _ h.1
/-- What a call leaves that turns the clint. -/
def RefEnd (fr : Fr 1) (w : World) (b : Nat) (r : Value) (t' : Cl) (e : Ending) (w' : World) : Prop := e = .returned r ∧ Only (fun i => i = b) w w' ∧ RefC fr w' b t'
theorem refC_set {w w' : World} {b k : Nat} {t t' : Cl} {v : Value} {r : Value} (h : RefC fr w b t) (ho : ∃ n, w' = (w.drewN n).setCell ⟨b, 1 + k, none⟩ v)
    (e : (#[.int .u64 (sI t.s), .int .u64 t.c, .int .u64 t.n] : Array Value).setIfInBounds k v = #[.int .u64 (sI t'.s), .int .u64 t'.c, .int .u64 t'.n]) (hok : t'.ok) (hk : k < 3 := by omega) : RefEnd fr w b r t' (.returned r) w' := by
  obtain ⟨n, rfl⟩ := ho
  refine ⟨rfl, ((Only.refl (fun i => i = b) w).drewN n).setCell (p := ⟨b, 1 + k, none⟩) (.inl rfl) v, ?_, hok⟩
  rw [heap_setCell_same (w.drewN n) b (1 + k) _ _ _ h.1, fr.set _ _ _ (by simpa using hk), e]

theorem refWrite_1 (w : World) (b : Nat) (t : Cl) (v : Int) (h : RefC fr w b t) (hv : In64 v) :
    Calls Tryz.prog 98 #[.pointer (some ⟨b, 1, none⟩), .int .u64 0, .int .i64 4, .int .u64 v] w (RefEnd fr w b (.bool true) (wrC t v 1)) := by
  obtain ⟨hc0, hc1, hc2⟩ := h.cells
  have f0 := h.free 1
  have f1 := h.free 2
  have f2 := h.free 3
  have H := Lib.hid h
  have HV := Lib.hid hv
  have HO := Lib.hid h.2
  have hv0 := hv.1
  have hb1 := h.2.1.1
  have hb2 := h.2.2.1
  clear h hv
  go_enter Tryz.func98, Tryz.ntmps98
  go_wp2
  go_ret
  exact refC_set (k := 0) H.out ⟨0, rfl⟩ (by simp only [wrC]; rw [sI_mod HV.out]; rfl) (wrC_ok H.out.2 HV.out 1)
theorem refWrite_2 (w : World) (b : Nat) (t : Cl) (v : Int) (h : RefC fr w b t) (hv : In64 v) :
    Calls Tryz.prog 98 #[.pointer (some ⟨b, 1, none⟩), .int .u64 16384, .int .i64 8, .int .u64 v] w (RefEnd fr w b (.bool true) (wrC t v 2)) := by
  obtain ⟨hc0, hc1, hc2⟩ := h.cells
  have f0 := h.free 1
  have f1 := h.free 2
  have f2 := h.free 3
  have H := Lib.hid h
  have HV := Lib.hid hv
  have HO := Lib.hid h.2
  have hv0 := hv.1
  have hb1 := h.2.1.1
  have hb2 := h.2.2.1
  clear h hv
  go_enter Tryz.func98, Tryz.ntmps98
  go_wp2
  go_ret
  exact refC_set (k := 1) H.out ⟨0, rfl⟩ (rfl) (wrC_ok H.out.2 HV.out 2)
theorem refWrite_3 (w : World) (b : Nat) (t : Cl) (v : Int) (h : RefC fr w b t) (hv : In64 v) :
    Calls Tryz.prog 98 #[.pointer (some ⟨b, 1, none⟩), .int .u64 16384, .int .i64 4, .int .u64 v] w (RefEnd fr w b (.bool true) (wrC t v 3)) := by
  obtain ⟨hc0, hc1, hc2⟩ := h.cells
  have f0 := h.free 1
  have f1 := h.free 2
  have f2 := h.free 3
  have H := Lib.hid h
  have HV := Lib.hid hv
  have HO := Lib.hid h.2
  have hv0 := hv.1
  have hb1 := h.2.1.1
  have hb2 := h.2.2.1
  have HS : Hid (IntKind.u64.wrap (IntKind.u64.wrap (t.c / 4294967296 * 4294967296) + v % 4294967296) = t.c / 4294967296 * 4294967296 + v % 4294967296) := by
    have h1 := h.2.1
    have h2 := h.2.2
    show IntKind.u64.wrap (IntKind.u64.wrap (t.c / 4294967296 * 4294967296) + v % 4294967296) = t.c / 4294967296 * 4294967296 + v % 4294967296
    unfold In64 at h1 h2 hv
    rw [IntKind.wrap_u64, IntKind.wrap_u64]; omega
  clear h hv
  go_enter Tryz.func98, Tryz.ntmps98
  go_wp2_with (first
    | (go_at_call 132; refine (high_any _ _ (by first | exact HO.out.1 | exact HO.out.2)).mono ?_; rintro e w' ⟨rfl, rfl⟩)
    | (go_at_call 133; refine (low_any _ _ HV.out).mono ?_; rintro e w' ⟨rfl, rfl⟩))
  go_ret
  exact refC_set (k := 1) H.out ⟨0, rfl⟩ (by simp only [wrC]; rw [← HS.out]; rfl) (wrC_ok H.out.2 HV.out 3)
theorem refWrite_4 (w : World) (b : Nat) (t : Cl) (v : Int) (h : RefC fr w b t) (hv : In64 v) :
    Calls Tryz.prog 98 #[.pointer (some ⟨b, 1, none⟩), .int .u64 16388, .int .i64 4, .int .u64 v] w (RefEnd fr w b (.bool true) (wrC t v 4)) := by
  obtain ⟨hc0, hc1, hc2⟩ := h.cells
  have f0 := h.free 1
  have f1 := h.free 2
  have f2 := h.free 3
  have H := Lib.hid h
  have HV := Lib.hid hv
  have HO := Lib.hid h.2
  have hv0 := hv.1
  have hb1 := h.2.1.1
  have hb2 := h.2.2.1
  have HS : Hid (IntKind.u64.wrap (IntKind.u64.wrap (v % 4294967296 * 4294967296) + t.c % 4294967296) = v % 4294967296 * 4294967296 + t.c % 4294967296) := by
    have h1 := h.2.1
    have h2 := h.2.2
    show IntKind.u64.wrap (IntKind.u64.wrap (v % 4294967296 * 4294967296) + t.c % 4294967296) = v % 4294967296 * 4294967296 + t.c % 4294967296
    unfold In64 at h1 h2 hv
    rw [IntKind.wrap_u64, IntKind.wrap_u64]; omega
  clear h hv
  go_enter Tryz.func98, Tryz.ntmps98
  go_wp2_with fail
  go_still_tail 12, (by kernel_rfl)
  still_call (low_still _ _ HV.out)
  repeat still_step
  still_call (low_still _ _ HO.out.1)
  repeat still_step
  refine wpStill_nil ?_
  change wpList _ _ _ _ _ w.drew
  have HD : Hid (∃ n, w.drew = w.drewN n) := Lib.hid ⟨1, rfl⟩
  have g1 : w.drew.frozen? ⟨b, 2, none⟩ = false := f1
  have gc : w.drew.cell? ⟨b, 2, none⟩ = some (.int .u64 t.c) := hc1
  clear hc0 hc1 hc2 f0 f1 f2
  generalize w.drew = wd at *
  go_wp2
  go_ret
  exact refC_set (k := 1) H.out (by obtain ⟨n, rfl⟩ := HD.out; exact ⟨n, rfl⟩) (by simp only [wrC]; rw [← HS.out]; rfl) (wrC_ok H.out.2 HV.out 4)
theorem refWrite_5 (w : World) (b : Nat) (t : Cl) (v : Int) (h : RefC fr w b t) (hv : In64 v) :
    Calls Tryz.prog 98 #[.pointer (some ⟨b, 1, none⟩), .int .u64 49144, .int .i64 8, .int .u64 v] w (RefEnd fr w b (.bool true) (wrC t v 5)) := by
  obtain ⟨hc0, hc1, hc2⟩ := h.cells
  have f0 := h.free 1
  have f1 := h.free 2
  have f2 := h.free 3
  have H := Lib.hid h
  have HV := Lib.hid hv
  have HO := Lib.hid h.2
  have hv0 := hv.1
  have hb1 := h.2.1.1
  have hb2 := h.2.2.1
  clear h hv
  go_enter Tryz.func98, Tryz.ntmps98
  go_wp2
  go_ret
  exact refC_set (k := 2) H.out ⟨0, rfl⟩ (rfl) (wrC_ok H.out.2 HV.out 5)
theorem refWrite_6 (w : World) (b : Nat) (t : Cl) (v : Int) (h : RefC fr w b t) (hv : In64 v) :
    Calls Tryz.prog 98 #[.pointer (some ⟨b, 1, none⟩), .int .u64 49144, .int .i64 4, .int .u64 v] w (RefEnd fr w b (.bool true) (wrC t v 6)) := by
  obtain ⟨hc0, hc1, hc2⟩ := h.cells
  have f0 := h.free 1
  have f1 := h.free 2
  have f2 := h.free 3
  have H := Lib.hid h
  have HV := Lib.hid hv
  have HO := Lib.hid h.2
  have hv0 := hv.1
  have hb1 := h.2.1.1
  have hb2 := h.2.2.1
  have HS : Hid (IntKind.u64.wrap (IntKind.u64.wrap (t.n / 4294967296 * 4294967296) + v % 4294967296) = t.n / 4294967296 * 4294967296 + v % 4294967296) := by
    have h1 := h.2.1
    have h2 := h.2.2
    show IntKind.u64.wrap (IntKind.u64.wrap (t.n / 4294967296 * 4294967296) + v % 4294967296) = t.n / 4294967296 * 4294967296 + v % 4294967296
    unfold In64 at h1 h2 hv
    rw [IntKind.wrap_u64, IntKind.wrap_u64]; omega
  clear h hv
  go_enter Tryz.func98, Tryz.ntmps98
  go_wp2_with (first
    | (go_at_call 132; refine (high_any _ _ (by first | exact HO.out.1 | exact HO.out.2)).mono ?_; rintro e w' ⟨rfl, rfl⟩)
    | (go_at_call 133; refine (low_any _ _ HV.out).mono ?_; rintro e w' ⟨rfl, rfl⟩))
  go_ret
  exact refC_set (k := 2) H.out ⟨0, rfl⟩ (by simp only [wrC]; rw [← HS.out]; rfl) (wrC_ok H.out.2 HV.out 6)
theorem refWrite_7 (w : World) (b : Nat) (t : Cl) (v : Int) (h : RefC fr w b t) (hv : In64 v) :
    Calls Tryz.prog 98 #[.pointer (some ⟨b, 1, none⟩), .int .u64 49148, .int .i64 4, .int .u64 v] w (RefEnd fr w b (.bool true) (wrC t v 7)) := by
  obtain ⟨hc0, hc1, hc2⟩ := h.cells
  have f0 := h.free 1
  have f1 := h.free 2
  have f2 := h.free 3
  have H := Lib.hid h
  have HV := Lib.hid hv
  have HO := Lib.hid h.2
  have hv0 := hv.1
  have hb1 := h.2.1.1
  have hb2 := h.2.2.1
  have HS : Hid (IntKind.u64.wrap (IntKind.u64.wrap (v % 4294967296 * 4294967296) + t.n % 4294967296) = v % 4294967296 * 4294967296 + t.n % 4294967296) := by
    have h1 := h.2.1
    have h2 := h.2.2
    show IntKind.u64.wrap (IntKind.u64.wrap (v % 4294967296 * 4294967296) + t.n % 4294967296) = v % 4294967296 * 4294967296 + t.n % 4294967296
    unfold In64 at h1 h2 hv
    rw [IntKind.wrap_u64, IntKind.wrap_u64]; omega
  clear h hv
  go_enter Tryz.func98, Tryz.ntmps98
  go_wp2_with fail
  go_still_tail 12, (by kernel_rfl)
  still_call (low_still _ _ HV.out)
  repeat still_step
  still_call (low_still _ _ HO.out.2)
  repeat still_step
  refine wpStill_nil ?_
  change wpList _ _ _ _ _ w.drew
  have HD : Hid (∃ n, w.drew = w.drewN n) := Lib.hid ⟨1, rfl⟩
  have g2 : w.drew.frozen? ⟨b, 3, none⟩ = false := f2
  have gc : w.drew.cell? ⟨b, 3, none⟩ = some (.int .u64 t.n) := hc2
  clear hc0 hc1 hc2 f0 f1 f2
  generalize w.drew = wd at *
  go_wp2
  go_ret
  exact refC_set (k := 2) H.out (by obtain ⟨n, rfl⟩ := HD.out; exact ⟨n, rfl⟩) (by simp only [wrC]; rw [← HS.out]; rfl) (wrC_ok H.out.2 HV.out 7)
theorem refWrite_0 (w : World) (b : Nat) (t : Cl) (off n v : Int) (h : RefC fr w b t) (hp : NoPlace off n) :
    Calls Tryz.prog 98 #[.pointer (some ⟨b, 1, none⟩), .int .u64 off, .int .i64 n, .int .u64 v] w (RefEnd fr w b (.bool false) t) := by
  obtain ⟨hk, h1, h2, h3⟩ := hp
  have HE : Hid (RefEnd fr w b (.bool false) t (.returned (.bool false)) w) := Lib.hid ⟨rfl, Only.refl _ _, h⟩
  clear h hk
  by_cases n8 : n = 8
  · subst n8
    have e1 := ne_bool (show ¬ off = 16384 by omega)
    have e2 := ne_bool (show ¬ off = 49144 by omega)
    clear h1 h2 h3
    go_enter Tryz.func98, Tryz.ntmps98
    go_wp2
    go_ret
    exact HE.out
  have e8 := ne_bool n8
  by_cases n4 : n = 4
  · subst n4
    have e0 := ne_bool (show ¬ off = 0 by omega)
    have e1 := ne_bool (show ¬ off = 16384 by omega)
    have e2 := ne_bool (show ¬ off = 16388 by omega)
    have e3 := ne_bool (show ¬ off = 49144 by omega)
    have e4 := ne_bool (show ¬ off = 49148 by omega)
    clear h1 h2 h3 n8 e8
    go_enter Tryz.func98, Tryz.ntmps98
    go_wp2
    go_ret
    exact HE.out
  · have e4 := ne_bool2 n4
    clear h1 h2 h3 n8 n4
    go_enter Tryz.func98, Tryz.ntmps98
    go_wp2
    go_ret
    exact HE.out
theorem refWrite_any (w : World) (b : Nat) (t : Cl) (off n v : Int) (h : RefC fr w b t) (hv : In64 v) :
    Calls Tryz.prog 98 #[.pointer (some ⟨b, 1, none⟩), .int .u64 off, .int .i64 n, .int .u64 v] w (RefEnd fr w b (.bool (okC off n)) (wrC t v (kindC off n))) := by
  unfold okC
  rcases kind_cases off n with ⟨rfl, rfl, hk⟩ | ⟨rfl, rfl, hk⟩ | ⟨rfl, rfl, hk⟩ | ⟨rfl, rfl, hk⟩ | ⟨rfl, rfl, hk⟩ | ⟨rfl, rfl, hk⟩ | ⟨rfl, rfl, hk⟩ | ⟨hk, h1, h2, h3⟩
  all_goals rw [hk]
  · exact refWrite_1 w b t v h hv
  · exact refWrite_2 w b t v h hv
  · exact refWrite_3 w b t v h hv
  · exact refWrite_4 w b t v h hv
  · exact refWrite_5 w b t v h hv
  · exact refWrite_6 w b t v h hv
  · exact refWrite_7 w b t v h hv
  · exact refWrite_0 w b t off n v h ⟨hk, h1, h2, h3⟩
theorem refTick_any (w : World) (b : Nat) (t : Cl) (n : Int) (h : RefC fr w b t) (hn : In64 n) :
    Calls Tryz.prog 109 #[.pointer (some ⟨b, 1, none⟩), .int .u64 n] w fun e w' => (∃ u, e = .returned u) ∧ Only (fun i => i = b) w w' ∧ RefC fr w' b (tickC t n) := by
  obtain ⟨hc0, hc1, hc2⟩ := h.cells
  have f2 := h.free 3
  have H := Lib.hid h
  have HS : Hid (IntKind.u64.wrap (t.n + n) = (t.n + n) % 18446744073709551616) := Lib.hid (IntKind.wrap_u64 _)
  clear h
  go_enter Tryz.func109, Tryz.ntmps109
  go_wp2
  go_end0
  refine ⟨⟨_, rfl⟩, ?_⟩
  exact (refC_set (k := 2) (r := .bool true) (t' := tickC t n) H.out ⟨0, rfl⟩ (by simp only [tickC]; rw [← HS.out]; rfl) (tickC_ok H.out.2)).2

end Go.Proofs.YtbcnkhfpogglmaaGreatDoor.C4.In

namespace Go.Proofs.YtbcnkhfpogglmaaGreatDoor.P5
open Go.RowKit
set_option linter.unusedVariables false
set_option maxRecDepth 100000

set_option maxHeartbeats 2000000 in
theorem refLine_none (w : World) (t : PS) (c : Int) (h0 : ¬ c = 0) (h1 : ¬ c = 1) : Calls Tryz.prog 64 #[refPV t, .int .i64 c] w fun e w' => e = .returned (.bool false) ∧ Below w.heap.size w w' := by
  have HB := Lib.hid ((Below.refl w.heap.size w).alloc (Nat.le_refl _) (.cells (varr 194 (cellR t)) 104))
  have hsz : (varr 194 (cellR t)).size = 194 := varr_size _ _
  have HSZ := Lib.hid hsz
  have HBEST := Lib.hid (fun w' => refBest_none w' t c h0 h1)
  unfold refPV at HBEST
  clear hsz h0 h1
  show Calls Tryz.prog 64 #[.agg (varr 194 (cellR t)), .int .i64 c] w _
  have HR : Hid ((w.alloc (.cells (varr 194 (cellR t)) 104)).heap[w.heap.size]? = some (.cells (varr 194 (cellR t)) 104 (0, 0))) := Lib.hid (heap_alloc_new w _)
  generalize varr 194 (cellR t) = row at *
  go_enter Tryz.func64, Tryz.ntmps64
  go_wp2_with (refine wpList_load_row rfl _ _ rfl w.heap.size rfl 104 _ _ _ HR.out Tryz.underlying104 rfl ?_ ?_; · exact size_refP.trans (by rw [HSZ.out]))
  refine (HBEST.out _).mono ?_
  rintro e w2 ⟨rfl, hb⟩
  have HB2 := Lib.hid (HB.out.trans (hb.mono HB.out.size))
  clear hb HBEST HR
  go_wp2_with fail
  go_quiet (fail)
  go_wp2
  go_ret
  exact ⟨rfl, ⟨HB2.out.os, HB2.out.tape, HB2.out.output, HB2.out.size, HB2.out.block⟩⟩
theorem refLine_any (w : World) (t : PS) (c : Int) : Calls Tryz.prog 64 #[refPV t, .int .i64 c] w fun e w' => e = .returned (.bool (lineT t c)) ∧ Below w.heap.size w w' := by
  by_cases h0 : c = 0
  · subst h0
    have e : lineT t 0 = lineC t 0 := by unfold lineT; rw [show isC 0 = true by decide, Bool.true_and]
    rw [e]; exact refLine_0 w t
  by_cases h1 : c = 1
  · subst h1
    have e : lineT t 1 = lineC t 1 := by unfold lineT; rw [show isC 1 = true by decide, Bool.true_and]
    rw [e]; exact refLine_1 w t
  have e : lineT t c = false := by unfold lineT; rw [isC_no h0 h1, Bool.false_and]
  rw [e]; exact refLine_none w t c h0 h1

/-! ### what is always so, stays so -/
end Go.Proofs.YtbcnkhfpogglmaaGreatDoor.P5

namespace Go.Proofs.YtbcnkhfpogglmaaGreatDoor.P5.In
open Go.RowKit
set_option linter.unusedVariables false
set_option maxRecDepth 100000
variable {fr : Fr 4}

/-- The document's plic t stands four cells behind the beginning of block b. -/
def RefP (fr : Fr 4) (w : World) (b : Nat) (t : PS) : Prop := w.heap[b]? = some (.cells (fr.all (varr 194 (cellR t))) fr.ty (0, 0))
theorem RefP.lt {w : World} {b : Nat} {t : PS} (h : RefP fr w b t) : b < w.heap.size := (Array.getElem?_eq_some_iff.1 h).1
theorem RefP.below {w w' : World} {b : Nat} {t : PS} (h : RefP fr w b t) (o : Below w.heap.size w w') : RefP fr w' b t := (o.block b h.lt).trans h
theorem RefP.keeps {w w' : World} {b : Nat} {t : PS} {T : Nat → Prop} (h : RefP fr w b t) (o : Only T w w') (hb : ¬ T b) : RefP fr w' b t := o.keeps hb h
theorem RefP.src {w : World} {b : Nat} {t : PS} (h : RefP fr w b t) {s j : Nat} (hs : s < 32) (hj : j < 6) : w.cell? ⟨b, 4 + s * 6 + j, none⟩ = some (srcCell t s j) := by
  rw [Nat.add_assoc, cell_of_row w b _ _ _ _ h, fr.get _ _ (by rw [varr_size]; omega), varr_get _ _ _ (by omega), cellR_src t hs hj]
theorem RefP.floor_ {w : World} {b : Nat} {t : PS} (h : RefP fr w b t) {c : Nat} (hc : c < 2) : w.cell? ⟨b, 196 + c, none⟩ = some (.int .u64 (t.floor c)) := by
  rw [show 196 + c = 4 + (192 + c) by omega, cell_of_row w b _ _ _ _ h, fr.get _ _ (by rw [varr_size]; omega), varr_get _ _ _ (by omega), cellR_floor]
theorem RefP.free {w : World} {b : Nat} {t : PS} (h : RefP fr w b t) (k : Nat) : w.frozen? ⟨b, k, none⟩ = false := frozen_of_row w b k _ _ h
/-- One cell of a source turned. -/
theorem RefP.set {w : World} {b : Nat} {t t' : PS} (h : RefP fr w b t) {s j : Nat} (v : Value) (hs : s < 32) (hj : j < 6) (he : ∀ s' j', s' < 32 → j' < 6 → srcCell t' s' j' = if s' = s ∧ j' = j then v else srcCell t s' j') (hf : t'.floor = t.floor) :
    RefP fr (w.setCell ⟨b, 4 + s * 6 + j, none⟩ v) b t' := by
  unfold RefP
  rw [Nat.add_assoc, heap_setCell_same w b _ _ _ _ h, fr.set _ _ _ (by rw [varr_size]; omega), varr_set]
  have e : (varr 194 fun i => if i = s * 6 + j then v else cellR t i) = varr 194 (cellR t') := varr_congr fun i hi => by
    by_cases h1 : i < 192
    · have h2 : i = i / 6 * 6 + i % 6 := by omega
      have e1 : cellR t' i = srcCell t' (i / 6) (i % 6) := by unfold cellR; rw [if_pos h1]
      have e2 : cellR t i = srcCell t (i / 6) (i % 6) := by unfold cellR; rw [if_pos h1]
      rw [e1, e2, he _ _ (by omega) (by omega)]
      by_cases c : i = s * 6 + j
      · rw [if_pos c, if_pos ⟨by omega, by omega⟩]
      · rw [if_neg c, if_neg (by omega)]
    · rw [if_neg (by omega)]
      unfold cellR
      rw [if_neg h1, if_neg h1, hf]
  rw [e]
theorem RefP.floorS {w : World} {b : Nat} {t : PS} (h : RefP fr w b t) {c : Nat} (v : Int) (hc : c < 2) : RefP fr (w.setCell ⟨b, 196 + c, none⟩ (.int .u64 v)) b (floorT t c v) := by
  unfold RefP
  rw [show 196 + c = 4 + (192 + c) by omega, heap_setCell_same w b _ _ _ _ h, fr.set _ _ _ (by rw [varr_size]; omega), varr_set]
  have e : (varr 194 fun i => if i = 192 + c then .int .u64 v else cellR t i) = varr 194 (cellR (floorT t c v)) := varr_congr fun i hi => by
    unfold cellR
    by_cases h1 : i < 192
    · rw [if_neg (by omega), if_pos h1, if_pos h1]; rfl
    · rw [if_neg h1, if_neg h1]
      by_cases e : i = 192 + c
      · rw [if_pos e, floorT_at, if_pos (by omega)]
      · rw [if_neg e, floorT_at, if_neg (by omega)]
  rw [e]

def SetP (fr : Fr 4) (w : World) (b : Nat) (t' : PS) (e : Ending) (w' : World) : Prop := (∃ u, e = .returned u) ∧ Only (fun i => i = b) w w' ∧ RefP fr w' b t'
set_option maxHeartbeats 1000000 in
theorem refLook_any (w : World) (b : Nat) (t : PS) (s : Nat) (h : RefP fr w b t) (hs : s < 32) :
    Calls Tryz.prog 134 #[.pointer (some ⟨b, 4, none⟩), .int .i64 s] w (SetP fr w b (lookP t s)) := by
  have c1 : w.cell? ⟨b, 4 + s * 6 + 1, none⟩ = some (.bool (t.up s)) := h.src hs (by omega)
  have c2 : w.cell? ⟨b, 4 + s * 6 + 2, none⟩ = some (.bool (t.pend s)) := h.src hs (by omega)
  have c3 : w.cell? ⟨b, 4 + s * 6 + 3, none⟩ = some (.bool (t.busy s)) := h.src hs (by omega)
  have f2 := h.free (4 + s * 6 + 2)
  have i1 : (s : Int) < 32 := by omega
  have H := Lib.hid h
  clear h
  unfold lookP
  generalize hu : t.up s = u at *
  generalize hb : t.busy s = v at *
  clear hu hb
  cases u <;> cases v
  all_goals
    go_enter Tryz.func134, Tryz.ntmps134
    go_wp2
    go_end0
    first
      | exact ⟨⟨_, rfl⟩, Only.refl _ _, H.out⟩
      | exact ⟨⟨_, rfl⟩, (Only.refl (fun i => i = b) w).setCell (p := ⟨b, 4 + s * 6 + 2, none⟩) (.inl rfl) _, H.out.set _ hs (by omega) (fun s' j' _ _ => by
          by_cases c : s' = s ∧ j' = 2
          · obtain ⟨rfl, rfl⟩ := c; rw [if_pos ⟨rfl, rfl⟩]; simp [srcCell, upd_same]
          · rw [if_neg c]; match j' with
            | 0 => rfl
            | 1 => rfl
            | 2 => simp [srcCell, upd_other _ _ (fun e : s' = s => c ⟨e, rfl⟩)]
            | 3 => rfl
            | 4 => rfl
            | _ + 5 => rfl) rfl⟩
theorem RefP.upS {w : World} {b : Nat} {t : PS} (h : RefP fr w b t) {s : Nat} (u : Bool) (hs : s < 32) : RefP fr (w.setCell ⟨b, 4 + s * 6 + 1, none⟩ (.bool u)) b (upP t s u) :=
  h.set _ hs (by omega) (fun s' j' _ _ => by
    by_cases c : s' = s ∧ j' = 1
    · obtain ⟨rfl, rfl⟩ := c; rw [if_pos ⟨rfl, rfl⟩]; simp [srcCell, upP, upd_same]
    · rw [if_neg c]; match j' with
      | 0 => rfl
      | 1 => simp [srcCell, upP, upd_other _ _ (fun e : s' = s => c ⟨e, rfl⟩)]
      | 2 => rfl
      | 3 => rfl
      | 4 => rfl
      | _ + 5 => rfl) rfl
def RefPEnd (fr : Fr 4) (w : World) (b : Nat) (r : Value) (t' : PS) (e : Ending) (w' : World) : Prop := e = .returned r ∧ Only (fun i => i = b) w w' ∧ RefP fr w' b t'
set_option maxHeartbeats 1000000 in
theorem refLevel_any (w : World) (b : Nat) (t : PS) (s : Int) (u : Bool) (h : RefP fr w b t) :
    Calls Tryz.prog 108 #[.pointer (some ⟨b, 4, none⟩), .int .i64 s, .bool u] w (RefPEnd fr w b (.bool (isS s)) (levelP t s u)) := by
  cases hs : isS s with
  | false =>
    have HE : Hid (RefPEnd fr w b (.bool false) (levelP t s u) (.returned (.bool false)) w) := by
      refine Lib.hid ⟨rfl, Only.refl _ _, ?_⟩
      unfold levelP; rw [hs, if_neg (by simp)]; exact h
    have HS := Lib.hid hs
    clear h hs
    go_enter Tryz.func108, Tryz.ntmps108
    go_wp2_with fail
    refine (refIs_any _ _).mono ?_
    rintro e w' ⟨rfl, rfl⟩
    rw [HS.out]
    go_wp2
    go_ret
    exact HE.out
  | true =>
    obtain ⟨k, rfl, hk1, hk2⟩ := isS_nat hs
    have HS := Lib.hid hs
    have c1 : w.cell? ⟨b, 4 + k * 6 + 1, none⟩ = some (.bool (t.up k)) := h.src hk2 (by omega)
    have f1 := h.free (4 + k * 6 + 1)
    have i1 : (k : Int) < 32 := by omega
    have H := Lib.hid (h.upS u hk2)
    have HL : Hid (levelP t (k : Int) u = lookP (upP t k u) k) := by
      refine Lib.hid ?_
      unfold levelP; rw [hs, if_pos rfl]; rfl
    have HO := Lib.hid ((Only.refl (fun i => i = b) w).setCell (p := ⟨b, 4 + k * 6 + 1, none⟩) (.inl rfl) (.bool u))
    clear h hs
    rw [HL.out]
    go_enter Tryz.func108, Tryz.ntmps108
    go_wp2_with fail
    refine (refIs_any _ _).mono ?_
    rintro e w' ⟨rfl, rfl⟩
    rw [HS.out]
    go_wp2_with fail
    refine (refLook_any _ b _ k H.out hk2).mono ?_
    rintro e w' ⟨hu, ho, hp⟩
    obtain ⟨v, rfl⟩ := hu
    have HO2 := Lib.hid (HO.out.trans ho)
    have HP := Lib.hid hp
    clear ho hp
    go_wp2
    go_ret
    exact ⟨rfl, HO2.out, HP.out⟩
theorem refRead_len (w : World) (b : Nat) (off n : Int) (hn : ¬ n = 4) : Calls Tryz.prog 104 #[.pointer (some ⟨b, 4, none⟩), .int .u64 off, .int .i64 n] w (TellsP w 0 false) := by
  have e4 : (n != 4) = true := by simpa using hn
  clear hn
  go_enter Tryz.func104, Tryz.ntmps104
  go_wp2
  go_ret2
  exact ⟨rfl, rfl⟩
set_option maxHeartbeats 2000000 in
theorem refRead_pend (w : World) (b : Nat) (t : PS) (h : RefP fr w b t) : Calls Tryz.prog 104 #[.pointer (some ⟨b, 4, none⟩), .int .u64 4096, .int .i64 4] w (TellsP w (bits32 t.pend) true) := by
  have H := Lib.hid h
  clear h
  go_enter Tryz.func104, Tryz.ntmps104
  go_wp2
  go_loop [8, 9] (fun x i => ∃ (k : Nat) (y : Int), k ≤ 32 ∧ i = .int .i64 ((k : Int) - 1) ∧ x = .int .u64 y ∧ Hid (y = bitsN t.pend (32 - k))) (fun _ i => (intOf i + 1).toNat)
  case atStart => exact ⟨32, 0, Nat.le_refl _, rfl, rfl, Lib.hid rfl⟩
  case round =>
    obtain ⟨k, y, hk, rfl, rfl, HY⟩ := hrel
    have hbd := bitsN_bd t.pend (32 - k)
    have hy0 : 0 ≤ y := by rw [HY.out]; exact hbd.1
    have hy1 : y < 2147483648 ∨ k = 0 := by
      by_cases k0 : k = 0
      · exact .inr k0
      · left
        rw [HY.out]
        refine Int.lt_of_lt_of_le hbd.2 ?_
        have := two_pow_le (show 32 - k ≤ 31 by omega)
        exact Int.le_trans this (by decide)
    clear hbd
    by_cases hk1 : 1 ≤ k
    · obtain ⟨j, rfl⟩ : ∃ j, k = j + 1 := ⟨k - 1, by omega⟩
      have hy2 : y < 2147483648 := by omega
      have hwy : IntKind.u64.wrap (2 * y) = 2 * y := by rw [IntKind.wrap_u64]; omega
      have hwy2 : IntKind.u64.wrap (2 * y + 1) = 2 * y + 1 := by rw [IntKind.wrap_u64]; omega
      have c2 : w.cell? ⟨b, 4 + j * 6 + 2, none⟩ = some (.bool (t.pend j)) := H.out.src (by omega) (by omega)
      have i1 : (j : Int) < 32 := by omega
      have HE := Lib.hid (bitsN_even (f := t.pend) (n := 31 - j))
      have HO := Lib.hid (bitsN_odd (f := t.pend) (n := 31 - j))
      cases hp : t.pend j with
      | false =>
        rw [hp] at c2
        have HN : Hid (2 * y = bitsN t.pend (32 - j)) := by
          refine Lib.hid ?_
          have := HE.out (by rw [show 31 - (31 - j) = j by omega]; exact hp)
          rw [show 32 - j = 31 - j + 1 by omega, this, HY.out, show 32 - (j + 1) = 31 - j by omega]
        clear hp hy1
        go_wp2
        go_round
        case rel => exact ⟨j, 2 * y, by omega, by go_num, rfl, HN⟩
        case measure => simp [intOf]
      | true =>
        rw [hp] at c2
        have HN : Hid (2 * y + 1 = bitsN t.pend (32 - j)) := by
          refine Lib.hid ?_
          have := HO.out (by rw [show 31 - (31 - j) = j by omega]; exact hp)
          rw [show 32 - j = 31 - j + 1 by omega, this, HY.out, show 32 - (j + 1) = 31 - j by omega]
        clear hp hy1
        go_wp2
        go_round
        case rel => exact ⟨j, 2 * y + 1, by omega, by go_num, rfl, HN⟩
        case measure => simp [intOf]
    · obtain rfl : k = 0 := by omega
      have HF : Hid (y = bits32 t.pend) := Lib.hid HY.out
      clear hy1
      go_wp2
      go_ret2
      exact ⟨by rw [← HF.out]; rfl, rfl⟩
theorem refRead_prio (w : World) (b : Nat) (t : PS) (h : RefP fr w b t) (k : Nat) (hk : k < 32) (off : Int) (ho : off = 4 * (k : Int)) :
    Calls Tryz.prog 104 #[.pointer (some ⟨b, 4, none⟩), .int .u64 off, .int .i64 4] w (TellsP w (t.prio k) true) := by
  have c0 : w.cell? ⟨b, 4 + k * 6, none⟩ = some (.int .u64 (t.prio k)) := h.src (s := k) (j := 0) hk (by omega)
  have h0 : 0 ≤ off := by omega
  have h1 : off < 128 := by omega
  have h2 : (off % 4 == 0) = true := by rw [beq_iff_eq]; omega
  have h4 : IntKind.u64.wrap (off.tdiv 4) = (k : Int) := by rw [Int.tdiv_eq_ediv_of_nonneg h0, IntKind.wrap_u64]; omega
  have i1 : (k : Int) < 32 := by omega
  clear ho h
  go_enter Tryz.func104, Tryz.ntmps104
  go_wp2
  go_ret2
  exact ⟨rfl, rfl⟩
set_option maxRecDepth 100000 in
set_option maxHeartbeats 1000000 in
theorem refRead_floor0 (w : World) (b : Nat) (t : PS) (h : RefP fr w b t) :
    Calls Tryz.prog 104 #[.pointer (some ⟨b, 4, none⟩), .int .u64 2097152, .int .i64 4] w (TellsP w (t.floor 0) true) := by
  have c0 : w.cell? ⟨b, 196, none⟩ = some (.int .u64 (t.floor 0)) := h.floor_ (c := 0) (by omega)
  clear h
  go_enter Tryz.func104, Tryz.ntmps104
  go_wp2
  go_loop [10] (fun i => i = .int .i64 0) (fun _ => 0)
  case atStart => rfl
  case round =>
    obtain rfl := hrel
    go_wp2
    go_ret2
    exact ⟨rfl, rfl⟩
set_option maxRecDepth 100000 in
set_option maxHeartbeats 1000000 in
theorem refRead_floor1 (w : World) (b : Nat) (t : PS) (h : RefP fr w b t) :
    Calls Tryz.prog 104 #[.pointer (some ⟨b, 4, none⟩), .int .u64 2101248, .int .i64 4] w (TellsP w (t.floor 1) true) := by
  have c0 : w.cell? ⟨b, 197, none⟩ = some (.int .u64 (t.floor 1)) := h.floor_ (c := 1) (by omega)
  clear h
  go_enter Tryz.func104, Tryz.ntmps104
  go_wp2
  go_loop [10] (fun i => i = .int .i64 0 ∨ i = .int .i64 1) (fun i => (1 - intOf i).toNat)
  case atStart => exact .inl rfl
  case round =>
    rcases hrel with rfl | rfl
    · go_wp2
      exact ⟨.inr rfl, by simp [intOf]⟩
    · go_wp2
      go_ret2
      exact ⟨rfl, rfl⟩
set_option maxRecDepth 100000 in
set_option maxHeartbeats 2000000 in
theorem refRead_no (w : World) (b : Nat) (off : Int) (hn : NoPlic off) (h0 : 0 ≤ off) :
    Calls Tryz.prog 104 #[.pointer (some ⟨b, 4, none⟩), .int .u64 off, .int .i64 4] w (TellsP w 0 false) := by
  have hp := hn.prio
  have e1 := neB hn.pend
  have e2 := neB hn.on0
  have e3 := neB hn.on1
  have e4 := neB hn.fl0
  have e5 := neB hn.fl1
  have e6 := neB hn.cl0
  have e7 := neB hn.cl1
  clear hn
  by_cases h1 : off < 128
  · have h2 : (off % 4 == 0) = false := by simp; omega
    clear hp
    go_enter Tryz.func104, Tryz.ntmps104
    go_wp2
    go_loop [10] (fun i => i = .int .i64 0 ∨ i = .int .i64 1 ∨ i = .int .i64 2) (fun i => (2 - intOf i).toNat)
    case atStart => exact .inl rfl
    case round =>
      rcases hrel with rfl | rfl | rfl
      · go_wp2
        exact ⟨.inr (.inl rfl), by simp [intOf]⟩
      · go_wp2
        exact ⟨.inr (.inr rfl), by simp [intOf]⟩
      · go_wp2
        go_ret2
        exact ⟨rfl, rfl⟩
  · have h2 : decide (off < 128) = false := decide_eq_false h1
    clear hp
    go_enter Tryz.func104, Tryz.ntmps104
    go_wp2
    go_loop [10] (fun i => i = .int .i64 0 ∨ i = .int .i64 1 ∨ i = .int .i64 2) (fun i => (2 - intOf i).toNat)
    case atStart => exact .inl rfl
    case round =>
      rcases hrel with rfl | rfl | rfl
      · go_wp2
        exact ⟨.inr (.inl rfl), by simp [intOf]⟩
      · go_wp2
        exact ⟨.inr (.inr rfl), by simp [intOf]⟩
      · go_wp2
        go_ret2
        exact ⟨rfl, rfl⟩
set_option maxRecDepth 100000 in
set_option maxHeartbeats 2000000 in
theorem refRead_on0 (w : World) (b : Nat) (t : PS) (h : RefP fr w b t) : Calls Tryz.prog 104 #[.pointer (some ⟨b, 4, none⟩), .int .u64 8192, .int .i64 4] w (TellsP w (bits32 fun s => t.on s 0) true) := by
  have H := Lib.hid h
  clear h
  go_enter Tryz.func104, Tryz.ntmps104
  go_wp2
  go_loop [10] (fun i => i = .int .i64 0) (fun _ => 0)
  case atStart => rfl
  case round =>
    obtain rfl := hrel
    go_wp2
    go_loop [12, 13] (fun x i => ∃ (k : Nat) (y : Int), k ≤ 32 ∧ i = .int .i64 ((k : Int) - 1) ∧ x = .int .u64 y ∧ Hid (y = bitsN (fun s => t.on s 0) (32 - k))) (fun _ i => (intOf i + 1).toNat)
    case atStart => exact ⟨32, 0, Nat.le_refl _, rfl, rfl, Lib.hid rfl⟩
    case round =>
      obtain ⟨k, y, hk, rfl, rfl, HY⟩ := hrel
      have hbd := bitsN_bd (fun s => t.on s 0) (32 - k)
      have hy0 : 0 ≤ y := by rw [HY.out]; exact hbd.1
      have hy1 : y < 2147483648 ∨ k = 0 := by
        by_cases k0 : k = 0
        · exact .inr k0
        · left
          rw [HY.out]
          refine Int.lt_of_lt_of_le hbd.2 ?_
          have := two_pow_le (show 32 - k ≤ 31 by omega)
          exact Int.le_trans this (by decide)
      clear hbd
      by_cases hk1 : 1 ≤ k
      · obtain ⟨j, rfl⟩ : ∃ j, k = j + 1 := ⟨k - 1, by omega⟩
        have hy2 : y < 2147483648 := by omega
        have hwy : IntKind.u64.wrap (2 * y) = 2 * y := by rw [IntKind.wrap_u64]; omega
        have hwy2 : IntKind.u64.wrap (2 * y + 1) = 2 * y + 1 := by rw [IntKind.wrap_u64]; omega
        have c2 : w.cell? ⟨b, 4 + j * 6 + 4, none⟩ = some (.bool (t.on j 0)) := H.out.src (s := j) (j := 4) (by omega) (by omega)
        have i1 : (j : Int) < 32 := by omega
        have HE := Lib.hid (bitsN_even (f := (fun s => t.on s 0)) (n := 31 - j))
        have HO := Lib.hid (bitsN_odd (f := (fun s => t.on s 0)) (n := 31 - j))
        cases hp : t.on j 0 with
        | false =>
          rw [hp] at c2
          have HN : Hid (2 * y = bitsN (fun s => t.on s 0) (32 - j)) := by
            refine Lib.hid ?_
            have := HE.out (by rw [show 31 - (31 - j) = j by omega]; exact hp)
            rw [show 32 - j = 31 - j + 1 by omega, this, HY.out, show 32 - (j + 1) = 31 - j by omega]
          clear hp hy1
          go_wp2
          go_round
          case rel => exact ⟨j, 2 * y, by omega, by go_num, rfl, HN⟩
          case measure => simp [intOf]
        | true =>
          rw [hp] at c2
          have HN : Hid (2 * y + 1 = bitsN (fun s => t.on s 0) (32 - j)) := by
            refine Lib.hid ?_
            have := HO.out (by rw [show 31 - (31 - j) = j by omega]; exact hp)
            rw [show 32 - j = 31 - j + 1 by omega, this, HY.out, show 32 - (j + 1) = 31 - j by omega]
          clear hp hy1
          go_wp2
          go_round
          case rel => exact ⟨j, 2 * y + 1, by omega, by go_num, rfl, HN⟩
          case measure => simp [intOf]
      · obtain rfl : k = 0 := by omega
        have HF : Hid (y = bits32 (fun s => t.on s 0)) := Lib.hid HY.out
        clear hy1
        go_wp2
        go_ret2
        exact ⟨by rw [← HF.out]; rfl, rfl⟩
set_option maxRecDepth 100000 in
set_option maxHeartbeats 2000000 in
theorem refRead_on1 (w : World) (b : Nat) (t : PS) (h : RefP fr w b t) : Calls Tryz.prog 104 #[.pointer (some ⟨b, 4, none⟩), .int .u64 8320, .int .i64 4] w (TellsP w (bits32 fun s => t.on s 1) true) := by
  have H := Lib.hid h
  clear h
  go_enter Tryz.func104, Tryz.ntmps104
  go_wp2
  go_loop [10] (fun i => i = .int .i64 0 ∨ i = .int .i64 1) (fun i => (1 - intOf i).toNat)
  case atStart => exact .inl rfl
  case round =>
    rcases hrel with rfl | rfl
    · go_wp2
      exact ⟨.inr rfl, by simp [intOf]⟩
    go_wp2
    go_loop [12, 13] (fun x i => ∃ (k : Nat) (y : Int), k ≤ 32 ∧ i = .int .i64 ((k : Int) - 1) ∧ x = .int .u64 y ∧ Hid (y = bitsN (fun s => t.on s 1) (32 - k))) (fun _ i => (intOf i + 1).toNat)
    case atStart => exact ⟨32, 0, Nat.le_refl _, rfl, rfl, Lib.hid rfl⟩
    case round =>
      obtain ⟨k, y, hk, rfl, rfl, HY⟩ := hrel
      have hbd := bitsN_bd (fun s => t.on s 1) (32 - k)
      have hy0 : 0 ≤ y := by rw [HY.out]; exact hbd.1
      have hy1 : y < 2147483648 ∨ k = 0 := by
        by_cases k0 : k = 0
        · exact .inr k0
        · left
          rw [HY.out]
          refine Int.lt_of_lt_of_le hbd.2 ?_
          have := two_pow_le (show 32 - k ≤ 31 by omega)
          exact Int.le_trans this (by decide)
      clear hbd
      by_cases hk1 : 1 ≤ k
      · obtain ⟨j, rfl⟩ : ∃ j, k = j + 1 := ⟨k - 1, by omega⟩
        have hy2 : y < 2147483648 := by omega
        have hwy : IntKind.u64.wrap (2 * y) = 2 * y := by rw [IntKind.wrap_u64]; omega
        have hwy2 : IntKind.u64.wrap (2 * y + 1) = 2 * y + 1 := by rw [IntKind.wrap_u64]; omega
        have c2 : w.cell? ⟨b, 4 + j * 6 + 4 + 1, none⟩ = some (.bool (t.on j 1)) := H.out.src (s := j) (j := 5) (by omega) (by omega)
        have i1 : (j : Int) < 32 := by omega
        have HE := Lib.hid (bitsN_even (f := (fun s => t.on s 1)) (n := 31 - j))
        have HO := Lib.hid (bitsN_odd (f := (fun s => t.on s 1)) (n := 31 - j))
        cases hp : t.on j 1 with
        | false =>
          rw [hp] at c2
          have HN : Hid (2 * y = bitsN (fun s => t.on s 1) (32 - j)) := by
            refine Lib.hid ?_
            have := HE.out (by rw [show 31 - (31 - j) = j by omega]; exact hp)
            rw [show 32 - j = 31 - j + 1 by omega, this, HY.out, show 32 - (j + 1) = 31 - j by omega]
          clear hp hy1
          go_wp2
          go_round
          case rel => exact ⟨j, 2 * y, by omega, by go_num, rfl, HN⟩
          case measure => simp [intOf]
        | true =>
          rw [hp] at c2
          have HN : Hid (2 * y + 1 = bitsN (fun s => t.on s 1) (32 - j)) := by
            refine Lib.hid ?_
            have := HO.out (by rw [show 31 - (31 - j) = j by omega]; exact hp)
            rw [show 32 - j = 31 - j + 1 by omega, this, HY.out, show 32 - (j + 1) = 31 - j by omega]
          clear hp hy1
          go_wp2
          go_round
          case rel => exact ⟨j, 2 * y + 1, by omega, by go_num, rfl, HN⟩
          case measure => simp [intOf]
      · obtain rfl : k = 0 := by omega
        have HF : Hid (y = bits32 (fun s => t.on s 1)) := Lib.hid HY.out
        clear hy1
        go_wp2
        go_ret2
        exact ⟨by rw [← HF.out]; rfl, rfl⟩
theorem RefP.unpend {w : World} {b : Nat} {t : PS} (h : RefP fr w b t) {s : Nat} (hs : s < 32) : RefP fr (w.setCell ⟨b, 4 + s * 6 + 2, none⟩ (.bool false)) b (unpendP t s) :=
  h.set _ hs (by omega) (fun s' j' _ _ => by
    by_cases c : s' = s ∧ j' = 2
    · obtain ⟨rfl, rfl⟩ := c; rw [if_pos ⟨rfl, rfl⟩]; simp [srcCell, unpendP, upd_same]
    · rw [if_neg c]; match j' with
      | 0 => rfl
      | 1 => rfl
      | 2 => simp [srcCell, unpendP, upd_other _ _ (fun e : s' = s => c ⟨e, rfl⟩)]
      | 3 => rfl
      | 4 => rfl
      | _ + 5 => rfl) rfl
theorem RefP.claim {w : World} {b : Nat} {t : PS} {s : Nat} (h : RefP fr w b (unpendP t s)) (hs : s < 32) : RefP fr (w.setCell ⟨b, 4 + s * 6 + 3, none⟩ (.bool true)) b (claimP t s) :=
  h.set _ hs (by omega) (fun s' j' _ _ => by
    by_cases c : s' = s ∧ j' = 3
    · obtain ⟨rfl, rfl⟩ := c; rw [if_pos ⟨rfl, rfl⟩]; simp [srcCell, claimP, upd_same]
    · rw [if_neg c]; match j' with
      | 0 => rfl
      | 1 => rfl
      | 2 => rfl
      | 3 => simp [srcCell, claimP, unpendP, upd_other _ _ (fun e : s' = s => c ⟨e, rfl⟩)]
      | 4 => rfl
      | _ + 5 => rfl) rfl
set_option maxRecDepth 100000 in
set_option maxHeartbeats 2000000 in
theorem refRead_claim0 (w : World) (b : Nat) (t : PS) (h : RefP fr w b t) (k : Nat) (hk0 : bestC t 0 = k) : Calls Tryz.prog 104 #[.pointer (some ⟨b, 4, none⟩), .int .u64 2097156, .int .i64 4] w (RefPEnd fr w b (.tuple #[.int .u64 k, .bool true]) (claimed t k)) := by
  have H := Lib.hid h
  have HSZ : Hid ((varr 194 (cellR t)).size = 194) := Lib.hid (varr_size _ _)
  have hbest := fun w' => refBest_any w' t 0
  rw [hk0] at hbest
  unfold refPV at hbest
  have HBEST := Lib.hid hbest
  clear hbest
  have HR : Hid (w.rangeAt b 4 (varr 194 (cellR t)).toList) := Lib.hid (fr.range h)
  have hle : k ≤ 31 := by rw [← hk0]; exact bestC_le t 0
  clear h hk0
  generalize varr 194 (cellR t) = row at *
  go_enter Tryz.func104, Tryz.ntmps104
  go_wp2
  go_loop [10] (fun i => i = .int .i64 0) (fun _ => 0)
  case atStart => rfl
  case round =>
    obtain rfl := hrel
    go_wp2_with (refine wpList_load_fr rfl _ _ rfl b 4 rfl _ _ HR.out Tryz.underlying104 rfl ?_ ?_; · exact size_refP.trans (by rw [HSZ.out]))
    refine (HBEST.out _).mono ?_
    rintro e w2 ⟨rfl, hb⟩
    have HB2 := Lib.hid hb
    have HP := Lib.hid (H.out.below hb)
    clear hb HR HSZ HBEST
    by_cases k0 : k = 0
    · subst k0
      go_wp2
      go_ret2
      exact ⟨rfl, Only.of_below _ HB2.out, by unfold claimed; rw [if_pos rfl]; exact HP.out⟩
    · have hk : (0 : Int) < (k : Int) := by omega
      have ik : (k : Int) < 32 := by omega
      have hk2 : IntKind.u64.wrap (k : Int) = k := by rw [IntKind.wrap_u64]; omega
      have c2 : w2.cell? ⟨b, 4 + k * 6 + 2, none⟩ = some (.bool (t.pend k)) := HP.out.src (by omega) (by omega)
      have f2 := HP.out.free (4 + k * 6 + 2)
      have H3 := HP.out.unpend (s := k) (by omega)
      have c3 : (w2.setCell ⟨b, 4 + k * 6 + 2, none⟩ (.bool false)).cell? ⟨b, 4 + k * 6 + 3, none⟩ = some (.bool (t.busy k)) := H3.src (s := k) (j := 3) (by omega) (by omega)
      have f3 := H3.free (4 + k * 6 + 3)
      have H4 := Lib.hid (H3.claim (by omega))
      have HC : Hid (claimed t k = claimP t k) := Lib.hid (by unfold claimed; rw [if_neg k0])
      clear H3
      go_wp2
      go_ret2
      refine ⟨rfl, ((Only.of_below (fun i => i = b) HB2.out).setCell (p := ⟨b, 4 + k * 6 + 2, none⟩) (.inl rfl) _).setCell (p := ⟨b, 4 + k * 6 + 3, none⟩) (.inl rfl) _, ?_⟩
      rw [HC.out]; exact H4.out
set_option maxRecDepth 100000 in
set_option maxHeartbeats 2000000 in
theorem refRead_claim1 (w : World) (b : Nat) (t : PS) (h : RefP fr w b t) (k : Nat) (hk0 : bestC t 1 = k) : Calls Tryz.prog 104 #[.pointer (some ⟨b, 4, none⟩), .int .u64 2101252, .int .i64 4] w (RefPEnd fr w b (.tuple #[.int .u64 k, .bool true]) (claimed t k)) := by
  have H := Lib.hid h
  have HSZ : Hid ((varr 194 (cellR t)).size = 194) := Lib.hid (varr_size _ _)
  have hbest := fun w' => refBest_any w' t 1
  rw [hk0] at hbest
  unfold refPV at hbest
  have HBEST := Lib.hid hbest
  clear hbest
  have HR : Hid (w.rangeAt b 4 (varr 194 (cellR t)).toList) := Lib.hid (fr.range h)
  have hle : k ≤ 31 := by rw [← hk0]; exact bestC_le t 1
  clear h hk0
  generalize varr 194 (cellR t) = row at *
  go_enter Tryz.func104, Tryz.ntmps104
  go_wp2
  go_loop [10] (fun i => i = .int .i64 0 ∨ i = .int .i64 1) (fun i => (1 - intOf i).toNat)
  case atStart => exact .inl rfl
  case round =>
    rcases hrel with rfl | rfl
    · go_wp2
      exact ⟨.inr rfl, by simp [intOf]⟩
    go_wp2_with (refine wpList_load_fr rfl _ _ rfl b 4 rfl _ _ HR.out Tryz.underlying104 rfl ?_ ?_; · exact size_refP.trans (by rw [HSZ.out]))
    refine (HBEST.out _).mono ?_
    rintro e w2 ⟨rfl, hb⟩
    have HB2 := Lib.hid hb
    have HP := Lib.hid (H.out.below hb)
    clear hb HR HSZ HBEST
    by_cases k0 : k = 0
    · subst k0
      go_wp2
      go_ret2
      exact ⟨rfl, Only.of_below _ HB2.out, by unfold claimed; rw [if_pos rfl]; exact HP.out⟩
    · have hk : (0 : Int) < (k : Int) := by omega
      have ik : (k : Int) < 32 := by omega
      have hk2 : IntKind.u64.wrap (k : Int) = k := by rw [IntKind.wrap_u64]; omega
      have c2 : w2.cell? ⟨b, 4 + k * 6 + 2, none⟩ = some (.bool (t.pend k)) := HP.out.src (by omega) (by omega)
      have f2 := HP.out.free (4 + k * 6 + 2)
      have H3 := HP.out.unpend (s := k) (by omega)
      have c3 : (w2.setCell ⟨b, 4 + k * 6 + 2, none⟩ (.bool false)).cell? ⟨b, 4 + k * 6 + 3, none⟩ = some (.bool (t.busy k)) := H3.src (s := k) (j := 3) (by omega) (by omega)
      have f3 := H3.free (4 + k * 6 + 3)
      have H4 := Lib.hid (H3.claim (by omega))
      have HC : Hid (claimed t k = claimP t k) := Lib.hid (by unfold claimed; rw [if_neg k0])
      clear H3
      go_wp2
      go_ret2
      refine ⟨rfl, ((Only.of_below (fun i => i = b) HB2.out).setCell (p := ⟨b, 4 + k * 6 + 2, none⟩) (.inl rfl) _).setCell (p := ⟨b, 4 + k * 6 + 3, none⟩) (.inl rfl) _, ?_⟩
      rw [HC.out]; exact H4.out
theorem RefP.congr {w : World} {b : Nat} {t t' : PS} (h : RefP fr w b t) (hs : ∀ s j, s < 32 → j < 6 → srcCell t s j = srcCell t' s j) (hf : ∀ c, c < 2 → t.floor c = t'.floor c) : RefP fr w b t' := by
  unfold RefP at *
  have e : varr 194 (cellR t) = varr 194 (cellR t') := varr_congr fun i hi => by
    unfold cellR
    by_cases h1 : i < 192
    · rw [if_pos h1, if_pos h1]; exact hs _ _ (by omega) (by omega)
    · rw [if_neg h1, if_neg h1, hf _ (by omega)]
  rw [← e]; exact h
theorem RefP.prioS {w : World} {b : Nat} {t : PS} (h : RefP fr w b t) {s : Nat} (v : Int) (hs : s < 32) : RefP fr (w.setCell ⟨b, 4 + s * 6, none⟩ (.int .u64 v)) b (prioT t s v) :=
  h.set (s := s) (j := 0) _ hs (by omega) (fun s' j' _ _ => by
    by_cases c : s' = s ∧ j' = 0
    · obtain ⟨rfl, rfl⟩ := c; rw [if_pos ⟨rfl, rfl⟩]; simp [srcCell, prioT, upd_same]
    · rw [if_neg c]; match j' with
      | 0 => simp [srcCell, prioT, upd_other _ _ (fun e : s' = s => c ⟨e, rfl⟩)]
      | 1 => rfl
      | 2 => rfl
      | 3 => rfl
      | 4 => rfl
      | _ + 5 => rfl) rfl
theorem RefP.idleS {w : World} {b : Nat} {t : PS} (h : RefP fr w b t) {s : Nat} (hs : s < 32) : RefP fr (w.setCell ⟨b, 4 + s * 6 + 3, none⟩ (.bool false)) b (idleP t s) :=
  h.set (s := s) (j := 3) _ hs (by omega) (fun s' j' _ _ => by
    by_cases c : s' = s ∧ j' = 3
    · obtain ⟨rfl, rfl⟩ := c; rw [if_pos ⟨rfl, rfl⟩]; simp [srcCell, idleP, upd_same]
    · rw [if_neg c]; match j' with
      | 0 => rfl
      | 1 => rfl
      | 2 => rfl
      | 3 => simp [srcCell, idleP, upd_other _ _ (fun e : s' = s => c ⟨e, rfl⟩)]
      | 4 => rfl
      | _ + 5 => rfl) rfl
theorem RefP.on0S {w : World} {b : Nat} {t : PS} {v : Int} {k : Nat} (h : RefP fr w b (onK t 0 v k)) (hk : k < 32) : RefP fr (w.setCell ⟨b, 4 + k * 6 + 4, none⟩ (.bool (onBits v k))) b (onK t 0 v (k + 1)) :=
  h.set (s := k) (j := 4) _ hk (by omega) (fun s' j' _ _ => by
    by_cases c : s' = k ∧ j' = 4
    · obtain ⟨rfl, rfl⟩ := c; rw [if_pos ⟨rfl, rfl⟩]; simp [srcCell, onK]
    · rw [if_neg c]; match j' with
      | 0 => rfl
      | 1 => rfl
      | 2 => rfl
      | 3 => rfl
      | 4 => (have n : ¬ s' = k := fun e => c ⟨e, rfl⟩); simp only [srcCell, onK, true_and]; congr 1; by_cases e : s' < k; rw [if_pos e, if_pos (by omega)]; rw [if_neg e, if_neg (by omega)]
      | _ + 5 => simp [srcCell, onK]) rfl
theorem RefP.on1S {w : World} {b : Nat} {t : PS} {v : Int} {k : Nat} (h : RefP fr w b (onK t 1 v k)) (hk : k < 32) : RefP fr (w.setCell ⟨b, 4 + k * 6 + 5, none⟩ (.bool (onBits v k))) b (onK t 1 v (k + 1)) :=
  h.set (s := k) (j := 5) _ hk (by omega) (fun s' j' _ hj => by
    by_cases c : s' = k ∧ j' = 5
    · obtain ⟨rfl, rfl⟩ := c; rw [if_pos ⟨rfl, rfl⟩]; simp [srcCell, onK]
    · rw [if_neg c]; match j' with
      | 0 => rfl
      | 1 => rfl
      | 2 => rfl
      | 3 => rfl
      | 4 => simp [srcCell, onK]
      | 5 => (have n : ¬ s' = k := fun e => c ⟨e, rfl⟩); simp only [srcCell, onK, true_and]; congr 1; by_cases e : s' < k; rw [if_pos e, if_pos (by omega)]; rw [if_neg e, if_neg (by omega)]
      | _ + 6 => omega) rfl
theorem RefP.onAll {w : World} {b : Nat} {t : PS} {c : Nat} {v : Int} (h : RefP fr w b (onK t c v 32)) : RefP fr w b (onT t c (onBits v)) :=
  h.congr (fun s j hs _ => by
    match j with
    | 0 => rfl
    | 1 => rfl
    | 2 => rfl
    | 3 => rfl
    | 4 => simp [srcCell, onK, onT, hs]
    | _ + 5 => simp [srcCell, onK, onT, hs]) (fun _ _ => rfl)
theorem RefP.onNone {w : World} {b : Nat} {t : PS} (c : Nat) (v : Int) (h : RefP fr w b t) : RefP fr w b (onK t c v 0) :=
  h.congr (fun s j hs _ => by
    match j with
    | 0 => rfl
    | 1 => rfl
    | 2 => rfl
    | 3 => rfl
    | 4 => simp [srcCell, onK]
    | _ + 5 => simp [srcCell, onK]) (fun _ _ => rfl)
theorem refWrite_len (w : World) (b : Nat) (off n v : Int) (hn : ¬ n = 4) : Calls Tryz.prog 99 #[.pointer (some ⟨b, 4, none⟩), .int .u64 off, .int .i64 n, .int .u64 v] w fun e w' => e = .returned (.bool false) ∧ w = w' := by
  have e4 : (n != 4) = true := by simpa using hn
  clear hn
  go_enter Tryz.func99, Tryz.ntmps99
  go_wp2
  go_ret
  exact ⟨rfl, rfl⟩
theorem refWrite_pend (w : World) (b : Nat) (v : Int) : Calls Tryz.prog 99 #[.pointer (some ⟨b, 4, none⟩), .int .u64 4096, .int .i64 4, .int .u64 v] w fun e w' => e = .returned (.bool true) ∧ w = w' := by
  go_enter Tryz.func99, Tryz.ntmps99
  go_wp2
  go_ret
  exact ⟨rfl, rfl⟩
theorem refWrite_prio0 (w : World) (b : Nat) (v : Int) : Calls Tryz.prog 99 #[.pointer (some ⟨b, 4, none⟩), .int .u64 0, .int .i64 4, .int .u64 v] w fun e w' => e = .returned (.bool true) ∧ w = w' := by
  go_enter Tryz.func99, Tryz.ntmps99
  go_wp2
  go_ret
  exact ⟨rfl, rfl⟩
theorem refWrite_prio (w : World) (b : Nat) (t : PS) (h : RefP fr w b t) (k : Nat) (hk0 : 1 ≤ k) (hk : k < 32) (off v : Int) (ho : off = 4 * (k : Int)) (hv : 0 ≤ v) :
    Calls Tryz.prog 99 #[.pointer (some ⟨b, 4, none⟩), .int .u64 off, .int .i64 4, .int .u64 v] w (RefPEnd fr w b (.bool true) (prioT t k (v % 8))) := by
  have c0 : w.cell? ⟨b, 4 + k * 6, none⟩ = some (.int .u64 (t.prio k)) := h.src (s := k) (j := 0) hk (by omega)
  have f0 := h.free (4 + k * 6)
  have H := Lib.hid (h.prioS (v % 8) hk)
  have h0 : 0 ≤ off := by omega
  have h00 : 0 < off := by omega
  have h1 : off < 128 := by omega
  have h2 : (off % 4 == 0) = true := by rw [beq_iff_eq]; omega
  have h4 : IntKind.u64.wrap (off.tdiv 4) = (k : Int) := by rw [Int.tdiv_eq_ediv_of_nonneg h0, IntKind.wrap_u64]; omega
  have i1 : (k : Int) < 32 := by omega
  clear ho h
  go_enter Tryz.func99, Tryz.ntmps99
  go_wp2
  go_ret
  exact ⟨rfl, (Only.refl (fun i => i = b) w).setCell (p := ⟨b, 4 + k * 6, none⟩) (.inl rfl) _, H.out⟩
set_option maxRecDepth 100000 in
set_option maxHeartbeats 1000000 in
theorem refWrite_floor0 (w : World) (b : Nat) (t : PS) (h : RefP fr w b t) (v : Int) (hv : 0 ≤ v) :
    Calls Tryz.prog 99 #[.pointer (some ⟨b, 4, none⟩), .int .u64 2097152, .int .i64 4, .int .u64 v] w (RefPEnd fr w b (.bool true) (floorT t 0 (v % 8))) := by
  have c0 : w.cell? ⟨b, 196, none⟩ = some (.int .u64 (t.floor 0)) := h.floor_ (c := 0) (by omega)
  have f0 := h.free 196
  have H := Lib.hid (h.floorS (c := 0) (v % 8) (by omega))
  clear h
  go_enter Tryz.func99, Tryz.ntmps99
  go_wp2
  go_loop [9] (fun i => i = .int .i64 0) (fun _ => 0)
  case atStart => exact rfl
  case round =>
    obtain rfl := hrel
    go_wp2
    go_ret
    exact ⟨rfl, (Only.refl (fun i => i = b) w).setCell (p := ⟨b, 196, none⟩) (.inl rfl) _, H.out⟩
set_option maxRecDepth 100000 in
set_option maxHeartbeats 1000000 in
theorem refWrite_floor1 (w : World) (b : Nat) (t : PS) (h : RefP fr w b t) (v : Int) (hv : 0 ≤ v) :
    Calls Tryz.prog 99 #[.pointer (some ⟨b, 4, none⟩), .int .u64 2101248, .int .i64 4, .int .u64 v] w (RefPEnd fr w b (.bool true) (floorT t 1 (v % 8))) := by
  have c0 : w.cell? ⟨b, 197, none⟩ = some (.int .u64 (t.floor 1)) := h.floor_ (c := 1) (by omega)
  have f0 := h.free 197
  have H := Lib.hid (h.floorS (c := 1) (v % 8) (by omega))
  clear h
  go_enter Tryz.func99, Tryz.ntmps99
  go_wp2
  go_loop [9] (fun i => i = .int .i64 0 ∨ i = .int .i64 1) (fun i => (1 - intOf i).toNat)
  case atStart => exact .inl rfl
  case round =>
    rcases hrel with rfl | rfl
    · go_wp2
      exact ⟨.inr rfl, by simp [intOf]⟩
    go_wp2
    go_ret
    exact ⟨rfl, (Only.refl (fun i => i = b) w).setCell (p := ⟨b, 197, none⟩) (.inl rfl) _, H.out⟩
set_option maxRecDepth 100000 in
set_option maxHeartbeats 4000000 in
theorem refWrite_on0 (w : World) (b : Nat) (t : PS) (h : RefP fr w b t) (v : Int) (hv : In64 v) :
    Calls Tryz.prog 99 #[.pointer (some ⟨b, 4, none⟩), .int .u64 8192, .int .i64 4, .int .u64 v] w (RefPEnd fr w b (.bool true) (onT t 0 (onBits v))) := by
  have H := Lib.hid h
  have HV := Lib.hid hv
  clear h hv
  go_enter Tryz.func99, Tryz.ntmps99
  go_wp2
  go_loop [9] (fun i => i = .int .i64 0) (fun _ => 0)
  case atStart => exact rfl
  case round =>
    obtain rfl := hrel
    go_wp2
    obtain ⟨wo, hwo⟩ : ∃ wo : World, wo = w := ⟨_, rfl⟩
    have HWO := Lib.hid hwo
    clear hwo
    go_loopw [11, 12] (fun x i wr => ∃ (k : Nat) (y : Int), k ≤ 32 ∧ i = .int .i64 k ∧ x = .int .u64 y ∧ Hid (y = v / 2 ^ k) ∧ RefP fr wr b (onK t 0 v k) ∧ Only (fun i => i = b) w wr) (fun _ i _ => (32 - intOf i).toNat)
    case atStart => exact ⟨0, v, by omega, rfl, rfl, Lib.hid (by simp), H.out.onNone 0 v, Only.refl _ _⟩
    case round =>
      obtain ⟨k, y, hk, rfl, rfl, HY, hR, hO⟩ := hrel
      have HO := Lib.hid hO
      have HR := Lib.hid hR
      by_cases hk1 : k < 32
      · have ck : wr.cell? ⟨b, 4 + k * 6 + 4, none⟩ = some (.bool ((onK t 0 v k).on k 0)) := hR.src (s := k) (j := 4) hk1 (by omega)
        have fk := hR.free (4 + k * 6 + 4)
        have i1 : (k : Int) < 32 := by omega
        have hn0 : 0 ≤ y := by rw [HY.out]; exact Int.ediv_nonneg HV.out.1 (Int.le_of_lt (Int.pow_pos (by decide)))
        have HWD : Hid (IntKind.u64.wrap (y.tdiv 2) = y / 2) := by
          refine Lib.hid ?_
          have h1 : y ≤ v := by rw [HY.out]; exact Int.ediv_le_self _ HV.out.1
          have h2 := HV.out.2
          rw [Int.tdiv_eq_ediv_of_nonneg hn0, IntKind.wrap_u64]; omega
        have HD : Hid (y / 2 = v / 2 ^ (k + 1)) := by
          refine Lib.hid ?_
          rw [HY.out, Int.pow_succ, Int.ediv_ediv_of_nonneg (Int.le_of_lt (Int.pow_pos (by decide)))]
        have HN := Lib.hid (hR.on0S hk1)
        have HO2 : Hid (∀ u, Only (fun i => i = b) w (wr.setCell ⟨b, 4 + k * 6 + 4, none⟩ u)) := Lib.hid fun u => hO.setCell (p := ⟨b, 4 + k * 6 + 4, none⟩) (.inl rfl) u
        by_cases hk0 : k = 0
        · have HB : Hid (onBits v k = false) := Lib.hid (by unfold onBits; rw [decide_eq_false (by omega), Bool.false_and])
          subst hk0
          rw [HB.out] at HN
          clear hR hO
          go_wp2
          go_roundw
          case rel => exact ⟨1, y / 2, by omega, rfl, by rw [HWD.out], HD, HN.out, HO2.out _⟩
          case measure => simp [intOf]
        · have HB : Hid (onBits v k = (y % 2 == 1)) := Lib.hid (by unfold onBits vbit; rw [decide_eq_true (by omega), Bool.true_and, HY.out])
          rw [HB.out] at HN
          have hk2 : (0 : Int) < (k : Int) := by omega
          have hk3 : 0 < k := by omega
          clear hR hO
          go_wp2
          go_roundw
          case rel => exact ⟨k + 1, y / 2, by omega, by go_num, by rw [HWD.out], HD, HN.out, HO2.out _⟩
          case measure => simp [intOf]; omega
      · obtain rfl : k = 32 := by omega
        have HF := Lib.hid hR.onAll
        clear hR hO
        go_wp2
        go_ret
        exact ⟨rfl, HO.out, HF.out⟩
set_option maxRecDepth 100000 in
set_option maxHeartbeats 4000000 in
theorem refWrite_on1 (w : World) (b : Nat) (t : PS) (h : RefP fr w b t) (v : Int) (hv : In64 v) :
    Calls Tryz.prog 99 #[.pointer (some ⟨b, 4, none⟩), .int .u64 8320, .int .i64 4, .int .u64 v] w (RefPEnd fr w b (.bool true) (onT t 1 (onBits v))) := by
  have H := Lib.hid h
  have HV := Lib.hid hv
  clear h hv
  go_enter Tryz.func99, Tryz.ntmps99
  go_wp2
  go_loop [9] (fun i => i = .int .i64 0 ∨ i = .int .i64 1) (fun i => (1 - intOf i).toNat)
  case atStart => exact .inl rfl
  case round =>
    rcases hrel with rfl | rfl
    · go_wp2
      exact ⟨.inr rfl, by simp [intOf]⟩
    go_wp2
    obtain ⟨wo, hwo⟩ : ∃ wo : World, wo = w := ⟨_, rfl⟩
    have HWO := Lib.hid hwo
    clear hwo
    go_loopw [11, 12] (fun x i wr => ∃ (k : Nat) (y : Int), k ≤ 32 ∧ i = .int .i64 k ∧ x = .int .u64 y ∧ Hid (y = v / 2 ^ k) ∧ RefP fr wr b (onK t 1 v k) ∧ Only (fun i => i = b) w wr) (fun _ i _ => (32 - intOf i).toNat)
    case atStart => exact ⟨0, v, by omega, rfl, rfl, Lib.hid (by simp), H.out.onNone 1 v, Only.refl _ _⟩
    case round =>
      obtain ⟨k, y, hk, rfl, rfl, HY, hR, hO⟩ := hrel
      have HO := Lib.hid hO
      have HR := Lib.hid hR
      by_cases hk1 : k < 32
      · have ck : wr.cell? ⟨b, 4 + k * 6 + 4 + 1, none⟩ = some (.bool ((onK t 1 v k).on k 1)) := hR.src (s := k) (j := 5) hk1 (by omega)
        have fk := hR.free (4 + k * 6 + 4 + 1)
        have i1 : (k : Int) < 32 := by omega
        have hn0 : 0 ≤ y := by rw [HY.out]; exact Int.ediv_nonneg HV.out.1 (Int.le_of_lt (Int.pow_pos (by decide)))
        have HWD : Hid (IntKind.u64.wrap (y.tdiv 2) = y / 2) := by
          refine Lib.hid ?_
          have h1 : y ≤ v := by rw [HY.out]; exact Int.ediv_le_self _ HV.out.1
          have h2 := HV.out.2
          rw [Int.tdiv_eq_ediv_of_nonneg hn0, IntKind.wrap_u64]; omega
        have HD : Hid (y / 2 = v / 2 ^ (k + 1)) := by
          refine Lib.hid ?_
          rw [HY.out, Int.pow_succ, Int.ediv_ediv_of_nonneg (Int.le_of_lt (Int.pow_pos (by decide)))]
        have HN := Lib.hid (hR.on1S hk1)
        have HO2 : Hid (∀ u, Only (fun i => i = b) w (wr.setCell ⟨b, 4 + k * 6 + 4 + 1, none⟩ u)) := Lib.hid fun u => hO.setCell (p := ⟨b, 4 + k * 6 + 4 + 1, none⟩) (.inl rfl) u
        by_cases hk0 : k = 0
        · have HB : Hid (onBits v k = false) := Lib.hid (by unfold onBits; rw [decide_eq_false (by omega), Bool.false_and])
          subst hk0
          rw [HB.out] at HN
          clear hR hO
          go_wp2
          go_roundw
          case rel => exact ⟨1, y / 2, by omega, rfl, by rw [HWD.out], HD, HN.out, HO2.out _⟩
          case measure => simp [intOf]
        · have HB : Hid (onBits v k = (y % 2 == 1)) := Lib.hid (by unfold onBits vbit; rw [decide_eq_true (by omega), Bool.true_and, HY.out])
          rw [HB.out] at HN
          have hk2 : (0 : Int) < (k : Int) := by omega
          have hk3 : 0 < k := by omega
          clear hR hO
          go_wp2
          go_roundw
          case rel => exact ⟨k + 1, y / 2, by omega, by go_num, by rw [HWD.out], HD, HN.out, HO2.out _⟩
          case measure => simp [intOf]; omega
      · obtain rfl : k = 32 := by omega
        have HF := Lib.hid hR.onAll
        clear hR hO
        go_wp2
        go_ret
        exact ⟨rfl, HO.out, HF.out⟩
set_option maxRecDepth 100000 in
set_option maxHeartbeats 4000000 in
theorem refWrite_done0 (w : World) (b : Nat) (t : PS) (h : RefP fr w b t) (v : Int) (x : Nat) (hv : 0 ≤ v) (hx0 : v % 4294967296 = (x : Int)) :
    Calls Tryz.prog 99 #[.pointer (some ⟨b, 4, none⟩), .int .u64 2097156, .int .i64 4, .int .u64 v] w (RefPEnd fr w b (.bool true) (doneT t 0 x)) := by
  have H := Lib.hid h
  clear h
  have HX := Lib.hid hx0
  clear hx0
  go_enter Tryz.func99, Tryz.ntmps99
  go_wp2
  go_loop [9] (fun i => i = .int .i64 0) (fun _ => 0)
  case atStart => exact rfl
  case round =>
    obtain rfl := hrel
    have hxe := HX.out
    by_cases hx1 : 1 ≤ x
    · have d1 : decide ((1 : Int) ≤ (x : Int)) = true := by rw [decide_eq_true_eq]; omega
      by_cases hx2 : x ≤ 31
      · have d2 : decide ((x : Int) ≤ 31) = true := by rw [decide_eq_true_eq]; omega
        have con : w.cell? ⟨b, 4 + x * 6 + 4, none⟩ = some (.bool (t.on x 0)) := H.out.src (s := x) (j := 4) (by omega) (by omega)
        have cbu : w.cell? ⟨b, 4 + x * 6 + 3, none⟩ = some (.bool (t.busy x)) := H.out.src (s := x) (j := 3) (by omega) (by omega)
        have i1 : (x : Int) < 32 := by omega
        have hw1 : IntKind.i64.wrap (x : Int) = x := IntWalk.i64_in _ (by omega)
        have HM : Hid (mayB t 0 x = (t.on x 0 && t.busy x)) := Lib.hid (by unfold mayB; rw [decide_eq_true hx1, decide_eq_true hx2]; rfl)
        have f3 := H.out.free (4 + x * 6 + 3)
        obtain ⟨p, hp⟩ : ∃ p, t.on x 0 = p := ⟨_, rfl⟩
        obtain ⟨q, hq⟩ : ∃ q, t.busy x = q := ⟨_, rfl⟩
        rw [hp] at con
        rw [hq] at cbu
        rw [hp, hq] at HM
        clear hp hq
        cases p with
        | false =>
          have HE : Hid (RefP fr w b (doneT t 0 x)) := Lib.hid (by unfold doneT; rw [HM.out, if_neg (by simp)]; exact H.out)
          go_wp2
          go_ret
          exact ⟨rfl, Only.refl _ _, HE.out⟩
        | true =>
        cases q with
        | false =>
          have HE : Hid (RefP fr w b (doneT t 0 x)) := Lib.hid (by unfold doneT; rw [HM.out, if_neg (by simp)]; exact H.out)
          go_wp2
          go_ret
          exact ⟨rfl, Only.refl _ _, HE.out⟩
        | true =>
          have HE : Hid (doneT t 0 x = lookP (idleP t x) x) := Lib.hid (by unfold doneT; rw [HM.out, if_pos (by rfl)])
          have h2 : Hid (RefP fr (w.setCell ⟨b, 4 + x * 6 + 3, none⟩ (.bool false)) b (idleP t x)) := Lib.hid (RefP.idleS (w := w) H.out (by omega))
          have ho : Hid (Only (fun i => i = b) w (w.setCell ⟨b, 4 + x * 6 + 3, none⟩ (.bool false))) := Lib.hid ((Only.refl (fun i => i = b) w).setCell (p := ⟨b, 4 + x * 6 + 3, none⟩) (.inl rfl) _)
          rw [HE.out]
          go_wp2_with fail
          refine (refLook_any _ b _ x h2.out (by omega)).mono ?_
          rintro e w' ⟨hu, ho2, hp⟩
          obtain ⟨u, rfl⟩ := hu
          have HO3 := Lib.hid (ho.out.trans ho2)
          have HP := Lib.hid hp
          clear ho2 hp
          go_wp2
          go_ret
          exact ⟨rfl, HO3.out, HP.out⟩
      · have d2 : decide ((x : Int) ≤ 31) = false := by rw [decide_eq_false_iff_not]; omega
        have HE : Hid (RefP fr w b (doneT t 0 x)) := Lib.hid (by unfold doneT mayB; rw [decide_eq_false hx2, if_neg (by simp)]; exact H.out)
        go_wp2
        go_ret
        exact ⟨rfl, Only.refl _ _, HE.out⟩
    · have d1 : decide ((1 : Int) ≤ (x : Int)) = false := by rw [decide_eq_false_iff_not]; omega
      have HE : Hid (RefP fr w b (doneT t 0 x)) := Lib.hid (by unfold doneT mayB; rw [decide_eq_false hx1, if_neg (by simp)]; exact H.out)
      go_wp2
      go_ret
      exact ⟨rfl, Only.refl _ _, HE.out⟩
set_option maxRecDepth 100000 in
set_option maxHeartbeats 4000000 in
theorem refWrite_done1 (w : World) (b : Nat) (t : PS) (h : RefP fr w b t) (v : Int) (x : Nat) (hv : 0 ≤ v) (hx0 : v % 4294967296 = (x : Int)) :
    Calls Tryz.prog 99 #[.pointer (some ⟨b, 4, none⟩), .int .u64 2101252, .int .i64 4, .int .u64 v] w (RefPEnd fr w b (.bool true) (doneT t 1 x)) := by
  have H := Lib.hid h
  clear h
  have HX := Lib.hid hx0
  clear hx0
  go_enter Tryz.func99, Tryz.ntmps99
  go_wp2
  go_loop [9] (fun i => i = .int .i64 0 ∨ i = .int .i64 1) (fun i => (1 - intOf i).toNat)
  case atStart => exact .inl rfl
  case round =>
    rcases hrel with rfl | rfl
    · go_wp2
      exact ⟨.inr rfl, by simp [intOf]⟩
    have hxe := HX.out
    by_cases hx1 : 1 ≤ x
    · have d1 : decide ((1 : Int) ≤ (x : Int)) = true := by rw [decide_eq_true_eq]; omega
      by_cases hx2 : x ≤ 31
      · have d2 : decide ((x : Int) ≤ 31) = true := by rw [decide_eq_true_eq]; omega
        have con : w.cell? ⟨b, 4 + x * 6 + 4 + 1, none⟩ = some (.bool (t.on x 1)) := H.out.src (s := x) (j := 5) (by omega) (by omega)
        have cbu : w.cell? ⟨b, 4 + x * 6 + 3, none⟩ = some (.bool (t.busy x)) := H.out.src (s := x) (j := 3) (by omega) (by omega)
        have i1 : (x : Int) < 32 := by omega
        have hw1 : IntKind.i64.wrap (x : Int) = x := IntWalk.i64_in _ (by omega)
        have HM : Hid (mayB t 1 x = (t.on x 1 && t.busy x)) := Lib.hid (by unfold mayB; rw [decide_eq_true hx1, decide_eq_true hx2]; rfl)
        have f3 := H.out.free (4 + x * 6 + 3)
        obtain ⟨p, hp⟩ : ∃ p, t.on x 1 = p := ⟨_, rfl⟩
        obtain ⟨q, hq⟩ : ∃ q, t.busy x = q := ⟨_, rfl⟩
        rw [hp] at con
        rw [hq] at cbu
        rw [hp, hq] at HM
        clear hp hq
        cases p with
        | false =>
          have HE : Hid (RefP fr w b (doneT t 1 x)) := Lib.hid (by unfold doneT; rw [HM.out, if_neg (by simp)]; exact H.out)
          go_wp2
          go_ret
          exact ⟨rfl, Only.refl _ _, HE.out⟩
        | true =>
        cases q with
        | false =>
          have HE : Hid (RefP fr w b (doneT t 1 x)) := Lib.hid (by unfold doneT; rw [HM.out, if_neg (by simp)]; exact H.out)
          go_wp2
          go_ret
          exact ⟨rfl, Only.refl _ _, HE.out⟩
        | true =>
          have HE : Hid (doneT t 1 x = lookP (idleP t x) x) := Lib.hid (by unfold doneT; rw [HM.out, if_pos (by rfl)])
          have h2 : Hid (RefP fr (w.setCell ⟨b, 4 + x * 6 + 3, none⟩ (.bool false)) b (idleP t x)) := Lib.hid (RefP.idleS (w := w) H.out (by omega))
          have ho : Hid (Only (fun i => i = b) w (w.setCell ⟨b, 4 + x * 6 + 3, none⟩ (.bool false))) := Lib.hid ((Only.refl (fun i => i = b) w).setCell (p := ⟨b, 4 + x * 6 + 3, none⟩) (.inl rfl) _)
          rw [HE.out]
          go_wp2_with fail
          refine (refLook_any _ b _ x h2.out (by omega)).mono ?_
          rintro e w' ⟨hu, ho2, hp⟩
          obtain ⟨u, rfl⟩ := hu
          have HO3 := Lib.hid (ho.out.trans ho2)
          have HP := Lib.hid hp
          clear ho2 hp
          go_wp2
          go_ret
          exact ⟨rfl, HO3.out, HP.out⟩
      · have d2 : decide ((x : Int) ≤ 31) = false := by rw [decide_eq_false_iff_not]; omega
        have HE : Hid (RefP fr w b (doneT t 1 x)) := Lib.hid (by unfold doneT mayB; rw [decide_eq_false hx2, if_neg (by simp)]; exact H.out)
        go_wp2
        go_ret
        exact ⟨rfl, Only.refl _ _, HE.out⟩
    · have d1 : decide ((1 : Int) ≤ (x : Int)) = false := by rw [decide_eq_false_iff_not]; omega
      have HE : Hid (RefP fr w b (doneT t 1 x)) := Lib.hid (by unfold doneT mayB; rw [decide_eq_false hx1, if_neg (by simp)]; exact H.out)
      go_wp2
      go_ret
      exact ⟨rfl, Only.refl _ _, HE.out⟩
set_option maxRecDepth 100000 in
set_option maxHeartbeats 2000000 in
theorem refWrite_no (w : World) (b : Nat) (off v : Int) (hn : NoPlic off) (h0 : 0 ≤ off) :
    Calls Tryz.prog 99 #[.pointer (some ⟨b, 4, none⟩), .int .u64 off, .int .i64 4, .int .u64 v] w fun e w' => e = .returned (.bool false) ∧ w = w' := by
  have hp := hn.prio
  have e1 := neB hn.pend
  have e2 := neB hn.on0
  have e3 := neB hn.on1
  have e4 := neB hn.fl0
  have e5 := neB hn.fl1
  have e6 := neB hn.cl0
  have e7 := neB hn.cl1
  clear hn
  by_cases h1 : off < 128
  · have h2 : (off % 4 == 0) = false := by simp; omega
    clear hp
    go_enter Tryz.func99, Tryz.ntmps99
    go_wp2
    go_loop [9] (fun i => i = .int .i64 0 ∨ i = .int .i64 1 ∨ i = .int .i64 2) (fun i => (2 - intOf i).toNat)
    case atStart => exact .inl rfl
    case round =>
      rcases hrel with rfl | rfl | rfl
      · go_wp2
        exact ⟨.inr (.inl rfl), by simp [intOf]⟩
      · go_wp2
        exact ⟨.inr (.inr rfl), by simp [intOf]⟩
      · go_wp2
        go_ret
        exact ⟨rfl, rfl⟩
  · have h2 : decide (off < 128) = false := decide_eq_false h1
    clear hp
    go_enter Tryz.func99, Tryz.ntmps99
    go_wp2
    go_loop [9] (fun i => i = .int .i64 0 ∨ i = .int .i64 1 ∨ i = .int .i64 2) (fun i => (2 - intOf i).toNat)
    case atStart => exact .inl rfl
    case round =>
      rcases hrel with rfl | rfl | rfl
      · go_wp2
        exact ⟨.inr (.inl rfl), by simp [intOf]⟩
      · go_wp2
        exact ⟨.inr (.inr rfl), by simp [intOf]⟩
      · go_wp2
        go_ret
        exact ⟨rfl, rfl⟩
theorem tells_end {w : World} {b : Nat} {t : PS} {x : Int} {r : Bool} (h : RefP fr w b t) {e : Ending} {w' : World} (k : TellsP w x r e w') : RefPEnd fr w b (.tuple #[.int .u64 x, .bool r]) t e w' := by
  obtain ⟨rfl, rfl⟩ := k
  exact ⟨rfl, Only.refl _ _, h⟩
theorem refRead_any (w : World) (b : Nat) (t : PS) (h : RefP fr w b t) (off n : Int) (ho : In64 off) :
    Calls Tryz.prog 104 #[.pointer (some ⟨b, 4, none⟩), .int .u64 off, .int .i64 n] w (RefPEnd fr w b (.tuple #[.int .u64 (rdX t (plcK off n)), .bool (okP (plcK off n))]) (rdT t (plcK off n))) := by
  rcases plc_cases off n ho.1 with ⟨rfl, k, hk, hk4, hp⟩ | ⟨rfl, rfl, hp⟩ | ⟨rfl, rfl, hp⟩ | ⟨rfl, rfl, hp⟩ | ⟨rfl, rfl, hp⟩ | ⟨rfl, rfl, hp⟩ | ⟨rfl, rfl, hp⟩ | ⟨rfl, rfl, hp⟩ | ⟨rfl, hn, hp⟩ | ⟨hn, hp⟩
  all_goals rw [hp]
  · exact (refRead_prio w b t h k hk off hk4).mono fun e w' k => tells_end h k
  · exact (refRead_pend w b t h).mono fun e w' k => tells_end h k
  · exact (refRead_on0 w b t h).mono fun e w' k => tells_end h k
  · exact (refRead_on1 w b t h).mono fun e w' k => tells_end h k
  · exact (refRead_floor0 w b t h).mono fun e w' k => tells_end h k
  · exact (refRead_floor1 w b t h).mono fun e w' k => tells_end h k
  · exact refRead_claim0 w b t h _ rfl
  · exact refRead_claim1 w b t h _ rfl
  · exact (refRead_no w b off hn ho.1).mono fun e w' k => tells_end h k
  · exact (refRead_len w b off n hn).mono fun e w' k => tells_end h k
theorem same_end {w : World} {b : Nat} {t : PS} {r : Value} (h : RefP fr w b t) {e : Ending} {w' : World} (k : e = .returned r ∧ w = w') : RefPEnd fr w b r t e w' := by
  obtain ⟨rfl, rfl⟩ := k
  exact ⟨rfl, Only.refl _ _, h⟩
theorem refWrite_any (w : World) (b : Nat) (t : PS) (h : RefP fr w b t) (off n v : Int) (ho : In64 off) (hv : In64 v) :
    Calls Tryz.prog 99 #[.pointer (some ⟨b, 4, none⟩), .int .u64 off, .int .i64 n, .int .u64 v] w (RefPEnd fr w b (.bool (okP (plcK off n))) (wrT t (plcK off n) v)) := by
  have hx1 := Int.emod_nonneg v (show (4294967296 : Int) ≠ 0 by decide)
  rcases plc_cases off n ho.1 with ⟨rfl, k, hk, hk4, hp⟩ | ⟨rfl, rfl, hp⟩ | ⟨rfl, rfl, hp⟩ | ⟨rfl, rfl, hp⟩ | ⟨rfl, rfl, hp⟩ | ⟨rfl, rfl, hp⟩ | ⟨rfl, rfl, hp⟩ | ⟨rfl, rfl, hp⟩ | ⟨rfl, hn, hp⟩ | ⟨hn, hp⟩
  all_goals rw [hp]
  · by_cases k0 : k = 0
    · subst k0
      obtain rfl : off = 0 := by omega
      exact (refWrite_prio0 w b v).mono fun e w' k => same_end h k
    · rw [show wrT t (0, k) v = prioT t k (v % 8) from if_neg k0]
      exact refWrite_prio w b t h k (by omega) hk off v hk4 hv.1
  · exact (refWrite_pend w b v).mono fun e w' k => same_end h k
  · exact refWrite_on0 w b t h v hv
  · exact refWrite_on1 w b t h v hv
  · exact refWrite_floor0 w b t h v hv.1
  · exact refWrite_floor1 w b t h v hv.1
  · exact refWrite_done0 w b t h v _ hv.1 (by omega)
  · exact refWrite_done1 w b t h v _ hv.1 (by omega)
  · exact (refWrite_no w b off v hn ho.1).mono fun e w' k => same_end h k
  · exact (refWrite_len w b off n v hn).mono fun e w' k => same_end h k

end Go.Proofs.YtbcnkhfpogglmaaGreatDoor.P5.In

namespace Go.Proofs.YtbcnkhfpogglmaaGreatDoor.U6
open Go.RowKit
set_option linter.unusedVariables false
set_option maxRecDepth 100000

section
variable {w : World} {b : Nat} {F : Nat → Prop} {t : US} {vi vo : Value}
theorem Holds.rcells (h : HR w b F t vi vo) : w.cell? ⟨b, 0, none⟩ = some vi ∧ w.cell? ⟨b, 1, none⟩ = some vo ∧ w.cell? ⟨b, 2, none⟩ = some (.int .u8 t.ier) ∧ w.cell? ⟨b, 3, none⟩ = some (.int .u8 t.fcr) ∧ w.cell? ⟨b, 4, none⟩ = some (.int .u8 t.lcr) ∧
    w.cell? ⟨b, 5, none⟩ = some (.int .u8 t.mcr) ∧ w.cell? ⟨b, 6, none⟩ = some (.int .u8 t.scr) ∧ w.cell? ⟨b, 7, none⟩ = some (.int .u8 t.dl) ∧ w.cell? ⟨b, 8, none⟩ = some (.int .u8 t.dm) ∧ w.cell? ⟨b, 9, none⟩ = some (.bool t.lost) ∧ w.cell? ⟨b, 10, none⟩ = some (.bool t.sent) :=
  ⟨h.cell 0 rfl, h.cell 1 rfl, h.cell 2 rfl, h.cell 3 rfl, h.cell 4 rfl, h.cell 5 rfl, h.cell 6 rfl, h.cell 7 rfl, h.cell 8 rfl, h.cell 9 rfl, h.cell 10 rfl⟩
end
theorem refNew_any (w : World) : Calls Tryz.prog 54 #[] w (MadeU cellsR 111 w u0) := by
  have HM := Lib.hid (made_of cellsR 111 w)
  go_enter Tryz.func54, Tryz.ntmps54
  go_wp2
  go_ret
  exact ⟨_, _, _, _, rfl, below_alloc w _, fun i hi => by omega, HM.out⟩

def TellR (w : World) (b : Nat) (F : Nat → Prop) (x : Value) (t' : US) (e : Ending) (w' : World) : Prop := e = .returned x ∧ EndU cellsR 111 w b F t' w'

set_option maxRecDepth 100000 in
set_option maxHeartbeats 2000000 in
theorem refReason_any (w : World) (b : Nat) (F : Nat → Prop) (t : US) (vi vo : Value) (h : HR w b F t vi vo) :
    Calls Tryz.prog 136 #[.pointer (some ⟨b, 0, none⟩)] w fun e w' => e = .returned (.int .u8 (rsn t)) ∧ w = w' := by
  have hlen := h.ok.li
  have hi := h.ok.ier
  obtain ⟨a, c, rfl, _, _, _⟩ := h.ri.reads (by omega)
  obtain ⟨c0, _, c2, _, _, _, _, _, _, _, c10⟩ := h.rcells
  have HR : Hid (rsn t = if t.ier % 2 = 1 ∧ 0 < t.inn.length then 4 else if t.ier / 2 % 2 = 1 ∧ t.sent = true then 2 else 1) := Lib.hid rfl
  clear h
  generalize rsn t = r at *
  generalize t.inn.length = n at *
  generalize t.sent = s at *
  generalize t.ier = x at *
  obtain ⟨x0, x1⟩ := hi
  by_cases hA : x % 2 = 1
  · have HA := Lib.hid hA
    by_cases hn : 0 < n
    · have ER : Hid (r = 4) := Lib.hid (by rw [HR.out, if_pos ⟨HA.out, hn⟩])
      clear HR
      go_enter Tryz.func136, Tryz.ntmps136
      go_wp2
      go_ret
      exact ⟨by rw [ER.out]; rfl, rfl⟩
    · obtain rfl : n = 0 := by omega
      by_cases hB : x / 2 % 2 = 1
      · have HB := Lib.hid hB
        cases s with
        | true =>
          have ER : Hid (r = 2) := Lib.hid (by rw [HR.out, if_neg (fun h => hn h.2), if_pos ⟨HB.out, rfl⟩])
          clear HR
          go_enter Tryz.func136, Tryz.ntmps136
          go_wp2
          go_ret
          exact ⟨by rw [ER.out]; rfl, rfl⟩
        | false =>
          have ER : Hid (r = 1) := Lib.hid (by rw [HR.out, if_neg (fun h => hn h.2), if_neg (fun h => by cases h.2)])
          clear HR
          go_enter Tryz.func136, Tryz.ntmps136
          go_wp2
          go_ret
          exact ⟨by rw [ER.out]; rfl, rfl⟩
      · have hb : (x / 2 % 2 == 1) = false := by simpa using hB
        have ER : Hid (r = 1) := Lib.hid (by rw [HR.out, if_neg (fun h => hn h.2), if_neg (fun h => hB h.1)])
        clear HR hB
        go_enter Tryz.func136, Tryz.ntmps136
        go_wp2
        go_ret
        exact ⟨by rw [ER.out]; rfl, rfl⟩
  · have ha : (x % 2 == 1) = false := by simpa using hA
    by_cases hB : x / 2 % 2 = 1
    · have HB := Lib.hid hB
      cases s with
      | true =>
        have ER : Hid (r = 2) := Lib.hid (by rw [HR.out, if_neg (fun h => hA h.1), if_pos ⟨HB.out, rfl⟩])
        clear HR hA
        go_enter Tryz.func136, Tryz.ntmps136
        go_wp2
        go_ret
        exact ⟨by rw [ER.out]; rfl, rfl⟩
      | false =>
        have ER : Hid (r = 1) := Lib.hid (by rw [HR.out, if_neg (fun h => hA h.1), if_neg (fun h => by cases h.2)])
        clear HR hA
        go_enter Tryz.func136, Tryz.ntmps136
        go_wp2
        go_ret
        exact ⟨by rw [ER.out]; rfl, rfl⟩
    · have hb : (x / 2 % 2 == 1) = false := by simpa using hB
      have ER : Hid (r = 1) := Lib.hid (by rw [HR.out, if_neg (fun h => hA h.1), if_neg (fun h => hB h.1)])
      clear HR hB hA
      go_enter Tryz.func136, Tryz.ntmps136
      go_wp2
      go_ret
      exact ⟨by rw [ER.out]; rfl, rfl⟩

theorem lineU_gt (t : US) : decide (1 < rsn t) = lineU t := by
  unfold lineU
  rcases rsn_vals t with h | h | h <;> rw [h] <;> rfl
theorem refLine_any (w : World) (b : Nat) (F : Nat → Prop) (t : US) (vi vo : Value) (h : HR w b F t vi vo) :
    Calls Tryz.prog 135 #[.pointer (some ⟨b, 0, none⟩)] w fun e w' => e = .returned (.bool (lineU t)) ∧ w = w' := by
  have H := Lib.hid h
  have HL := Lib.hid (lineU_gt t)
  clear h
  go_enter Tryz.func135, Tryz.ntmps135
  go_wp2_with (go_at_call 136; refine (refReason_any _ b F t vi vo H.out).mono ?_; rintro e w' ⟨rfl, rfl⟩)
  go_ret
  exact ⟨by rw [← HL.out]; rfl, rfl⟩

set_option maxRecDepth 100000 in
set_option maxHeartbeats 2000000 in
theorem refFeed_any (w : World) (b : Nat) (F : Nat → Prop) (t : US) (h : UR w b F t) (x : Int) (hx : 0 ≤ x ∧ x < 256) :
    Calls Tryz.prog 107 #[.pointer (some ⟨b, 0, none⟩), .int .u8 x] w (TellR w b F (.bool (feedK t)) (feedT t x)) := by
  obtain ⟨vi, vo, h⟩ := h
  have hli := h.ok.li
  obtain ⟨a, c, hvi, hnc, hcm, hr⟩ := h.ri.reads (by omega)
  subst hvi
  obtain ⟨c0, _⟩ := h.rcells
  have c9 := h.cell 9 (v := .bool t.lost) rfl
  have f0 := h.free 0
  have f9 := h.free 9
  have HX := Lib.hid hx
  by_cases hlt : t.inn.length < 16
  · have h2 := h.below (below_alloc w (.cells #[.int .u8 x] 5))
    obtain ⟨v', w', hrun, hR, hO, hv⟩ := run_push (w.alloc (.cells #[.int .u8 x] 5)) _ t.inn h2.ri (by omega) w.heap.size 0 x 1 (new_cell w _ _) hx 40
    obtain ⟨a2, c2, hv2, _, _, _⟩ := hR.reads (by simp; omega)
    have hl2 : (t.inn ++ [x]).length = t.inn.length + 1 := by simp
    rw [hl2] at hv2
    subst hv2
    have E1 : EndU cellsR 111 w b F { t with inn := t.inn ++ [x] } (w'.setCell ⟨b, 0, none⟩ (.slice a2 (t.inn.length + 1) c2)) := by
      have k := EndU.turnIn (t' := { t with inn := t.inn ++ [x] }) h2 hO hR hv rfl (ok_inn h.ok (by simp; omega)) rfl
      exact EndU.step (Only.of_below F (below_alloc w _)) (fun i hi => .inl hi) k
    have HE1 := Lib.hid E1
    have f0' : w'.frozen? ⟨b, 0, none⟩ = false := (World.frozen?_of_block (hO.block b (Nat.lt_of_lt_of_le h.blt (below_alloc w _).size) (fun e => (h2.fi b e).2 rfl))).trans (h2.free 0)
    have d0' : ∃ v, w'.cell? ⟨b, 0, none⟩ = some v := ⟨_, (World.cell?_of_block (hO.block b (Nat.lt_of_lt_of_le h.blt (below_alloc w _).size) (fun e => (h2.fi b e).2 rfl))).trans (h2.cell 0 rfl)⟩
    obtain ⟨v1, d0'⟩ := d0'
    have hT : feedT t x = { t with inn := t.inn ++ [x] } := by unfold feedT; rw [if_neg (by omega)]
    have hK : feedK t = true := decide_eq_true hlt
    have HRUN := Lib.hid hrun
    have hd : ((t.inn.length : Int) == 16) = false := by simp; omega
    rw [hT, hK]
    clear hT hK h h2 hR hO hv hr E1 hx hrun hli hlt
    generalize t.inn.length = n at *
    go_enter Tryz.func107, Tryz.ntmps107
    go_wp2_with ((at_builtin; refine wpList_append_run rfl _ _ _ rfl (.slice a n c) (.slice (some ⟨w.heap.size, 0, none⟩) 1 1) (.slice a2 (n + 1) c2) w' rfl rfl HRUN.out ?_))
    go_ret
    exact ⟨rfl, HE1.out⟩
  · have hd : t.inn.length = 16 := by omega
    have hT : feedT t x = { t with lost := true } := by unfold feedT; rw [if_pos (by omega)]
    have hK : feedK t = false := decide_eq_false hlt
    have OK := Lib.hid (ok_lost h.ok true)
    have H := Lib.hid h
    rw [hT, hK]
    clear hT hK h hr hlt hli hnc hcm hx
    generalize t.inn.length = n at *
    subst hd
    go_enter Tryz.func107, Tryz.ntmps107
    go_wp2
    go_ret
    exact ⟨rfl, EndU.set H.out 9 (.bool true) rfl rfl OK.out rfl⟩

end Go.Proofs.YtbcnkhfpogglmaaGreatDoor.U6

namespace Go.Proofs.YtbcnkhfpogglmaaGreatDoor.U6
open Go.RowKit
set_option linter.unusedVariables false
set_option maxRecDepth 100000

/-- Bytes that stand anywhere poured onto nothing. -/
theorem run_pour0 (w : World) (g off c : Nat) (xs : List Int) (hb : Byt xs) (hl : xs.length ≤ 70000) (hc : ∀ j, j < xs.length → w.cell? ⟨g, off + j, none⟩ = some (.int .u8 (xs.getD j 0))) (ty : TypeId) :
    ∃ v' w', (Builtin.append_ #[40, 40] ty #[.slice none 0 0, .slice (some ⟨g, off, none⟩) xs.length c]).run Tryz.prog w = .ok v' w' ∧ RowB w' v' xs ∧ Only (fun _ => False) w w' ∧ (∀ g, v'.ownBlock = some g → w.heap.size ≤ g) := by
  obtain ⟨i0, hi, hz0, hz1, hz2⟩ := info_parts8 info_u8
  obtain ⟨v', w', hr, h2, h3, _, h5⟩ := run_append_own_at (P := Tryz.prog) w 0 40 ty 5 i0 (.int .u8 0) 1 1 Tryz.underlying40 hi hz0 hz1 hz2 rfl (by decide) (.slice none 0 0) 0 [] (World.ownsRow_nil _ _ _ _) ⟨g, off, none⟩ xs.length c (u8s xs) (by rw [u8s_len]; omega) (fun j u hj => by
      obtain ⟨hj2, rfl⟩ := u8s_get hj
      rw [add_none]; exact hc j hj2) (u8s_one xs) (by unfold maxLen; omega) (by omega) (Nat.zero_le _)
  have e1 : 0 + xs.length = xs.length := by omega
  rw [e1, List.nil_append] at h2
  refine ⟨v', w', hr, ⟨hb, .inl h2⟩, (Only.refl _ w).grown h3 (fun k hk => by cases hk), fun g' hg' => ?_⟩
  rcases h5 with h5 | h5
  · rw [h5] at hg'; cases hg'
  · rw [h5] at hg'; injection hg' with hg'; omega
theorem run_rest (w : World) (g off n c : Nat) (h1 : 1 ≤ n) (hc : n ≤ c) : (Instr.slice 40 (.slice (some ⟨g, off, none⟩) n c) (some (.int .i64 1)) none none).run Tryz.prog w = .ok (.slice (some ⟨g, (if c = 1 then off else off + 1), none⟩) (n - 1) (c - 1)) w := by
  rw [run_slice_l (t := 40) w (some ⟨g, off, none⟩) n c ?_ .i64 1 (by decide) (by omega)]
  · have hs : (sizeOf (Tryz.prog.elem 40)).run Tryz.prog w = .ok 1 w := by kernel_rfl
    rw [hs]
    by_cases h : c = 1
    · subst h; simp [sliced]
    · simp [sliced, Addr.add, h]
  · kernel_rfl
theorem plK_inv {t : US} {off n : Int} {k : Nat} (h : plK t off n = k) (hk : k < 8) : n = 1 ∧ off = k ∧ (k < 2 → t.lcr < 128) := by
  unfold plK at h
  by_cases h1 : n = 1 ∧ 0 ≤ off ∧ off < 8
  · rw [if_pos h1] at h
    by_cases h2 : off < 2 ∧ 128 ≤ t.lcr
    · rw [if_pos h2] at h; omega
    · rw [if_neg h2] at h
      exact ⟨h1.1, by omega, by omega⟩
  · rw [if_neg h1] at h; omega
theorem plK_inv2 {t : US} {off n : Int} {k : Nat} (h : plK t off n = k) (hk : 8 ≤ k) (hk2 : k < 10) : n = 1 ∧ off = k - 8 ∧ 128 ≤ t.lcr := by
  unfold plK at h
  by_cases h1 : n = 1 ∧ 0 ≤ off ∧ off < 8
  · rw [if_pos h1] at h
    by_cases h2 : off < 2 ∧ 128 ≤ t.lcr
    · rw [if_pos h2] at h; exact ⟨h1.1, by omega, h2.2⟩
    · rw [if_neg h2] at h; omega
  · rw [if_neg h1] at h; omega
theorem plK_ten {t : US} {off n : Int} (h : plK t off n = 10) (h0 : 0 ≤ off) : ¬ n = 1 ∨ 8 ≤ off := by
  unfold plK at h
  by_cases h1 : n = 1 ∧ 0 ≤ off ∧ off < 8
  · rw [if_pos h1] at h; split at h <;> omega
  · omega

set_option maxRecDepth 100000 in
set_option maxHeartbeats 4000000 in
theorem refRead_0 (w : World) (b : Nat) (F : Nat → Prop) (t : US) (vi vo : Value) (h : HR w b F t vi vo) (off n : Int) (hk : plK t off n = 0) :
    Calls Tryz.prog 106 #[.pointer (some ⟨b, 0, none⟩), .int .u64 off, .int .i64 n] w (TellR w b F (.tuple #[.int .u64 (rdX t 0), .bool true]) (rdT t 0)) := by
  obtain ⟨rfl, rfl, hL⟩ := plK_inv hk (by decide)
  have hL := hL (by decide)
  change Calls _ _ #[_, .int .u64 0, _] _ _
  clear hk
  have hlen := h.ok.li
  have c4 := h.cell 4 (v := .int .u8 t.lcr) rfl
  obtain ⟨a, c, rfl, hnc, hcm, hr⟩ := h.ri.reads (by omega)
  have c0 := h.cell 0 (v := .slice a t.inn.length c) rfl
  have f0 := h.free 0
  obtain ⟨inn, out, ier, fcr, lcr, mcr, scr, dl, dm, lost, sent⟩ := t
  simp only at hlen hr c0 c4 hnc hL
  cases inn with
  | nil =>
    have H := Lib.hid h
    clear h hr
    go_enter Tryz.func106, Tryz.ntmps106
    go_wp2
    go_ret2
    exact ⟨rfl, EndU.refl H.out⟩
  | cons x xs =>
    rcases hr with ⟨_, _, h0⟩ | ⟨g, o1, rfl, hg, hc⟩
    · cases h0
    have cx : w.cell? ⟨g, o1, none⟩ = some (.int .u8 x) := by have := hc 0 (by simp); simpa using this
    have hbx : 0 ≤ x ∧ x < 256 := h.ri.byt x (by simp)
    obtain ⟨x0, x1⟩ := hbx
    have hl2 : xs.length ≤ 15 := by simp at hlen; omega
    have hcr : ∀ j, j < xs.length → w.cell? ⟨g, (if c = 1 then o1 else o1 + 1) + j, none⟩ = some (.int .u8 (xs.getD j 0)) := fun j hj => by
      rw [if_neg (by simp at hnc; omega)]
      have := hc (j + 1) (by simp; omega)
      rw [show o1 + 1 + j = o1 + (j + 1) by omega, this]; simp
    obtain ⟨v', w', hrun, hR, hO, hv⟩ := run_pour0 w g (if c = 1 then o1 else o1 + 1) (c - 1) xs (h.ri.byt.tail) (by omega) hcr 40
    have hcut := fun wr => run_rest wr g o1 (xs.length + 1) c (by omega) (by simpa using hnc)
    rw [show xs.length + 1 - 1 = xs.length by omega] at hcut
    generalize (if c = 1 then o1 else o1 + 1) = o2 at *
    generalize c - 1 = c9 at *
    obtain ⟨a2, c2, hv2, _, _, _⟩ := hR.reads (by omega)
    subst hv2
    have OK : (⟨xs, out, ier, fcr, lcr, mcr, scr, dl, dm, lost, sent⟩ : US).ok := ⟨by show xs.length ≤ 16; omega, h.ok.lo, h.ok.ier, h.ok.fcr, h.ok.lcr, h.ok.mcr, h.ok.scr, h.ok.dl, h.ok.dm⟩
    have E1 : EndU cellsR 111 w b F ⟨xs, out, ier, fcr, lcr, mcr, scr, dl, dm, lost, sent⟩ (w'.setCell ⟨b, 0, none⟩ (.slice a2 xs.length c2)) :=
      EndU.turnIn h (hO.mono fun i hi => hi.elim) hR (fun g hg => .inr (hv g hg)) rfl OK rfl
    have f0' : w'.frozen? ⟨b, 0, none⟩ = false := (World.frozen?_of_block (hO.block b h.blt id)).trans f0
    have d0' : ∃ v, w'.cell? ⟨b, 0, none⟩ = some v := ⟨_, (World.cell?_of_block (hO.block b h.blt id)).trans c0⟩
    obtain ⟨v1, d0'⟩ := d0'
    have HE := Lib.hid E1
    have HRUN := Lib.hid hrun
    rw [show (x :: xs).length = xs.length + 1 from rfl] at c0
    clear h hc hcr hO hR hv E1 hrun OK hnc hlen
    generalize xs.length = m at *
    go_enter Tryz.func106, Tryz.ntmps106
    go_wp2_with ((at_builtin; refine wpList_append_run rfl _ _ _ rfl (.slice none 0 0) (.slice (some ⟨g, o2, none⟩) m c9) (.slice a2 m c2) w' rfl rfl HRUN.out ?_))
    go_ret2
    exact ⟨rfl, HE.out⟩

set_option maxRecDepth 100000 in
set_option maxHeartbeats 4000000 in
theorem refRead_1 (w : World) (b : Nat) (F : Nat → Prop) (t : US) (vi vo : Value) (h : HR w b F t vi vo) (off n : Int) (hk : plK t off n = 1) :
    Calls Tryz.prog 106 #[.pointer (some ⟨b, 0, none⟩), .int .u64 off, .int .i64 n] w (TellR w b F (.tuple #[.int .u64 (rdX t 1), .bool true]) (rdT t 1)) := by
  obtain ⟨rfl, rfl, hL⟩ := plK_inv hk (by decide)
  have hL := hL (by decide)
  change Calls _ _ #[_, .int .u64 1, _] _ _
  clear hk
  obtain ⟨c0, c1, c2, c3, c4, c5, c6, c7, c8, c9, c10⟩ := h.rcells
  have H := Lib.hid h
  have hb := h.ok.ier
  obtain ⟨x0, x1⟩ := hb
  change Calls _ _ _ _ (TellR w b F (.tuple #[.int .u64 t.ier, .bool true]) t)
  clear h
  generalize t.ier = X at *
  generalize t.lcr = L at *
  go_enter Tryz.func106, Tryz.ntmps106
  go_wp2
  go_ret2
  exact ⟨rfl, EndU.refl H.out⟩

set_option maxRecDepth 100000 in
set_option maxHeartbeats 4000000 in
theorem refRead_2 (w : World) (b : Nat) (F : Nat → Prop) (t : US) (vi vo : Value) (h : HR w b F t vi vo) (off n : Int) (hk : plK t off n = 2) :
    Calls Tryz.prog 106 #[.pointer (some ⟨b, 0, none⟩), .int .u64 off, .int .i64 n] w (TellR w b F (.tuple #[.int .u64 (rdX t 2), .bool true]) (rdT t 2)) := by
  obtain ⟨rfl, rfl, hL⟩ := plK_inv hk (by decide)
  clear hL
  change Calls _ _ #[_, .int .u64 2, _] _ _
  clear hk
  have f10 := h.free 10
  have c4 := h.cell 4 (v := .int .u8 t.lcr) rfl
  have c10 := h.cell 10 (v := .bool t.sent) rfl
  have c3 := h.cell 3 (v := .int .u8 t.fcr) rfl
  have H := Lib.hid h
  have E2 := Lib.hid (EndU.set h 10 (.bool false) (t' := { t with sent := false }) rfl rfl (ok_sent h.ok false) rfl)
  clear h
  rcases rsn_vals t with hr | hr | hr
  all_goals
    by_cases hf : t.fcr = 1
    all_goals
      first | rw [rdX2 hr hf] | rw [rdX2' hr hf]
      first | rw [rdT2 hr] | rw [rdT2' (by omega)]
      have HRS := Lib.hid (refReason_any w b F t vi vo H.out)
      rw [hr] at HRS
      have hf1 : (t.fcr == 1) = decide (t.fcr = 1) := rfl
      first | rw [decide_eq_true hf] at hf1 | rw [decide_eq_false hf] at hf1
      clear hf hr
      generalize t.fcr = fc at *
      generalize t.lcr = L at *
      go_enter Tryz.func106, Tryz.ntmps106
      go_wp2_with (go_at_call 136; refine (HRS.out).mono ?_; rintro e w' ⟨rfl, rfl⟩)
      go_ret2
      first
        | exact ⟨rfl, E2.out⟩
        | exact ⟨rfl, EndU.refl H.out⟩

set_option maxRecDepth 100000 in
set_option maxHeartbeats 4000000 in
theorem refRead_3 (w : World) (b : Nat) (F : Nat → Prop) (t : US) (vi vo : Value) (h : HR w b F t vi vo) (off n : Int) (hk : plK t off n = 3) :
    Calls Tryz.prog 106 #[.pointer (some ⟨b, 0, none⟩), .int .u64 off, .int .i64 n] w (TellR w b F (.tuple #[.int .u64 (rdX t 3), .bool true]) (rdT t 3)) := by
  obtain ⟨rfl, rfl, hL⟩ := plK_inv hk (by decide)
  clear hL
  change Calls _ _ #[_, .int .u64 3, _] _ _
  clear hk
  obtain ⟨c0, c1, c2, c3, c4, c5, c6, c7, c8, c9, c10⟩ := h.rcells
  have H := Lib.hid h
  have hb := h.ok.lcr
  obtain ⟨x0, x1⟩ := hb
  change Calls _ _ _ _ (TellR w b F (.tuple #[.int .u64 t.lcr, .bool true]) t)
  clear h
  go_enter Tryz.func106, Tryz.ntmps106
  go_wp2
  go_ret2
  exact ⟨rfl, EndU.refl H.out⟩

set_option maxRecDepth 100000 in
set_option maxHeartbeats 4000000 in
theorem refRead_4 (w : World) (b : Nat) (F : Nat → Prop) (t : US) (vi vo : Value) (h : HR w b F t vi vo) (off n : Int) (hk : plK t off n = 4) :
    Calls Tryz.prog 106 #[.pointer (some ⟨b, 0, none⟩), .int .u64 off, .int .i64 n] w (TellR w b F (.tuple #[.int .u64 (rdX t 4), .bool true]) (rdT t 4)) := by
  obtain ⟨rfl, rfl, hL⟩ := plK_inv hk (by decide)
  clear hL
  change Calls _ _ #[_, .int .u64 4, _] _ _
  clear hk
  obtain ⟨c0, c1, c2, c3, c4, c5, c6, c7, c8, c9, c10⟩ := h.rcells
  have H := Lib.hid h
  have hb := h.ok.mcr
  obtain ⟨x0, x1⟩ := hb
  change Calls _ _ _ _ (TellR w b F (.tuple #[.int .u64 t.mcr, .bool true]) t)
  clear h
  generalize t.mcr = X at *
  generalize t.lcr = L at *
  go_enter Tryz.func106, Tryz.ntmps106
  go_wp2
  go_ret2
  exact ⟨rfl, EndU.refl H.out⟩

set_option maxRecDepth 100000 in
set_option maxHeartbeats 4000000 in
theorem refRead_5 (w : World) (b : Nat) (F : Nat → Prop) (t : US) (vi vo : Value) (h : HR w b F t vi vo) (off n : Int) (hk : plK t off n = 5) :
    Calls Tryz.prog 106 #[.pointer (some ⟨b, 0, none⟩), .int .u64 off, .int .i64 n] w (TellR w b F (.tuple #[.int .u64 (rdX t 5), .bool true]) (rdT t 5)) := by
  obtain ⟨rfl, rfl, hL⟩ := plK_inv hk (by decide)
  clear hL
  change Calls _ _ #[_, .int .u64 5, _] _ _
  clear hk
  have hli := h.ok.li
  obtain ⟨a, c, hvi, hnc, hcm, hr⟩ := h.ri.reads (by omega)
  subst hvi
  have f9 := h.free 9
  have c0 := h.cell 0 (v := .slice a t.inn.length c) rfl
  have c4 := h.cell 4 (v := .int .u8 t.lcr) rfl
  have c9 := h.cell 9 (v := .bool t.lost) rfl
  have E2 : Hid (EndU cellsR 111 w b F (rdT t 5) (w.setCell ⟨b, 9, none⟩ (.bool false))) := Lib.hid (EndU.set h 9 (.bool false) (t' := { t with lost := false }) rfl rfl (ok_lost h.ok false) rfl)
  have HX := Lib.hid (rdX5 t t.inn.length rfl)
  clear h hr hli hnc hcm
  generalize rdX t 5 = X at *
  generalize rdT t 5 = T at *
  generalize t.inn.length = m at *
  generalize t.lost = l at *
  generalize t.lcr = L at *
  by_cases hn : 0 < m
  · cases l
    all_goals
      go_enter Tryz.func106, Tryz.ntmps106
      go_wp2
      go_ret2
      exact ⟨by rw [HX.out, if_pos hn]; rfl, E2.out⟩
  · obtain rfl : m = 0 := by omega
    cases l
    all_goals
      go_enter Tryz.func106, Tryz.ntmps106
      go_wp2
      go_ret2
      exact ⟨by rw [HX.out, if_neg hn]; rfl, E2.out⟩

set_option maxRecDepth 100000 in
set_option maxHeartbeats 4000000 in
theorem refRead_6 (w : World) (b : Nat) (F : Nat → Prop) (t : US) (vi vo : Value) (h : HR w b F t vi vo) (off n : Int) (hk : plK t off n = 6) :
    Calls Tryz.prog 106 #[.pointer (some ⟨b, 0, none⟩), .int .u64 off, .int .i64 n] w (TellR w b F (.tuple #[.int .u64 (rdX t 6), .bool true]) (rdT t 6)) := by
  obtain ⟨rfl, rfl, hL⟩ := plK_inv hk (by decide)
  clear hL
  change Calls _ _ #[_, .int .u64 6, _] _ _
  clear hk
  obtain ⟨c0, c1, c2, c3, c4, c5, c6, c7, c8, c9, c10⟩ := h.rcells
  have H := Lib.hid h
  change Calls _ _ _ _ (TellR w b F (.tuple #[.int .u64 176, .bool true]) t)
  clear h
  go_enter Tryz.func106, Tryz.ntmps106
  go_wp2
  go_ret2
  exact ⟨rfl, EndU.refl H.out⟩

set_option maxRecDepth 100000 in
set_option maxHeartbeats 4000000 in
theorem refRead_7 (w : World) (b : Nat) (F : Nat → Prop) (t : US) (vi vo : Value) (h : HR w b F t vi vo) (off n : Int) (hk : plK t off n = 7) :
    Calls Tryz.prog 106 #[.pointer (some ⟨b, 0, none⟩), .int .u64 off, .int .i64 n] w (TellR w b F (.tuple #[.int .u64 (rdX t 7), .bool true]) (rdT t 7)) := by
  obtain ⟨rfl, rfl, hL⟩ := plK_inv hk (by decide)
  clear hL
  change Calls _ _ #[_, .int .u64 7, _] _ _
  clear hk
  obtain ⟨c0, c1, c2, c3, c4, c5, c6, c7, c8, c9, c10⟩ := h.rcells
  have H := Lib.hid h
  have hb := h.ok.scr
  obtain ⟨x0, x1⟩ := hb
  change Calls _ _ _ _ (TellR w b F (.tuple #[.int .u64 t.scr, .bool true]) t)
  clear h
  generalize t.scr = X at *
  generalize t.lcr = L at *
  go_enter Tryz.func106, Tryz.ntmps106
  go_wp2
  go_ret2
  exact ⟨rfl, EndU.refl H.out⟩

set_option maxRecDepth 100000 in
set_option maxHeartbeats 4000000 in
theorem refRead_8 (w : World) (b : Nat) (F : Nat → Prop) (t : US) (vi vo : Value) (h : HR w b F t vi vo) (off n : Int) (hk : plK t off n = 8) :
    Calls Tryz.prog 106 #[.pointer (some ⟨b, 0, none⟩), .int .u64 off, .int .i64 n] w (TellR w b F (.tuple #[.int .u64 (rdX t 8), .bool true]) (rdT t 8)) := by
  obtain ⟨rfl, rfl, hL⟩ := plK_inv2 hk (by decide) (by decide)
  change Calls _ _ #[_, .int .u64 0, _] _ _
  clear hk
  obtain ⟨c0, c1, c2, c3, c4, c5, c6, c7, c8, c9, c10⟩ := h.rcells
  have H := Lib.hid h
  have hb := h.ok.dl
  obtain ⟨x0, x1⟩ := hb
  change Calls _ _ _ _ (TellR w b F (.tuple #[.int .u64 t.dl, .bool true]) t)
  clear h
  generalize t.dl = X at *
  generalize t.lcr = L at *
  go_enter Tryz.func106, Tryz.ntmps106
  go_wp2
  go_ret2
  exact ⟨rfl, EndU.refl H.out⟩

set_option maxRecDepth 100000 in
set_option maxHeartbeats 4000000 in
theorem refRead_9 (w : World) (b : Nat) (F : Nat → Prop) (t : US) (vi vo : Value) (h : HR w b F t vi vo) (off n : Int) (hk : plK t off n = 9) :
    Calls Tryz.prog 106 #[.pointer (some ⟨b, 0, none⟩), .int .u64 off, .int .i64 n] w (TellR w b F (.tuple #[.int .u64 (rdX t 9), .bool true]) (rdT t 9)) := by
  obtain ⟨rfl, rfl, hL⟩ := plK_inv2 hk (by decide) (by decide)
  change Calls _ _ #[_, .int .u64 1, _] _ _
  clear hk
  obtain ⟨c0, c1, c2, c3, c4, c5, c6, c7, c8, c9, c10⟩ := h.rcells
  have H := Lib.hid h
  have hb := h.ok.dm
  obtain ⟨x0, x1⟩ := hb
  change Calls _ _ _ _ (TellR w b F (.tuple #[.int .u64 t.dm, .bool true]) t)
  clear h
  generalize t.dm = X at *
  generalize t.lcr = L at *
  go_enter Tryz.func106, Tryz.ntmps106
  go_wp2
  go_ret2
  exact ⟨rfl, EndU.refl H.out⟩

theorem refRead_out (w : World) (b : Nat) (F : Nat → Prop) (t : US) (vi vo : Value) (h : HR w b F t vi vo) (off n : Int) (ho : In64 off) (hk : plK t off n = 10) :
    Calls Tryz.prog 106 #[.pointer (some ⟨b, 0, none⟩), .int .u64 off, .int .i64 n] w (TellR w b F (.tuple #[.int .u64 0, .bool false]) t) := by
  have h0 := ho.1
  have H := Lib.hid h
  have hq := plK_ten hk h0
  clear h ho hk
  by_cases hn : n = 1
  · subst hn
    have h8 : 8 ≤ off := hq.resolve_left (fun h => h rfl)
    have h7 : (7 : Int) < off := by omega
    clear hq
    go_enter Tryz.func106, Tryz.ntmps106
    go_wp2
    go_ret2
    exact ⟨rfl, EndU.refl H.out⟩
  · have hb : (n == 1) = false := by simpa using hn
    have hb2 : (n != 1) = true := by simpa [bne] using hn
    clear hn hq
    go_enter Tryz.func106, Tryz.ntmps106
    go_wp2
    go_ret2
    exact ⟨rfl, EndU.refl H.out⟩
theorem refRead_any (w : World) (b : Nat) (F : Nat → Prop) (t : US) (h : UR w b F t) (off n : Int) (ho : In64 off) :
    Calls Tryz.prog 106 #[.pointer (some ⟨b, 0, none⟩), .int .u64 off, .int .i64 n] w (TellR w b F (.tuple #[.int .u64 (rdX t (plK t off n)), .bool (okK (plK t off n))]) (rdT t (plK t off n))) := by
  obtain ⟨vi, vo, h⟩ := h
  rcases ten (plK_le t off n) with hk | hk | hk | hk | hk | hk | hk | hk | hk | hk | hk
  · rw [hk]; exact refRead_0 w b F t vi vo h off n hk
  · rw [hk]; exact refRead_1 w b F t vi vo h off n hk
  · rw [hk]; exact refRead_2 w b F t vi vo h off n hk
  · rw [hk]; exact refRead_3 w b F t vi vo h off n hk
  · rw [hk]; exact refRead_4 w b F t vi vo h off n hk
  · rw [hk]; exact refRead_5 w b F t vi vo h off n hk
  · rw [hk]; exact refRead_6 w b F t vi vo h off n hk
  · rw [hk]; exact refRead_7 w b F t vi vo h off n hk
  · rw [hk]; exact refRead_8 w b F t vi vo h off n hk
  · rw [hk]; exact refRead_9 w b F t vi vo h off n hk
  · rw [hk]; exact refRead_out w b F t vi vo h off n ho hk

end Go.Proofs.YtbcnkhfpogglmaaGreatDoor.U6

namespace Go.Proofs.YtbcnkhfpogglmaaGreatDoor.U6
open Go.RowKit
set_option linter.unusedVariables false
set_option maxRecDepth 100000

def Room (m : Nat) : Prop := m < 65536
def NoRoom (m : Nat) : Prop := ¬ m < 65536
theorem Room.dec {m : Nat} (h : Room m) : decide ((m : Int) < 65536) = true := by unfold Room at h; rw [decide_eq_true_eq]; omega
theorem NoRoom.dec {m : Nat} (h : NoRoom m) : decide ((m : Int) < 65536) = false := by unfold NoRoom at h; rw [decide_eq_false_iff_not]; omega

set_option maxRecDepth 100000 in
set_option maxHeartbeats 4000000 in
theorem refWrite_0 (w : World) (b : Nat) (F : Nat → Prop) (t : US) (vi vo : Value) (h : HR w b F t vi vo) (off n v : Int) (hv : In64 v) (hk : plK t off n = 0) :
    Calls Tryz.prog 101 #[.pointer (some ⟨b, 0, none⟩), .int .u64 off, .int .i64 n, .int .u64 v] w (TellR w b F (.bool true) (wrT t (v % 256) 0)) := by
  have v0 := hv.1
  have x0 : 0 ≤ v % 256 := by omega
  have x1 : v % 256 < 256 := by omega
  have hw' : IntKind.u8.wrap (v % 256) = v % 256 := by rw [wrap8 _ x0]; omega
  have OK := Lib.hid (wrT_ok h.ok (v % 256) x0 x1 0)
  obtain ⟨x, hvx⟩ : ∃ x, v % 256 = x := ⟨_, rfl⟩
  rw [hvx] at x0 x1 hw' OK ⊢
  clear hv
  obtain ⟨rfl, rfl, hL⟩ := plK_inv hk (by decide)
  have hL := hL (by decide)
  change Calls _ _ #[_, .int .u64 0, _, _] _ _
  clear hk
  have hlo := h.ok.lo
  have c4 := h.cell 4 (v := .int .u8 t.lcr) rfl
  obtain ⟨a, c, hvo, hnc, hcm, hr⟩ := h.ro.reads (by omega)
  subst hvo
  have c1 := h.cell 1 (v := .slice a t.out.length c) rfl
  have c10 := h.cell 10 (v := .bool t.sent) rfl
  have f1 := h.free 1
  have f10 := h.free 10
  change Calls _ _ _ _ (TellR w b F (.bool true) (sendT t x))
  replace OK : Hid (sendT t x).ok := OK
  by_cases hlt : t.out.length < 65536
  · have h2 := h.below (below_alloc w (.cells #[.int .u8 x] 5))
    obtain ⟨v', w', hrun, hR, hO, hv⟩ := run_push (w.alloc (.cells #[.int .u8 x] 5)) _ t.out h2.ro (by omega) w.heap.size 0 x 1 (new_cell w _ _) ⟨x0, x1⟩ 40
    obtain ⟨a2, k2, hv2, _, _, _⟩ := hR.reads (by simp; omega)
    have hl2 : (t.out ++ [x]).length = t.out.length + 1 := by simp
    rw [hl2] at hv2
    subst hv2
    have E1 : EndU cellsR 111 w b F { t with out := t.out ++ [x] } (w'.setCell ⟨b, 1, none⟩ (.slice a2 (t.out.length + 1) k2)) := by
      have k := EndU.turnOut (t' := { t with out := t.out ++ [x] }) h2 hO hR hv rfl ⟨h.ok.li, by simp; omega, h.ok.ier, h.ok.fcr, h.ok.lcr, h.ok.mcr, h.ok.scr, h.ok.dl, h.ok.dm⟩ rfl
      exact EndU.step (Only.of_below F (below_alloc w _)) (fun i hi => .inl hi) k
    have HE1 := Lib.hid E1
    have f1' : w'.frozen? ⟨b, 1, none⟩ = false := (World.frozen?_of_block (hO.block b (Nat.lt_of_lt_of_le h.blt (below_alloc w _).size) (fun e => (h2.fo b e).2 rfl))).trans (h2.free 1)
    have d1' : ∃ v, w'.cell? ⟨b, 1, none⟩ = some v := ⟨_, (World.cell?_of_block (hO.block b (Nat.lt_of_lt_of_le h.blt (below_alloc w _).size) (fun e => (h2.fo b e).2 rfl))).trans (h2.cell 1 rfl)⟩
    obtain ⟨v1, d1'⟩ := d1'
    have hT : sendT t x = { { t with out := t.out ++ [x] } with sent := true } := by unfold sendT; rw [if_pos hlt]
    rw [hT] at OK ⊢
    have HRUN := Lib.hid hrun
    have hd : decide ((t.out.length : Int) < 65536) = true := by rw [decide_eq_true_eq]; omega
    have HDD : Room t.out.length := hlt
    clear hT h h2 hR hO hv hr E1 hrun hlo hlt hd
    generalize t.out.length = m at *
    go_enter Tryz.func101, Tryz.ntmps101
    go_upto_region 10 with (fail)
    have hd := HDD.dec
    clear hvx hw'
    go_upto_region 12 with ((at_builtin; refine wpList_append_run rfl _ _ _ rfl (.slice a m c) (.slice (some ⟨w.heap.size, 0, none⟩) 1 1) (.slice a2 (m + 1) k2) w' rfl rfl HRUN.out ?_))
    obtain ⟨ho, F1, hF1, vi1, vo1, h1⟩ := HE1.out
    generalize w'.setCell ⟨b, 1, none⟩ (.slice a2 (m + 1) k2) = w1 at *
    have H1 := Lib.hid h1
    have HO1 := Lib.hid ho
    have HF1 := Lib.hid hF1
    have f3b := h1.free 10
    have e3 := h1.cell 10 (v := .bool t.sent) rfl
    clear h1 ho hF1 HE1 d1' f1' f1 f10 HRUN hnc hcm hd c1 c10 c4
    go_wp2
    go_ret
    exact ⟨rfl, EndU.step HO1.out HF1.out (EndU.set H1.out 10 (.bool true) rfl rfl OK.out rfl)⟩
  · have hd : decide ((t.out.length : Int) < 65536) = false := by rw [decide_eq_false_iff_not]; omega
    have hT : sendT t x = { t with sent := true } := by unfold sendT; rw [if_neg hlt]
    have H := Lib.hid h
    rw [hT] at OK ⊢
    have HDD : NoRoom t.out.length := hlt
    clear hT h hr hlt hlo hnc hcm hd
    generalize t.out.length = m at *
    go_enter Tryz.func101, Tryz.ntmps101
    go_upto_region 10 with (fail)
    have hd := HDD.dec
    clear hvx hw'
    go_wp2
    go_ret
    exact ⟨rfl, EndU.set H.out 10 (.bool true) rfl rfl OK.out rfl⟩

set_option maxRecDepth 100000 in
set_option maxHeartbeats 4000000 in
theorem refWrite_1 (w : World) (b : Nat) (F : Nat → Prop) (t : US) (vi vo : Value) (h : HR w b F t vi vo) (off n v : Int) (hv : In64 v) (hk : plK t off n = 1) :
    Calls Tryz.prog 101 #[.pointer (some ⟨b, 0, none⟩), .int .u64 off, .int .i64 n, .int .u64 v] w (TellR w b F (.bool true) (wrT t (v % 256) 1)) := by
  have v0 := hv.1
  have x0 : 0 ≤ v % 256 := by omega
  have x1 : v % 256 < 256 := by omega
  have hw' : IntKind.u8.wrap (v % 256) = v % 256 := by rw [wrap8 _ x0]; omega
  have OK := Lib.hid (wrT_ok h.ok (v % 256) x0 x1 1)
  obtain ⟨x, hvx⟩ : ∃ x, v % 256 = x := ⟨_, rfl⟩
  rw [hvx] at x0 x1 hw' OK ⊢
  clear hv
  obtain ⟨rfl, rfl, hL⟩ := plK_inv hk (by decide)
  have hL := hL (by decide)
  change Calls _ _ #[_, .int .u64 1, _, _] _ _
  clear hk
  have c4 := h.cell 4 (v := .int .u8 t.lcr) rfl
  have c2 := h.cell 2 (v := .int .u8 t.ier) rfl
  have c10 := h.cell 10 (v := .bool t.sent) rfl
  have f2 := h.free 2
  have f10 := h.free 10
  obtain ⟨i0, i1⟩ := h.ok.ier
  change Calls _ _ _ _ (TellR w b F (.bool true) (ierT t x))
  replace OK : Hid (ierT t x).ok := OK
  by_cases hA : t.ier / 2 % 2 = 1
  · have hT := ierT_0 (t := t) (x := x) (fun h => h.1 hA)
    have H := Lib.hid h
    rw [hT] at OK ⊢
    clear hT h
    generalize t.ier = i at *
    go_enter Tryz.func101, Tryz.ntmps101
    go_wp2
    go_ret
    exact ⟨rfl, EndU.set H.out 2 (.int .u8 (x % 16)) rfl rfl OK.out rfl⟩
  · have ha : t.ier / 2 % 2 = 0 := by omega
    by_cases hB : x / 2 % 2 = 1
    · have hT := ierT_1 (t := t) (x := x) hA hB
      have H1 := Lib.hid (h.set 10 (.bool true) (t' := { t with sent := true }) rfl rfl (ok_sent h.ok true) rfl)
      have HO1 := Lib.hid ((Only.refl F w).setCell (p := ⟨b, 10, none⟩) (.inl h.fb) (.bool true))
      rw [hT] at OK ⊢
      clear hT h hA
      generalize t.ier = i at *
      go_enter Tryz.func101, Tryz.ntmps101
      go_wp2
      go_ret
      exact ⟨rfl, EndU.step HO1.out (fun i hi => .inl hi) (EndU.set H1.out 2 (.int .u8 (x % 16)) rfl rfl OK.out rfl)⟩
    · have hT := ierT_0 (t := t) (x := x) (fun h => hB h.2)
      have H := Lib.hid h
      have hb : (x / 2 % 2 == 1) = false := by simpa using hB
      rw [hT] at OK ⊢
      clear hT h hA hB
      generalize t.ier = i at *
      go_enter Tryz.func101, Tryz.ntmps101
      go_wp2
      go_ret
      exact ⟨rfl, EndU.set H.out 2 (.int .u8 (x % 16)) rfl rfl OK.out rfl⟩

set_option maxRecDepth 100000 in
set_option maxHeartbeats 4000000 in
theorem refWrite_2 (w : World) (b : Nat) (F : Nat → Prop) (t : US) (vi vo : Value) (h : HR w b F t vi vo) (off n v : Int) (hv : In64 v) (hk : plK t off n = 2) :
    Calls Tryz.prog 101 #[.pointer (some ⟨b, 0, none⟩), .int .u64 off, .int .i64 n, .int .u64 v] w (TellR w b F (.bool true) (wrT t (v % 256) 2)) := by
  have v0 := hv.1
  have x0 : 0 ≤ v % 256 := by omega
  have x1 : v % 256 < 256 := by omega
  have hw' : IntKind.u8.wrap (v % 256) = v % 256 := by rw [wrap8 _ x0]; omega
  have OK := Lib.hid (wrT_ok h.ok (v % 256) x0 x1 2)
  obtain ⟨x, hvx⟩ : ∃ x, v % 256 = x := ⟨_, rfl⟩
  rw [hvx] at x0 x1 hw' OK ⊢
  clear hv
  obtain ⟨rfl, rfl, hL⟩ := plK_inv hk (by decide)
  clear hL
  change Calls _ _ #[_, .int .u64 2, _, _] _ _
  clear hk
  have c4 := h.cell 4 (v := .int .u8 t.lcr) rfl
  have c3 := h.cell 3 (v := .int .u8 t.fcr) rfl
  have c0 := h.cell 0 (v := vi) rfl
  have f3 := h.free 3
  have f0 := h.free 0
  change Calls _ _ _ _ (TellR w b F (.bool true) (fcrT t x))
  have OK1 := (wrT_ok h.ok x x0 x1 2)
  have okf : ({ t with fcr := x % 2 } : US).ok := ⟨h.ok.li, h.ok.lo, h.ok.ier, OK1.fcr, h.ok.lcr, h.ok.mcr, h.ok.scr, h.ok.dl, h.ok.dm⟩
  have H1 := h.set 3 (.int .u8 (x % 2)) (t' := { t with fcr := x % 2 }) rfl rfl okf rfl
  have HO1 := Lib.hid ((Only.refl F w).setCell (p := ⟨b, 3, none⟩) (.inl h.fb) (.int .u8 (x % 2)))
  have E1 := Lib.hid (EndU.set h 3 (.int .u8 (x % 2)) (t' := { t with fcr := x % 2 }) rfl rfl okf rfl)
  replace OK : Hid (fcrT t x).ok := OK
  by_cases hB : x / 2 % 2 = 1
  · have E2 := Lib.hid (EndU.turnIn (t' := { t with inn := [], fcr := x % 2 }) H1 (Only.refl _ _) (RowB.nil _) (fun g hg => by cases hg) rfl (ok_inn okf (by simp)) rfl)
    have hT : fcrT t x = { t with inn := [], fcr := x % 2 } := fcrT_1 hB
    rw [hT]
    clear hT h OK OK1 okf H1 E1
    go_enter Tryz.func101, Tryz.ntmps101
    go_wp2
    go_ret
    exact ⟨rfl, EndU.step HO1.out (fun i hi => .inl hi) E2.out⟩
  · have hT : fcrT t x = { t with fcr := x % 2 } := fcrT_0 hB
    have hb : (x / 2 % 2 == 1) = false := by simpa using hB
    rw [hT]
    clear hT h OK OK1 okf H1 hB
    go_enter Tryz.func101, Tryz.ntmps101
    go_wp2
    go_ret
    exact ⟨rfl, E1.out⟩

set_option maxRecDepth 100000 in
set_option maxHeartbeats 4000000 in
theorem refWrite_3 (w : World) (b : Nat) (F : Nat → Prop) (t : US) (vi vo : Value) (h : HR w b F t vi vo) (off n v : Int) (hv : In64 v) (hk : plK t off n = 3) :
    Calls Tryz.prog 101 #[.pointer (some ⟨b, 0, none⟩), .int .u64 off, .int .i64 n, .int .u64 v] w (TellR w b F (.bool true) (wrT t (v % 256) 3)) := by
  have v0 := hv.1
  have x0 : 0 ≤ v % 256 := by omega
  have x1 : v % 256 < 256 := by omega
  have hw' : IntKind.u8.wrap (v % 256) = v % 256 := by rw [wrap8 _ x0]; omega
  have OK := Lib.hid (wrT_ok h.ok (v % 256) x0 x1 3)
  obtain ⟨x, hvx⟩ : ∃ x, v % 256 = x := ⟨_, rfl⟩
  rw [hvx] at x0 x1 hw' OK ⊢
  clear hv
  obtain ⟨rfl, rfl, hL⟩ := plK_inv hk (by decide)
  clear hL
  change Calls _ _ #[_, .int .u64 3, _, _] _ _
  clear hk
  have c4 := h.cell 4 (v := .int .u8 t.lcr) rfl
  have cF := h.cell 4 (v := .int .u8 t.lcr) rfl
  have fF := h.free 4
  have E := Lib.hid (EndU.set h 4 (.int .u8 x) (t' := { t with lcr := x }) rfl rfl OK.out rfl)
  change Calls _ _ _ _ (TellR w b F (.bool true) { t with lcr := x })
  clear h OK
  go_enter Tryz.func101, Tryz.ntmps101
  go_wp2
  go_ret
  exact ⟨rfl, E.out⟩

set_option maxRecDepth 100000 in
set_option maxHeartbeats 4000000 in
theorem refWrite_4 (w : World) (b : Nat) (F : Nat → Prop) (t : US) (vi vo : Value) (h : HR w b F t vi vo) (off n v : Int) (hv : In64 v) (hk : plK t off n = 4) :
    Calls Tryz.prog 101 #[.pointer (some ⟨b, 0, none⟩), .int .u64 off, .int .i64 n, .int .u64 v] w (TellR w b F (.bool true) (wrT t (v % 256) 4)) := by
  have v0 := hv.1
  have x0 : 0 ≤ v % 256 := by omega
  have x1 : v % 256 < 256 := by omega
  have hw' : IntKind.u8.wrap (v % 256) = v % 256 := by rw [wrap8 _ x0]; omega
  have OK := Lib.hid (wrT_ok h.ok (v % 256) x0 x1 4)
  obtain ⟨x, hvx⟩ : ∃ x, v % 256 = x := ⟨_, rfl⟩
  rw [hvx] at x0 x1 hw' OK ⊢
  clear hv
  obtain ⟨rfl, rfl, hL⟩ := plK_inv hk (by decide)
  clear hL
  change Calls _ _ #[_, .int .u64 4, _, _] _ _
  clear hk
  have c4 := h.cell 4 (v := .int .u8 t.lcr) rfl
  have cF := h.cell 5 (v := .int .u8 t.mcr) rfl
  have fF := h.free 5
  have E := Lib.hid (EndU.set h 5 (.int .u8 (x % 32)) (t' := { t with mcr := (x % 32) }) rfl rfl OK.out rfl)
  change Calls _ _ _ _ (TellR w b F (.bool true) { t with mcr := (x % 32) })
  clear h OK
  go_enter Tryz.func101, Tryz.ntmps101
  go_wp2
  go_ret
  exact ⟨rfl, E.out⟩

set_option maxRecDepth 100000 in
set_option maxHeartbeats 4000000 in
theorem refWrite_5 (w : World) (b : Nat) (F : Nat → Prop) (t : US) (vi vo : Value) (h : HR w b F t vi vo) (off n v : Int) (hv : In64 v) (hk : plK t off n = 5) :
    Calls Tryz.prog 101 #[.pointer (some ⟨b, 0, none⟩), .int .u64 off, .int .i64 n, .int .u64 v] w (TellR w b F (.bool true) (wrT t (v % 256) 5)) := by
  have v0 := hv.1
  have x0 : 0 ≤ v % 256 := by omega
  have x1 : v % 256 < 256 := by omega
  have hw' : IntKind.u8.wrap (v % 256) = v % 256 := by rw [wrap8 _ x0]; omega
  have OK := Lib.hid (wrT_ok h.ok (v % 256) x0 x1 5)
  obtain ⟨x, hvx⟩ : ∃ x, v % 256 = x := ⟨_, rfl⟩
  rw [hvx] at x0 x1 hw' OK ⊢
  clear hv
  obtain ⟨rfl, rfl, hL⟩ := plK_inv hk (by decide)
  clear hL
  change Calls _ _ #[_, .int .u64 5, _, _] _ _
  clear hk
  have c4 := h.cell 4 (v := .int .u8 t.lcr) rfl
  have H := Lib.hid h
  change Calls _ _ _ _ (TellR w b F (.bool true) t)
  clear h OK
  go_enter Tryz.func101, Tryz.ntmps101
  go_wp2
  go_ret
  exact ⟨rfl, EndU.refl H.out⟩

set_option maxRecDepth 100000 in
set_option maxHeartbeats 4000000 in
theorem refWrite_6 (w : World) (b : Nat) (F : Nat → Prop) (t : US) (vi vo : Value) (h : HR w b F t vi vo) (off n v : Int) (hv : In64 v) (hk : plK t off n = 6) :
    Calls Tryz.prog 101 #[.pointer (some ⟨b, 0, none⟩), .int .u64 off, .int .i64 n, .int .u64 v] w (TellR w b F (.bool true) (wrT t (v % 256) 6)) := by
  have v0 := hv.1
  have x0 : 0 ≤ v % 256 := by omega
  have x1 : v % 256 < 256 := by omega
  have hw' : IntKind.u8.wrap (v % 256) = v % 256 := by rw [wrap8 _ x0]; omega
  have OK := Lib.hid (wrT_ok h.ok (v % 256) x0 x1 6)
  obtain ⟨x, hvx⟩ : ∃ x, v % 256 = x := ⟨_, rfl⟩
  rw [hvx] at x0 x1 hw' OK ⊢
  clear hv
  obtain ⟨rfl, rfl, hL⟩ := plK_inv hk (by decide)
  clear hL
  change Calls _ _ #[_, .int .u64 6, _, _] _ _
  clear hk
  have c4 := h.cell 4 (v := .int .u8 t.lcr) rfl
  have H := Lib.hid h
  change Calls _ _ _ _ (TellR w b F (.bool true) t)
  clear h OK
  go_enter Tryz.func101, Tryz.ntmps101
  go_wp2
  go_ret
  exact ⟨rfl, EndU.refl H.out⟩

set_option maxRecDepth 100000 in
set_option maxHeartbeats 4000000 in
theorem refWrite_7 (w : World) (b : Nat) (F : Nat → Prop) (t : US) (vi vo : Value) (h : HR w b F t vi vo) (off n v : Int) (hv : In64 v) (hk : plK t off n = 7) :
    Calls Tryz.prog 101 #[.pointer (some ⟨b, 0, none⟩), .int .u64 off, .int .i64 n, .int .u64 v] w (TellR w b F (.bool true) (wrT t (v % 256) 7)) := by
  have v0 := hv.1
  have x0 : 0 ≤ v % 256 := by omega
  have x1 : v % 256 < 256 := by omega
  have hw' : IntKind.u8.wrap (v % 256) = v % 256 := by rw [wrap8 _ x0]; omega
  have OK := Lib.hid (wrT_ok h.ok (v % 256) x0 x1 7)
  obtain ⟨x, hvx⟩ : ∃ x, v % 256 = x := ⟨_, rfl⟩
  rw [hvx] at x0 x1 hw' OK ⊢
  clear hv
  obtain ⟨rfl, rfl, hL⟩ := plK_inv hk (by decide)
  clear hL
  change Calls _ _ #[_, .int .u64 7, _, _] _ _
  clear hk
  have c4 := h.cell 4 (v := .int .u8 t.lcr) rfl
  have cF := h.cell 6 (v := .int .u8 t.scr) rfl
  have fF := h.free 6
  have E := Lib.hid (EndU.set h 6 (.int .u8 x) (t' := { t with scr := x }) rfl rfl OK.out rfl)
  change Calls _ _ _ _ (TellR w b F (.bool true) { t with scr := x })
  clear h OK
  go_enter Tryz.func101, Tryz.ntmps101
  go_wp2
  go_ret
  exact ⟨rfl, E.out⟩

set_option maxRecDepth 100000 in
set_option maxHeartbeats 4000000 in
theorem refWrite_8 (w : World) (b : Nat) (F : Nat → Prop) (t : US) (vi vo : Value) (h : HR w b F t vi vo) (off n v : Int) (hv : In64 v) (hk : plK t off n = 8) :
    Calls Tryz.prog 101 #[.pointer (some ⟨b, 0, none⟩), .int .u64 off, .int .i64 n, .int .u64 v] w (TellR w b F (.bool true) (wrT t (v % 256) 8)) := by
  have v0 := hv.1
  have x0 : 0 ≤ v % 256 := by omega
  have x1 : v % 256 < 256 := by omega
  have hw' : IntKind.u8.wrap (v % 256) = v % 256 := by rw [wrap8 _ x0]; omega
  have OK := Lib.hid (wrT_ok h.ok (v % 256) x0 x1 8)
  obtain ⟨x, hvx⟩ : ∃ x, v % 256 = x := ⟨_, rfl⟩
  rw [hvx] at x0 x1 hw' OK ⊢
  clear hv
  obtain ⟨rfl, rfl, hL⟩ := plK_inv2 hk (by decide) (by decide)
  change Calls _ _ #[_, .int .u64 0, _, _] _ _
  clear hk
  have c4 := h.cell 4 (v := .int .u8 t.lcr) rfl
  have cF := h.cell 7 (v := .int .u8 t.dl) rfl
  have fF := h.free 7
  have E := Lib.hid (EndU.set h 7 (.int .u8 x) (t' := { t with dl := x }) rfl rfl OK.out rfl)
  change Calls _ _ _ _ (TellR w b F (.bool true) { t with dl := x })
  clear h OK
  go_enter Tryz.func101, Tryz.ntmps101
  go_wp2
  go_ret
  exact ⟨rfl, E.out⟩

set_option maxRecDepth 100000 in
set_option maxHeartbeats 4000000 in
theorem refWrite_9 (w : World) (b : Nat) (F : Nat → Prop) (t : US) (vi vo : Value) (h : HR w b F t vi vo) (off n v : Int) (hv : In64 v) (hk : plK t off n = 9) :
    Calls Tryz.prog 101 #[.pointer (some ⟨b, 0, none⟩), .int .u64 off, .int .i64 n, .int .u64 v] w (TellR w b F (.bool true) (wrT t (v % 256) 9)) := by
  have v0 := hv.1
  have x0 : 0 ≤ v % 256 := by omega
  have x1 : v % 256 < 256 := by omega
  have hw' : IntKind.u8.wrap (v % 256) = v % 256 := by rw [wrap8 _ x0]; omega
  have OK := Lib.hid (wrT_ok h.ok (v % 256) x0 x1 9)
  obtain ⟨x, hvx⟩ : ∃ x, v % 256 = x := ⟨_, rfl⟩
  rw [hvx] at x0 x1 hw' OK ⊢
  clear hv
  obtain ⟨rfl, rfl, hL⟩ := plK_inv2 hk (by decide) (by decide)
  change Calls _ _ #[_, .int .u64 1, _, _] _ _
  clear hk
  have c4 := h.cell 4 (v := .int .u8 t.lcr) rfl
  have cF := h.cell 8 (v := .int .u8 t.dm) rfl
  have fF := h.free 8
  have E := Lib.hid (EndU.set h 8 (.int .u8 x) (t' := { t with dm := x }) rfl rfl OK.out rfl)
  change Calls _ _ _ _ (TellR w b F (.bool true) { t with dm := x })
  clear h OK
  go_enter Tryz.func101, Tryz.ntmps101
  go_wp2
  go_ret
  exact ⟨rfl, E.out⟩

theorem refWrite_out (w : World) (b : Nat) (F : Nat → Prop) (t : US) (vi vo : Value) (h : HR w b F t vi vo) (off n v : Int) (ho : In64 off) (hk : plK t off n = 10) :
    Calls Tryz.prog 101 #[.pointer (some ⟨b, 0, none⟩), .int .u64 off, .int .i64 n, .int .u64 v] w (TellR w b F (.bool false) t) := by
  have h0 := ho.1
  have H := Lib.hid h
  have hq := plK_ten hk h0
  clear h ho hk
  by_cases hn : n = 1
  · subst hn
    have h8 : 8 ≤ off := hq.resolve_left (fun h => h rfl)
    have h7 : (7 : Int) < off := by omega
    clear hq
    go_enter Tryz.func101, Tryz.ntmps101
    go_wp2
    go_ret
    exact ⟨rfl, EndU.refl H.out⟩
  · have hb : (n == 1) = false := by simpa using hn
    have hb2 : (n != 1) = true := by simpa [bne] using hn
    clear hn hq
    go_enter Tryz.func101, Tryz.ntmps101
    go_wp2
    go_ret
    exact ⟨rfl, EndU.refl H.out⟩
theorem refWrite_any (w : World) (b : Nat) (F : Nat → Prop) (t : US) (h : UR w b F t) (off n v : Int) (ho : In64 off) (hv : In64 v) :
    Calls Tryz.prog 101 #[.pointer (some ⟨b, 0, none⟩), .int .u64 off, .int .i64 n, .int .u64 v] w (TellR w b F (.bool (okK (plK t off n))) (wrT t (v % 256) (plK t off n))) := by
  obtain ⟨vi, vo, h⟩ := h
  rcases ten (plK_le t off n) with hk | hk | hk | hk | hk | hk | hk | hk | hk | hk | hk
  · rw [hk]; exact refWrite_0 w b F t vi vo h off n v hv hk
  · rw [hk]; exact refWrite_1 w b F t vi vo h off n v hv hk
  · rw [hk]; exact refWrite_2 w b F t vi vo h off n v hv hk
  · rw [hk]; exact refWrite_3 w b F t vi vo h off n v hv hk
  · rw [hk]; exact refWrite_4 w b F t vi vo h off n v hv hk
  · rw [hk]; exact refWrite_5 w b F t vi vo h off n v hv hk
  · rw [hk]; exact refWrite_6 w b F t vi vo h off n v hv hk
  · rw [hk]; exact refWrite_7 w b F t vi vo h off n v hv hk
  · rw [hk]; exact refWrite_8 w b F t vi vo h off n v hv hk
  · rw [hk]; exact refWrite_9 w b F t vi vo h off n v hv hk
  · rw [hk]; exact refWrite_out w b F t vi vo h off n v ho hk

end Go.Proofs.YtbcnkhfpogglmaaGreatDoor.U6

namespace Go.Proofs.YtbcnkhfpogglmaaGreatDoor
open Go.RowKit
set_option linter.unusedVariables false
set_option maxRecDepth 100000

/-- What lies round the document's plic, and round its clint. -/
def fqP (g : Nat) (c : C4.Cl) (vp : Value) : Fr 4 := ⟨#[.pointer (some ⟨g, 0, none⟩), .int .u64 (C4.sI c.s), .int .u64 c.c, .int .u64 c.n], #[vp], 107, rfl⟩
def fqC (g : Nat) (p : P5.PS) (vp : Value) : Fr 1 := ⟨#[.pointer (some ⟨g, 0, none⟩)], varr 194 (P5.cellR p) ++ #[vp], 107, rfl⟩
def refRow (g : Nat) (c : C4.Cl) (p : P5.PS) (vp : Value) : Array Value := (fqP g c vp).all (varr 194 (P5.cellR p))
theorem refRow_c (g : Nat) (c : C4.Cl) (p : P5.PS) (vp : Value) : refRow g c p vp = (fqC g p vp).all #[.int .u64 (C4.sI c.s), .int .u64 c.c, .int .u64 c.n] := by
  unfold refRow Fr.all fqP fqC
  simp only
  generalize varr 194 (P5.cellR p) = row
  have e : (#[.pointer (some ⟨g, 0, none⟩), .int .u64 (C4.sI c.s), .int .u64 c.c, .int .u64 c.n] : Array Value) = #[.pointer (some ⟨g, 0, none⟩)] ++ #[.int .u64 (C4.sI c.s), .int .u64 c.c, .int .u64 c.n] := by simp
  rw [e]
  generalize (#[.pointer (some ⟨g, 0, none⟩)] : Array Value) = x
  generalize (#[.int .u64 (C4.sI c.s), .int .u64 c.c, .int .u64 c.n] : Array Value) = y
  rw [Array.append_assoc]
def RefAt (w : World) (b g : Nat) (c : C4.Cl) (p : P5.PS) (vp : Value) : Prop := w.heap[b]? = some (.cells (refRow g c p vp) 107 (0, 0))
section
variable {w : World} {b g : Nat} {c : C4.Cl} {p : P5.PS} {vp : Value}
theorem RefAt.lt (h : RefAt w b g c p vp) : b < w.heap.size := (Array.getElem?_eq_some_iff.1 h).1
theorem RefAt.keeps {w' : World} {T : Nat → Prop} (h : RefAt w b g c p vp) (o : Only T w w') (hb : ¬ T b) : RefAt w' b g c p vp := o.keeps hb h
theorem RefAt.free (h : RefAt w b g c p vp) (k : Nat) : w.frozen? ⟨b, k, none⟩ = false := frozen_of_row w b k _ _ h
theorem RefAt.plic (h : RefAt w b g c p vp) : P5.In.RefP (fqP g c vp) w b p := h
theorem RefAt.clint (h : RefAt w b g c p vp) (ok : c.ok) : C4.In.RefC (fqC g p vp) w b c := ⟨by rw [← refRow_c]; exact h, ok⟩
theorem RefAt.ofPlic {p' : P5.PS} (h : P5.In.RefP (fqP g c vp) w b p') : RefAt w b g c p' vp := h
theorem RefAt.ofClint {c' : C4.Cl} (h : C4.In.RefC (fqC g p vp) w b c') : RefAt w b g c' p vp := by
  unfold RefAt; rw [refRow_c]; exact h.1
theorem RefAt.ram_ (h : RefAt w b g c p vp) : w.cell? ⟨b, 0, none⟩ = some (.pointer (some ⟨g, 0, none⟩)) := by
  rw [cell_of_row w b _ _ _ _ h]; exact Fr.ahead _ _ 0 (by omega)
theorem RefAt.clint_ (h : RefAt w b g c p vp) : w.cell? ⟨b, 1, none⟩ = some (.int .u64 (C4.sI c.s)) ∧ w.cell? ⟨b, 2, none⟩ = some (.int .u64 c.c) ∧ w.cell? ⟨b, 3, none⟩ = some (.int .u64 c.n) := by
  refine ⟨?_, ?_, ?_⟩
  · rw [cell_of_row w b _ _ _ _ h]; exact Fr.ahead _ _ 1 (by omega)
  · rw [cell_of_row w b _ _ _ _ h]; exact Fr.ahead _ _ 2 (by omega)
  · rw [cell_of_row w b _ _ _ _ h]; exact Fr.ahead _ _ 3 (by omega)
theorem RefAt.uarts_ (h : RefAt w b g c p vp) : w.cell? ⟨b, 198, none⟩ = some vp := by
  rw [cell_of_row w b _ _ _ _ h]
  unfold refRow
  rw [Fr.behind _ _ 0 198 (by rw [varr_size])]
  rfl
theorem RefAt.range (h : RefAt w b g c p vp) : w.rangeAt b 4 (varr 194 (P5.cellR p)).toList := Fr.range (fqP g c vp) h
theorem RefAt.setUarts (h : RefAt w b g c p vp) (v : Value) : RefAt (w.setCell ⟨b, 198, none⟩ v) b g c p v := by
  unfold RefAt
  rw [heap_setCell_same w b _ _ _ _ h]
  unfold refRow
  rw [Fr.setBehind _ _ 0 198 v (by rw [varr_size])]
  rfl
end
/-- The row of the uarts' pointers. -/
def UartsAt (w : World) (b : Nat) (K : Nat → Nat) (vp : Value) (ul : List Nat) : Prop :=
  (ul = [] ∧ vp = .slice none 0 0) ∨ ∃ gp cap, vp = .slice (some ⟨gp, 0, none⟩) ul.length cap ∧ ul.length ≤ cap ∧ K gp = 1 ∧ ¬ gp = b ∧ Lays w gp (ul.map fun u => .pointer (some ⟨u, 0, none⟩))
theorem UartsAt.keeps {w w' : World} {b : Nat} {K K' : Nat → Nat} {vp : Value} {ul : List Nat} {T : Nat → Prop} (h : UartsAt w b K vp ul) (o : Only T w w') (hT : ∀ i, T i → ¬ K i = 1 ∨ i = b) (hK : ∀ i, i < w.heap.size → K' i = K i) : UartsAt w' b K' vp ul := by
  rcases h with h | ⟨gp, cap, h1, h2, h3, h4, h5⟩
  · exact .inl h
  · refine .inr ⟨gp, cap, h1, h2, by rw [hK _ h5.lt]; exact h3, h4, h5.keeps o fun ht => ?_⟩
    rcases hT _ ht with h6 | h6
    · exact h6 h3
    · exact h4 h6
theorem UartsAt.len {w : World} {b : Nat} {K : Nat → Nat} {vp : Value} {ul : List Nat} (h : UartsAt w b K vp ul) : ∃ a c, vp = .slice a ul.length c ∧ ul.length ≤ c := by
  rcases h with ⟨rfl, rfl⟩ | ⟨gp, cap, h1, h2, _⟩
  · exact ⟨none, 0, rfl, Nat.le_refl _⟩
  · exact ⟨_, cap, h1, h2⟩
theorem UartsAt.cells {w : World} {b : Nat} {K : Nat → Nat} {vp : Value} {ul : List Nat} (h : UartsAt w b K vp ul) {k : Nat} (hk : k < ul.length) : ∃ gp cap, vp = .slice (some ⟨gp, 0, none⟩) ul.length cap ∧ ul.length ≤ cap ∧ w.cell? ⟨gp, k, none⟩ = some (.pointer (some ⟨ul.getD k 0, 0, none⟩)) := by
  rcases h with ⟨rfl, _⟩ | ⟨gp, cap, h1, h2, h3, h4, h5⟩
  · simp at hk
  · refine ⟨gp, cap, h1, h2, h5.cell ?_⟩
    rw [List.getElem?_map, List.getElem?_eq_getElem hk, List.getD_eq_getElem?_getD, List.getElem?_eq_getElem hk]; rfl
/-- The document's memory, its blocks labelled 2. -/
def MemR (w : World) (g : Nat) (K : Nat → Nat) (size : Int) (N : Nat) (m : Int → Int) : Prop := K g = 2 ∧ ∃ gl, K gl = 2 ∧ M3.RefMem w g gl 2147483648 size N m
theorem U6.UR.keeps {w w' : World} {b : Nat} {F : Nat → Prop} {t : U6.US} {T : Nat → Prop} (h : U6.UR w b F t) (o : Only T w w') (hd : ∀ i, F i → ¬ T i) : U6.UR w' b F t := by
  obtain ⟨vi, vo, h⟩ := h; exact ⟨vi, vo, h.keeps o hd⟩
theorem U6.UR.mono {w : World} {b : Nat} {F G : Nat → Prop} {t : U6.US} (h : U6.UR w b F t) (hs : ∀ i, F i → G i) (hl : ∀ i, G i → i < w.heap.size) : U6.UR w b G t := by
  obtain ⟨vi, vo, h⟩ := h; exact ⟨vi, vo, h.mono hs hl⟩
theorem U6.UR.lt {w : World} {b : Nat} {F : Nat → Prop} {t : U6.US} (h : U6.UR w b F t) : ∀ i, F i → i < w.heap.size := by
  obtain ⟨vi, vo, h⟩ := h; exact h.lt
/-- The document's bus st stands in block b; its memory's list is no longer than N. -/
structure BusR (w : World) (b : Nat) (K : Nat → Nat) (g : Nat) (vp : Value) (ul : List Nat) (N : Nat) (st : BS) : Prop where
  obj : RefAt w b g st.c st.p vp
  uarts : UartsAt w b K vp ul
  mem : MemR w g K st.size N st.m
  fits : M3.Fits 2147483648 st.size
  uart : ∀ j, j < ul.length → U6.UR w (ul.getD j 0) (fun i => K i = 3 + j) (st.us.getD j U6.u0)
  len : st.us.length = ul.length
  le : ul.length ≤ 8
  kb : K b = 1
  lt : ∀ i, ¬ K i = 0 → i < w.heap.size
  cok : st.c.ok
def RefBE (w : World) (b : Nat) (K : Nat → Nat) (g : Nat) (vp : Value) (ul : List Nat) (N : Nat) (r : Value) (st' : BS) (e : Ending) (w' : World) : Prop :=
  e = .returned r ∧ Only (fun i => ¬ K i = 0) w w' ∧ ∃ K', Grow w K K' ∧ BusR w' b K' g vp ul N st'
section
variable {w w' : World} {b g : Nat} {K : Nat → Nat} {vp : Value} {ul : List Nat} {N : Nat} {st : BS}
theorem BusR.keeps {T : Nat → Prop} (h : BusR w b K g vp ul N st) (o : Only T w w') (hT : ∀ i, ¬ K i = 0 → ¬ T i) : BusR w' b K g vp ul N st := by
  obtain ⟨hg, gl, hl, hm⟩ := h.mem
  exact ⟨h.obj.keeps o (hT _ (by rw [h.kb]; omega)), h.uarts.keeps o (fun i ht => .inl fun hk => hT i (by omega) ht) (fun _ _ => rfl), ⟨hg, gl, hl, hm.keeps o (hT _ (by omega)) (hT _ (by omega))⟩, h.fits,
    fun j hj => (h.uart j hj).keeps o fun i hi => hT i (by have : K i = 3 + j := hi; omega), h.len, h.le, h.kb, fun i hi => Nat.lt_of_lt_of_le (h.lt i hi) o.size, h.cok⟩
theorem BusR.below (h : BusR w b K g vp ul N st) (o : Below w.heap.size w w') : BusR w' b K g vp ul N st := h.keeps (Only.of_below (fun _ => False) o) fun _ _ => id
theorem BusR.more {N' : Nat} (h : BusR w b K g vp ul N st) (hN : N ≤ N') : BusR w b K g vp ul N' st := by
  obtain ⟨hg, gl, hl, hm⟩ := h.mem
  exact ⟨h.obj, h.uarts, ⟨hg, gl, hl, hm.congr (fun _ => rfl) hN⟩, h.fits, h.uart, h.len, h.le, h.kb, h.lt, h.cok⟩
theorem BusR.end_same (h : BusR w b K g vp ul N st) {r : Value} (o : Below w.heap.size w w') : RefBE w b K g vp ul N r st (.returned r) w' := ⟨rfl, Only.of_below _ o, K, Grow.refl _ _, h.below o⟩
theorem BusR.setPlic (h : BusR w b K g vp ul N st) {p' : P5.PS} (o : Only (fun i => i = b) w w') (hp : P5.In.RefP (fqP g st.c vp) w' b p') : BusR w' b K g vp ul N { st with p := p' } := by
  have kb := h.kb
  obtain ⟨hg, gl, hl, hm⟩ := h.mem
  exact ⟨RefAt.ofPlic hp, h.uarts.keeps o (fun i hi => .inr hi) (fun _ _ => rfl), ⟨hg, gl, hl, hm.keeps o (fun e => by subst e; omega) (fun e => by subst e; omega)⟩, h.fits, fun j hj => (h.uart j hj).keeps o fun i hi e => by have : K i = 3 + j := hi; subst e; omega, h.len, h.le, h.kb,
    fun i hi => Nat.lt_of_lt_of_le (h.lt i hi) o.size, h.cok⟩
theorem BusR.setClint (h : BusR w b K g vp ul N st) {c' : C4.Cl} (o : Only (fun i => i = b) w w') (hp : C4.In.RefC (fqC g st.p vp) w' b c') : BusR w' b K g vp ul N { st with c := c' } := by
  have kb := h.kb
  obtain ⟨hg, gl, hl, hm⟩ := h.mem
  exact ⟨RefAt.ofClint hp, h.uarts.keeps o (fun i hi => .inr hi) (fun _ _ => rfl), ⟨hg, gl, hl, hm.keeps o (fun e => by subst e; omega) (fun e => by subst e; omega)⟩, h.fits, fun j hj => (h.uart j hj).keeps o fun i hi e => by have : K i = 3 + j := hi; subst e; omega, h.len, h.le, h.kb,
    fun i hi => Nat.lt_of_lt_of_le (h.lt i hi) o.size, hp.2⟩
/-- A part's call: all the others stand. -/
theorem BusR.part (h : BusR w b K g vp ul N st) {k : Nat} (hk : 2 ≤ k) (o : Only (fun i => K i = k) w w') {N' : Nat} {st' : BS} (hc : st'.c = st.c) (hp : st'.p = st.p) (hs : st'.size = st.size) (hlen : st'.us.length = st.us.length)
    (hm : MemR w' g (relabel w K k w') st.size N' st'.m) (hu : ∀ j, j < ul.length → U6.UR w' (ul.getD j 0) (fun i => relabel w K k w' i = 3 + j) (st'.us.getD j U6.u0)) : BusR w' b (relabel w K k w') g vp ul N' st' := by
  have kb := h.kb
  obtain ⟨size', m', c', p', us'⟩ := st'
  simp only at hc hp hs hlen hm hu
  subst hc hp hs
  exact ⟨h.obj.keeps o (by show ¬ K b = k; omega), h.uarts.keeps o (fun i hi => .inl (by show ¬ K i = 1; have : K i = k := hi; omega)) (relabel_grow w K k w'), hm, h.fits, hu, hlen.trans h.len, h.le, relabel_old h.lt (by omega) kb, relabel_lt h.lt o.size, h.cok⟩
/-- A uart turned. -/
theorem BusR.setUart (h : BusR w b K g vp ul N st) {j : Nat} (hj : j < ul.length) {t' : U6.US} (k : U6.EndU U6.cellsR 111 w (ul.getD j 0) (fun i => K i = 3 + j) t' w') : BusR w' b (relabel w K (3 + j) w') g vp ul N { st with us := st.us.set j t' } := by
  obtain ⟨o, F', hF', hu⟩ := k
  have hu : U6.UR w' (ul.getD j 0) F' t' := hu
  obtain ⟨hg, gl, hl, hm⟩ := h.mem
  refine h.part (by omega) o rfl rfl rfl (by simp) ⟨relabel_old h.lt (by omega) hg, gl, relabel_old h.lt (by omega) hl, hm.keeps o (by show ¬ K g = 3 + j; omega) (by show ¬ K gl = 3 + j; omega)⟩ ?_
  intro i hi
  by_cases e : i = j
  · subst e
    have e1 : (st.us.set i t').getD i U6.u0 = t' := by
      rw [List.getD_eq_getElem?_getD, List.getElem?_set_self (by rw [h.len]; exact hi)]; rfl
    rw [e1]
    exact hu.mono (fun x hx => relabel_new (hF' x hx) (hu.lt x hx)) fun x hx => relabel_in h.lt o.size (by omega) hx
  · have e1 : (st.us.set j t').getD i U6.u0 = st.us.getD i U6.u0 := by
      rw [List.getD_eq_getElem?_getD, List.getD_eq_getElem?_getD, List.getElem?_set_ne (fun e' => e e'.symm)]
    rw [e1]
    exact ((h.uart i hi).keeps o fun x hx => by show ¬ K x = 3 + j; have : K x = 3 + i := hx; omega).mono (fun x hx => relabel_old h.lt (by omega) hx) fun x hx => relabel_in h.lt o.size (by omega) hx
/-- The memory turned. -/
theorem BusR.setMem (h : BusR w b K g vp ul N st) {N' : Nat} {m' : Int → Int} {r : Bool} {e : Ending} (k : ∀ gl, M3.RefMem w g gl 2147483648 st.size N st.m → M3.MemEnd w g gl 2147483648 st.size N' m' r e w') : e = .returned (.bool r) ∧ Only (fun i => K i = 2) w w' ∧ BusR w' b (relabel w K 2 w') g vp ul N' { st with m := m' } := by
  obtain ⟨hg, gl, hl, hm⟩ := h.mem
  obtain ⟨he, o0, g', hg', hR⟩ := k gl hm
  obtain ⟨g2, hg2, hlt2, hR2⟩ := M3.RefMem.norm hR
  have o : Only (fun i => K i = 2) w w' := o0.mono fun i hi => .inl (by subst hi; exact hg)
  refine ⟨he, o, h.part (by omega) o rfl rfl rfl rfl ⟨relabel_old h.lt (by omega) hg, g2, ?_, hR2⟩ ?_⟩
  · rcases hg2 with rfl | rfl
    · rcases hg' with rfl | hg'
      · exact relabel_old h.lt (by omega) hl
      · exact relabel_new (.inr hg') hlt2
    · exact relabel_old h.lt (by omega) hg
  · intro i hi
    exact ((h.uart i hi).keeps o fun x hx => by show ¬ K x = 2; have : K x = 3 + i := hx; omega).mono (fun x hx => relabel_old h.lt (by omega) hx) fun x hx => relabel_in h.lt o.size (by omega) hx
end

end Go.Proofs.YtbcnkhfpogglmaaGreatDoor
