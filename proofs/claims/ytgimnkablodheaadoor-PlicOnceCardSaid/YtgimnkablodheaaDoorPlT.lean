/- Layer 5: the program's claim and New. -/
import Derived.Test.YtgimnkablodheaaDoorPlS
namespace Go.Proofs.YtgimnkablodheaaDoor
open Go.RowKit
set_option linter.unusedVariables false

/-- A plic at first. -/
def p0 : PS := ⟨fun _ => 0, fun _ => false, fun _ => false, fun _ => false, fun _ _ => false, fun _ => 0⟩
theorem p0_ok : p0.ok := ⟨rfl, fun _ => rfl, rfl, rfl, fun _ => by show (0 : Int) ≤ 0 ∧ (0 : Int) < 8; omega, fun _ => by show (0 : Int) ≤ 0 ∧ (0 : Int) < 8; omega⟩
def zerosQ : Array Value := #[.int .u32 0, .int .u32 0, .int .u32 0, .int .u8 0, .int .u8 0, .int .u8 0, .int .u8 0, .int .u8 0, .int .u8 0, .int .u8 0, .int .u8 0, .int .u8 0, .int .u8 0, .int .u8 0, .int .u8 0, .int .u8 0, .int .u8 0, .int .u8 0, .int .u8 0, .int .u8 0, .int .u8 0, .int .u8 0, .int .u8 0, .int .u8 0, .int .u8 0, .int .u8 0, .int .u8 0, .int .u8 0, .int .u8 0, .int .u8 0, .int .u8 0, .int .u8 0, .int .u8 0, .int .u8 0, .int .u8 0, .int .u32 0, .int .u32 0, .int .u8 0, .int .u8 0]
theorem zerosQ_def : (#[.int .u32 0, .int .u32 0, .int .u32 0, .int .u8 0, .int .u8 0, .int .u8 0, .int .u8 0, .int .u8 0, .int .u8 0, .int .u8 0, .int .u8 0, .int .u8 0, .int .u8 0, .int .u8 0, .int .u8 0, .int .u8 0, .int .u8 0, .int .u8 0, .int .u8 0, .int .u8 0, .int .u8 0, .int .u8 0, .int .u8 0, .int .u8 0, .int .u8 0, .int .u8 0, .int .u8 0, .int .u8 0, .int .u8 0, .int .u8 0, .int .u8 0, .int .u8 0, .int .u8 0, .int .u8 0, .int .u8 0, .int .u32 0, .int .u32 0, .int .u8 0, .int .u8 0] : Array Value) = zerosQ := rfl
theorem zerosQ_one : zerosQ.all (·.oneCell') = true := by unfold zerosQ; simp [Value.oneCell']
theorem varr_p0 : varr 39 (cellQ p0) = zerosQ := by kernel_rfl
set_option maxRecDepth 100000 in
theorem new_any (w : World) : Calls Tryd.prog 8 #[] w fun e w' => e = .returned (progPV p0) ∧ Below w.heap.size w w' := by
  unfold progPV
  rw [varr_p0]
  go_enter Tryd.func8, Tryd.ntmps8
  go_wp2_with (refine wpList_store_row rfl _ _ _ rfl w.heap.size _ rfl rfl 27 _ (heap_alloc_new w _) size_progP rfl zerosQ_one ?_)
  simp only [zerosQ_def]
  have h1 := setRow_heap (w.alloc (.cells zerosQ 27)) w.heap.size _ zerosQ 27 (0, 0) (heap_alloc_new w _)
  have hb : Below w.heap.size w ((w.alloc (.cells zerosQ 27)).setRow w.heap.size zerosQ) := below_setRow ((Below.refl _ _).alloc (Nat.le_refl _) _) (Nat.le_refl _) _
  refine bodyPost_ret (v := .agg zerosQ) (results_cell_row (show Tryd.f8.results = #[.cell 0 27] by kernel_rfl) _ _ w.heap.size 27 _ _ _ rfl h1 Tryd.underlying27 rfl size_progP) rfl ⟨rfl, hb⟩
set_option maxHeartbeats 2000000 in
theorem claim_any (w : World) (b : Nat) (t : PS) (h : ProgP w b t) (c : Int) (k : Nat) (hk : bestC t c = k) :
    Calls Tryd.prog 29 #[.pointer (some ⟨b, 0, none⟩), .int .i64 c] w (ProgEnd w b (.int .i64 k) (claimed t k)) := by
  have hle := bestC_le t c
  have hbest := fun w' => best_any w' t h.2 c
  rw [hk] at hbest
  unfold progPV at hbest
  have HBEST := Lib.hid hbest
  have HROW : Hid (w.heap[b]? = some (.cells (varr 39 (cellQ t)) 27 (0, 0))) := Lib.hid h.1
  have HSZ : Hid ((varr 39 (cellQ t)).size = 39) := Lib.hid (varr_size _ _)
  have H := Lib.hid h
  rw [hk] at hle
  clear h hk hbest
  generalize varr 39 (cellQ t) = row at *
  go_enter Tryd.func29, Tryd.ntmps29
  go_wp2_with (refine wpList_load_row rfl _ _ rfl b rfl 27 _ _ _ HROW.out Tryd.underlying27 rfl ?_ ?_; · exact size_progP.trans (by rw [HSZ.out]))
  refine (HBEST.out _).mono ?_
  rintro e w2 ⟨rfl, hb⟩
  have HB2 := Lib.hid hb
  have HP := Lib.hid (H.out.below hb)
  clear hb HROW HSZ HBEST H
  by_cases k0 : k = 0
  · subst k0
    have HC : Hid (claimed t 0 = t) := Lib.hid (by unfold claimed; rw [if_pos rfl])
    rw [HC.out]
    go_wp2
    go_ret
    exact ⟨rfl, Only.of_below _ HB2.out, HP.out⟩
  · have hk : (0 : Int) < (k : Int) := by omega
    have hk1 : 1 ≤ k := by omega
    have hk32 : k < 32 := by omega
    have HC : Hid (claimed t k = claimP t k) := Lib.hid (by unfold claimed; rw [if_neg k0])
    rw [HC.out]
    have c1 := HP.out.pend_
    have f1 := HP.out.free 1
    have H1 := Lib.hid (one_shl hk32)
    have H2 := Lib.hid (clr32 t.pend hk32)
    have H3 := Lib.hid (set32 t.busy hk32)
    clear k0
    go_wp2_with fail
    go_still_tail 9, (by kernel_rfl)
    change wpList _ _ _ _ _ w2.drew
    have HPD : Hid (ProgP w2.drew b t) := Lib.hid HP.out
    have HBD : Hid (Below w.heap.size w w2.drew) := Lib.hid HB2.out.drew
    have d0 : w2.drew.cell? ⟨b, 1, none⟩ = some (.int .u32 (bits32 t.pend)) := c1
    have d1 : w2.drew.frozen? ⟨b, 1, none⟩ = false := f1
    clear c1 f1
    generalize w2.drew = w3 at *
    have HN : Hid (ProgP (w3.setCell ⟨b, 1, none⟩ (.int .u32 (bits32 (upd t.pend k false)))) b (unpendP t k)) := Lib.hid (HPD.out.setPend _ (upd0 HPD.out.2.pend0 hk1 false))
    have HO : Hid (Only (fun i => i = b) w (w3.setCell ⟨b, 1, none⟩ (.int .u32 (bits32 (upd t.pend k false))))) := Lib.hid ((Only.of_below (fun i => i = b) HBD.out).setCell (p := ⟨b, 1, none⟩) (.inl rfl) _)
    have e1 := H1.out
    have e2 := H2.out
    go_wp2_with fail
    clear e1 e2 d0 d1
    generalize w3.setCell ⟨b, 1, none⟩ (.int .u32 (bits32 (upd t.pend k false))) = w4 at *
    have d2 : w4.cell? ⟨b, 2, none⟩ = some (.int .u32 (bits32 t.busy)) := HN.out.busy_
    have f2 := HN.out.free 2
    go_still_tail 9, (by kernel_rfl)
    change wpList _ _ _ _ _ w4.drew
    have HND : Hid (ProgP w4.drew b (unpendP t k)) := Lib.hid HN.out
    have HOD : Hid (Only (fun i => i = b) w w4.drew) := Lib.hid (HO.out.drewN 1)
    have g2 : w4.drew.cell? ⟨b, 2, none⟩ = some (.int .u32 (bits32 t.busy)) := d2
    have g3 : w4.drew.frozen? ⟨b, 2, none⟩ = false := f2
    clear d2 f2
    generalize w4.drew = w5 at *
    have HN2 : Hid (ProgP (w5.setCell ⟨b, 2, none⟩ (.int .u32 (bits32 (upd t.busy k true)))) b (claimP t k)) := Lib.hid (HND.out.setBusy (upd t.busy k true))
    have HO2 : Hid (Only (fun i => i = b) w (w5.setCell ⟨b, 2, none⟩ (.int .u32 (bits32 (upd t.busy k true))))) := Lib.hid (HOD.out.setCell (p := ⟨b, 2, none⟩) (.inl rfl) _)
    have e1 := H1.out
    have e3 := H3.out
    go_wp2
    go_ret
    exact ⟨rfl, HO2.out, by first | exact HN2.out | (rw [HC.out]; exact HN2.out)⟩

end Go.Proofs.YtgimnkablodheaaDoor
