/- Layer 5's laws: awake. -/
import Derived.Test.YtgimnkablodheaaDoorPlLaw
namespace Go.Proofs.YtgimnkablodheaaDoor
open Go.RowKit
set_option linter.unusedVariables false

def a1 : PS := wrT p0 (plcK 12 4) 5
def a2 : PS := wrT a1 (plcK 8192 4) 8
def a3 : PS := levelP a2 3 true
def a4 : PS := rdT a3 (plcK 2097156 4)
set_option maxHeartbeats 2000000 in
theorem awake_any (w : World) (ht : Tab w) : Calls Tryd.prog 14 #[] w fun e w' => e = .returned (.bool true) ∧ Below w.heap.size w w' := by
  have HT := Lib.hid ht
  clear ht
  go_enter Tryd.func14, Tryd.ntmps14
  go_wp2_with fail
  refine (new_is _).mono ?_
  rintro e v1 ⟨rfl, hb⟩
  have HB := Lib.hid (hb)
  clear hb
  go_wp2_with (refine wpList_store_row rfl _ _ _ rfl v1.heap.size _ rfl rfl 27 _ (heap_alloc_new v1 _) (info_row _) (rowQ_39 _) (rowQ_one _) ?_)
  simp only [zerosQ_def]
  have HO := Lib.hid (OwnQ.made HB.out HT.out zerosQ p0_ok)
  generalize (v1.alloc (.cells zerosQ 27)).setRow v1.heap.size (varr 39 (cellQ p0)) = v2 at *
  obtain ⟨b, hbb⟩ : ∃ b, v1.heap.size = b := ⟨_, rfl⟩
  rw [hbb] at HO ⊢
  clear hbb HB
  have HROW := Lib.hid HO.out.row
  go_wp2_with (refine wpList_load_rowG (by rfl) _ _ rfl b rfl 27 _ _ _ HROW.out Tryd.underlying27 rfl (info_row _) ?_)
  (with_reducible refine (write_is _ b p0 a1 12 4 5 true HO.out.pc HO.out.tab (by unfold In64; decide) (by unfold In64; decide) rfl (by decide)).mono ?_)
  rintro e v3 ⟨rfl, ho, hp⟩
  replace HO := Lib.hid (HO.out.turn ho hp)
  replace HROW := Lib.hid HO.out.row
  clear ho hp
  go_wp2_with (refine wpList_load_rowG (by rfl) _ _ rfl b rfl 27 _ _ _ HROW.out Tryd.underlying27 rfl (info_row _) ?_)
  (with_reducible refine (write_is _ b a1 a2 8192 4 8 true HO.out.pc HO.out.tab (by unfold In64; decide) (by unfold In64; decide) rfl (by decide)).mono ?_)
  rintro e v4 ⟨rfl, ho, hp⟩
  replace HO := Lib.hid (HO.out.turn ho hp)
  replace HROW := Lib.hid HO.out.row
  clear ho hp
  go_wp2_with (refine wpList_load_rowG (by rfl) _ _ rfl b rfl 27 _ _ _ HROW.out Tryd.underlying27 rfl (info_row _) ?_)
  (with_reducible refine (line_is _ a2 HO.out.ok 0 false (by decide +kernel)).mono ?_)
  rintro e v5 ⟨rfl, hb⟩
  replace HO := Lib.hid (HO.out.below hb)
  replace HROW := Lib.hid HO.out.row
  clear hb
  go_wp2_with (refine wpList_load_rowG (by rfl) _ _ rfl b rfl 27 _ _ _ HROW.out Tryd.underlying27 rfl (info_row _) ?_)
  (with_reducible refine (level_is _ b a2 a3 3 true true HO.out.pc rfl (by decide)).mono ?_)
  rintro e v6 ⟨rfl, ho, hp⟩
  replace HO := Lib.hid (HO.out.turn ho hp)
  replace HROW := Lib.hid HO.out.row
  clear ho hp
  go_wp2_with (refine wpList_load_rowG (by rfl) _ _ rfl b rfl 27 _ _ _ HROW.out Tryd.underlying27 rfl (info_row _) ?_)
  (with_reducible refine (line_is _ a3 HO.out.ok 0 true (by decide +kernel)).mono ?_)
  rintro e v7 ⟨rfl, hb⟩
  replace HO := Lib.hid (HO.out.below hb)
  replace HROW := Lib.hid HO.out.row
  clear hb
  go_wp2_with (refine wpList_load_rowG (by rfl) _ _ rfl b rfl 27 _ _ _ HROW.out Tryd.underlying27 rfl (info_row _) ?_)
  (with_reducible refine (line_is _ a3 HO.out.ok 1 false (by decide +kernel)).mono ?_)
  rintro e v8 ⟨rfl, hb⟩
  replace HO := Lib.hid (HO.out.below hb)
  replace HROW := Lib.hid HO.out.row
  clear hb
  go_wp2_with (refine wpList_load_rowG (by rfl) _ _ rfl b rfl 27 _ _ _ HROW.out Tryd.underlying27 rfl (info_row _) ?_)
  (with_reducible refine (read_is _ b a3 a4 2097156 4 3 true HO.out.pc HO.out.tab (by unfold In64; decide) rfl (by decide +kernel) (by decide)).mono ?_)
  rintro e v9 ⟨rfl, ho, hp⟩
  replace HO := Lib.hid (HO.out.turn ho hp)
  replace HROW := Lib.hid HO.out.row
  clear ho hp
  go_wp2_with (refine wpList_load_rowG (by rfl) _ _ rfl b rfl 27 _ _ _ HROW.out Tryd.underlying27 rfl (info_row _) ?_)
  (with_reducible refine (line_is _ a4 HO.out.ok 0 false (by decide +kernel)).mono ?_)
  rintro e v10 ⟨rfl, hb⟩
  replace HO := Lib.hid (HO.out.below hb)
  replace HROW := Lib.hid HO.out.row
  clear hb
  go_wp2
  go_ret
  exact ⟨rfl, HO.out.bel⟩

end Go.Proofs.YtgimnkablodheaaDoor
