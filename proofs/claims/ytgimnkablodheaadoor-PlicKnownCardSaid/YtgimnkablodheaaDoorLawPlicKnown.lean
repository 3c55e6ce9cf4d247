/- The law PlicKnown, walked call by call. -/
import Derived.Test.YtgimnkablodheaaDoorPlAwake
namespace Go.Proofs.YtgimnkablodheaaDoor
open Go.RowKit
set_option linter.unusedVariables false

def k0 : PS := p0
def k1 : PS := wrT k0 (plcK 12 4) 5
def k2 : PS := wrT k1 (plcK 16 4) 5
def k3 : PS := wrT k2 (plcK 8192 4) 24
def k4 : PS := levelP k3 4 true
def k5 : PS := levelP k4 3 true
def k6 : PS := rdT k5 (plcK 4096 4)
def k7 : PS := rdT k6 (plcK 2097156 4)
def k8 : PS := rdT k7 (plcK 2097156 4)
def k9 : PS := rdT k8 (plcK 2097156 4)
def k10 : PS := levelP k9 4 false
def k11 : PS := wrT k10 (plcK 2097156 4) 3
def k12 : PS := wrT k11 (plcK 2097156 4) 4
def k13 : PS := rdT k12 (plcK 4096 4)
def k14 : PS := wrT k13 (plcK 2097152 4) 13
def k15 : PS := rdT k14 (plcK 2097152 4)
def k16 : PS := rdT k15 (plcK 2097156 4)
def k17 : PS := rdT k16 (plcK 128 4)
def k18 : PS := rdT k17 (plcK 0 4)
def k19 : PS := rdT k18 (plcK 4100 4)
def k20 : PS := rdT k19 (plcK 8192 8)
def k21 : PS := levelP k20 0 true
def k22 : PS := levelP k21 32 true
set_option maxRecDepth 100000 in
set_option maxHeartbeats 8000000 in
theorem plicKnown_walk (w : World) (ht : Tab w) : Calls Tryd.prog 3 #[] w fun e w' => e = .returned (.bool true) ∧ Below w.heap.size w w' := by
  have HT := Lib.hid ht
  clear ht
  go_enter Tryd.func3, Tryd.ntmps3
  go_wp2_with fail
  refine (new_is _).mono ?_
  rintro e v1 ⟨rfl, hb⟩
  have HB := Lib.hid (hb)
  clear hb
  go_wp2_with (refine wpList_store_row rfl _ _ _ rfl v1.heap.size _ rfl rfl 27 _ (heap_alloc_new v1 _) (info_row _) (rowQ_39 _) (rowQ_one _) ?_)
  simp only [zerosQ_def]
  have HO := Lib.hid (OwnQ.made HB.out HT.out zerosQ p0_ok)
  generalize (v1.alloc (.cells zerosQ 27)).setRow v1.heap.size (varr 39 (cellQ p0)) = v2 at *
  obtain ⟨b, hbb⟩ : ∃ b, v1.heap.size = b := ⟨_, rfl⟩
  rw [hbb] at HO ⊢
  clear hbb HB
  have HROW := Lib.hid HO.out.row
  change Hid (OwnQ w v2 b k0) at HO
  go_wp2_with (refine wpList_load_rowG (by rfl) _ _ rfl b rfl 27 _ _ _ HROW.out Tryd.underlying27 rfl (info_row _) ?_)
  (with_reducible refine (write_is _ b k0 k1 12 4 5 true HO.out.pc HO.out.tab (by unfold In64; decide) (by unfold In64; decide) rfl (by decide)).mono ?_)
  rintro e v3 ⟨rfl, ho, hp⟩
  replace HO := Lib.hid (HO.out.turn ho hp)
  replace HROW := Lib.hid HO.out.row
  clear ho hp
  go_wp2_with (refine wpList_load_rowG (by rfl) _ _ rfl b rfl 27 _ _ _ HROW.out Tryd.underlying27 rfl (info_row _) ?_)
  (with_reducible refine (write_is _ b k1 k2 16 4 5 true HO.out.pc HO.out.tab (by unfold In64; decide) (by unfold In64; decide) rfl (by decide)).mono ?_)
  rintro e v4 ⟨rfl, ho, hp⟩
  replace HO := Lib.hid (HO.out.turn ho hp)
  replace HROW := Lib.hid HO.out.row
  clear ho hp
  go_wp2_with (refine wpList_load_rowG (by rfl) _ _ rfl b rfl 27 _ _ _ HROW.out Tryd.underlying27 rfl (info_row _) ?_)
  (with_reducible refine (write_is _ b k2 k3 8192 4 24 true HO.out.pc HO.out.tab (by unfold In64; decide) (by unfold In64; decide) rfl (by decide)).mono ?_)
  rintro e v5 ⟨rfl, ho, hp⟩
  replace HO := Lib.hid (HO.out.turn ho hp)
  replace HROW := Lib.hid HO.out.row
  clear ho hp
  go_wp2_with (refine wpList_load_rowG (by rfl) _ _ rfl b rfl 27 _ _ _ HROW.out Tryd.underlying27 rfl (info_row _) ?_)
  (with_reducible refine (level_is _ b k3 k4 4 true true HO.out.pc rfl (by decide)).mono ?_)
  rintro e v6 ⟨rfl, ho, hp⟩
  replace HO := Lib.hid (HO.out.turn ho hp)
  replace HROW := Lib.hid HO.out.row
  clear ho hp
  go_wp2_with (refine wpList_load_rowG (by rfl) _ _ rfl b rfl 27 _ _ _ HROW.out Tryd.underlying27 rfl (info_row _) ?_)
  (with_reducible refine (line_is _ k4 HO.out.ok 0 true (by decide +kernel)).mono ?_)
  rintro e v7 ⟨rfl, hb⟩
  replace HO := Lib.hid (HO.out.below hb)
  replace HROW := Lib.hid HO.out.row
  clear hb
  go_wp2_with (refine wpList_load_rowG (by rfl) _ _ rfl b rfl 27 _ _ _ HROW.out Tryd.underlying27 rfl (info_row _) ?_)
  (with_reducible refine (line_is _ k4 HO.out.ok 1 false (by decide +kernel)).mono ?_)
  rintro e v8 ⟨rfl, hb⟩
  replace HO := Lib.hid (HO.out.below hb)
  replace HROW := Lib.hid HO.out.row
  clear hb
  go_wp2_with (refine wpList_load_rowG (by rfl) _ _ rfl b rfl 27 _ _ _ HROW.out Tryd.underlying27 rfl (info_row _) ?_)
  (with_reducible refine (level_is _ b k4 k5 3 true true HO.out.pc rfl (by decide)).mono ?_)
  rintro e v9 ⟨rfl, ho, hp⟩
  replace HO := Lib.hid (HO.out.turn ho hp)
  replace HROW := Lib.hid HO.out.row
  clear ho hp
  go_wp2_with (refine wpList_load_rowG (by rfl) _ _ rfl b rfl 27 _ _ _ HROW.out Tryd.underlying27 rfl (info_row _) ?_)
  (with_reducible refine (read_is _ b k5 k6 4096 4 24 true HO.out.pc HO.out.tab (by unfold In64; decide) rfl (by decide +kernel) (by decide)).mono ?_)
  rintro e v10 ⟨rfl, ho, hp⟩
  replace HO := Lib.hid (HO.out.turn ho hp)
  replace HROW := Lib.hid HO.out.row
  clear ho hp
  go_wp2_with (refine wpList_load_rowG (by rfl) _ _ rfl b rfl 27 _ _ _ HROW.out Tryd.underlying27 rfl (info_row _) ?_)
  (with_reducible refine (best_is _ k6 HO.out.ok 0 3 (by decide +kernel)).mono ?_)
  rintro e v11 ⟨rfl, hb⟩
  replace HO := Lib.hid (HO.out.below hb)
  replace HROW := Lib.hid HO.out.row
  clear hb
  go_wp2_with (refine wpList_load_rowG (by rfl) _ _ rfl b rfl 27 _ _ _ HROW.out Tryd.underlying27 rfl (info_row _) ?_)
  (with_reducible refine (read_is _ b k6 k7 2097156 4 3 true HO.out.pc HO.out.tab (by unfold In64; decide) rfl (by decide +kernel) (by decide)).mono ?_)
  rintro e v12 ⟨rfl, ho, hp⟩
  replace HO := Lib.hid (HO.out.turn ho hp)
  replace HROW := Lib.hid HO.out.row
  clear ho hp
  go_wp2_with (refine wpList_load_rowG (by rfl) _ _ rfl b rfl 27 _ _ _ HROW.out Tryd.underlying27 rfl (info_row _) ?_)
  (with_reducible refine (read_is _ b k7 k8 2097156 4 4 true HO.out.pc HO.out.tab (by unfold In64; decide) rfl (by decide +kernel) (by decide)).mono ?_)
  rintro e v13 ⟨rfl, ho, hp⟩
  replace HO := Lib.hid (HO.out.turn ho hp)
  replace HROW := Lib.hid HO.out.row
  clear ho hp
  go_wp2_with (refine wpList_load_rowG (by rfl) _ _ rfl b rfl 27 _ _ _ HROW.out Tryd.underlying27 rfl (info_row _) ?_)
  (with_reducible refine (read_is _ b k8 k9 2097156 4 0 true HO.out.pc HO.out.tab (by unfold In64; decide) rfl (by decide +kernel) (by decide)).mono ?_)
  rintro e v14 ⟨rfl, ho, hp⟩
  replace HO := Lib.hid (HO.out.turn ho hp)
  replace HROW := Lib.hid HO.out.row
  clear ho hp
  go_wp2_with (refine wpList_load_rowG (by rfl) _ _ rfl b rfl 27 _ _ _ HROW.out Tryd.underlying27 rfl (info_row _) ?_)
  (with_reducible refine (line_is _ k9 HO.out.ok 0 false (by decide +kernel)).mono ?_)
  rintro e v15 ⟨rfl, hb⟩
  replace HO := Lib.hid (HO.out.below hb)
  replace HROW := Lib.hid HO.out.row
  clear hb
  go_wp2_with (refine wpList_load_rowG (by rfl) _ _ rfl b rfl 27 _ _ _ HROW.out Tryd.underlying27 rfl (info_row _) ?_)
  (with_reducible refine (level_is _ b k9 k10 4 false true HO.out.pc rfl (by decide)).mono ?_)
  rintro e v16 ⟨rfl, ho, hp⟩
  replace HO := Lib.hid (HO.out.turn ho hp)
  replace HROW := Lib.hid HO.out.row
  clear ho hp
  go_wp2_with (refine wpList_load_rowG (by rfl) _ _ rfl b rfl 27 _ _ _ HROW.out Tryd.underlying27 rfl (info_row _) ?_)
  (with_reducible refine (write_is _ b k10 k11 2097156 4 3 true HO.out.pc HO.out.tab (by unfold In64; decide) (by unfold In64; decide) rfl (by decide)).mono ?_)
  rintro e v17 ⟨rfl, ho, hp⟩
  replace HO := Lib.hid (HO.out.turn ho hp)
  replace HROW := Lib.hid HO.out.row
  clear ho hp
  go_wp2_with (refine wpList_load_rowG (by rfl) _ _ rfl b rfl 27 _ _ _ HROW.out Tryd.underlying27 rfl (info_row _) ?_)
  (with_reducible refine (write_is _ b k11 k12 2097156 4 4 true HO.out.pc HO.out.tab (by unfold In64; decide) (by unfold In64; decide) rfl (by decide)).mono ?_)
  rintro e v18 ⟨rfl, ho, hp⟩
  replace HO := Lib.hid (HO.out.turn ho hp)
  replace HROW := Lib.hid HO.out.row
  clear ho hp
  go_wp2_with (refine wpList_load_rowG (by rfl) _ _ rfl b rfl 27 _ _ _ HROW.out Tryd.underlying27 rfl (info_row _) ?_)
  (with_reducible refine (read_is _ b k12 k13 4096 4 8 true HO.out.pc HO.out.tab (by unfold In64; decide) rfl (by decide +kernel) (by decide)).mono ?_)
  rintro e v19 ⟨rfl, ho, hp⟩
  replace HO := Lib.hid (HO.out.turn ho hp)
  replace HROW := Lib.hid HO.out.row
  clear ho hp
  go_wp2_with (refine wpList_load_rowG (by rfl) _ _ rfl b rfl 27 _ _ _ HROW.out Tryd.underlying27 rfl (info_row _) ?_)
  (with_reducible refine (write_is _ b k13 k14 2097152 4 13 true HO.out.pc HO.out.tab (by unfold In64; decide) (by unfold In64; decide) rfl (by decide)).mono ?_)
  rintro e v20 ⟨rfl, ho, hp⟩
  replace HO := Lib.hid (HO.out.turn ho hp)
  replace HROW := Lib.hid HO.out.row
  clear ho hp
  go_wp2_with (refine wpList_load_rowG (by rfl) _ _ rfl b rfl 27 _ _ _ HROW.out Tryd.underlying27 rfl (info_row _) ?_)
  (with_reducible refine (line_is _ k14 HO.out.ok 0 false (by decide +kernel)).mono ?_)
  rintro e v21 ⟨rfl, hb⟩
  replace HO := Lib.hid (HO.out.below hb)
  replace HROW := Lib.hid HO.out.row
  clear hb
  go_wp2_with (refine wpList_load_rowG (by rfl) _ _ rfl b rfl 27 _ _ _ HROW.out Tryd.underlying27 rfl (info_row _) ?_)
  (with_reducible refine (read_is _ b k14 k15 2097152 4 5 true HO.out.pc HO.out.tab (by unfold In64; decide) rfl (by decide +kernel) (by decide)).mono ?_)
  rintro e v22 ⟨rfl, ho, hp⟩
  replace HO := Lib.hid (HO.out.turn ho hp)
  replace HROW := Lib.hid HO.out.row
  clear ho hp
  go_wp2_with (refine wpList_load_rowG (by rfl) _ _ rfl b rfl 27 _ _ _ HROW.out Tryd.underlying27 rfl (info_row _) ?_)
  (with_reducible refine (read_is _ b k15 k16 2097156 4 3 true HO.out.pc HO.out.tab (by unfold In64; decide) rfl (by decide +kernel) (by decide)).mono ?_)
  rintro e v23 ⟨rfl, ho, hp⟩
  replace HO := Lib.hid (HO.out.turn ho hp)
  replace HROW := Lib.hid HO.out.row
  clear ho hp
  go_wp2_with (refine wpList_load_rowG (by rfl) _ _ rfl b rfl 27 _ _ _ HROW.out Tryd.underlying27 rfl (info_row _) ?_)
  (with_reducible refine (read_is _ b k16 k17 128 4 0 false HO.out.pc HO.out.tab (by unfold In64; decide) rfl (by decide +kernel) (by decide)).mono ?_)
  rintro e v24 ⟨rfl, ho, hp⟩
  replace HO := Lib.hid (HO.out.turn ho hp)
  replace HROW := Lib.hid HO.out.row
  clear ho hp
  go_wp2_with (refine wpList_load_rowG (by rfl) _ _ rfl b rfl 27 _ _ _ HROW.out Tryd.underlying27 rfl (info_row _) ?_)
  (with_reducible refine (read_is _ b k17 k18 0 4 0 true HO.out.pc HO.out.tab (by unfold In64; decide) rfl (by decide +kernel) (by decide)).mono ?_)
  rintro e v25 ⟨rfl, ho, hp⟩
  replace HO := Lib.hid (HO.out.turn ho hp)
  replace HROW := Lib.hid HO.out.row
  clear ho hp
  go_wp2_with (refine wpList_load_rowG (by rfl) _ _ rfl b rfl 27 _ _ _ HROW.out Tryd.underlying27 rfl (info_row _) ?_)
  (with_reducible refine (read_is _ b k18 k19 4100 4 0 false HO.out.pc HO.out.tab (by unfold In64; decide) rfl (by decide +kernel) (by decide)).mono ?_)
  rintro e v26 ⟨rfl, ho, hp⟩
  replace HO := Lib.hid (HO.out.turn ho hp)
  replace HROW := Lib.hid HO.out.row
  clear ho hp
  go_wp2_with (refine wpList_load_rowG (by rfl) _ _ rfl b rfl 27 _ _ _ HROW.out Tryd.underlying27 rfl (info_row _) ?_)
  (with_reducible refine (read_is _ b k19 k20 8192 8 0 false HO.out.pc HO.out.tab (by unfold In64; decide) rfl (by decide +kernel) (by decide)).mono ?_)
  rintro e v27 ⟨rfl, ho, hp⟩
  replace HO := Lib.hid (HO.out.turn ho hp)
  replace HROW := Lib.hid HO.out.row
  clear ho hp
  go_wp2_with (refine wpList_load_rowG (by rfl) _ _ rfl b rfl 27 _ _ _ HROW.out Tryd.underlying27 rfl (info_row _) ?_)
  (with_reducible refine (read_none _ _ _).mono ?_)
  rintro e w' ⟨rfl, rfl⟩
  go_wp2_with (refine wpList_load_rowG (by rfl) _ _ rfl b rfl 27 _ _ _ HROW.out Tryd.underlying27 rfl (info_row _) ?_)
  (with_reducible refine (awake_any _ HO.out.tab).mono ?_)
  rintro e v28 ⟨rfl, hb⟩
  replace HO := Lib.hid (HO.out.below hb)
  replace HROW := Lib.hid HO.out.row
  clear hb
  go_wp2_with (refine wpList_load_rowG (by rfl) _ _ rfl b rfl 27 _ _ _ HROW.out Tryd.underlying27 rfl (info_row _) ?_)
  (with_reducible refine (level_is _ b k20 k21 0 true false HO.out.pc rfl (by decide)).mono ?_)
  rintro e v29 ⟨rfl, ho, hp⟩
  replace HO := Lib.hid (HO.out.turn ho hp)
  replace HROW := Lib.hid HO.out.row
  clear ho hp
  go_wp2_with (refine wpList_load_rowG (by rfl) _ _ rfl b rfl 27 _ _ _ HROW.out Tryd.underlying27 rfl (info_row _) ?_)
  (with_reducible refine (level_is _ b k21 k22 32 true false HO.out.pc rfl (by decide)).mono ?_)
  rintro e v30 ⟨rfl, ho, hp⟩
  replace HO := Lib.hid (HO.out.turn ho hp)
  replace HROW := Lib.hid HO.out.row
  clear ho hp
  go_wp2_with (refine wpList_load_rowG (by rfl) _ _ rfl b rfl 27 _ _ _ HROW.out Tryd.underlying27 rfl (info_row _) ?_)
  (with_reducible refine (write_none _ _ _ _).mono ?_)
  rintro e w' ⟨rfl, rfl⟩
  go_wp2_with (refine wpList_load_rowG (by rfl) _ _ rfl b rfl 27 _ _ _ HROW.out Tryd.underlying27 rfl (info_row _) ?_)
  (with_reducible refine (level_none _ _ _).mono ?_)
  rintro e w' ⟨rfl, rfl⟩
  go_wp2
  go_ret
  exact ⟨rfl, HO.out.bel⟩

end Go.Proofs.YtgimnkablodheaaDoor
