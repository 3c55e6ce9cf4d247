/- Layer 5's law PlicOnce: what it asks of what stands. -/
import Derived.Test.YtgimnkablodheaaDoorPlOnce
namespace Go.Proofs.YtgimnkablodheaaDoor
open Go.RowKit
set_option linter.unusedVariables false

/-- The law's own array of what is busy. -/
def BusyA (w : World) (g : Nat) (t : PS) : Prop := HoldsB w g 52 32 t.busy
set_option maxRecDepth 100000 in
set_option maxHeartbeats 4000000 in
theorem stands_any (w : World) (b g : Nat) (t : PS) (hp : ProgP w b t) (hg : BusyA w g t) (hgb : ¬ g = b) (hl : t.live) (ht : Tab w) :
    Calls Tryd.prog 21 #[.pointer (some ⟨b, 0, none⟩), .pointer (some ⟨g, 0, none⟩)] w fun e w' => e = .returned (.bool true) ∧ Only (fun i => i = b) w w' ∧ ProgP w' b t := by
  have HP := Lib.hid hp
  have HG := Lib.hid hg
  have HL := Lib.hid hl
  have HT := Lib.hid ht
  have HB : Hid (0 ≤ bits32 t.pend ∧ bits32 t.pend < 4294967296) := Lib.hid (bits32_bd t.pend)
  have HE := Lib.hid (even32 t.pend hp.2.pend0)
  have HOK := Lib.hid hp.2
  clear hp hg hl ht
  go_enter Tryd.func21, Tryd.ntmps21
  go_wp2_with fail
  (with_reducible refine (read_is _ b t t 4096 4 (bits32 t.pend) true HP.out HT.out (by unfold In64; decide) rfl rfl (by decide)).mono ?_)
  rintro e w1 ⟨rfl, ho, hp⟩
  have HO1 := Lib.hid ho
  replace HP := Lib.hid hp
  clear ho hp
  have HG1 : Hid (BusyA w1 g t) := Lib.hid (HO1.out.keeps hgb HG.out)
  clear HG
  go_wp2
  go_loopw [7] (fun i wr => ∃ j : Nat, 1 ≤ j ∧ j ≤ 32 ∧ i = .int .i64 j ∧ Below w1.heap.size w1 wr) (fun i _ => (32 - intOf i).toNat)
  case atStart => exact ⟨1, by omega, by omega, rfl, Below.refl _ _⟩
  case round =>
    obtain ⟨j, hj1, hj, rfl, hbr⟩ := hrel
    have HBR := Lib.hid hbr
    clear hbr
    by_cases hj2 : j < 32
    · have i1 : (j : Int) < 32 := by omega
      have hbu : wr.cell? ⟨g, j, none⟩ = some (.bool (t.busy j)) := (show BusyA wr g t from HG1.out.below HBR.out HG1.out.lt).cell hj2
      have HR : Hid (wr.heap[b]? = some (.cells (varr 39 (cellQ t)) 27 (0, 0))) := Lib.hid (HP.out.below HBR.out).1
      have HBIT := Lib.hid (bit_of32t t.pend hj2)
      have HUP : Hid (∀ wx, Calls Tryd.prog 18 #[.agg (varr 39 (cellQ t)), .int .i64 j] wx fun e w' => e = .returned (.bool (t.up j)) ∧ Below wx.heap.size wx w') := Lib.hid fun wx => up_is wx t HOK.out j _ (by
        unfold upT isS; rw [decide_eq_true (by omega), Bool.true_and, Int.toNat_natCast])
      have l1 := HL.out.not2 j
      have l2 := HL.out.one j
      obtain ⟨p, hp⟩ : ∃ p, t.pend j = p := ⟨_, rfl⟩
      obtain ⟨u, hu⟩ : ∃ u, t.up j = u := ⟨_, rfl⟩
      obtain ⟨v, hv⟩ : ∃ v, t.busy j = v := ⟨_, rfl⟩
      rw [hp, hv] at l1
      rw [hu, hp, hv] at l2
      rw [hv] at hbu
      have hbit := HBIT.out
      rw [hp] at hbit
      have hup := HUP.out
      rw [hu] at hup
      replace HUP := Lib.hid hup
      have hj63 : (j : Int) ≤ 9223372036854775807 := by omega
      have hb0 := HB.out.1
      have hwj : IntKind.i64.wrap ((j : Int) + 1) = (j : Int) + 1 := IntWalk.i64_in _ (by omega)
      clear hup hp hu hv HBIT
      cases p with
      | true =>
        obtain rfl : v = false := l1 rfl
        clear l1 l2
        go_wp2_with (refine wpList_load_rowG (by rfl) _ _ rfl b rfl 27 _ _ _ HR.out Tryd.underlying27 rfl (info_row _) ?_)
        (with_reducible refine (HUP.out _).mono ?_)
        rintro e w2 ⟨rfl, hb⟩
        have HB2 := Lib.hid (HBR.out.trans (hb.mono HBR.out.size))
        have hbu2 := (hb.cell (p := ⟨g, j, none⟩) (block_lt hbu)).trans hbu
        clear hb hbu
        cases u
        · go_wp2
          exact ⟨⟨j + 1, by omega, by omega, by go_num, HB2.out⟩, by simp [intOf]; omega⟩
        · go_wp2
          exact ⟨⟨j + 1, by omega, by omega, by go_num, HB2.out⟩, by simp [intOf]; omega⟩
      | false =>
        clear l1
        go_wp2_with (refine wpList_load_rowG (by rfl) _ _ rfl b rfl 27 _ _ _ HR.out Tryd.underlying27 rfl (info_row _) ?_)
        (with_reducible refine (HUP.out _).mono ?_)
        rintro e w2 ⟨rfl, hb⟩
        have HB2 := Lib.hid (HBR.out.trans (hb.mono HBR.out.size))
        have hbu2 := (hb.cell (p := ⟨g, j, none⟩) (block_lt hbu)).trans hbu
        clear hb hbu
        cases u with
        | true =>
          obtain rfl : v = true := by rcases l2 rfl with h | h; cases h; exact h
          clear l2
          go_wp2
          exact ⟨⟨j + 1, by omega, by omega, by go_num, HB2.out⟩, by simp [intOf]; omega⟩
        | false =>
          clear l2
          go_wp2
          exact ⟨⟨j + 1, by omega, by omega, by go_num, HB2.out⟩, by simp [intOf]; omega⟩
    · obtain rfl : j = 32 := by omega
      have hb0 := HB.out.1
      have hb1 := HB.out.2
      have he := HE.out
      have he2 : (bits32 t.pend).tmod 2 = 0 := by rw [Int.tmod_eq_emod_of_nonneg hb0]; exact he
      go_wp2
      go_ret
      exact ⟨by simp, HO1.out.thenBelow HBR.out, HP.out.below HBR.out⟩

end Go.Proofs.YtgimnkablodheaaDoor
