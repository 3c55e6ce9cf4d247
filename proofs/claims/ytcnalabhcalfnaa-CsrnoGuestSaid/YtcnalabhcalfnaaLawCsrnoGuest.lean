/- Layer 11: the walk of CsrnoGuest (written by gen_cnlaws2.py). -/
import Derived.Test.YtcnalabhcalfnaaCnN
namespace Go.Proofs.Ytcnalabhcalfnaa
open Go.RowKit
set_option linter.unusedVariables false
set_option maxRecDepth 100000

theorem bit_cleared (x : Int) : bitZ (bits .andNot .u64 x 1048576) 20 = false := by
  unfold bitZ
  rw [bits_andNot, V_U, BitVec.getLsbD_and, BitVec.getLsbD_not, show (V 1048576).getLsbD 20 = true by decide]
  simp
theorem andNot_in (x y : Int) : In64 (bits .andNot .u64 x y) := by rw [bits_andNot]; exact U_in _
theorem guest_ways (t : HS) (no : Int) (wr : Bool) (hp : t.n 33 = 1) (hb : bitZ (t.n 38) 20 = false) :
    (chkZ (t.putV true) no wr = 2 ∧ chkZ (t.putV false) no wr = 2) ∨ (chkZ (t.putV true) no wr = 22 ∧ chkZ (t.putV false) no wr = 0) ∨ (chkZ (t.putV true) no wr = 0 ∧ chkZ (t.putV false) no wr = 0) := by
  rw [chkZ_P, chkZ_P, show (t.putV true).n = t.n from rfl, show (t.putV false).n = t.n from rfl, show (t.putV true).v = true from rfl, show (t.putV false).v = false from rfl, hp, hb]
  exact guest_bools _ _ _ _ _ _ _ _ _ _ _
theorem HartB.world {w w' : World} {b : Nat} {t : HS} (h : HartB w b t) (e : w = w') : HartB w' b t := e ▸ h
set_option maxHeartbeats 4000000 in
theorem csrnoGuest_walk (t : HS) (no : Int) (wr : Bool) (w : World) (ok : HOk t) (w1 : In63 no) :
    Calls Try.prog 7 #[hartV t, .int .i64 no, .bool wr] w fun e w' => e = .returned (.bool true) ∧ Below w.heap.size w w' := by
  have HW := Lib.hid fun w => wakes_any w
  obtain ⟨t1, ht1⟩ : ∃ t1 : HS, t1 = (t.put 33 1).put 38 (bits .andNot .u64 (t.n 38) 1048576) := ⟨_, rfl⟩
  have ok1 : HOk t1 := by rw [ht1]; exact (ok.put (by unfold In64; decide) (fun _ => by decide)).put (andNot_in _ _) (fun h => absurd h (by decide))
  have hways := guest_ways t1 no wr (by rw [ht1]; rfl) (by rw [ht1, HS.put_same]; exact bit_cleared _)
  have HA := Lib.hid fun w => check_is (t1.putV true) (ok1.putV true) no wr w
  have HB := Lib.hid fun w => check_is (t1.putV false) (ok1.putV false) no wr w
  have HT1 := Lib.hid ht1
  clear ok1 ht1 ok w1
  rcases hways with ⟨e1, e2⟩ | ⟨e1, e2⟩ | ⟨e1, e2⟩
  all_goals
    rw [e1] at HA
    rw [e2] at HB
    clear e1 e2
    go_enter Try.func7, Try.ntmps7
    go_upto_region 1 with (fail)
    have HB0 := Lib.hid ((Below.refl w.heap.size w).alloc (Nat.le_refl _) (.cells (varr 77 (hCell t)) 32))
    have HH := Lib.hid (HartB.new w t)
    obtain ⟨b, hb⟩ : ∃ b, b = w.heap.size := ⟨_, rfl⟩
    have HBE := Lib.hid hb
    rw [← hb] at HH
    rw [show (w.heap.size) = b from hb.symm]
    clear hb
    generalize w.alloc (.cells (varr 77 (hCell t)) 32) = w0 at *
    have f33 := HH.out.free 33
    have f34 := HH.out.free 34
    have f38 := HH.out.free 38
    have c33 := HH.out.p
    have c34 := HH.out.v
    have c38 := HH.out.u 38 (by omega) (by omega)
    go_upto_region 4 with (fail)
    have hge : w.heap.size ≤ b := by have := HBE.out; omega
    have HH1 : Hid (HartB (((w0.setCell ⟨b, 33, none⟩ (.int .u8 1)).setCell ⟨b, 38, none⟩ (.int .u64 (bits .andNot .u64 (t.n 38) 1048576))).setCell ⟨b, 34, none⟩ (.bool true)) b (t1.putV true)) := Lib.hid (by rw [HT1.out]; exact ((HH.out.putP 1).putU _ (by omega)).putVB true)
    have HB1 : Hid (Below w.heap.size w (((w0.setCell ⟨b, 33, none⟩ (.int .u8 1)).setCell ⟨b, 38, none⟩ (.int .u64 (bits .andNot .u64 (t.n 38) 1048576))).setCell ⟨b, 34, none⟩ (.bool true))) := Lib.hid (((HB0.out.setCell (p := ⟨b, 33, none⟩) hge _).setCell (p := ⟨b, 38, none⟩) hge _).setCell (p := ⟨b, 34, none⟩) hge _)
    generalize ((w0.setCell ⟨b, 33, none⟩ (.int .u8 1)).setCell ⟨b, 38, none⟩ (.int .u64 (bits .andNot .u64 (t.n 38) 1048576))).setCell ⟨b, 34, none⟩ (.bool true) = w1 at *
    clear f33 f34 f38 c33 c34 c38 HH HB0 HT1
    go_upto_region 5 with (first
      | (refine wpList_load_row rfl _ _ rfl b rfl 32 _ _ _ HH1.out Try.underlying32 rfl (size_hart.trans (by rw [varr_size])) ?_)
      | ((with_reducible refine (HA.out _).mono ?_); rintro e w2 ⟨rfl, hb⟩; have HB2 := Lib.hid (HB1.out.trans (hb.mono HB1.out.size)); have HH2 := Lib.hid (HH1.out.below hb); clear hb))
    have f34 := HH2.out.free 34
    have c34 : w2.cell? ⟨b, 34, none⟩ = some (.bool true) := HH2.out.v
    go_upto_region 6 with (fail)
    have HH3 : Hid (HartB (w2.setCell ⟨b, 34, none⟩ (.bool false)) b (t1.putV false)) := Lib.hid (HH2.out.putVB false)
    have HB3 : Hid (Below w.heap.size w (w2.setCell ⟨b, 34, none⟩ (.bool false))) := Lib.hid (HB2.out.setCell (p := ⟨b, 34, none⟩) hge _)
    generalize w2.setCell ⟨b, 34, none⟩ (.bool false) = w3 at *
    clear f34 c34 HH2 HB2
    go_upto_region 7 with (first
      | (refine wpList_load_row rfl _ _ rfl b rfl 32 _ _ _ HH3.out Try.underlying32 rfl (size_hart.trans (by rw [varr_size])) ?_)
      | ((with_reducible refine (HB.out _).mono ?_); rintro e w4 ⟨rfl, hb⟩; have HB4 := Lib.hid (HB3.out.trans (hb.mono HB3.out.size)); clear hb))
    go_wp2_with ((with_reducible refine (HW.out _).mono ?_); rintro e w5 ⟨rfl, hb⟩; have HB5 := Lib.hid (HB4.out.trans (hb.mono HB4.out.size)); clear hb)
    go_ret
    exact ⟨rfl, HB5.out⟩

end Go.Proofs.Ytcnalabhcalfnaa
