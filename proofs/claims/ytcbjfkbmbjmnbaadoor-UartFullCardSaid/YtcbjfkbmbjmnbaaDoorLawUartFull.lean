/- The law UartFull, walked. -/
import Derived.Test.YtcbjfkbmbjmnbaaDoorUs
namespace Go.Proofs.YtcbjfkbmbjmnbaaDoor
open Go.RowKit
set_option linter.unusedVariables false

/-- Behind k bytes that were sent. -/
def fk (b : Int) (k : Nat) : US := ⟨[], List.replicate (min k 65536) b, 0, 0, 0, 0, 0, 0, 0, false, decide (0 < k)⟩
theorem fk_low {b : Int} {k : Nat} (hk : k < 65536) : sendT (fk b k) b = fk b (k + 1) := by
  unfold sendT fk
  have e1 : min k 65536 = k := by omega
  have e2 : min (k + 1) 65536 = k + 1 := by omega
  simp only [e1, e2, List.length_replicate]
  rw [if_pos hk, ← List.replicate_succ', decide_eq_true (show 0 < k + 1 by omega)]
theorem fk_high {b x : Int} {k : Nat} (hk : ¬ k < 65536) : sendT (fk b k) x = fk b (k + 1) := by
  unfold sendT fk
  have e1 : min k 65536 = 65536 := by omega
  have e2 : min (k + 1) 65536 = 65536 := by omega
  simp only [e1, e2, List.length_replicate]
  rw [if_neg (by omega), decide_eq_true (show 0 < k + 1 by omega)]
theorem fk_pl (b : Int) (k : Nat) : plK (fk b k) 0 1 = 0 := by unfold plK fk; simp
def Full (m k : Nat) : Prop := k < 65536 + m
theorem full_dec {m k : Nat} (h : Full m k) : decide ((k : Int) < 65536 + (m : Int)) = true := by unfold Full at h; rw [decide_eq_true_eq]; omega
theorem full_no {m k : Nat} (h : ¬ Full m k) : decide ((k : Int) < 65536 + (m : Int)) = false := by unfold Full at h; rw [decide_eq_false_iff_not]; omega

set_option maxRecDepth 100000 in
set_option maxHeartbeats 8000000 in
theorem uartFull_walk (b more : Int) (w : World) (hb : 0 ≤ b ∧ b ≤ 255) (hm : 0 ≤ more ∧ more ≤ 255) (ht : Tab w) :
    Calls Tryd.prog 6 #[.int .u8 b, .int .u8 more] w fun e w' => e = .returned (.bool true) ∧ Below w.heap.size w w' := by
  have HT := Lib.hid ht
  obtain ⟨m, rfl⟩ := Int.eq_ofNat_of_zero_le hm.1
  have hm2 : (m : Int) < 256 := by omega
  obtain ⟨b0, b1⟩ := hb
  clear ht hm
  go_enter Tryd.func6, Tryd.ntmps6
  go_wp2_with fail
  refine (awake_any _ HT.out).mono ?_
  rintro e w1 ⟨rfl, hb⟩
  have HB := Lib.hid hb
  clear hb
  go_wp2_with fail
  refine (ownNew w _ HT.out HB.out).mono ?_
  rintro e w2 ⟨a, rfl, F, ho⟩
  have HO : Hid (OwnU w w2 a F (fk b 0)) := Lib.hid ho
  clear ho
  go_wp2
  go_loopw [6] (fun i wr => ∃ k : Nat, k ≤ 65536 + m ∧ i = .int .i64 k ∧ ∃ F, OwnU w wr a F (fk b k)) (fun i _ => 65536 + m - (intOf i).toNat)
  case atStart => exact ⟨0, Nat.zero_le _, rfl, F, HO.out⟩
  case round =>
    obtain ⟨k, hk, rfl, F, hT⟩ := hrel
    replace HO := Lib.hid hT
    have HK := Lib.hid hk
    clear hT
    by_cases hlt : Full m k
    · have hd := full_dec hlt
      have hk2 : (k : Int) < 65792 := by unfold Full at hlt; omega
      have HK2 := Lib.hid hk2
      have HLT : Hid (k < 65536 + m) := Lib.hid hlt
      by_cases h6 : k < 65536
      · have hq : (k : Int) / 65536 = 0 := by omega
        have HW := Lib.hid (ownWrite w wr a F (fk b k) (fk b (k + 1)) HO.out 0 1 b true in64_of ⟨by omega, by omega⟩ (by rw [fk_pl, show b % 256 = b by omega]; exact fk_low h6) (by rw [fk_pl]; rfl))
        clear hk h6 hk2 hlt
        go_wp2_with fail
        (with_reducible refine (HW.out).mono ?_)
        rintro e w3 ⟨rfl, F, ho⟩
        have HO2 := Lib.hid ho
        clear ho HW
        have hk2 := HK2.out
        go_wp2
        exact ⟨⟨k + 1, by have := HLT.out; omega, by go_num, F, HO2.out⟩, by have := HLT.out; simp [intOf]; omega⟩
      · have hq : (k : Int) / 65536 = 1 := by omega
        have HW := Lib.hid (ownWrite w wr a F (fk b k) (fk b (k + 1)) HO.out 0 1 (b + 1) true in64_of ⟨by omega, by omega⟩ (by rw [fk_pl]; exact fk_high h6) (by rw [fk_pl]; rfl))
        clear hk h6 hk2 hlt
        go_wp2_with fail
        (with_reducible refine (HW.out).mono ?_)
        rintro e w3 ⟨rfl, F, ho⟩
        have HO2 := Lib.hid ho
        clear ho HW
        have hk2 := HK2.out
        go_wp2
        exact ⟨⟨k + 1, by have := HLT.out; omega, by go_num, F, HO2.out⟩, by have := HLT.out; simp [intOf]; omega⟩
    · have hd := full_no hlt
      have hkk : 65536 ≤ k := by unfold Full at hlt; omega
      have hout : (fk b k).out = List.replicate 65536 b := by unfold fk; rw [show min k 65536 = 65536 by omega]
      have HOUT := Lib.hid (out_any wr a F _ HO.out.obj)
      rw [hout] at HOUT
      clear hk hlt hkk hout
      go_wp2_with fail
      (with_reducible refine (HOUT.out).mono ?_)
      rintro e w3 ⟨p, c, rfl, hb3, hr3, _⟩
      have HB3 := Lib.hid hb3
      obtain ⟨p2, c2, hv, hc1, hc2, hrd⟩ := hr3.reads (by rw [List.length_replicate]; omega)
      injection hv with hv1 _ hv3
      subst hv1 hv3
      have hlen : (List.replicate 65536 b).length = 65536 := List.length_replicate
      rcases hrd with ⟨_, _, h0⟩ | ⟨g, off, rfl, _, hcell⟩
      · have := congrArg List.length h0; rw [hlen] at this; simp at this
      have k0 := hcell 0 (by rw [hlen]; omega)
      have k1 := hcell 65535 (by rw [hlen]; omega)
      have e0 : (List.replicate 65536 b).getD 0 0 = b := by rw [List.getD, List.getElem?_replicate, if_pos (by omega)]; rfl
      have e1 : (List.replicate 65536 b).getD 65535 0 = b := by rw [List.getD, List.getElem?_replicate, if_pos (by omega)]; rfl
      rw [e0] at k0
      rw [e1] at k1
      rw [hlen]
      rw [Nat.add_zero] at k0
      clear e0 e1 hcell hr3 hb3 hc1 hc2
      obtain ⟨n, hn⟩ : ∃ n : Nat, n = 65536 := ⟨_, rfl⟩
      rw [← hn]
      have n0 : ((n : Int) == 65536) = true := by rw [hn]; rfl
      have n1 : 0 < n := by omega
      have n2 : (65535 : Int) < (n : Int) := by omega
      have n3 : 65535 < n := by omega
      clear hn hlen HOUT hd
      go_wp2
      go_ret
      exact ⟨by simp, HO.out.bel.trans (HB3.out.mono HO.out.bel.size)⟩

end Go.Proofs.YtcbjfkbmbjmnbaaDoor
