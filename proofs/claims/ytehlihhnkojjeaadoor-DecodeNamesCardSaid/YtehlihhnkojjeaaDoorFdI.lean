/- The contract of the document's Fits. -/
import Derived.Test.YtehlihhnkojjeaaDoorFdH
namespace Go.Proofs.YtehlihhnkojjeaaDoor
open Go.RowKit
set_option linter.unusedVariables false
set_option maxRecDepth 100000

set_option maxHeartbeats 2000000 in
set_option maxRecDepth 100000 in
theorem refFits_true (k : Nat) (hk : 1 ≤ k ∧ k ≤ 9) (l : List Int) (hP : formP k = l) (h0 : 0 < l.length) (h32 : l.length ≤ 32) (hp : ∀ i, i < l.length → l.getD i 0 < 32) (hs : decide (1 ≤ k ∧ k ≤ 5) = true) (n : Int) (w : World) :
    Calls Tryd.prog 44 #[.int .i64 k, .int .i64 n] w fun e w' => e = .returned (.bool (fitsD n true l)) ∧ Below w.heap.size w w' := by
  have HK := Lib.hid hk
  have HP := Lib.hid hP
  have HB := Lib.hid hp
  clear hk hP hp
  have hz : ((l.length : Int) == 0) = false := by rw [beq_eq_false_iff_ne]; omega
  have hne : ¬ l = [] := by intro h; rw [h] at h0; simp at h0
  have HNE := Lib.hid hne
  clear hne
  have q1 := pow_le_32 h32
  have q2 := pow_le_32 (show l.length - 1 ≤ 32 by omega)
  obtain ⟨q11, q12⟩ := q1
  obtain ⟨q21, q22⟩ := q2
  have HSG := Lib.hid (signed_is k true hs)
  clear hs
  by_cases h1 : n < -(2 : Int) ^ (l.length - 1)
  · have HE := Lib.hid (fitsD_out (n := n) (sg := true) (l := l) (by simp; omega))
    go_enter Tryd.func44, Tryd.ntmps44
    go_wp2_with (first
      | (go_at_call 45; refine (places_any k HK.out _).mono ?_; rintro e w1 ⟨v, rfl, hr, hb⟩; rw [HP.out] at hr; obtain ⟨a, c, rfl, hm, hcl⟩ := hr; obtain ⟨b, off, rfl, hbb, hc⟩ := hcl.resolve_left HNE.out; have HB1 := Lib.hid hb; have HC := Lib.hid hc; clear hb hc hcl hm)
      | (go_at_call 51; refine (HSG.out _).mono ?_; rintro e w' ⟨rfl, rfl⟩))
    go_ret
    exact ⟨ret_bool HE.out.symm, HB1.out⟩
  by_cases h2 : (2 : Int) ^ (l.length - 1) - 1 < n
  · have HE := Lib.hid (fitsD_out (n := n) (sg := true) (l := l) (by simp; omega))
    go_enter Tryd.func44, Tryd.ntmps44
    go_wp2_with (first
      | (go_at_call 45; refine (places_any k HK.out _).mono ?_; rintro e w1 ⟨v, rfl, hr, hb⟩; rw [HP.out] at hr; obtain ⟨a, c, rfl, hm, hcl⟩ := hr; obtain ⟨b, off, rfl, hbb, hc⟩ := hcl.resolve_left HNE.out; have HB1 := Lib.hid hb; have HC := Lib.hid hc; clear hb hc hcl hm)
      | (go_at_call 51; refine (HSG.out _).mono ?_; rintro e w' ⟨rfl, rfl⟩))
    go_ret
    exact ⟨ret_bool HE.out.symm, HB1.out⟩
  have HR := Lib.hid (fun h => fitsD_yes (n := n) (sg := true) (l := l) (by simp; omega) h)
  go_enter Tryd.func44, Tryd.ntmps44
  go_wp2_with (first
    | (go_at_call 45; refine (places_any k HK.out _).mono ?_; rintro e w1 ⟨v, rfl, hr, hb⟩; rw [HP.out] at hr; obtain ⟨a, c, rfl, hm, hcl⟩ := hr; obtain ⟨b, off, rfl, hbb, hc⟩ := hcl.resolve_left HNE.out; have HB1 := Lib.hid hb; have HC := Lib.hid hc; clear hb hc hcl hm)
    | (go_at_call 51; refine (HSG.out _).mono ?_; rintro e w' ⟨rfl, rfl⟩))
  clear h1 h2 q11 q12 q21 q22
  go_loop [8] (fun i => ∃ j : Nat, j ≤ l.length ∧ i = .int .i64 j ∧ ∀ m, m < j → badAt n l m = false) (fun i => l.length - (intOf i).toNat)
  case atStart => exact ⟨0, by omega, rfl, fun m h => absurd h (Nat.not_lt_zero m)⟩
  case round =>
    obtain ⟨j, hj, rfl, hall⟩ := hrel
    have HA := Lib.hid hall
    clear hall
    by_cases hlt : j < l.length
    · have hcell := HC.out j hlt
      have HV := Lib.hid (show ∀ b, badAt n l j = b → (decide (l.getD j 0 < 0) && bitN n (l.length - 1 - j) == 1) = b from fun b h => h)
      have HW : Hid (badAt n l j = (decide (l.getD j 0 < 0) && bitN n (l.length - 1 - j) == 1)) := Lib.hid rfl
      have HN := Lib.hid (bitN_and n (l.length - 1 - j))
      generalize l.getD j 0 = p at *
      by_cases hp0 : p < 0
      · rcases bitN_01 n (l.length - 1 - j) with hb0 | hb1
        · have hbt : (bits .and .i64 (n / 2 ^ (l.length - 1 - j)) 1 == 1) = false := by rw [HN.out, hb0]; rfl
          have HBAD := Lib.hid (show badAt n l j = false by rw [HW.out, hb0]; simp)
          clear hb0
          go_wp2
          go_round
          case rel => exact ⟨j + 1, by omega, by go_num, fun m hm => by
            by_cases e : m = j
            · rw [e]; exact HBAD.out
            · exact HA.out m (by omega)⟩
          case measure => simp [intOf]; omega
        · have hbt : (bits .and .i64 (n / 2 ^ (l.length - 1 - j)) 1 == 1) = true := by rw [HN.out, hb1]; rfl
          have HBAD := Lib.hid (fitsD_bad (sg := true) hlt (show badAt n l j = true by rw [HW.out, hb1]; simp [hp0]))
          clear hb1
          go_wp2
          go_ret
          exact ⟨ret_bool HBAD.out.symm, HB1.out⟩
      · have HBAD := Lib.hid (show badAt n l j = false by rw [HW.out]; simp [hp0])
        go_wp2
        go_round
        case rel => exact ⟨j + 1, by omega, by go_num, fun m hm => by
          by_cases e : m = j
          · rw [e]; exact HBAD.out
          · exact HA.out m (by omega)⟩
        case measure => simp [intOf]; omega
    · obtain rfl : j = l.length := by omega
      go_wp2
      go_ret
      exact ⟨ret_bool (HR.out HA.out).symm, HB1.out⟩

set_option maxHeartbeats 2000000 in
set_option maxRecDepth 100000 in
theorem refFits_false (k : Nat) (hk : 1 ≤ k ∧ k ≤ 9) (l : List Int) (hP : formP k = l) (h0 : 0 < l.length) (h32 : l.length ≤ 32) (hp : ∀ i, i < l.length → l.getD i 0 < 32) (hs : decide (1 ≤ k ∧ k ≤ 5) = false) (n : Int) (w : World) :
    Calls Tryd.prog 44 #[.int .i64 k, .int .i64 n] w fun e w' => e = .returned (.bool (fitsD n false l)) ∧ Below w.heap.size w w' := by
  have HK := Lib.hid hk
  have HP := Lib.hid hP
  have HB := Lib.hid hp
  clear hk hP hp
  have hz : ((l.length : Int) == 0) = false := by rw [beq_eq_false_iff_ne]; omega
  have hne : ¬ l = [] := by intro h; rw [h] at h0; simp at h0
  have HNE := Lib.hid hne
  clear hne
  have q1 := pow_le_32 h32
  have q2 := pow_le_32 (show l.length - 1 ≤ 32 by omega)
  obtain ⟨q11, q12⟩ := q1
  obtain ⟨q21, q22⟩ := q2
  have HSG := Lib.hid (signed_is k false hs)
  clear hs
  by_cases h1 : n < 0
  · have HE := Lib.hid (fitsD_out (n := n) (sg := false) (l := l) (by simp; omega))
    go_enter Tryd.func44, Tryd.ntmps44
    go_wp2_with (first
      | (go_at_call 45; refine (places_any k HK.out _).mono ?_; rintro e w1 ⟨v, rfl, hr, hb⟩; rw [HP.out] at hr; obtain ⟨a, c, rfl, hm, hcl⟩ := hr; obtain ⟨b, off, rfl, hbb, hc⟩ := hcl.resolve_left HNE.out; have HB1 := Lib.hid hb; have HC := Lib.hid hc; clear hb hc hcl hm)
      | (go_at_call 51; refine (HSG.out _).mono ?_; rintro e w' ⟨rfl, rfl⟩))
    go_ret
    exact ⟨ret_bool HE.out.symm, HB1.out⟩
  by_cases h2 : 2 ^ l.length - 1 < n
  · have HE := Lib.hid (fitsD_out (n := n) (sg := false) (l := l) (by simp; omega))
    go_enter Tryd.func44, Tryd.ntmps44
    go_wp2_with (first
      | (go_at_call 45; refine (places_any k HK.out _).mono ?_; rintro e w1 ⟨v, rfl, hr, hb⟩; rw [HP.out] at hr; obtain ⟨a, c, rfl, hm, hcl⟩ := hr; obtain ⟨b, off, rfl, hbb, hc⟩ := hcl.resolve_left HNE.out; have HB1 := Lib.hid hb; have HC := Lib.hid hc; clear hb hc hcl hm)
      | (go_at_call 51; refine (HSG.out _).mono ?_; rintro e w' ⟨rfl, rfl⟩))
    go_ret
    exact ⟨ret_bool HE.out.symm, HB1.out⟩
  have HR := Lib.hid (fun h => fitsD_yes (n := n) (sg := false) (l := l) (by simp; omega) h)
  go_enter Tryd.func44, Tryd.ntmps44
  go_wp2_with (first
    | (go_at_call 45; refine (places_any k HK.out _).mono ?_; rintro e w1 ⟨v, rfl, hr, hb⟩; rw [HP.out] at hr; obtain ⟨a, c, rfl, hm, hcl⟩ := hr; obtain ⟨b, off, rfl, hbb, hc⟩ := hcl.resolve_left HNE.out; have HB1 := Lib.hid hb; have HC := Lib.hid hc; clear hb hc hcl hm)
    | (go_at_call 51; refine (HSG.out _).mono ?_; rintro e w' ⟨rfl, rfl⟩))
  clear h1 h2 q11 q12 q21 q22
  go_loop [8] (fun i => ∃ j : Nat, j ≤ l.length ∧ i = .int .i64 j ∧ ∀ m, m < j → badAt n l m = false) (fun i => l.length - (intOf i).toNat)
  case atStart => exact ⟨0, by omega, rfl, fun m h => absurd h (Nat.not_lt_zero m)⟩
  case round =>
    obtain ⟨j, hj, rfl, hall⟩ := hrel
    have HA := Lib.hid hall
    clear hall
    by_cases hlt : j < l.length
    · have hcell := HC.out j hlt
      have HV := Lib.hid (show ∀ b, badAt n l j = b → (decide (l.getD j 0 < 0) && bitN n (l.length - 1 - j) == 1) = b from fun b h => h)
      have HW : Hid (badAt n l j = (decide (l.getD j 0 < 0) && bitN n (l.length - 1 - j) == 1)) := Lib.hid rfl
      have HN := Lib.hid (bitN_and n (l.length - 1 - j))
      generalize l.getD j 0 = p at *
      by_cases hp0 : p < 0
      · rcases bitN_01 n (l.length - 1 - j) with hb0 | hb1
        · have hbt : (bits .and .i64 (n / 2 ^ (l.length - 1 - j)) 1 == 1) = false := by rw [HN.out, hb0]; rfl
          have HBAD := Lib.hid (show badAt n l j = false by rw [HW.out, hb0]; simp)
          clear hb0
          go_wp2
          go_round
          case rel => exact ⟨j + 1, by omega, by go_num, fun m hm => by
            by_cases e : m = j
            · rw [e]; exact HBAD.out
            · exact HA.out m (by omega)⟩
          case measure => simp [intOf]; omega
        · have hbt : (bits .and .i64 (n / 2 ^ (l.length - 1 - j)) 1 == 1) = true := by rw [HN.out, hb1]; rfl
          have HBAD := Lib.hid (fitsD_bad (sg := false) hlt (show badAt n l j = true by rw [HW.out, hb1]; simp [hp0]))
          clear hb1
          go_wp2
          go_ret
          exact ⟨ret_bool HBAD.out.symm, HB1.out⟩
      · have HBAD := Lib.hid (show badAt n l j = false by rw [HW.out]; simp [hp0])
        go_wp2
        go_round
        case rel => exact ⟨j + 1, by omega, by go_num, fun m hm => by
          by_cases e : m = j
          · rw [e]; exact HBAD.out
          · exact HA.out m (by omega)⟩
        case measure => simp [intOf]; omega
    · obtain rfl : j = l.length := by omega
      go_wp2
      go_ret
      exact ⟨ret_bool (HR.out HA.out).symm, HB1.out⟩

end Go.Proofs.YtehlihhnkojjeaaDoor
