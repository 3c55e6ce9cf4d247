/- The contracts of the document's Put and Bits. -/
import Derived.Test.YtehlihhnkojjeaaDoorFdI
namespace Go.Proofs.YtehlihhnkojjeaaDoor
open Go.RowKit
set_option linter.unusedVariables false
set_option maxRecDepth 100000

theorem refFits_any (k : Nat) (hk : 1 ≤ k ∧ k ≤ 9) (l : List Int) (hP : formP k = l) (h0 : 0 < l.length) (h32 : l.length ≤ 32) (hp : ∀ i, i < l.length → l.getD i 0 < 32) (n : Int) (w : World) :
    Calls Tryd.prog 44 #[.int .i64 k, .int .i64 n] w fun e w' => e = .returned (.bool (fitsD n (decide (k ≤ 5)) l)) ∧ Below w.heap.size w w' := by
  by_cases h : k ≤ 5
  · rw [decide_eq_true h]; exact refFits_true k hk l hP h0 h32 hp (by simp; omega) n w
  · rw [decide_eq_false h]; exact refFits_false k hk l hP h0 h32 hp (by simp; omega) n w
theorem refFits_is (k : Nat) (hk : 1 ≤ k ∧ k ≤ 9) (l : List Int) (hP : formP k = l) (h0 : 0 < l.length) (h32 : l.length ≤ 32) (hp : ∀ i, i < l.length → l.getD i 0 < 32) (n : Int) (q : Bool) (hq : fitsD n (decide (k ≤ 5)) l = q) (w : World) :
    Calls Tryd.prog 44 #[.int .i64 k, .int .i64 n] w fun e w' => e = .returned (.bool q) ∧ Below w.heap.size w w' :=
  (refFits_any k hk l hP h0 h32 hp n w).mono fun e w' ⟨he, hw⟩ => ⟨by rw [he, hq], hw⟩
theorem putD_one {n : Int} {l : List Int} {j : Nat} (h1 : 0 ≤ l.getD j 0) (h2 : bitN n (l.length - 1 - j) = 1) : putD n l (j + 1) = bits .or .u32 (putD n l j) (IntKind.u32.wrap (2 ^ (l.getD j 0).toNat)) := by
  rw [putD, if_pos ⟨h1, h2⟩]
theorem putD_not {n : Int} {l : List Int} {j : Nat} (h : ¬ (0 ≤ l.getD j 0 ∧ bitN n (l.length - 1 - j) = 1)) : putD n l (j + 1) = putD n l j := by
  rw [putD, if_neg h]
theorem bitsD_one {l : List Int} {j : Nat} (h1 : 0 ≤ l.getD j 0) : bitsD l (j + 1) = bits .or .u32 (bitsD l j) (IntKind.u32.wrap (2 ^ (l.getD j 0).toNat)) := by
  rw [bitsD, if_pos h1]
theorem bitsD_not {l : List Int} {j : Nat} (h : ¬ 0 ≤ l.getD j 0) : bitsD l (j + 1) = bitsD l j := by
  rw [bitsD, if_neg h]

theorem refPut_no (k : Nat) (hk : 1 ≤ k ∧ k ≤ 9) (l : List Int) (hP : formP k = l) (h0 : 0 < l.length) (h32 : l.length ≤ 32) (hp : ∀ i, i < l.length → l.getD i 0 < 32) (n : Int) (hq : fitsD n (decide (k ≤ 5)) l = false) (w : World) :
    Calls Tryd.prog 28 #[.int .i64 k, .int .i64 n] w fun e w' => e = .returned (.tuple #[.int .u32 0, .bool false]) ∧ Below w.heap.size w w' := by
  have HF := Lib.hid (refFits_is k hk l hP h0 h32 hp n false hq)
  clear hq
  go_enter Tryd.func28, Tryd.ntmps28
  go_wp2_with (go_at_call 44; refine (HF.out _).mono ?_; rintro e w1 ⟨rfl, hb⟩)
  go_ret2
  exact ⟨rfl, hb⟩

set_option maxHeartbeats 2000000 in
set_option maxRecDepth 100000 in
theorem refPut_yes (k : Nat) (hk : 1 ≤ k ∧ k ≤ 9) (l : List Int) (hP : formP k = l) (h0 : 0 < l.length) (h32 : l.length ≤ 32) (hp : ∀ i, i < l.length → l.getD i 0 < 32) (n : Int) (hq : fitsD n (decide (k ≤ 5)) l = true) (w : World) :
    Calls Tryd.prog 28 #[.int .i64 k, .int .i64 n] w fun e w' => e = .returned (.tuple #[.int .u32 (putD n l l.length), .bool true]) ∧ Below w.heap.size w w' := by
  have HF := Lib.hid (refFits_is k hk l hP h0 h32 hp n true hq)
  clear hq
  have HK := Lib.hid hk
  have HP := Lib.hid hP
  have HB := Lib.hid hp
  have hne : ¬ l = [] := by intro h; rw [h] at h0; simp at h0
  have HNE := Lib.hid hne
  clear hne
  clear hk hP hp
  go_enter Tryd.func28, Tryd.ntmps28
  go_wp2_with (first
    | (go_at_call 44; refine (HF.out _).mono ?_; rintro e wf ⟨rfl, hbf⟩; have HBF := Lib.hid hbf; clear hbf)
    | (go_at_call 45; refine (places_any k HK.out _).mono ?_; rintro e w1 ⟨v, rfl, hr, hb⟩; rw [HP.out] at hr; obtain ⟨a, c, rfl, hm, hcl⟩ := hr; obtain ⟨b, off, rfl, hbb, hc⟩ := hcl.resolve_left HNE.out; have HB1 := Lib.hid (HBF.out.trans (hb.mono HBF.out.size)); have HC := Lib.hid hc; clear hb hc hcl hm))
  go_loop [7, 8] (fun v i => ∃ j : Nat, j ≤ l.length ∧ i = .int .i64 j ∧ v = .int .u32 (putD n l j)) (fun _ i => l.length - (intOf i).toNat)
  case atStart => exact ⟨0, by omega, rfl, rfl⟩
  case round =>
    obtain ⟨j, hj, rfl, rfl⟩ := hrel
    by_cases hlt : j < l.length
    · have hcell := HC.out j hlt
      have h32' := HB.out j hlt
      have HN := Lib.hid (bitN_and n (l.length - 1 - j))
      have HO := Lib.hid (fun h1 h2 => putD_one (n := n) (l := l) (j := j) h1 h2)
      have HZ := Lib.hid (fun h => putD_not (n := n) (l := l) (j := j) h)
      generalize l.getD j 0 = p at *
      by_cases hp0 : 0 ≤ p
      · rcases bitN_01 n (l.length - 1 - j) with hb0 | hb1
        · have hbt : (bits .and .i64 (n / 2 ^ (l.length - 1 - j)) 1 == 1) = false := by rw [HN.out, hb0]; rfl
          have HE := Lib.hid (HZ.out (by rw [hb0]; omega))
          clear hb0
          generalize putD n l j = y at *
          go_wp2
          go_round
          case rel => exact ⟨j + 1, by omega, by go_num, by rw [HE.out]⟩
          case measure => simp [intOf]; omega
        · have hbt : (bits .and .i64 (n / 2 ^ (l.length - 1 - j)) 1 == 1) = true := by rw [HN.out, hb1]; rfl
          have HE := Lib.hid (HO.out hp0 hb1)
          clear hb1
          generalize putD n l j = y at *
          go_wp2
          go_round
          case rel => exact ⟨j + 1, by omega, by go_num, by rw [HE.out, wrap32]⟩
          case measure => simp [intOf]; omega
      · have HE := Lib.hid (HZ.out (by omega))
        generalize putD n l j = y at *
        go_wp2
        go_round
        case rel => exact ⟨j + 1, by omega, by go_num, by rw [HE.out]⟩
        case measure => simp [intOf]; omega
    · obtain rfl : j = l.length := by omega
      generalize hy : putD n l l.length = y at *
      have HY := Lib.hid hy
      clear hy
      go_wp2
      go_ret2
      exact ⟨ret_two HY.out.symm rfl, HB1.out⟩

theorem refNumber_no (f : Int) (hf : ¬ (1 ≤ f ∧ f ≤ 9)) (x : Int) (w : World) :
    Calls Tryd.prog 40 #[.int .i64 f, .int .u32 x] w fun e w' => e = .returned (.tuple #[.int .i64 0, .bool false]) ∧ w = w' := by
  have HF := Lib.hid (places_no f hf)
  clear hf
  go_enter Tryd.func40, Tryd.ntmps40
  go_wp2_with (go_at_call 45; refine (HF.out _).mono ?_; rintro e w1 ⟨rfl, rfl⟩)
  go_ret2
  exact ⟨rfl, rfl⟩

theorem refFits_no (f : Int) (hf : ¬ (1 ≤ f ∧ f ≤ 9)) (n : Int) (w : World) :
    Calls Tryd.prog 44 #[.int .i64 f, .int .i64 n] w fun e w' => e = .returned (.bool false) ∧ w = w' := by
  have HF := Lib.hid (places_no f hf)
  clear hf
  go_enter Tryd.func44, Tryd.ntmps44
  go_wp2_with (go_at_call 45; refine (HF.out _).mono ?_; rintro e w1 ⟨rfl, rfl⟩)
  go_ret
  exact ⟨rfl, rfl⟩

theorem refPut_non (f : Int) (hf : ¬ (1 ≤ f ∧ f ≤ 9)) (n : Int) (w : World) :
    Calls Tryd.prog 28 #[.int .i64 f, .int .i64 n] w fun e w' => e = .returned (.tuple #[.int .u32 0, .bool false]) ∧ w = w' := by
  have HF := Lib.hid (refFits_no f hf n)
  clear hf
  go_enter Tryd.func28, Tryd.ntmps28
  go_wp2_with (go_at_call 44; refine (HF.out _).mono ?_; rintro e w1 ⟨rfl, rfl⟩)
  go_ret2
  exact ⟨rfl, rfl⟩

end Go.Proofs.YtehlihhnkojjeaaDoor
