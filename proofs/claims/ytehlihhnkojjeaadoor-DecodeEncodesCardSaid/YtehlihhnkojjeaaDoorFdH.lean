/- The contracts of the document's Number, Fits, Put and Bits. -/
import Derived.Test.YtehlihhnkojjeaaDoorFdG
import Derived.Test.YtehlihhnkojjeaaDoorFv
namespace Go.Proofs.YtehlihhnkojjeaaDoor
open Go.RowKit
set_option linter.unusedVariables false
set_option maxRecDepth 100000




theorem signed_is (k : Nat) (b : Bool) (h : decide (1 ≤ k ∧ k ≤ 5) = b) (w : World) :
    Calls Tryd.prog 51 #[.int .i64 k] w fun e w' => e = .returned (.bool b) ∧ w = w' :=
  (signed_any k w).mono fun e w' ⟨he, hw⟩ => ⟨by rw [he, ← h]; congr 2; rw [decide_eq_decide]; omega, hw⟩

set_option maxHeartbeats 2000000 in
set_option maxRecDepth 100000 in
theorem refNumber_at (k : Nat) (hk : 1 ≤ k ∧ k ≤ 9) (l : List Int) (hP : formP k = l) (h0 : 0 < l.length) (h32 : l.length ≤ 32) (hp : ∀ i, i < l.length → l.getD i 0 < 32) (x : Int) (hx : In32 x) (w : World) :
    Calls Tryd.prog 40 #[.int .i64 k, .int .u32 x] w fun e w' => e = .returned (.tuple #[.int .i64 (numR x (decide (k ≤ 5)) l), .bool true]) ∧ Below w.heap.size w w' := by
  have HK := Lib.hid hk
  have HX := Lib.hid hx
  have HP := Lib.hid hP
  have HB := Lib.hid hp
  clear hk hx hP hp
  have hz : ((l.length : Int) == 0) = false := by rw [beq_eq_false_iff_ne]; omega
  go_enter Tryd.func40, Tryd.ntmps40
  go_wp2_with (go_at_call 45; refine (places_any k HK.out _).mono ?_; rintro e w1 ⟨v, rfl, hr, hb⟩; rw [HP.out] at hr; obtain ⟨a, c, rfl, hm, hcl⟩ := hr)
  have hne : ¬ l = [] := by intro h; rw [h] at h0; simp at h0
  obtain ⟨b, off, rfl, hbb, hc⟩ := hcl.resolve_left hne
  have HB1 := Lib.hid hb
  have HC := Lib.hid hc
  clear hb hne hc hcl
  have HD := Lib.hid (numD_take x l)
  have HL := Lib.hid fun k h => numD_le x l k h h32
  go_loop [7, 8] (fun n i => ∃ j : Nat, j ≤ l.length ∧ i = .int .i64 j ∧ n = .int .i64 (numD x (l.take j))) (fun _ i => l.length - (intOf i).toNat)
  case atStart => exact ⟨0, by omega, rfl, rfl⟩
  case round =>
    obtain ⟨j, hj, rfl, rfl⟩ := hrel
    by_cases hlt : j < l.length
    · have hcell := HC.out j hlt
      have hs := HD.out j hlt
      obtain ⟨g1, g2⟩ := HL.out j hj
      have h32' := HB.out j hlt
      obtain ⟨p1, p2⟩ := plZ_01 x (l.getD j 0)
      have HS := Lib.hid hs
      clear hs
      generalize numD x (l.take j) = y at *
      have HPL : Hid (∀ p, plZ x p = if 0 ≤ p then bitZ x p else 0) := Lib.hid fun p => rfl
      generalize l.getD j 0 = p at *
      by_cases hp0 : 0 ≤ p
      · have e1 : plZ x p = bitZ x p := by rw [HPL.out, if_pos hp0]
        rw [e1] at p1 p2
        have HE := Lib.hid e1
        clear e1
        by_cases hb1 : bitZ x p = 1
        · have hbt : (bitZ x p == 1) = true := by rw [hb1]; rfl
          have HV := Lib.hid hb1
          clear hb1
          go_wp2_with (go_at_call 50; refine (bit_any _ _ HX.out ⟨hp0, h32'⟩ _).mono ?_; rintro e w' ⟨rfl, rfl⟩)
          go_round
          case rel => exact ⟨j + 1, by omega, by go_num, by rw [HS.out, HE.out, HV.out]⟩
          case measure => simp [intOf]; omega
        · have hbt : (bitZ x p == 1) = false := by rw [beq_eq_false_iff_ne]; exact hb1
          have HV := Lib.hid (show bitZ x p = 0 by omega)
          clear hb1
          go_wp2_with (go_at_call 50; refine (bit_any _ _ HX.out ⟨hp0, h32'⟩ _).mono ?_; rintro e w' ⟨rfl, rfl⟩)
          go_round
          case rel => exact ⟨j + 1, by omega, by go_num, by rw [HS.out, HE.out, HV.out, Int.add_zero]⟩
          case measure => simp [intOf]; omega
      · have HE := Lib.hid (show plZ x p = 0 by rw [HPL.out, if_neg hp0])
        clear p1 p2
        go_wp2
        go_round
        case rel => exact ⟨j + 1, by omega, by go_num, by rw [HS.out, HE.out, Int.add_zero]⟩
        case measure => simp [intOf]; omega
    · obtain rfl : j = l.length := by omega
      have HT : Hid (l.take l.length = l) := Lib.hid (List.take_length)
      obtain ⟨g1, g2⟩ := HL.out l.length (Nat.le_refl _)
      rw [HT.out] at g1 g2 ⊢
      have hq := pow_le_32 h32
      obtain ⟨q1, q2⟩ := hq
      have HPW : Hid (IntKind.i64.wrap (2 ^ l.length) = 2 ^ l.length) := Lib.hid (by rw [wrap_i64, wrap64_id (by omega) (by omega)])
      by_cases hs5 : k ≤ 5
      · have HSG := Lib.hid (signed_is k true (by have := HK.out; simp; omega))
        cases hn : (bitZ x 31 == 1)
        · have HE : Hid (numR x (decide (k ≤ 5)) l = numD x l) := Lib.hid (by unfold numR; rw [decide_eq_true hs5, hn]; simp)
          clear hs5
          go_wp2_with (first
            | (go_at_call 51; refine (HSG.out _).mono ?_; rintro e w' ⟨rfl, rfl⟩)
            | (go_at_call 50; refine (bit_any _ _ HX.out (by omega) _).mono ?_; rintro e w' ⟨rfl, rfl⟩))
          go_ret2
          exact ⟨ret_two HE.out.symm rfl, HB1.out⟩
        · have HE : Hid (numR x (decide (k ≤ 5)) l = numD x l - 2 ^ l.length) := Lib.hid (by unfold numR; rw [decide_eq_true hs5, hn]; simp)
          clear hs5
          go_wp2_with (first
            | (go_at_call 51; refine (HSG.out _).mono ?_; rintro e w' ⟨rfl, rfl⟩)
            | (go_at_call 50; refine (bit_any _ _ HX.out (by omega) _).mono ?_; rintro e w' ⟨rfl, rfl⟩))
          go_loop [7, 9] (fun n i => (i = .int .i64 0 ∧ n = .int .i64 (numD x l)) ∨ (i = .int .i64 1 ∧ n = .int .i64 (numD x l - 2 ^ l.length))) (fun _ i => (1 - intOf i).toNat)
          case atStart => exact .inl ⟨rfl, rfl⟩
          case round =>
            generalize numD x l = y at *
            rcases hrel with ⟨rfl, rfl⟩ | ⟨rfl, rfl⟩
            · go_wp2
              exact ⟨.inr ⟨rfl, rfl⟩, by simp [intOf]⟩
            · go_wp2
              go_ret2
              exact ⟨ret_two HE.out.symm rfl, HB1.out⟩
      · have HSG := Lib.hid (signed_is k false (by simp; omega))
        have HE : Hid (numR x (decide (k ≤ 5)) l = numD x l) := Lib.hid (by unfold numR; rw [decide_eq_false hs5]; simp)
        clear hs5
        go_wp2_with (first
          | (go_at_call 51; refine (HSG.out _).mono ?_; rintro e w' ⟨rfl, rfl⟩))
        go_ret2
        exact ⟨ret_two HE.out.symm rfl, HB1.out⟩

end Go.Proofs.YtehlihhnkojjeaaDoor
