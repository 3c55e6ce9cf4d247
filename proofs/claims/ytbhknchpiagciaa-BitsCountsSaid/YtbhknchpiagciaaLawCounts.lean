/- The walk of BitsCounts. -/
import Derived.Test.YtbhknchpiagciaaLaw1
import Derived.Test.YtbhknchpiagciaaCounts
namespace Go.Proofs.Ytbhknchpiagciaa
open Go.RowKit
set_option linter.unusedVariables false

theorem div_told {a s : Int} (ha : In64 a) (hs : 0 ≤ s) (h : a / s = 18446744073709551615 / s) : (IntKind.u64.wrap (a.tdiv s) == 18446744073709551615 / s) = true := by
  unfold In64 at ha
  rw [beq_iff_eq, Int.tdiv_eq_ediv_of_nonneg ha.1, ← h, IntKind.wrap_u64]
  have h1 := Int.ediv_nonneg ha.1 hs
  have h2 : a / s ≤ a := Int.ediv_le_self s ha.1
  omega

set_option maxHeartbeats 1000000 in
theorem counts_any (a s : Int) (ha : In64 a) (hs : In64 s) (w : World) :
    Calls Try.prog 10 #[.int .u64 a, .int .u64 s] w fun e w' => e = .returned (.bool true) ∧ Below w.heap.size w w' := by
  have p1 : U (ofB (onesB (V a))) = a := by rw [of_ones, U_V ha]
  have hx0 := ha.1
  have hx1 : a < 2 ^ 64 := ha.2
  have HX := Lib.hid hx1
  clear hx1
  go_enter Try.func10, Try.ntmps10
  go_wp2_with fail
  refine (awake_any _).mono ?_
  rintro e w1 ⟨rfl, hb1⟩
  go_wp2_with fail
  refine (ones_any a ha w1).mono ?_
  rintro e w2 ⟨v, rfl, hown, hb2⟩
  have hr := ReadsL.own hown
  go_wp2_with fail
  refine (of_any v _ _ w2 hr).mono ?_
  rintro e w' ⟨rfl, rfl⟩
  have hB : Below w.heap.size w w2 := hb1.trans (hb2.mono hb1.size)
  have hlen := ones_len (V a)
  have hget := Lib.hid (fun k => @ones_get (V a) k)
  have hrise := Lib.hid (fun k => @ones_rise (V a) k)
  clear hown
  generalize onesB (V a) = xs at *
  obtain ⟨ad, c, rfl, hm, hx⟩ := hr
  go_wp2_with fail
  go_loopw [6] (fun i wr => ∃ k : Nat, k ≤ xs.length ∧ i = .int .i64 k ∧ Below w2.heap.size w2 wr) (fun i _ => xs.length - (intOf i).toNat)
  case atStart => exact ⟨0, Nat.zero_le _, rfl, Below.refl _ _⟩
  case round =>
    obtain ⟨k, hk, rfl, hwr⟩ := hrel
    by_cases hlt : k < xs.length
    · rcases hx with rfl | ⟨b, off, rfl, hbb, hc⟩
      · simp at hlt
      obtain ⟨g1, g2, g3⟩ := hget.out k hlt
      have hcell := (hwr.cell (p := ⟨b, off + k, none⟩) hbb).trans (hc k hlt)
      have hlt2 : (k : Int) < (xs.length : Int) := by omega
      by_cases hk0 : k = 0
      · subst hk0
        clear hc
        generalize xs.getD 0 0 = x at hcell g1 g2 g3
        rw [Nat.add_zero] at hcell
        rw [show ((0 : Nat) : Int) = 0 from rfl]
        have hlt3 : (0 : Int) < (xs.length : Int) := by omega
        go_wp2_with fail
        go_quiet ((go_at_call 28; exact Calls.quiet_of_same ((bit64_any _ _ hx0 HX.out _).mono fun e w' h => ⟨h.1, h.2.symm⟩)))
        go_wp2
        go_roundw
        case rel => exact ⟨1, by omega, rfl, below_drewN hwr _⟩
        case measure => simp [intOf]; omega
      · have hcell2 := (hwr.cell (p := ⟨b, off + (k - 1), none⟩) hbb).trans (hc (k - 1) (by omega))
        have hri := hrise.out (k - 1) (by omega)
        rw [show k - 1 + 1 = k by omega] at hri
        clear hc
        generalize xs.getD k 0 = x at hcell g1 g2 g3 hri
        generalize xs.getD (k - 1) 0 = y at hcell2 hri
        have h0 : 0 < k := by omega
        have h1 : (1 : Int) ≤ (k : Int) := by omega
        have h2 : (0 : Int) ≤ (k : Int) - 1 := by omega
        have h3 : (k : Int) - 1 < (xs.length : Int) := by omega
        have h4 : IntKind.i64.wrap ((k : Int) - 1) = (k : Int) - 1 := IntWalk.i64_in _ (by omega)
        have h5 : ((k : Int) - 1).toNat = k - 1 := by omega
        go_wp2_with fail
        go_quiet ((go_at_call 28; exact Calls.quiet_of_same ((bit64_any _ _ hx0 HX.out _).mono fun e w' h => ⟨h.1, h.2.symm⟩)))
        clear h4 h5
        go_wp2
        go_roundw
        case rel => exact ⟨k + 1, by omega, by go_num, below_drewN hwr _⟩
        case measure => simp [intOf]; omega
    · have hge : ¬ (k : Int) < (xs.length : Int) := by omega
      have hB2 : Below w.heap.size w wr := hB.trans (hwr.mono (by have := hB.size; omega))
      have T := up_told ha hs
      by_cases hok : (upZ a s).2 = false
      · obtain ⟨e1, e2⟩ := T.1 hok
        have hu : upZ a s = (0, false) := by rw [← e1, ← hok]
        clear T e1 hok
        rcases e2 with rfl | ⟨e3, e4, e5⟩
        · go_wp2_with (go_at_call 11; refine (up_any _ _ ha hs _).mono ?_; rintro e w' ⟨rfl, rfl⟩)
          go_quiet (fail)
          go_wp2
          go_ret
          exact ⟨rfl, below_drewN hB2 _⟩
        · have e6 : (s == 0) = false := by simpa using e3
          have e7 : (a % s != 0) = true := by simpa using e4
          have hs0 := hs.1
          have hs1 : 1 ≤ s := by omega
          have E5 := Lib.hid e5
          clear e5
          go_wp2_with (go_at_call 11; refine (up_any _ _ ha hs _).mono ?_; rintro e w' ⟨rfl, rfl⟩)
          go_quiet (fail)
          go_wp2
          go_ret
          exact ⟨ret_bool (div_told ha hs0 E5.out), below_drewN hB2 _⟩
      · obtain ⟨e1, e2, e3, e4, e5, e6⟩ := T.2 (by simpa using hok)
        obtain ⟨u, hu⟩ : ∃ u, upZ a s = (u, true) := ⟨(upZ a s).1, by rw [Prod.ext_iff]; exact ⟨rfl, by simpa using hok⟩⟩
        rw [hu] at e2 e3 e4 e5 e6
        simp only at e2 e3 e4 e5 e6
        have e0 : (s == 0) = false := by simpa using e1
        have hs0 := hs.1
        have hs1 : 1 ≤ s := by omega
        have hu0 := e2.1
        have hsub : IntKind.u64.wrap (u - a) = u - a := by
          have := e2.2; rw [IntKind.wrap_u64]; omega
        clear T
        go_wp2_with (go_at_call 11; refine (up_any _ _ (by assumption) hs _).mono ?_; rintro e w' ⟨rfl, rfl⟩)
        go_ret
        exact ⟨rfl, hB2⟩

theorem bitsCounts_walk (a0 : Int) (a1 : Int) (w0 : (Lit.int .u64 a0).wf = true) (w1 : (Lit.int .u64 a1).wf = true) (w : World) :
    Calls Try.prog 10 #[.int .u64 a0, .int .u64 a1] w fun e w' => e = .returned (.bool true) ∧ Below w.heap.size w w' :=
  counts_any a0 a1 (of_wf w0) (of_wf w1) w

end Go.Proofs.Ytbhknchpiagciaa
