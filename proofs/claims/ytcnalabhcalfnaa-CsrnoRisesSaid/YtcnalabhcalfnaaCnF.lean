/- Layer 11: Number and All, the program's and the document's. -/
import Derived.Test.YtcnalabhcalfnaaCnE
import Derived.Test.YtcnalabhcalfnaaCnB
import Derived.Test.YtcnalabhcalfnaaArr
import Derived.Test.YtcnalabhcalfnaaInts
import Derived.WalkLawsBesides
namespace Go.Proofs.Ytcnalabhcalfnaa
open Go.RowKit
set_option linter.unusedVariables false
set_option maxRecDepth 100000

def sameB (a b : ByteArray) : Bool := a.toList == b.toList
theorem sameB_iff (a b : ByteArray) : sameB a b = true ↔ a = b := by
  unfold sameB
  rw [beq_iff_eq, ByteArray.toList_eq, ByteArray.toList_eq]
  exact ⟨data_inj, fun h => by rw [h]⟩
theorem sameB_no {a b : ByteArray} (h : ¬ a = b) : sameB a b = false := by
  cases e : sameB a b
  · rfl
  · exact absurd ((sameB_iff a b).1 e) h
theorem s_before {s : ByteArray} {j : Nat} (hj : j < ixS s) : sameB (nmT j) s = false := by
  refine sameB_no fun e => ?_
  rcases ixS_cases s with ⟨a, b⟩ | ⟨a, b⟩
  · have := nmT_inj (by omega) a (e.trans b.symm); omega
  · exact b j (by omega) e
set_option maxHeartbeats 1000000 in
theorem number_any (s : ByteArray) (w : World) :
    Calls Try.prog 13 #[.string s] w fun e w' => e = .returned (.int .i64 (numS s)) ∧ Below w.heap.size w w' := by
  obtain ⟨K, hK⟩ : ∃ K, K = ixS s := ⟨_, rfl⟩
  have hKl : K ≤ 56 := by rcases ixS_cases s with ⟨a, _⟩ | ⟨a, _⟩ <;> omega
  have HK := Lib.hid hK
  clear hK
  go_enter Try.func13, Try.ntmps13
  go_wp2
  go_loopw [5] (fun i wr => ∃ j : Nat, j ≤ K ∧ i = .int .i64 j ∧ Below w.heap.size w wr) (fun i _ => (57 - intOf i).toNat)
  case atStart => exact ⟨0, by omega, rfl, Below.refl _ _⟩
  case round =>
    obtain ⟨j, hj, rfl, hz⟩ := hrel
    have HZ := Lib.hid hz
    clear hz
    by_cases h56 : j < 56
    · have HF := Lib.hid fun w => at_any j h56 w
      by_cases e : j < K
      · have hq : ((nmT j).toList == s.toList) = false := s_before (by rw [← HK.out]; exact e)
        generalize nmT j = nm at *
        generalize (noT j : Int) = no at *
        go_wp2_with ((with_reducible refine (HF.out _).mono ?_); rintro e1 w1 ⟨rfl, hb1⟩; have HZ1 := Lib.hid (HZ.out.trans (hb1.mono HZ.out.size)); clear hb1)
        go_roundw
        case rel => exact ⟨j + 1, by omega, by go_num, HZ1.out.alloc HZ1.out.size _⟩
        case measure => simp [intOf]; omega
      · have hx : ixS s < 56 ∧ noT j = noT (ixS s) ∧ nmT j = s := by
          have e2 : j = ixS s := by have := HK.out; omega
          rcases ixS_cases s with ⟨a, b⟩ | ⟨a, b⟩
          · exact ⟨a, by rw [e2], by rw [e2]; exact b⟩
          · omega
        have hq : ((nmT j).toList == s.toList) = true := (sameB_iff _ _).2 hx.2.2
        have HN : Hid (numS s = (noT j : Int)) := Lib.hid (by unfold numS; rw [if_pos hx.1, hx.2.1])
        clear hx
        generalize nmT j = nm at *
        generalize (noT j : Int) = no at *
        go_wp2_with ((with_reducible refine (HF.out _).mono ?_); rintro e1 w1 ⟨rfl, hb1⟩; have HZ1 := Lib.hid (HZ.out.trans (hb1.mono HZ.out.size)); clear hb1)
        go_ret
        exact ⟨by rw [HN.out]; rfl, HZ1.out.alloc HZ1.out.size _⟩
    · have HN : Hid (numS s = -1) := Lib.hid (by
        have := HK.out
        unfold numS; rw [if_neg (by omega)])
      go_wp2
      go_ret
      exact ⟨by rw [HN.out]; rfl, HZ.out⟩

/-- Where the document's Number stops. -/
def stopS (s : ByteArray) : Nat := if ixS s < 56 then noT (ixS s) else 4096
theorem stopS_le (s : ByteArray) : stopS s ≤ 4096 := by
  unfold stopS
  by_cases h : ixS s < 56
  · rw [if_pos h]; have := noT_lt _ h; omega
  · rw [if_neg h]; omega
theorem stop_at {s : ByteArray} (h : stopS s < 4096) : numS s = (stopS s : Int) ∧ nameN (stopS s) = s := by
  unfold stopS at *
  by_cases c : ixS s < 56
  · rw [if_pos c] at *
    refine ⟨by unfold numS; rw [if_pos c], ?_⟩
    unfold nameN; rw [ixN_at c]
    rcases ixS_cases s with ⟨_, b⟩ | ⟨a, _⟩
    · exact b
    · omega
  · rw [if_neg c] at h; omega
theorem stop_no {s : ByteArray} (h : stopS s = 4096) : numS s = -1 := by
  unfold stopS at h
  by_cases c : ixS s < 56
  · rw [if_pos c] at h; have := noT_lt _ c; omega
  · unfold numS; rw [if_neg c]
theorem stop_before {s : ByteArray} (hs : ¬ s = ⟨#[]⟩) {j : Nat} (hj : j < stopS s) : sameB (nameN j) s = false := by
  refine sameB_no fun e => ?_
  unfold nameN at e
  rcases ixN_cases (j : Int) with ⟨a, b⟩ | ⟨a, _⟩
  · have e2 : ixS s = ixN (j : Int) := by rw [← e]; exact ixS_at a
    unfold stopS at hj
    rw [e2, if_pos a] at hj
    omega
  · rw [a] at e; exact hs (e.symm.trans nmT_56)
theorem stop_nil : stopS ⟨#[]⟩ = 4096 := by
  unfold stopS; rw [if_neg]
  rcases ixS_cases ⟨#[]⟩ with ⟨a, b⟩ | ⟨a, _⟩
  · exact fun _ => nmT_ne a b
  · omega
set_option maxHeartbeats 1000000 in
theorem refNumber_any (s : ByteArray) (w : World) :
    Calls Try.prog 14 #[.string s] w fun e w' => e = .returned (.int .i64 (numS s)) ∧ w = w' := by
  by_cases hs : s = ⟨#[]⟩
  · have HN : Hid (numS s = -1) := Lib.hid (stop_no (by rw [hs]; exact stop_nil))
    have hq : s.toList = [] := by rw [hs, ByteArray.toList_eq]
    have hq2 : (!s.toList.isEmpty) = false := by rw [hq]; rfl
    clear hs
    go_enter Try.func14, Try.ntmps14
    go_wp2
    go_loop [3] (fun i => ∃ j : Nat, j ≤ 4096 ∧ i = .int .i64 j) (fun i => (4097 - intOf i).toNat)
    case atStart => exact ⟨0, by omega, rfl⟩
    case round =>
      obtain ⟨j, hj, rfl⟩ := hrel
      by_cases hlt : j < 4096
      · go_wp2
        go_round
        case rel => exact ⟨j + 1, by omega, by go_num⟩
        case measure => simp [intOf]; omega
      · go_wp2
        go_ret
        exact ⟨by rw [HN.out]; rfl, rfl⟩
  · have hne : ¬ s.toList = [] := fun h => hs (data_inj (by rw [← ByteArray.toList_eq, h]))
    have hq2 : (!s.toList.isEmpty) = true := by cases e : s.toList with
      | nil => exact absurd e hne
      | cons _ _ => rfl
    have hq3 : s.toList.isEmpty = false := by cases e : s.toList with
      | nil => exact absurd e hne
      | cons _ _ => rfl
    obtain ⟨K, hK⟩ : ∃ K, K = stopS s := ⟨_, rfl⟩
    have hKl : K ≤ 4096 := by rw [hK]; exact stopS_le s
    have HK := Lib.hid hK
    have HS := Lib.hid hs
    clear hK hs
    go_enter Try.func14, Try.ntmps14
    go_wp2
    go_loop [3] (fun i => ∃ j : Nat, j ≤ K ∧ i = .int .i64 j) (fun i => (4097 - intOf i).toNat)
    case atStart => exact ⟨0, by omega, rfl⟩
    case round =>
      obtain ⟨j, hj, rfl⟩ := hrel
      have HF := Lib.hid fun w => refName_any (j : Int) w
      by_cases e : j < K
      · have hq : ((nameN j).toList == s.toList) = false := stop_before HS.out (by rw [← HK.out]; exact e)
        generalize nameN (j : Int) = nm at *
        have h4 : (j : Int) < 4096 := by omega
        go_wp2_with ((with_reducible refine (HF.out _).mono ?_); rintro e1 w1 ⟨rfl, rfl⟩)
        go_round
        case rel => exact ⟨j + 1, by omega, by go_num⟩
        case measure => simp [intOf]; omega
      · by_cases h4 : j < 4096
        · have hx : numS s = (j : Int) ∧ nameN j = s := by
            have e2 : j = stopS s := by have := HK.out; omega
            rw [e2]; exact stop_at (by omega)
          have HN := Lib.hid hx.1
          have hq : ((nameN j).toList == s.toList) = true := (sameB_iff _ _).2 hx.2
          clear hx
          generalize nameN (j : Int) = nm at *
          go_wp2_with ((with_reducible refine (HF.out _).mono ?_); rintro e1 w1 ⟨rfl, rfl⟩)
          go_ret
          exact ⟨by rw [HN.out]; rfl, rfl⟩
        · have HN : Hid (numS s = -1) := Lib.hid (stop_no (by have := HK.out; omega))
          go_wp2
          go_ret
          exact ⟨by rw [HN.out]; rfl, rfl⟩
end Go.Proofs.Ytcnalabhcalfnaa
