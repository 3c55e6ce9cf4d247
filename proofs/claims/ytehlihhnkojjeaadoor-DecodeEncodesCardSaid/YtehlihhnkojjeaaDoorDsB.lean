/- Layer 9: the document's Form, has. -/
import Derived.Test.YtehlihhnkojjeaaDoorDsA
namespace Go.Proofs.YtehlihhnkojjeaaDoor
open Go.RowKit
set_option linter.unusedVariables false
set_option maxRecDepth 100000

def hasB (c : Int) (s : ByteArray) : Bool := s.data.toList.any fun b => (b.toNat : Int) == c
def noTo (c : Int) (s : ByteArray) (k : Nat) : Prop := ∀ j (h : j < s.size), j < k → ((s[j].toNat : Int) == c) = false
theorem hasB_yes {c : Int} {s : ByteArray} {k : Nat} (h : k < s.size) (hc : ((s[k].toNat : Int) == c) = true) : hasB c s = true := by
  unfold hasB
  rw [List.any_eq_true]
  exact ⟨s[k], by show s.data[k] ∈ s.data.toList; exact Array.getElem_mem_toList _, hc⟩
theorem hasB_no {c : Int} {s : ByteArray} (h : noTo c s s.size) : hasB c s = false := by
  unfold hasB
  rw [List.any_eq_false]
  intro b hb
  obtain ⟨j, hj, e⟩ := List.mem_iff_getElem.1 hb
  have hj' : j < s.size := by simpa using hj
  have := h j hj' hj'
  rw [show s[j] = b from e] at this
  simp [this]
set_option maxHeartbeats 1000000 in
theorem refHas_any (c : Int) (s : ByteArray) (hs : s.size ≤ 100) (w : World) :
    Calls Tryd.prog 38 #[.int .u8 c, .string s] w fun e w' => e = .returned (.bool (hasB c s)) ∧ w = w' := by
  go_enter Tryd.func38, Tryd.ntmps38
  go_wp2
  go_loop [5] (fun i => ∃ k : Nat, k ≤ s.size ∧ i = .int .i64 k ∧ noTo c s k) (fun i => s.size - (intOf i).toNat)
  case atStart => exact ⟨0, Nat.zero_le _, rfl, fun j _ h => absurd h (Nat.not_lt_zero j)⟩
  case round =>
    obtain ⟨k, hk, rfl, hno⟩ := hrel
    have HN := Lib.hid hno
    clear hno
    by_cases hlt : k < s.size
    · cases hc : ((s[k].toNat : Int) == c)
      · have HS : Hid (noTo c s (k + 1)) := Lib.hid fun j hj h => by
          by_cases e : j = k
          · subst e; exact hc
          · exact HN.out j hj (by omega)
        go_wp2
        go_round
        case rel => exact ⟨k + 1, by omega, by go_num, HS.out⟩
        case measure => simp [intOf]; omega
      · have HE := Lib.hid (hasB_yes hlt hc)
        go_wp2
        go_ret
        exact ⟨ret_bool HE.out.symm, rfl⟩
    · obtain rfl : k = s.size := by omega
      have HE := Lib.hid (hasB_no HN.out)
      go_wp2
      go_ret
      exact ⟨ret_bool HE.out.symm, rfl⟩

theorem has_rd_is : ∀ k, k < 15 → hasB (letT k) ⟨#[85, 74, 73, 72, 87, 82, 76, 65, 67, 90, 86]⟩ = (frm k).rd := by decide +kernel
theorem has_rd (k : Nat) (hk : k < 15) (w : World) : Calls Tryd.prog 38 #[.int .u8 (letT k), .string ⟨#[85, 74, 73, 72, 87, 82, 76, 65, 67, 90, 86]⟩] w fun e w' => e = .returned (.bool (frm k).rd) ∧ w = w' := by
  rw [← has_rd_is k hk]; exact refHas_any _ _ (by decide) w
theorem has_a_is : ∀ k, k < 15 → hasB (letT k) ⟨#[73, 72, 87, 66, 83, 70, 82, 76, 65, 67, 86]⟩ = (frm k).a := by decide +kernel
theorem has_a (k : Nat) (hk : k < 15) (w : World) : Calls Tryd.prog 38 #[.int .u8 (letT k), .string ⟨#[73, 72, 87, 66, 83, 70, 82, 76, 65, 67, 86]⟩] w fun e w' => e = .returned (.bool (frm k).a) ∧ w = w' := by
  rw [← has_a_is k hk]; exact refHas_any _ _ (by decide) w
theorem has_b_is : ∀ k, k < 15 → hasB (letT k) ⟨#[66, 83, 70, 82, 65]⟩ = (frm k).b := by decide +kernel
theorem has_b (k : Nat) (hk : k < 15) (w : World) : Calls Tryd.prog 38 #[.int .u8 (letT k), .string ⟨#[66, 83, 70, 82, 65]⟩] w fun e w' => e = .returned (.bool (frm k).b) ∧ w = w' := by
  rw [← has_b_is k hk]; exact refHas_any _ _ (by decide) w
theorem has_csr_is : ∀ k, k < 15 → hasB (letT k) ⟨#[67, 90]⟩ = (frm k).csr := by decide +kernel
theorem has_csr (k : Nat) (hk : k < 15) (w : World) : Calls Tryd.prog 38 #[.int .u8 (letT k), .string ⟨#[67, 90]⟩] w fun e w' => e = .returned (.bool (frm k).csr) ∧ w = w' := by
  rw [← has_csr_is k hk]; exact refHas_any _ _ (by decide) w
theorem has_ord_is : ∀ k, k < 15 → hasB (letT k) ⟨#[76, 65]⟩ = (frm k).ord := by decide +kernel
theorem has_ord (k : Nat) (hk : k < 15) (w : World) : Calls Tryd.prog 38 #[.int .u8 (letT k), .string ⟨#[76, 65]⟩] w fun e w' => e = .returned (.bool (frm k).ord) ∧ w = w' := by
  rw [← has_ord_is k hk]; exact refHas_any _ _ (by decide) w

theorem refForm_0 (w : World) : Calls Tryd.prog 27 #[.int .u8 85] w fun e w' => e = .returned (.int .i64 4) ∧ w = w' := by
  go_enter Tryd.func27, Tryd.ntmps27
  go_wp2
  go_ret
  exact ⟨rfl, rfl⟩
theorem refForm_1 (w : World) : Calls Tryd.prog 27 #[.int .u8 74] w fun e w' => e = .returned (.int .i64 5) ∧ w = w' := by
  go_enter Tryd.func27, Tryd.ntmps27
  go_wp2
  go_ret
  exact ⟨rfl, rfl⟩
theorem refForm_2 (w : World) : Calls Tryd.prog 27 #[.int .u8 73] w fun e w' => e = .returned (.int .i64 1) ∧ w = w' := by
  go_enter Tryd.func27, Tryd.ntmps27
  go_wp2
  go_ret
  exact ⟨rfl, rfl⟩
theorem refForm_3 (w : World) : Calls Tryd.prog 27 #[.int .u8 66] w fun e w' => e = .returned (.int .i64 3) ∧ w = w' := by
  go_enter Tryd.func27, Tryd.ntmps27
  go_wp2
  go_ret
  exact ⟨rfl, rfl⟩
theorem refForm_4 (w : World) : Calls Tryd.prog 27 #[.int .u8 83] w fun e w' => e = .returned (.int .i64 2) ∧ w = w' := by
  go_enter Tryd.func27, Tryd.ntmps27
  go_wp2
  go_ret
  exact ⟨rfl, rfl⟩
theorem refForm_5 (w : World) : Calls Tryd.prog 27 #[.int .u8 72] w fun e w' => e = .returned (.int .i64 6) ∧ w = w' := by
  go_enter Tryd.func27, Tryd.ntmps27
  go_wp2
  go_ret
  exact ⟨rfl, rfl⟩
theorem refForm_6 (w : World) : Calls Tryd.prog 27 #[.int .u8 87] w fun e w' => e = .returned (.int .i64 7) ∧ w = w' := by
  go_enter Tryd.func27, Tryd.ntmps27
  go_wp2
  go_ret
  exact ⟨rfl, rfl⟩
theorem refForm_7 (w : World) : Calls Tryd.prog 27 #[.int .u8 82] w fun e w' => e = .returned (.int .i64 0) ∧ w = w' := by
  go_enter Tryd.func27, Tryd.ntmps27
  go_wp2
  go_ret
  exact ⟨rfl, rfl⟩
theorem refForm_8 (w : World) : Calls Tryd.prog 27 #[.int .u8 76] w fun e w' => e = .returned (.int .i64 0) ∧ w = w' := by
  go_enter Tryd.func27, Tryd.ntmps27
  go_wp2
  go_ret
  exact ⟨rfl, rfl⟩
theorem refForm_9 (w : World) : Calls Tryd.prog 27 #[.int .u8 65] w fun e w' => e = .returned (.int .i64 0) ∧ w = w' := by
  go_enter Tryd.func27, Tryd.ntmps27
  go_wp2
  go_ret
  exact ⟨rfl, rfl⟩
theorem refForm_10 (w : World) : Calls Tryd.prog 27 #[.int .u8 78] w fun e w' => e = .returned (.int .i64 0) ∧ w = w' := by
  go_enter Tryd.func27, Tryd.ntmps27
  go_wp2
  go_ret
  exact ⟨rfl, rfl⟩
theorem refForm_11 (w : World) : Calls Tryd.prog 27 #[.int .u8 70] w fun e w' => e = .returned (.int .i64 0) ∧ w = w' := by
  go_enter Tryd.func27, Tryd.ntmps27
  go_wp2
  go_ret
  exact ⟨rfl, rfl⟩
theorem refForm_12 (w : World) : Calls Tryd.prog 27 #[.int .u8 67] w fun e w' => e = .returned (.int .i64 0) ∧ w = w' := by
  go_enter Tryd.func27, Tryd.ntmps27
  go_wp2
  go_ret
  exact ⟨rfl, rfl⟩
theorem refForm_13 (w : World) : Calls Tryd.prog 27 #[.int .u8 90] w fun e w' => e = .returned (.int .i64 9) ∧ w = w' := by
  go_enter Tryd.func27, Tryd.ntmps27
  go_wp2
  go_ret
  exact ⟨rfl, rfl⟩
theorem refForm_14 (w : World) : Calls Tryd.prog 27 #[.int .u8 86] w fun e w' => e = .returned (.int .i64 0) ∧ w = w' := by
  go_enter Tryd.func27, Tryd.ntmps27
  go_wp2
  go_ret
  exact ⟨rfl, rfl⟩
theorem refForm_any (k : Nat) (hk : k < 15) (w : World) : Calls Tryd.prog 27 #[.int .u8 (letT k)] w fun e w' => e = .returned (.int .i64 (frm k).imm) ∧ w = w' :=
  match k, hk with
  | 0, _ => refForm_0 w
  | 1, _ => refForm_1 w
  | 2, _ => refForm_2 w
  | 3, _ => refForm_3 w
  | 4, _ => refForm_4 w
  | 5, _ => refForm_5 w
  | 6, _ => refForm_6 w
  | 7, _ => refForm_7 w
  | 8, _ => refForm_8 w
  | 9, _ => refForm_9 w
  | 10, _ => refForm_10 w
  | 11, _ => refForm_11 w
  | 12, _ => refForm_12 w
  | 13, _ => refForm_13 w
  | 14, _ => refForm_14 w
  | k + 15, h => absurd h (by omega)

end Go.Proofs.YtehlihhnkojjeaaDoor
