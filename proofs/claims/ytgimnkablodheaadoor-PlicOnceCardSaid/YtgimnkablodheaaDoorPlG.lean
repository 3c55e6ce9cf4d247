/- Layer 5: the document's Read: the priorities; which sources are pending. -/
import Derived.Test.YtgimnkablodheaaDoorPlE
import Derived.Test.YtgimnkablodheaaDoorPlF
namespace Go.Proofs.YtgimnkablodheaaDoor
open Go.RowKit
set_option linter.unusedVariables false

/-- What a reading tells that turns nothing. -/
def TellsP (w : World) (x : Int) (r : Bool) (e : Ending) (w' : World) : Prop := e = .returned (.tuple #[.int .u64 x, .bool r]) ∧ w = w'

theorem refRead_len (w : World) (b : Nat) (off n : Int) (hn : ¬ n = 4) : Calls Tryd.prog 32 #[.pointer (some ⟨b, 0, none⟩), .int .u64 off, .int .i64 n] w (TellsP w 0 false) := by
  have e4 : (n != 4) = true := by simpa using hn
  clear hn
  go_enter Tryd.func32, Tryd.ntmps32
  go_wp2
  go_ret2
  exact ⟨rfl, rfl⟩

set_option maxHeartbeats 2000000 in
theorem refRead_pend (w : World) (b : Nat) (t : PS) (h : RefP w b t) : Calls Tryd.prog 32 #[.pointer (some ⟨b, 0, none⟩), .int .u64 4096, .int .i64 4] w (TellsP w (bits32 t.pend) true) := by
  have H := Lib.hid h
  clear h
  go_enter Tryd.func32, Tryd.ntmps32
  go_wp2
  go_loop [8, 9] (fun x i => ∃ (k : Nat) (y : Int), k ≤ 32 ∧ i = .int .i64 ((k : Int) - 1) ∧ x = .int .u64 y ∧ Hid (y = bitsN t.pend (32 - k))) (fun _ i => (intOf i + 1).toNat)
  case atStart => exact ⟨32, 0, Nat.le_refl _, rfl, rfl, Lib.hid rfl⟩
  case round =>
    obtain ⟨k, y, hk, rfl, rfl, HY⟩ := hrel
    have hbd := bitsN_bd t.pend (32 - k)
    have hy0 : 0 ≤ y := by rw [HY.out]; exact hbd.1
    have hy1 : y < 2147483648 ∨ k = 0 := by
      by_cases k0 : k = 0
      · exact .inr k0
      · left
        rw [HY.out]
        refine Int.lt_of_lt_of_le hbd.2 ?_
        have := two_pow_le (show 32 - k ≤ 31 by omega)
        exact Int.le_trans this (by decide)
    clear hbd
    by_cases hk1 : 1 ≤ k
    · obtain ⟨j, rfl⟩ : ∃ j, k = j + 1 := ⟨k - 1, by omega⟩
      have hy2 : y < 2147483648 := by omega
      have hwy : IntKind.u64.wrap (2 * y) = 2 * y := by rw [IntKind.wrap_u64]; omega
      have hwy2 : IntKind.u64.wrap (2 * y + 1) = 2 * y + 1 := by rw [IntKind.wrap_u64]; omega
      have c2 : w.cell? ⟨b, j * 6 + 2, none⟩ = some (.bool (t.pend j)) := H.out.src (by omega) (by omega)
      have i1 : (j : Int) < 32 := by omega
      have HE := Lib.hid (bitsN_even (f := t.pend) (n := 31 - j))
      have HO := Lib.hid (bitsN_odd (f := t.pend) (n := 31 - j))
      cases hp : t.pend j with
      | false =>
        rw [hp] at c2
        have HN : Hid (2 * y = bitsN t.pend (32 - j)) := by
          refine Lib.hid ?_
          have := HE.out (by rw [show 31 - (31 - j) = j by omega]; exact hp)
          rw [show 32 - j = 31 - j + 1 by omega, this, HY.out, show 32 - (j + 1) = 31 - j by omega]
        clear hp hy1
        go_wp2
        go_round
        case rel => exact ⟨j, 2 * y, by omega, by go_num, rfl, HN⟩
        case measure => simp [intOf]
      | true =>
        rw [hp] at c2
        have HN : Hid (2 * y + 1 = bitsN t.pend (32 - j)) := by
          refine Lib.hid ?_
          have := HO.out (by rw [show 31 - (31 - j) = j by omega]; exact hp)
          rw [show 32 - j = 31 - j + 1 by omega, this, HY.out, show 32 - (j + 1) = 31 - j by omega]
        clear hp hy1
        go_wp2
        go_round
        case rel => exact ⟨j, 2 * y + 1, by omega, by go_num, rfl, HN⟩
        case measure => simp [intOf]
    · obtain rfl : k = 0 := by omega
      have HF : Hid (y = bits32 t.pend) := Lib.hid HY.out
      clear hy1
      go_wp2
      go_ret2
      exact ⟨by rw [← HF.out]; rfl, rfl⟩

end Go.Proofs.YtgimnkablodheaaDoor
