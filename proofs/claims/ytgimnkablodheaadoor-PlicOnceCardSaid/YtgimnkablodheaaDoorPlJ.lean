/- Layer 5: the document's Read of a context's enabled sources. -/
import Derived.Test.YtgimnkablodheaaDoorPlI
namespace Go.Proofs.YtgimnkablodheaaDoor
open Go.RowKit
set_option linter.unusedVariables false

set_option maxRecDepth 100000 in
set_option maxHeartbeats 2000000 in
theorem refRead_on0 (w : World) (b : Nat) (t : PS) (h : RefP w b t) : Calls Tryd.prog 32 #[.pointer (some ⟨b, 0, none⟩), .int .u64 8192, .int .i64 4] w (TellsP w (bits32 fun s => t.on s 0) true) := by
  have H := Lib.hid h
  clear h
  go_enter Tryd.func32, Tryd.ntmps32
  go_wp2
  go_loop [10] (fun i => i = .int .i64 0) (fun _ => 0)
  case atStart => rfl
  case round =>
    obtain rfl := hrel
    go_wp2
    go_loop [12, 13] (fun x i => ∃ (k : Nat) (y : Int), k ≤ 32 ∧ i = .int .i64 ((k : Int) - 1) ∧ x = .int .u64 y ∧ Hid (y = bitsN (fun s => t.on s 0) (32 - k))) (fun _ i => (intOf i + 1).toNat)
    case atStart => exact ⟨32, 0, Nat.le_refl _, rfl, rfl, Lib.hid rfl⟩
    case round =>
      obtain ⟨k, y, hk, rfl, rfl, HY⟩ := hrel
      have hbd := bitsN_bd (fun s => t.on s 0) (32 - k)
      have hy0 : 0 ≤ y := by rw [HY.out]; exact hbd.1
      have hy1 : y < 2147483648 ∨ k = 0 := by
        by_cases k0 : k = 0
        · exact .inr k0
        · left
          rw [HY.out]
          refine Int.lt_of_lt_of_le hbd.2 ?_
          have := two_pow_le (show 32 - k ≤ 31 by omega)
          exact Int.le_trans this (by decide)
      clear hbd
      by_cases hk1 : 1 ≤ k
      · obtain ⟨j, rfl⟩ : ∃ j, k = j + 1 := ⟨k - 1, by omega⟩
        have hy2 : y < 2147483648 := by omega
        have hwy : IntKind.u64.wrap (2 * y) = 2 * y := by rw [IntKind.wrap_u64]; omega
        have hwy2 : IntKind.u64.wrap (2 * y + 1) = 2 * y + 1 := by rw [IntKind.wrap_u64]; omega
        have c2 : w.cell? ⟨b, j * 6 + 4, none⟩ = some (.bool (t.on j 0)) := H.out.src (s := j) (j := 4) (by omega) (by omega)
        have i1 : (j : Int) < 32 := by omega
        have HE := Lib.hid (bitsN_even (f := (fun s => t.on s 0)) (n := 31 - j))
        have HO := Lib.hid (bitsN_odd (f := (fun s => t.on s 0)) (n := 31 - j))
        cases hp : t.on j 0 with
        | false =>
          rw [hp] at c2
          have HN : Hid (2 * y = bitsN (fun s => t.on s 0) (32 - j)) := by
            refine Lib.hid ?_
            have := HE.out (by rw [show 31 - (31 - j) = j by omega]; exact hp)
            rw [show 32 - j = 31 - j + 1 by omega, this, HY.out, show 32 - (j + 1) = 31 - j by omega]
          clear hp hy1
          go_wp2
          go_round
          case rel => exact ⟨j, 2 * y, by omega, by go_num, rfl, HN⟩
          case measure => simp [intOf]
        | true =>
          rw [hp] at c2
          have HN : Hid (2 * y + 1 = bitsN (fun s => t.on s 0) (32 - j)) := by
            refine Lib.hid ?_
            have := HO.out (by rw [show 31 - (31 - j) = j by omega]; exact hp)
            rw [show 32 - j = 31 - j + 1 by omega, this, HY.out, show 32 - (j + 1) = 31 - j by omega]
          clear hp hy1
          go_wp2
          go_round
          case rel => exact ⟨j, 2 * y + 1, by omega, by go_num, rfl, HN⟩
          case measure => simp [intOf]
      · obtain rfl : k = 0 := by omega
        have HF : Hid (y = bits32 (fun s => t.on s 0)) := Lib.hid HY.out
        clear hy1
        go_wp2
        go_ret2
        exact ⟨by rw [← HF.out]; rfl, rfl⟩

set_option maxRecDepth 100000 in
set_option maxHeartbeats 2000000 in
theorem refRead_on1 (w : World) (b : Nat) (t : PS) (h : RefP w b t) : Calls Tryd.prog 32 #[.pointer (some ⟨b, 0, none⟩), .int .u64 8320, .int .i64 4] w (TellsP w (bits32 fun s => t.on s 1) true) := by
  have H := Lib.hid h
  clear h
  go_enter Tryd.func32, Tryd.ntmps32
  go_wp2
  go_loop [10] (fun i => i = .int .i64 0 ∨ i = .int .i64 1) (fun i => (1 - intOf i).toNat)
  case atStart => exact .inl rfl
  case round =>
    rcases hrel with rfl | rfl
    · go_wp2
      exact ⟨.inr rfl, by simp [intOf]⟩
    go_wp2
    go_loop [12, 13] (fun x i => ∃ (k : Nat) (y : Int), k ≤ 32 ∧ i = .int .i64 ((k : Int) - 1) ∧ x = .int .u64 y ∧ Hid (y = bitsN (fun s => t.on s 1) (32 - k))) (fun _ i => (intOf i + 1).toNat)
    case atStart => exact ⟨32, 0, Nat.le_refl _, rfl, rfl, Lib.hid rfl⟩
    case round =>
      obtain ⟨k, y, hk, rfl, rfl, HY⟩ := hrel
      have hbd := bitsN_bd (fun s => t.on s 1) (32 - k)
      have hy0 : 0 ≤ y := by rw [HY.out]; exact hbd.1
      have hy1 : y < 2147483648 ∨ k = 0 := by
        by_cases k0 : k = 0
        · exact .inr k0
        · left
          rw [HY.out]
          refine Int.lt_of_lt_of_le hbd.2 ?_
          have := two_pow_le (show 32 - k ≤ 31 by omega)
          exact Int.le_trans this (by decide)
      clear hbd
      by_cases hk1 : 1 ≤ k
      · obtain ⟨j, rfl⟩ : ∃ j, k = j + 1 := ⟨k - 1, by omega⟩
        have hy2 : y < 2147483648 := by omega
        have hwy : IntKind.u64.wrap (2 * y) = 2 * y := by rw [IntKind.wrap_u64]; omega
        have hwy2 : IntKind.u64.wrap (2 * y + 1) = 2 * y + 1 := by rw [IntKind.wrap_u64]; omega
        have c2 : w.cell? ⟨b, j * 6 + 4 + 1, none⟩ = some (.bool (t.on j 1)) := H.out.src (s := j) (j := 5) (by omega) (by omega)
        have i1 : (j : Int) < 32 := by omega
        have HE := Lib.hid (bitsN_even (f := (fun s => t.on s 1)) (n := 31 - j))
        have HO := Lib.hid (bitsN_odd (f := (fun s => t.on s 1)) (n := 31 - j))
        cases hp : t.on j 1 with
        | false =>
          rw [hp] at c2
          have HN : Hid (2 * y = bitsN (fun s => t.on s 1) (32 - j)) := by
            refine Lib.hid ?_
            have := HE.out (by rw [show 31 - (31 - j) = j by omega]; exact hp)
            rw [show 32 - j = 31 - j + 1 by omega, this, HY.out, show 32 - (j + 1) = 31 - j by omega]
          clear hp hy1
          go_wp2
          go_round
          case rel => exact ⟨j, 2 * y, by omega, by go_num, rfl, HN⟩
          case measure => simp [intOf]
        | true =>
          rw [hp] at c2
          have HN : Hid (2 * y + 1 = bitsN (fun s => t.on s 1) (32 - j)) := by
            refine Lib.hid ?_
            have := HO.out (by rw [show 31 - (31 - j) = j by omega]; exact hp)
            rw [show 32 - j = 31 - j + 1 by omega, this, HY.out, show 32 - (j + 1) = 31 - j by omega]
          clear hp hy1
          go_wp2
          go_round
          case rel => exact ⟨j, 2 * y + 1, by omega, by go_num, rfl, HN⟩
          case measure => simp [intOf]
      · obtain rfl : k = 0 := by omega
        have HF : Hid (y = bits32 (fun s => t.on s 1)) := Lib.hid HY.out
        clear hy1
        go_wp2
        go_ret2
        exact ⟨by rw [← HF.out]; rfl, rfl⟩

end Go.Proofs.YtgimnkablodheaaDoor
