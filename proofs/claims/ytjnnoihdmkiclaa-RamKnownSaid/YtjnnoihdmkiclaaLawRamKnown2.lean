/- The law RamKnown, walked call by call. -/
import Derived.Test.YtjnnoihdmkiclaaLawRamKnown
namespace Go.Proofs.Ytjnnoihdmkiclaa
open Go.RowKit
set_option linter.unusedVariables false

theorem reads_lit4 {w : World} : ReadsIn .u8 w.heap.size (w.alloc (.cells #[.int .u8 4, .int .u8 3, .int .u8 2, .int .u8 1] 5)) (.slice (some ⟨w.heap.size, 0, none⟩) 4 4) [4, 3, 2, 1] := by
  refine ⟨_, _, rfl, by unfold maxLen; simp, .inr ⟨0, rfl, by simp, fun i hi => ?_⟩⟩
  rw [Nat.zero_add, cell_of_row _ _ i _ _ _ (heap_alloc_new w _)]
  match i, hi with
  | 0, _ => rfl
  | 1, _ => rfl
  | 2, _ => rfl
  | 3, _ => rfl
theorem reads_lit2 {w : World} : ReadsL .u64 (w.heap.size + 1) (w.alloc (.cells #[.int .u64 4096, .int .u64 8192] 26)) (.slice (some ⟨w.heap.size, 0, none⟩) 2 2) [4096, 8192] := by
  refine ⟨_, _, rfl, by unfold maxLen; simp, .inr ⟨w.heap.size, 0, rfl, by omega, fun i hi => ?_⟩⟩
  rw [Nat.zero_add, cell_of_row _ _ i _ _ _ (heap_alloc_new w _)]
  match i, hi with
  | 0, _ => rfl
  | 1, _ => rfl
theorem reads_lit1 {w : World} : ReadsL .u64 (w.heap.size + 1) (w.alloc (.cells #[.int .u64 4096] 26)) (.slice (some ⟨w.heap.size, 0, none⟩) 1 1) [4096] := by
  refine ⟨_, _, rfl, by unfold maxLen; simp, .inr ⟨w.heap.size, 0, rfl, by omega, fun i hi => ?_⟩⟩
  rw [Nat.zero_add, cell_of_row _ _ i _ _ _ (heap_alloc_new w _)]
  match i, hi with
  | 0, _ => rfl
theorem bytes4321 : Bytes255 [4, 3, 2, 1] := fun i hi => by
  match i, hi with
  | 0, _ => decide
  | 1, _ => decide
  | 2, _ => decide
  | 3, _ => decide
theorem drewN_below {w w' : World} (h : ∃ k, w' = w.drewN k) : Below w.heap.size w w' := by
  obtain ⟨k, rfl⟩ := h; exact ⟨rfl, rfl, rfl, Nat.le_refl _, fun _ _ => rfl⟩
/-- What Pages told, read as a list. -/
theorem pages_read {w w' : World} {a : Option Addr} {n c : Nat} {ps : List Int} (h : w'.ownsRow w.heap.size 26 1 (.slice a n c) ps.length (ps.map (Value.int .u64))) : ReadsL .u64 w'.heap.size w' (.slice a n c) ps := ReadsL.own h

set_option maxRecDepth 100000 in
set_option maxHeartbeats 4000000 in
theorem ramKnown_walk (w : World) : Calls Try.prog 3 #[] w fun e w' => e = .returned (.bool true) ∧ Below w.heap.size w w' := by
  have HF : Hid (Fits 4096 8192) := Lib.hid (by unfold Fits; omega)
  have HB0 : Hid (Below w.heap.size w w) := Lib.hid (Below.refl _ _)
  go_enter Try.func3, Try.ntmps3
  go_wp2_with fail
  refine (new_yes ram (base := 0) (size := 67108864) (by decide) (by unfold In64; omega) (by unfold In64; omega) _).mono ?_
  rintro e w1 ⟨hb, b1, S1, rfl, hS, hM⟩
  have HB1 := Lib.hid (HB0.out.trans (hb.mono HB0.out.size))
  clear hb hS hM HB0
  go_wp2_with fail
  refine (new_no ram (base := 0) (size := 0) (by decide) (by unfold In64; omega) (by unfold In64; omega) _).mono ?_
  rintro e w2 ⟨rfl, hb⟩
  have HB2 := Lib.hid (HB1.out.trans (hb.mono HB1.out.size))
  clear hb HB1
  go_wp2_with fail
  refine (new_no ram (base := 1) (size := 4096) (by decide) (by unfold In64; omega) (by unfold In64; omega) _).mono ?_
  rintro e w3 ⟨rfl, hb⟩
  have HB3 := Lib.hid (HB2.out.trans (hb.mono HB2.out.size))
  clear hb HB2
  go_wp2_with fail
  refine (new_no ram (base := 4096) (size := 67112960) (by decide) (by unfold In64; omega) (by unfold In64; omega) _).mono ?_
  rintro e w4 ⟨rfl, hb⟩
  have HB4 := Lib.hid (HB3.out.trans (hb.mono HB3.out.size))
  clear hb HB3
  go_wp2_with fail
  refine (new_no ram (base := 9223372036854771712) (size := 8192) (by decide) (by unfold In64; omega) (by unfold In64; omega) _).mono ?_
  rintro e w5 ⟨rfl, hb⟩
  have HB5 := Lib.hid (HB4.out.trans (hb.mono HB4.out.size))
  clear hb HB4
  go_wp2_with fail
  refine (new_yes ram (base := 9223372036854771712) (size := 4096) (by decide) (by unfold In64; omega) (by unfold In64; omega) _).mono ?_
  rintro e w6 ⟨hb, b6, S6, rfl, hS, hM⟩
  have HB6 := Lib.hid (HB5.out.trans (hb.mono HB5.out.size))
  clear hb hS hM HB5
  go_wp2_with fail
  refine (new_yes ram (base := 4096) (size := 8192) (by decide) (by unfold In64; omega) (by unfold In64; omega) _).mono ?_
  rintro e w7 ⟨hb, b7, S7, rfl, hS, hM⟩
  have HM7 : Hid (Mine ram w w7 b7 S7 4096 8192 fun _ => 0) := Lib.hid ⟨HB6.out.trans (hb.mono HB6.out.size), fun i hi => Nat.le_trans HB6.out.size (hS i hi), hM⟩
  clear hb hS hM
  go_wp2_with fail
  refine (ram.write 4096 2 4660 HM7.out.mem HF.out (by unfold In64; omega) (by unfold In63; omega) (by unfold In64; omega)).mono ?_
  rintro e w8 hE
  obtain ⟨S8, hm⟩ := HM7.out.turned hE
  have he := hE.1
  subst he
  clear hE
  have HM8 : Hid (Mine ram w w8 b7 S8 4096 8192 knownA) := Lib.hid hm
  clear hm HM7
  rw [show (okN 2 && hasZ 4096 8192 4096 2) = true from by decide]
  go_wp2_with fail
  refine (ram.read 4096 1 HM8.out.mem HF.out (by unfold In64; omega) (by unfold In63; omega)).mono ?_
  rintro e w9 ⟨rfl, hb⟩
  rw [known_reads.1]
  have HM9 := Lib.hid (HM8.out.later hb)
  clear hb HM8
  go_wp2_with fail
  refine (ram.read 4097 1 HM9.out.mem HF.out (by unfold In64; omega) (by unfold In63; omega)).mono ?_
  rintro e w10 ⟨rfl, hb⟩
  rw [known_reads.2.1]
  have HM10 := Lib.hid (HM9.out.later hb)
  clear hb HM9
  go_wp2_with fail
  refine (ram.read 4095 2 HM10.out.mem HF.out (by unfold In64; omega) (by unfold In63; omega)).mono ?_
  rintro e w11 ⟨rfl, hb⟩
  rw [known_reads.2.2.1]
  have HM11 := Lib.hid (HM10.out.later hb)
  clear hb HM10
  go_wp2_with fail
  refine (ram.read 12284 8 HM11.out.mem HF.out (by unfold In64; omega) (by unfold In63; omega)).mono ?_
  rintro e w12 ⟨rfl, hb⟩
  rw [known_reads.2.2.2.1]
  have HM12 := Lib.hid (HM11.out.later hb)
  clear hb HM11
  go_wp2_with fail
  refine (ram.read 4096 3 HM12.out.mem HF.out (by unfold In64; omega) (by unfold In63; omega)).mono ?_
  rintro e w13 ⟨rfl, hb⟩
  rw [known_reads.2.2.2.2]
  have HM13 := Lib.hid (HM12.out.later hb)
  clear hb HM12
  go_wp2_with fail
  refine (ram.write 8190 4 16909060 HM13.out.mem HF.out (by unfold In64; omega) (by unfold In63; omega) (by unfold In64; omega)).mono ?_
  rintro e w14 hE
  obtain ⟨S14, hm⟩ := HM13.out.turned hE
  have he := hE.1
  subst he
  clear hE
  have HM14 : Hid (Mine ram w w14 b7 S14 4096 8192 knownB) := Lib.hid hm
  clear hm HM13
  rw [show (okN 4 && hasZ 4096 8192 8190 4) = true from by decide]
  go_wp2_with fail
  refine (ram.bytes 8190 4 HM14.out.mem HF.out (by unfold In64; omega) (by unfold In63; omega) (by omega)).mono ?_
  rintro e w15 ⟨hb, a, n, c, rfl, hown⟩
  rw [known_bytes] at hown
  rw [show hasZ 4096 8192 8190 4 = true from by decide]
  have hr := ReadsIn.own hown
  have hbb : ∀ o, Below w15.heap.size w15 (w15.alloc o) := fun o => (Below.refl _ _).alloc (Nat.le_refl _) o
  obtain ⟨g, _, hr⟩ := hr
  have hr2 := hr.keeps (Only.of_below (fun _ => False) (hbb (.cells #[.int .u8 4, .int .u8 3, .int .u8 2, .int .u8 1] 5))) id
  have HM15 := Lib.hid ((HM14.out.later hb).later (hbb (.cells #[.int .u8 4, .int .u8 3, .int .u8 2, .int .u8 1] 5)))
  have HR := Lib.hid hr2
  have HL := Lib.hid (reads_lit4 (w := w15))
  clear hb hown hr hr2 hbb HM14
  go_wp2_with fail
  refine (sameB_any _ _ _ _ _ _ _ HR.out HL.out bytes4321 bytes4321).mono ?_
  rintro e w' ⟨rfl, rfl⟩
  rw [show decide (([4, 3, 2, 1] : List Int) = [4, 3, 2, 1]) = true from by decide]
  clear HR HL
  go_wp2_with fail
  refine (ram.pages HM15.out.mem HF.out (by omega)).mono ?_
  rintro e w16 ⟨hb, a16, n16, c16, ps, rfl, hown, hri, hps⟩
  obtain rfl := knownB_pages hri hps
  have hr := pages_read hown
  have HM16 := Lib.hid ((HM15.out.later hb).later ((Below.refl _ _).alloc (Nat.le_refl _) (.cells #[.int .u64 4096, .int .u64 8192] 26)))
  have HR := Lib.hid ((hr.below ((Below.refl w16.heap.size w16).alloc (Nat.le_refl _) (.cells #[.int .u64 4096, .int .u64 8192] 26)) (Nat.le_refl _)).mono (Nat.le_succ _))
  have HL := Lib.hid (reads_lit2 (w := w16))
  clear hb hown hri hps hr HM15
  go_wp2_with fail
  refine (numbers_any _ _ _ _ _ _ HR.out HL.out (by simp)).mono ?_
  rintro e w17 ⟨rfl, hb⟩
  rw [show decide (([4096, 8192] : List Int) = [4096, 8192]) = true from by decide]
  have HM17 := Lib.hid (HM16.out.later hb)
  clear hb HM16 HR HL
  go_wp2_with fail
  refine (ram.write 8192 2 0 HM17.out.mem HF.out (by unfold In64; omega) (by unfold In63; omega) (by unfold In64; omega)).mono ?_
  rintro e w18 hE
  obtain ⟨S18, hm⟩ := HM17.out.turned hE
  have he := hE.1
  subst he
  clear hE
  have HM18 : Hid (Mine ram w w18 b7 S18 4096 8192 knownC) := Lib.hid hm
  clear hm HM17
  rw [show (okN 2 && hasZ 4096 8192 8192 2) = true from by decide]
  go_wp2_with fail
  refine (ram.pages HM18.out.mem HF.out (by omega)).mono ?_
  rintro e w19 ⟨hb, a19, n19, c19, ps, rfl, hown, hri, hps⟩
  obtain rfl := knownC_pages hri hps
  have hr := pages_read hown
  have HM19 := Lib.hid ((HM18.out.later hb).later ((Below.refl _ _).alloc (Nat.le_refl _) (.cells #[.int .u64 4096] 26)))
  have HR := Lib.hid ((hr.below ((Below.refl w19.heap.size w19).alloc (Nat.le_refl _) (.cells #[.int .u64 4096] 26)) (Nat.le_refl _)).mono (Nat.le_succ _))
  have HL := Lib.hid (reads_lit1 (w := w19))
  clear hb hown hri hps hr HM18
  go_wp2_with fail
  refine (numbers_any _ _ _ _ _ _ HR.out HL.out (by simp)).mono ?_
  rintro e w20 ⟨rfl, hb⟩
  rw [show decide (([4096] : List Int) = [4096]) = true from by decide]
  have HM20 := Lib.hid (HM19.out.later hb)
  clear hb HM19 HR HL
  go_wp2_with fail
  refine (ramAwake_any ram _).mono ?_
  rintro e w21 ⟨rfl, hb⟩
  have HM21 := Lib.hid (HM20.out.later hb)
  clear hb HM20
  go_wp2_with fail
  refine (ram.has 12288 0 HM21.out.mem HF.out (by unfold In64; omega) (by unfold In63; omega)).mono ?_
  rintro e w22 ⟨rfl, hb⟩
  have HM22 := Lib.hid (HM21.out.later (drewN_below hb))
  clear hb HM21
  rw [show hasZ 4096 8192 12288 0 = true from by decide]
  go_wp2_with fail
  refine (ram.has 12289 0 HM22.out.mem HF.out (by unfold In64; omega) (by unfold In63; omega)).mono ?_
  rintro e w23 ⟨rfl, hb⟩
  have HM23 := Lib.hid (HM22.out.later (drewN_below hb))
  clear hb HM22
  rw [show hasZ 4096 8192 12289 0 = true from by decide]
  go_wp2_with fail
  refine (ram.has 4096 8192 HM23.out.mem HF.out (by unfold In64; omega) (by unfold In63; omega)).mono ?_
  rintro e w24 ⟨rfl, hb⟩
  have HM24 := Lib.hid (HM23.out.later (drewN_below hb))
  clear hb HM23
  rw [show hasZ 4096 8192 4096 8192 = true from by decide]
  go_wp2_with fail
  refine (ram.has 4096 8193 HM24.out.mem HF.out (by unfold In64; omega) (by unfold In63; omega)).mono ?_
  rintro e w25 ⟨rfl, hb⟩
  have HM25 := Lib.hid (HM24.out.later (drewN_below hb))
  clear hb HM24
  rw [show hasZ 4096 8192 4096 8193 = false from by decide]
  go_wp2_with fail
  refine (ram.nils.has 0 0 _).mono ?_
  rintro e w26 ⟨rfl, hb⟩
  have HM26 := Lib.hid (HM25.out.later (drewN_below hb))
  clear hb HM25
  go_wp2_with fail
  refine (ram.nils.put 0 none 0 0 _).mono ?_
  rintro e w27 ⟨rfl, hb⟩
  have HM27 := Lib.hid (HM26.out.later (hb))
  clear hb HM26
  go_wp2_with fail
  refine (ram.twinNil _).mono ?_
  rintro e w28 ⟨rfl, hb⟩
  have HM28 := Lib.hid (HM27.out.later (hb))
  clear hb HM27
  go_wp2_with fail
  refine (ram.pagesNil _).mono ?_
  rintro e w29 ⟨hb, a, c, rfl⟩
  have HM29 := Lib.hid (HM28.out.later hb)
  clear hb HM28
  go_wp2
  go_ret
  exact ⟨rfl, HM29.out.bel⟩

end Go.Proofs.Ytjnnoihdmkiclaa
