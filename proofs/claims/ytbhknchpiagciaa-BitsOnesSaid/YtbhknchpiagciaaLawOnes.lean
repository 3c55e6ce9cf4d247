/- The walk of BitsOnes. -/
import Derived.Test.YtbhknchpiagciaaLawRef
namespace Go.Proofs.Ytbhknchpiagciaa
open Go.RowKit
set_option linter.unusedVariables false

/-- A list of integers appended to a new empty one: a copy in new memory. -/
theorem append_copy (w : World) (v : Value) (xs : List Int) (hr : ReadsL .i64 w.heap.size w v xs) (hl : xs.length ≤ 200) :
    ∃ v' w', (Builtin.append_ #[34, 34] 34 #[.slice (some ⟨w.heap.size, 0, none⟩) 0 0, v]).run Try.prog (w.alloc (.cells #[] 3)) = .ok v' w' ∧
      w'.ownsRow w.heap.size 3 1 v' xs.length (xs.map (Value.int .i64)) ∧ Below w.heap.size w w' := by
  obtain ⟨i0, hi, hz0, hz1, hz2⟩ := info_parts info_int
  obtain ⟨a, c, rfl, hm, hx⟩ := hr
  have hs : (w.alloc (.cells #[] 3)).heap.size = w.heap.size + 1 := World.size_alloc _ _
  have hown : (w.alloc (.cells #[] 3)).ownsRow w.heap.size 3 1 (.slice (some ⟨w.heap.size, 0, none⟩) 0 0) 0 [] := World.ownsRow_made w #[] 0 (Nat.le_refl _) (Nat.zero_le _) rfl
  have hb0 : Below w.heap.size w (w.alloc (.cells #[] 3)) := (Below.refl _ _).alloc (Nat.le_refl _) _
  rcases hx with rfl | ⟨b, off, rfl, hbb, hc⟩
  · cases a with
    | none =>
      refine ⟨_, _, ?_, hown, hb0⟩
      simp [Builtin.append_, run_underlying Try.underlying34, sizeOf, typeInfo, hi, Builtin.lenOf, Builtin.firstCells, loadCells, loadCellsFrom, storeCells]
    | some a =>
      obtain ⟨v', w', h1, h2, h3, _⟩ := run_append_own (P := Try.prog) (w.alloc (.cells #[] 3)) w.heap.size 34 34 3 i0 (.int .i64 0) 1 8 Try.underlying34 hi hz0 hz1 hz2 rfl (by decide) _ 0 [] hown a 0 c [] rfl (by simp) (by simp) (by simp [maxLen]) (by omega) (by omega)
      exact ⟨v', w', h1, h2, hb0.grown h3 (by omega) (fun k hk => by simp [Value.ownBlock] at hk; omega)⟩
  · obtain ⟨v', w', h1, h2, h3, _⟩ := run_append_own (P := Try.prog) (w.alloc (.cells #[] 3)) w.heap.size 34 34 3 i0 (.int .i64 0) 1 8 Try.underlying34 hi hz0 hz1 hz2 rfl (by decide) _ 0 [] hown ⟨b, off, none⟩ xs.length c (xs.map (Value.int .i64)) (by simp)
      (fun j u hj => by
        rw [add_none, hb0.cell (p := ⟨b, off + j, none⟩) hbb]
        have hj2 : j < xs.length := by
          by_cases h : j < xs.length
          · exact h
          · rw [List.getElem?_eq_none (by simp; omega)] at hj; cases hj
        rw [hc j hj2]
        simpa [List.getD, hj2] using hj)
      (by intro u hu; obtain ⟨z, _, rfl⟩ := List.mem_map.1 hu; rfl) (by unfold maxLen; omega) (by omega) (by omega)
    rw [Nat.zero_add] at h2
    exact ⟨v', w', h1, h2, hb0.grown h3 (by omega) (fun k hk => by simp [Value.ownBlock] at hk; omega)⟩

theorem conv32 {a : Int} (h : 0 ≤ a) : ∃ c, IntKind.u32.wrap a = c ∧ a % 4294967296 = c ∧ 0 ≤ c ∧ c < 2 ^ 32 ∧ In64 c := by
  refine ⟨_, rfl, ?_, ?_⟩
  · simp [IntKind.wrap, IntKind.bits, IntKind.signed]
  · simp [IntKind.wrap, IntKind.bits, IntKind.signed, In64]; omega
theorem conv16 {a : Int} (h : 0 ≤ a) : ∃ c, IntKind.u16.wrap a = c ∧ a % 65536 = c ∧ 0 ≤ c ∧ c < 2 ^ 16 ∧ In64 c := by
  refine ⟨_, rfl, ?_, ?_⟩
  · simp [IntKind.wrap, IntKind.bits, IntKind.signed]
  · simp [IntKind.wrap, IntKind.bits, IntKind.signed, In64]; omega
theorem conv8 {a : Int} (h : 0 ≤ a) : ∃ c, IntKind.u8.wrap a = c ∧ a % 256 = c ∧ 0 ≤ c ∧ c < 2 ^ 8 ∧ In64 c := by
  refine ⟨_, rfl, ?_, ?_⟩
  · simp [IntKind.wrap, IntKind.bits, IntKind.signed]
  · simp [IntKind.wrap, IntKind.bits, IntKind.signed, In64]; omega

/-- What the call made by append may be written as far as it is long. -/
def CanWrite (B : Nat) (w : World) (v : Value) (n : Nat) : Prop :=
  ∃ a c, v = .slice a n c ∧ (n = 0 ∨ ∃ g cur, a = some ⟨g, 0, none⟩ ∧ B ≤ g ∧ w.heap[g]? = some (.cells cur 3 (0, 0)) ∧ n ≤ cur.size)
theorem canWrite {w : World} {B : Nat} {v : Value} {n : Nat} {xs : List Value} (h : w.ownsRow B 3 1 v n xs) : CanWrite B w v n := by
  rcases h.2 with ⟨hv, h0⟩ | ⟨g, cap, cur, hv, hg, hh, hn, _, hc, _⟩
  · subst h0; exact ⟨none, 0, hv, .inl rfl⟩
  · exact ⟨_, cap, hv, .inr ⟨g, cur, rfl, hg, hh, by omega⟩⟩
theorem CanWrite.below {w w' : World} {B : Nat} {v : Value} {n : Nat} (h : CanWrite B w v n) (hb : Below w.heap.size w w') : CanWrite B w' v n := by
  obtain ⟨a, c, hv, h⟩ := h
  refine ⟨a, c, hv, ?_⟩
  rcases h with h | ⟨g, cur, ha, hg, hh, hn⟩
  · exact .inl h
  · exact .inr ⟨g, cur, ha, hg, (hb.block g (Array.getElem?_eq_some_iff.1 hh).1).trans hh, hn⟩

theorem ones_long (a i : Int) (v : Option Addr) (len cap : Nat) (h : 200 < len) (w : World) :
    Calls Try.prog 7 #[.int .u64 a, .int .i64 i, .slice v len cap] w fun e w' => e = .returned (.bool true) ∧ Below w.heap.size w w' := by
  have h2 : (200 : Int) < (len : Int) := by omega
  go_enter Try.func7, Try.ntmps7
  go_wp2_with (go_at_call 15; refine (awake_any _).mono ?_; rintro e wn ⟨rfl, HB⟩)
  go_ret
  exact ⟨rfl, HB⟩

set_option maxHeartbeats 2000000 in
theorem ones_short (a i : Int) (ha : In64 a) (v : Value) (xs : List Int) (h : xs.length ≤ 200) (w : World) (hr : ReadsL .i64 w.heap.size w v xs) :
    Calls Try.prog 7 #[.int .u64 a, .int .i64 i, v] w fun e w' => e = .returned (.bool true) ∧ Below w.heap.size w w' := by
  have hlen : ¬ (200 : Int) < (xs.length : Int) := by omega
  have h0 := ha.1
  have HX : Hid (a < 2 ^ 64) := ha.2
  obtain ⟨c32, e1, e2, e3, e4, e5⟩ := conv32 h0
  obtain ⟨c16, f1, f2, f3, f4, f5⟩ := conv16 h0
  obtain ⟨c8, g1, g2, g3, g4, g5⟩ := conv8 h0
  have E4 := Lib.hid e4
  have F4 := Lib.hid f4
  have G4 := Lib.hid g4
  clear e4 f4 g4
  have HR := hr
  obtain ⟨ad, c, rfl, _, _⟩ := hr
  go_enter Try.func7, Try.ntmps7
  go_wp2_with fail
  refine (awake_any _).mono ?_
  rintro e wn ⟨rfl, HB⟩
  obtain ⟨v1, w1, hrun, hown, hb1⟩ := append_copy wn (.slice ad xs.length c) xs ((HR.below HB (Nat.le_refl _)).mono HB.size) h
  have hw1 := ReadsL.own hown
  replace HB := HB.trans (hb1.mono HB.size)
  clear hb1 hown
  have HRUN := Lib.hid hrun
  clear hrun
  go_wp2_with (first
    | (at_builtin; refine wpList_append_run rfl _ _ _ rfl _ _ v1 w1 rfl rfl HRUN.out ?_)
    | (go_at_call 28; refine (bit64_any _ _ h0 HX.out _).mono ?_; rintro e w' ⟨rfl, rfl⟩)
    | (go_at_call 30; refine (bit32_any _ _ e3 E4.out _).mono ?_; rintro e w' ⟨rfl, rfl⟩)
    | (go_at_call 31; refine (bit16_any _ _ f3 F4.out _).mono ?_; rintro e w' ⟨rfl, rfl⟩)
    | (go_at_call 18; refine (bit8_any _ _ g3 G4.out _).mono ?_; rintro e w' ⟨rfl, rfl⟩)
    | (go_at_call 29; refine (refBit_any _ _ (by assumption) _).mono ?_; rintro e w2 ⟨rfl, hb2⟩; replace hw1 := (hw1.below hb2 (Nat.le_refl _)).mono hb2.size; replace HB := HB.trans (hb2.mono HB.size); clear hb2))
  refine (of_any v1 xs _ w2 hw1).mono ?_
  rintro e w' ⟨rfl, rfl⟩
  go_wp2_with fail
  refine (ones_any a ha w2).mono ?_
  rintro e w3 ⟨v3, rfl, hown3, hb3⟩
  have r3 := ReadsL.own hown3
  have W3 := canWrite hown3
  clear hown3
  go_wp2_with fail
  refine (refOnes_any a ha w3).mono ?_
  rintro e w4 ⟨v4, rfl, hown4, hb4⟩
  have r4 := ReadsL.own hown4
  clear hown4
  have r3' := (r3.below hb4 (Nat.le_refl _)).mono hb4.size
  replace W3 := W3.below hb4
  have B24 : Below w2.heap.size w2 w4 := hb3.trans (hb4.mono hb3.size)
  go_wp2_with fail
  refine (same_any v3 v4 _ _ _ w4 r3' r4 (Nat.le_refl _)).mono ?_
  rintro e w5 ⟨rfl, hb5⟩
  have B25 : Below w2.heap.size w2 w5 := B24.trans (hb5.mono B24.size)
  replace W3 := W3.below hb5
  clear r3 r4 r3' hb3 hb4 hb5 B24
  obtain ⟨a3, c3, rfl, hW⟩ := W3
  have hn64 := ones_len (V a)
  have hn := w2.heap.size
  go_wp2_with fail
  go_loopw [11] (fun i wr => ∃ k : Nat, k ≤ (onesB (V a)).length ∧ i = .int .i64 k ∧ Below w2.heap.size w2 wr ∧ ((onesB (V a)).length = 0 ∨ ∃ g cur, a3 = some ⟨g, 0, none⟩ ∧ w2.heap.size ≤ g ∧ wr.heap[g]? = some (.cells cur 3 (0, 0)) ∧ (onesB (V a)).length ≤ cur.size))
    (fun i _ => (onesB (V a)).length - (intOf i).toNat)
  case atStart => exact ⟨0, Nat.zero_le _, rfl, B25, hW⟩
  case round =>
    obtain ⟨k, hk, rfl, hwr, hWr⟩ := hrel
    by_cases hlt : k < (onesB (V a)).length
    · rcases hWr with h0' | ⟨g, cur, rfl, hg, hh, hcs⟩
      · omega
      obtain ⟨y, hy⟩ : ∃ y, cur[k]? = some y := ⟨_, Array.getElem?_eq_getElem (by omega)⟩
      have hc := (cell_of_row wr g k cur 3 (0, 0) hh).trans hy
      have hf := frozen_of_row wr g k cur 3 hh
      have hset := heap_setCell_same wr g k cur 3 (.int .i64 (-1)) hh
      have HS := Lib.hid hset
      clear hset hh
      go_wp2
      refine ⟨⟨k + 1, by omega, by go_num, hwr.setCell (by simpa using hg) _, .inr ⟨g, _, rfl, hg, HS.out, by simpa using hcs⟩⟩, by simp [intOf]; omega⟩
    · have hge : ¬ (k : Int) < ((onesB (V a)).length : Int) := by omega
      have HB2 := HB.trans (hwr.mono HB.size)
      have hw2 := (hw1.below hwr (Nat.le_refl _)).mono hwr.size
      have HR2 := HR.below HB2 (Nat.le_refl _)
      clear hWr hW B25
      go_wp2_with fail
      refine (refOf_any _ xs wr (HR2.mono HB2.size)).mono ?_
      rintro e w6 ⟨rfl, hb6⟩
      have hw3 := (hw2.below hb6 (Nat.le_refl _)).mono hb6.size
      have HR3 := (HR2.mono HB2.size).below hb6 (Nat.le_refl _)
      have HB3 := HB2.trans (hb6.mono HB2.size)
      go_wp2_with fail
      refine (same_any _ _ xs xs _ w6 hw3 (HR3.mono hb6.size) (Nat.le_refl _)).mono ?_
      rintro e w7 ⟨rfl, hb7⟩
      have HB4 := HB3.trans (hb7.mono HB3.size)
      go_wp2_with fail
      refine (ones_any a ha w7).mono ?_
      rintro e w8 ⟨v8, rfl, hown8, hb8⟩
      have r8 := ReadsL.own hown8
      have HB5 := HB4.trans (hb8.mono HB4.size)
      go_wp2_with fail
      refine (refOnes_any a ha w8).mono ?_
      rintro e w9 ⟨v9, rfl, hown9, hb9⟩
      have r9 := ReadsL.own hown9
      have HB6 := HB5.trans (hb9.mono HB5.size)
      go_wp2_with fail
      refine (same_any _ _ _ _ _ w9 ((r8.below hb9 (Nat.le_refl _)).mono hb9.size) r9 (Nat.le_refl _)).mono ?_
      rintro e w10 ⟨rfl, hb10⟩
      go_wp2
      go_ret
      exact ⟨rfl, HB6.trans (hb10.mono HB6.size)⟩

theorem bitsOnes_walk (a0 : Int) (a1 : Int) (a2 : Option Addr) (len2 cap2 : Nat) (z2 : List Int) (w : World) (w0 : (Lit.int .u64 a0).wf = true) (w1 : (Lit.int .i64 a1).wf = true) (w2 : IsRow .i64 w a2 len2 cap2 z2) :
    Calls Try.prog 7 #[.int .u64 a0, .int .i64 a1, .slice a2 len2 cap2] w fun e w' => e = .returned (.bool true) ∧ Below w.heap.size w w' := by
  by_cases h : 200 < len2
  · exact ones_long a0 a1 a2 len2 cap2 h w
  · have hr := w2.reads
    obtain ⟨_, _, e, _, _⟩ := hr
    have hl : len2 = (z2.take len2).length := by injection e
    exact ones_short a0 a1 (of_wf w0) _ _ (by omega) w w2.reads

end Go.Proofs.Ytbhknchpiagciaa
