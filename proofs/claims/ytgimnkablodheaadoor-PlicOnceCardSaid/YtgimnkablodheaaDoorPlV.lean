/- Layer 5: the places; the program's Read. -/
import Derived.Test.YtgimnkablodheaaDoorPlU
namespace Go.Proofs.YtgimnkablodheaaDoor
open Go.RowKit
set_option linter.unusedVariables false

/-- What stands at an offset (0 a priority, 1 what is pending, 2 enabled, 3 a threshold, 4 claims, 5 nothing), and of which number. -/
def plcK (off n : Int) : Nat × Nat :=
  if n = 4 then (if off < 128 ∧ off % 4 = 0 then (0, (off / 4).toNat) else if off = 4096 then (1, 0) else if off = 8192 then (2, 0) else if off = 8320 then (2, 1) else if off = 2097152 then (3, 0) else if off = 2101248 then (3, 1)
    else if off = 2097156 then (4, 0) else if off = 2101252 then (4, 1) else (5, 0)) else (5, 0)
theorem plc_cases (off n : Int) (h0 : 0 ≤ off) :
    (n = 4 ∧ ∃ k : Nat, k < 32 ∧ off = 4 * (k : Int) ∧ plcK off n = (0, k)) ∨ (n = 4 ∧ off = 4096 ∧ plcK off n = (1, 0)) ∨ (n = 4 ∧ off = 8192 ∧ plcK off n = (2, 0)) ∨ (n = 4 ∧ off = 8320 ∧ plcK off n = (2, 1)) ∨
    (n = 4 ∧ off = 2097152 ∧ plcK off n = (3, 0)) ∨ (n = 4 ∧ off = 2101248 ∧ plcK off n = (3, 1)) ∨ (n = 4 ∧ off = 2097156 ∧ plcK off n = (4, 0)) ∨ (n = 4 ∧ off = 2101252 ∧ plcK off n = (4, 1)) ∨
    (n = 4 ∧ NoPlic off ∧ plcK off n = (5, 0)) ∨ (¬ n = 4 ∧ plcK off n = (5, 0)) := by
  by_cases hn : n = 4
  · subst hn
    by_cases h1 : off < 128 ∧ off % 4 = 0
    · refine .inl ⟨rfl, (off / 4).toNat, by omega, by omega, ?_⟩
      unfold plcK; rw [if_pos rfl, if_pos h1]
    by_cases h2 : off = 4096
    · subst h2; exact .inr (.inl ⟨rfl, rfl, by decide⟩)
    by_cases h3 : off = 8192
    · subst h3; exact .inr (.inr (.inl ⟨rfl, rfl, by decide⟩))
    by_cases h4 : off = 8320
    · subst h4; exact .inr (.inr (.inr (.inl ⟨rfl, rfl, by decide⟩)))
    by_cases h5 : off = 2097152
    · subst h5; exact .inr (.inr (.inr (.inr (.inl ⟨rfl, rfl, by decide⟩))))
    by_cases h6 : off = 2101248
    · subst h6; exact .inr (.inr (.inr (.inr (.inr (.inl ⟨rfl, rfl, by decide⟩)))))
    by_cases h7 : off = 2097156
    · subst h7; exact .inr (.inr (.inr (.inr (.inr (.inr (.inl ⟨rfl, rfl, by decide⟩))))))
    by_cases h8 : off = 2101252
    · subst h8; exact .inr (.inr (.inr (.inr (.inr (.inr (.inr (.inl ⟨rfl, rfl, by decide⟩)))))))
    refine .inr (.inr (.inr (.inr (.inr (.inr (.inr (.inr (.inl ⟨rfl, ⟨h1, h2, h3, h4, h5, h6, h7, h8⟩, ?_⟩))))))))
    unfold plcK
    rw [if_pos rfl, if_neg h1, if_neg h2, if_neg h3, if_neg h4, if_neg h5, if_neg h6, if_neg h7, if_neg h8]
  · refine .inr (.inr (.inr (.inr (.inr (.inr (.inr (.inr (.inr ⟨hn, ?_⟩))))))))
    unfold plcK; rw [if_neg hn]
theorem findQ_prio {k : Nat} (hk : k < 32) : findQ (4 * (k : Int)) = (0, (k : Int), true) := by
  have hd : dvQ (4 * (k : Int)) 0 = 4 * (k : Int) := by unfold dvQ; omega
  unfold findQ
  rw [if_pos (by unfold hitQ; rw [hd, show (4 * (k : Int) % 4 == 0) = true by rw [beq_iff_eq]; omega, decide_eq_true (by omega)]; rfl), hd, show 4 * (k : Int) / 4 = (k : Int) by omega]
theorem hit_no {off A S C : Int} (h : ¬ (dvQ off A % S = 0 ∧ dvQ off A / S < C)) : hitQ off A S C = false := by
  unfold hitQ
  by_cases h1 : dvQ off A % S = 0
  · rw [decide_eq_false (fun h2 => h ⟨h1, h2⟩), Bool.and_false]
  · rw [show (dvQ off A % S == 0) = false by rw [beq_eq_false_iff_ne]; exact h1, Bool.false_and]
theorem findQ_no {off : Int} (hn : NoPlic off) (ho : In64 off) : findQ off = (0, 0, false) := by
  obtain ⟨h1, h2, h3, h4, h5, h6, h7, h8⟩ := hn
  unfold In64 at ho
  unfold findQ
  rw [hit_no (S := 4) (C := 32) (by unfold dvQ; omega), hit_no (A := 4096) (by unfold dvQ; omega), hit_no (A := 8192) (by unfold dvQ; omega), hit_no (A := 2097152) (by unfold dvQ; omega), hit_no (A := 2097156) (by unfold dvQ; omega)]
  rfl
/-- What a reading tells, what it leaves; what a writing leaves. -/
def rdX (t : PS) (p : Nat × Nat) : Int := match p.1 with
  | 0 => t.prio p.2
  | 1 => bits32 t.pend
  | 2 => bits32 fun s => t.on s p.2
  | 3 => t.floor p.2
  | 4 => bestC t p.2
  | _ => 0
def rdT (t : PS) (p : Nat × Nat) : PS := match p.1 with
  | 4 => claimed t (bestC t p.2)
  | _ => t
def okP (p : Nat × Nat) : Bool := decide (p.1 < 5)
def wrT (t : PS) (p : Nat × Nat) (v : Int) : PS := match p.1 with
  | 0 => if p.2 = 0 then t else prioT t p.2 (v % 8)
  | 2 => onT t p.2 (onBits v)
  | 3 => floorT t p.2 (v % 8)
  | 4 => doneT t p.2 (v % 4294967296).toNat
  | _ => t
theorem find_is (w : World) (off : Int) (ht : Tab w) (a i : Int) (ok : Bool) (h : findQ off = (a, i, ok)) : Calls Tryd.prog 22 #[.int .u64 off, .int .i64 4] w fun e w' => e = .returned (.tuple #[.int .i64 a, .int .i64 i, .bool ok]) ∧ Below w.heap.size w w' := by
  have k := find_any w off ht
  rw [h] at k; exact k
theorem read_none (w : World) (off n : Int) : Calls Tryd.prog 12 #[.pointer none, .int .u64 off, .int .i64 n] w fun e w' => e = .returned (.tuple #[.int .u64 0, .bool false]) ∧ w = w' := by
  go_enter Tryd.func12, Tryd.ntmps12
  go_wp2
  go_ret2
  exact ⟨rfl, rfl⟩
theorem read_len (w : World) (b : Nat) (t : PS) (h : ProgP w b t) (off n : Int) (hn : ¬ n = 4) : Calls Tryd.prog 12 #[.pointer (some ⟨b, 0, none⟩), .int .u64 off, .int .i64 n] w (ProgEnd w b (.tuple #[.int .u64 0, .bool false]) t) := by
  have HN := Lib.hid hn
  have H := Lib.hid h
  clear hn h
  go_enter Tryd.func12, Tryd.ntmps12
  go_wp2_with fail
  refine (find_len _ off n HN.out).mono ?_
  rintro e w2 ⟨rfl, hb⟩
  have HB := Lib.hid hb
  clear hb
  go_wp2
  go_ret2
  exact ⟨rfl, Only.of_below _ HB.out, H.out.below HB.out⟩
theorem read_no (w : World) (b : Nat) (t : PS) (h : ProgP w b t) (ht : Tab w) (off : Int) (hn : NoPlic off) (ho : In64 off) : Calls Tryd.prog 12 #[.pointer (some ⟨b, 0, none⟩), .int .u64 off, .int .i64 4] w (ProgEnd w b (.tuple #[.int .u64 0, .bool false]) t) := by
  have HF := Lib.hid (find_is w off ht _ _ _ (findQ_no hn ho))
  have H := Lib.hid h
  clear hn h ho ht
  go_enter Tryd.func12, Tryd.ntmps12
  go_wp2_with fail
  (with_reducible refine (HF.out).mono ?_)
  rintro e w2 ⟨rfl, hb⟩
  have HB := Lib.hid hb
  clear hb
  go_wp2
  go_ret2
  exact ⟨rfl, Only.of_below _ HB.out, H.out.below HB.out⟩
theorem wrap_u64s {x : Int} (h0 : 0 ≤ x) (h1 : x < 4294967296) : IntKind.u64.wrap x = x := by rw [IntKind.wrap_u64]; omega
theorem read_prio (w : World) (b : Nat) (t : PS) (h : ProgP w b t) (ht : Tab w) (k : Nat) (hk : k < 32) (off : Int) (ho : off = 4 * (k : Int)) : Calls Tryd.prog 12 #[.pointer (some ⟨b, 0, none⟩), .int .u64 off, .int .i64 4] w (ProgEnd w b (.tuple #[.int .u64 (t.prio k), .bool true]) t) := by
  have HF := Lib.hid (find_is w off ht 0 (k : Int) true (by rw [ho]; exact findQ_prio hk))
  have H := Lib.hid h
  have hw := wrap_u64s (h.2.pr k).1 (by have := (h.2.pr k).2; omega)
  have i1 : (k : Int) < 32 := by omega
  clear h ht ho
  go_enter Tryd.func12, Tryd.ntmps12
  go_wp2_with fail
  (with_reducible refine (HF.out).mono ?_)
  rintro e w2 ⟨rfl, hb⟩
  have HB := Lib.hid hb
  have c0 := (H.out.below hb).prio_ hk
  clear hb
  go_wp2
  go_ret2
  exact ⟨rfl, Only.of_below _ HB.out, H.out.below HB.out⟩
theorem read_pend (w : World) (b : Nat) (t : PS) (h : ProgP w b t) (ht : Tab w) : Calls Tryd.prog 12 #[.pointer (some ⟨b, 0, none⟩), .int .u64 4096, .int .i64 4] w (ProgEnd w b (.tuple #[.int .u64 (bits32 t.pend), .bool true]) t) := by
  have HF := Lib.hid (find_is w 4096 ht 1 0 true (by decide))
  have H := Lib.hid h
  have hw := wrap_u64s (bits32_bd t.pend).1 (bits32_bd t.pend).2
  clear h ht
  go_enter Tryd.func12, Tryd.ntmps12
  go_wp2_with fail
  (with_reducible refine (HF.out).mono ?_)
  rintro e w2 ⟨rfl, hb⟩
  have HB := Lib.hid hb
  have c0 := (H.out.below hb).pend_
  clear hb
  go_wp2
  go_ret2
  exact ⟨rfl, Only.of_below _ HB.out, H.out.below HB.out⟩
theorem read_on (w : World) (b : Nat) (t : PS) (h : ProgP w b t) (ht : Tab w) (c : Nat) (hc : c < 2) (off : Int) (hf : findQ off = (2, (c : Int), true)) : Calls Tryd.prog 12 #[.pointer (some ⟨b, 0, none⟩), .int .u64 off, .int .i64 4] w (ProgEnd w b (.tuple #[.int .u64 (bits32 fun s => t.on s c), .bool true]) t) := by
  have HF := Lib.hid (find_is w off ht _ _ _ hf)
  have H := Lib.hid h
  have hw := wrap_u64s (bits32_bd fun s => t.on s c).1 (bits32_bd fun s => t.on s c).2
  have i1 : (c : Int) < 2 := by omega
  clear h ht hf
  go_enter Tryd.func12, Tryd.ntmps12
  go_wp2_with fail
  (with_reducible refine (HF.out).mono ?_)
  rintro e w2 ⟨rfl, hb⟩
  have HB := Lib.hid hb
  have c0 := (H.out.below hb).on_ hc
  clear hb
  go_wp2
  go_ret2
  exact ⟨rfl, Only.of_below _ HB.out, H.out.below HB.out⟩
theorem read_floor (w : World) (b : Nat) (t : PS) (h : ProgP w b t) (ht : Tab w) (c : Nat) (hc : c < 2) (off : Int) (hf : findQ off = (3, (c : Int), true)) : Calls Tryd.prog 12 #[.pointer (some ⟨b, 0, none⟩), .int .u64 off, .int .i64 4] w (ProgEnd w b (.tuple #[.int .u64 (t.floor c), .bool true]) t) := by
  have HF := Lib.hid (find_is w off ht _ _ _ hf)
  have H := Lib.hid h
  have hw := wrap_u64s (h.2.fl c).1 (by have := (h.2.fl c).2; omega)
  have i1 : (c : Int) < 2 := by omega
  clear h ht hf
  go_enter Tryd.func12, Tryd.ntmps12
  go_wp2_with fail
  (with_reducible refine (HF.out).mono ?_)
  rintro e w2 ⟨rfl, hb⟩
  have HB := Lib.hid hb
  have c0 := (H.out.below hb).floor_ hc
  clear hb
  go_wp2
  go_ret2
  exact ⟨rfl, Only.of_below _ HB.out, H.out.below HB.out⟩
theorem read_claim (w : World) (b : Nat) (t : PS) (h : ProgP w b t) (ht : Tab w) (c : Nat) (hc : c < 2) (off : Int) (hf : findQ off = (4, (c : Int), true)) : Calls Tryd.prog 12 #[.pointer (some ⟨b, 0, none⟩), .int .u64 off, .int .i64 4] w (ProgEnd w b (.tuple #[.int .u64 (bestC t c), .bool true]) (claimed t (bestC t c))) := by
  have HF := Lib.hid (find_is w off ht _ _ _ hf)
  have H := Lib.hid h
  have hle := bestC_le t c
  have HCL : Hid (∀ w2, ProgP w2 b t → Calls Tryd.prog 29 #[.pointer (some ⟨b, 0, none⟩), .int .i64 c] w2 (ProgEnd w2 b (.int .i64 (bestC t c)) (claimed t (bestC t c)))) := Lib.hid fun w2 h2 => claim_any w2 b t h2 c _ rfl
  generalize bestC t (c : Int) = k at *
  have hw : IntKind.u64.wrap (k : Int) = k := wrap_u64s (by omega) (by omega)
  clear h ht hf
  go_enter Tryd.func12, Tryd.ntmps12
  go_wp2_with fail
  (with_reducible refine (HF.out).mono ?_)
  rintro e w2 ⟨rfl, hb⟩
  have HB := Lib.hid hb
  clear hb
  go_wp2_with fail
  (with_reducible refine (HCL.out _ (H.out.below HB.out)).mono ?_)
  rintro e w3 ⟨rfl, ho, hp⟩
  have HO := Lib.hid ((Only.of_below _ HB.out).trans ho)
  have HP := Lib.hid hp
  clear ho hp
  go_wp2
  go_ret2
  exact ⟨rfl, HO.out, HP.out⟩
theorem read_any (w : World) (b : Nat) (t : PS) (h : ProgP w b t) (ht : Tab w) (off n : Int) (ho : In64 off) :
    Calls Tryd.prog 12 #[.pointer (some ⟨b, 0, none⟩), .int .u64 off, .int .i64 n] w (ProgEnd w b (.tuple #[.int .u64 (rdX t (plcK off n)), .bool (okP (plcK off n))]) (rdT t (plcK off n))) := by
  rcases plc_cases off n ho.1 with ⟨rfl, k, hk, hk4, hp⟩ | ⟨rfl, rfl, hp⟩ | ⟨rfl, rfl, hp⟩ | ⟨rfl, rfl, hp⟩ | ⟨rfl, rfl, hp⟩ | ⟨rfl, rfl, hp⟩ | ⟨rfl, rfl, hp⟩ | ⟨rfl, rfl, hp⟩ | ⟨rfl, hn, hp⟩ | ⟨hn, hp⟩
  all_goals rw [hp]
  · exact read_prio w b t h ht k hk off hk4
  · exact read_pend w b t h ht
  · exact read_on w b t h ht 0 (by omega) _ (by decide)
  · exact read_on w b t h ht 1 (by omega) _ (by decide)
  · exact read_floor w b t h ht 0 (by omega) _ (by decide)
  · exact read_floor w b t h ht 1 (by omega) _ (by decide)
  · exact read_claim w b t h ht 0 (by omega) _ (by decide)
  · exact read_claim w b t h ht 1 (by omega) _ (by decide)
  · exact read_no w b t h ht off hn ho
  · exact read_len w b t h off n hn

end Go.Proofs.YtgimnkablodheaaDoor
