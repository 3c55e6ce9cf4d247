/- Layer 9: Decode, the program's and the document's. -/
import Derived.Test.YtehlihhnkojjeaaDoorDsD
namespace Go.Proofs.YtehlihhnkojjeaaDoor
open Go.RowKit
set_option linter.unusedVariables false
set_option maxRecDepth 100000

/-- The answer's block still holds nothing. -/
structure Zr (w wr : World) : Prop where
  bel : Below w.heap.size w wr
  row : wr.heap[w.heap.size]? = some (.cells #[.int .i64 0, .int .i64 0, .int .i64 0, .int .i64 0, .int .i64 0, .int .i64 0, .bool false, .bool false] 24 (0, 0))
theorem Zr.lt {w wr : World} (h : Zr w wr) : w.heap.size < wr.heap.size := (Array.getElem?_eq_some_iff.1 h.row).1
theorem Zr.go {w wr w2 : World} (h : Zr w wr) (hb : Below wr.heap.size wr w2) : Zr w w2 := ⟨h.bel.trans (hb.mono (Nat.le_of_lt h.lt)), (hb.block _ h.lt).trans h.row⟩
theorem Zr.new (w : World) : Zr w (w.alloc (.cells #[.int .i64 0, .int .i64 0, .int .i64 0, .int .i64 0, .int .i64 0, .int .i64 0, .bool false, .bool false] 24)) := ⟨(Below.refl _ _).alloc (Nat.le_refl _) _, heap_alloc_new w _⟩
theorem Zr.alloc {w wr : World} (h : Zr w wr) (o : Obj) : Zr w (wr.alloc o) := h.go ((Below.refl _ _).alloc (Nat.le_refl _) _)
theorem Zr.tab {w wr : World} (h : Zr w wr) (ht : Tab w) : Tab wr := ht.below h.bel
theorem forms_at {w : World} (ht : Tab w) {f : Nat} (hf : f < 15) : w.cell? ⟨0, f * 7, none⟩ = some (.int .u32 (frm f).mask) ∧ w.cell? ⟨0, f * 7 + 1, none⟩ = some (.bool (frm f).rd) ∧ w.cell? ⟨0, f * 7 + 2, none⟩ = some (.bool (frm f).a) ∧ w.cell? ⟨0, f * 7 + 3, none⟩ = some (.bool (frm f).b) ∧ w.cell? ⟨0, f * 7 + 4, none⟩ = some (.int .i64 (frm f).imm) ∧ w.cell? ⟨0, f * 7 + 5, none⟩ = some (.bool (frm f).csr) ∧ w.cell? ⟨0, f * 7 + 6, none⟩ = some (.bool (frm f).ord) := by
  obtain ⟨a, b, c, d, e, g, h⟩ := forms_row f hf
  exact ⟨ht.cell a, ht.cell b, ht.cell c, ht.cell d, ht.cell e, ht.cell g, ht.cell h⟩
theorem has_is (k : Nat) (h1 : 1 ≤ k) (h2 : k ≤ 113) (x : Int) (q : Bool) (hq : isT k x = q) (w : World) (ht : Tab w) :
    Calls Tryd.prog 21 #[.agg #[.string (nameT k), .int .u32 (matT k), .int .u8 (frmT k)], .int .u32 x] w fun e w' => e = .returned (.bool q) ∧ Below w.heap.size w w' := by
  rw [← hq]
  exact has_any (nameT k) (matT k) x (frmT k) (tab_form k (by omega) h1) w ht

set_option maxHeartbeats 2000000 in
theorem decode_yes (k : Nat) (h1 : 1 ≤ k) (h2 : k ≤ 113) (x : Int) (hk : isT k x = true) (w : World) (ht : Tab w) :
    Calls Tryd.prog 10 #[.int .u32 x] w fun e w' => e = .returned (.tuple #[.agg #[.int .i64 (says (fT k) k x).op, .int .i64 (says (fT k) k x).rd, .int .i64 (says (fT k) k x).a, .int .i64 (says (fT k) k x).b, .int .i64 (says (fT k) k x).imm, .int .i64 (says (fT k) k x).csr, .bool (says (fT k) k x).aq, .bool (says (fT k) k x).rl], .bool true]) ∧ Below w.heap.size w w' := by
  have HT := Lib.hid ht
  have HK := Lib.hid hk
  have HNO : Hid (∀ j, 1 ≤ j → j < k → isT j x = false) := Lib.hid fun j a b => by
    cases h : isT j x
    · rfl
    · exact absurd (isT_uniq a (by omega) h1 (by omega) h hk) (by omega)
  clear ht hk
  go_enter Tryd.func10, Tryd.ntmps10
  go_wp2
  go_loopw [4] (fun i wr => ∃ j : Nat, 1 ≤ j ∧ j ≤ k ∧ i = .int .i64 j ∧ Zr w wr) (fun i _ => (k + 1 - intOf i).toNat)
  case atStart => exact ⟨1, by omega, h1, rfl, Zr.new w⟩
  case round =>
    obtain ⟨j, hj1, hj2, rfl, hz⟩ := hrel
    have HZ := Lib.hid hz
    clear hz
    have hj3 : (j : Int) ≤ 113 := by omega
    by_cases e : j < k
    · have HF := Lib.hid fun w => dfind_any j hj1 (by omega) w
      have HH := Lib.hid fun w ht => has_is j hj1 (by omega) x false (HNO.out j hj1 e) w ht
      clear hj1
      go_wp2_with (first
        | (go_at_call 20; (with_reducible refine (HF.out _).mono ?_); rintro e1 w1 ⟨rfl, hb1⟩; have HZ1 := Lib.hid (HZ.out.go hb1); clear hb1)
        | (go_at_call 21; (with_reducible refine (HH.out _ (((HZ1.out.alloc _).tab HT.out))).mono ?_); rintro e2 w2 ⟨rfl, hb2⟩; have HZ2 := Lib.hid ((HZ1.out.alloc _).go hb2); clear hb2))
      go_roundw
      case rel => exact ⟨j + 1, by omega, by omega, by go_num, HZ2.out⟩
      case measure => simp [intOf]; omega
    · obtain rfl : j = k := by omega
      have HF := Lib.hid fun w => dfind_any j hj1 (by omega) w
      have HH := Lib.hid fun w ht => has_is j hj1 (by omega) x true HK.out w ht
      have hff := tab_form j (by omega) hj1
      have HR := Lib.hid fun w => read_any (frmT j) hff j x w
      have HE : Hid (says (frm (frmT j)) j x = says (fT j) j x) := Lib.hid rfl
      rw [HE.out] at HR
      generalize hI : says (fT j) j x = I at *
      have HI := Lib.hid hI
      clear hI
      generalize nameT j = nm at *
      generalize matT j = mt at *
      generalize frmT j = f at *
      have HFF := Lib.hid hff
      have hf15 : (f : Int) < 15 := by omega
      have hf0 : (0 : Int) ≤ f := by omega
      clear hff hj1 HE
      go_wp2_with (first
        | (go_at_call 20; (with_reducible refine (HF.out _).mono ?_); rintro e1 w1 ⟨rfl, hb1⟩; have HZ1 := Lib.hid (HZ.out.go hb1); clear hb1)
        | (go_at_call 21; (with_reducible refine (HH.out _ (((HZ1.out.alloc _).tab HT.out))).mono ?_); rintro e2 w2 ⟨rfl, hb2⟩; have HZ2 := Lib.hid ((HZ1.out.alloc _).go hb2); have hz2 : w1.heap.size < w2.heap.size := (by have := hb2.size; simp at this; omega); have p2 : w2.cell? ⟨w1.heap.size, 2, none⟩ = some (.int .u8 f) := ((hb2.cell (p := ⟨w1.heap.size, 2, none⟩) (by simp)).trans (World.cell?_alloc_at _ _ _ _ rfl)); obtain ⟨c0, c1, c2, c3, c4, c5, c6⟩ := forms_at (HZ2.out.tab HT.out) HFF.out; clear hb2)
        | (go_at_call 22; (with_reducible refine (HR.out _).mono ?_); rintro e3 w3 ⟨rfl, hb3⟩; have HZ3 := Lib.hid (HZ2.out.go hb3); clear hb3)
        | (refine wpList_store_row rfl _ _ _ rfl w.heap.size _ rfl rfl 24 _ HZ3.out.row size_ins rfl (by simp [Value.oneCell']) ?_))
      have hlv := run_loadVar_row (P := Tryd.prog) (w3.setRow w.heap.size #[.int .i64 I.op, .int .i64 I.rd, .int .i64 I.a, .int .i64 I.b, .int .i64 I.imm, .int .i64 I.csr, .bool I.aq, .bool I.rl]) w.heap.size 24 24 #[.int .i64 I.op, .int .i64 I.rd, .int .i64 I.a, .int .i64 I.b, .int .i64 I.imm, .int .i64 I.csr, .bool I.aq, .bool I.rl] (0, 0) _ (setRow_heap _ _ _ _ _ _ HZ3.out.row) Tryd.underlying24 rfl size_ins
      exact bodyPost_ret (v := .tuple #[.agg #[.int .i64 I.op, .int .i64 I.rd, .int .i64 I.a, .int .i64 I.b, .int .i64 I.imm, .int .i64 I.csr, .bool I.aq, .bool I.rl], .bool true]) (by simp [results, Tryd.results10, hlv, asAddr]) rfl ⟨by rw [HI.out], below_setRow HZ3.out.bel (Nat.le_refl _) _⟩

set_option maxHeartbeats 2000000 in
theorem decode_no (x : Int) (hno : ∀ j, 1 ≤ j → j ≤ 113 → isT j x = false) (w : World) (ht : Tab w) :
    Calls Tryd.prog 10 #[.int .u32 x] w fun e w' => e = .returned (.tuple #[.agg #[.int .i64 0, .int .i64 0, .int .i64 0, .int .i64 0, .int .i64 0, .int .i64 0, .bool false, .bool false], .bool false]) ∧ Below w.heap.size w w' := by
  have HT := Lib.hid ht
  have HNO := Lib.hid hno
  clear ht hno
  go_enter Tryd.func10, Tryd.ntmps10
  go_wp2
  go_loopw [4] (fun i wr => ∃ j : Nat, 1 ≤ j ∧ j ≤ 114 ∧ i = .int .i64 j ∧ Zr w wr) (fun i _ => (115 - intOf i).toNat)
  case atStart => exact ⟨1, by omega, by omega, rfl, Zr.new w⟩
  case round =>
    obtain ⟨j, hj1, hj2, rfl, hz⟩ := hrel
    have HZ := Lib.hid hz
    clear hz
    by_cases e : j ≤ 113
    · have hj3 : (j : Int) ≤ 113 := by omega
      have HF := Lib.hid fun w => dfind_any j hj1 (by omega) w
      have HH := Lib.hid fun w ht => has_is j hj1 (by omega) x false (HNO.out j hj1 e) w ht
      clear hj1
      go_wp2_with (first
        | (go_at_call 20; (with_reducible refine (HF.out _).mono ?_); rintro e1 w1 ⟨rfl, hb1⟩; have HZ1 := Lib.hid (HZ.out.go hb1); clear hb1)
        | (go_at_call 21; (with_reducible refine (HH.out _ (((HZ1.out.alloc _).tab HT.out))).mono ?_); rintro e2 w2 ⟨rfl, hb2⟩; have HZ2 := Lib.hid ((HZ1.out.alloc _).go hb2); clear hb2))
      go_roundw
      case rel => exact ⟨j + 1, by omega, by omega, by go_num, HZ2.out⟩
      case measure => simp [intOf]; omega
    · obtain rfl : j = 114 := by omega
      go_wp2_with (refine wpList_store_row rfl _ _ _ rfl w.heap.size _ rfl rfl 24 _ HZ.out.row size_ins rfl (by simp [Value.oneCell']) ?_)
      have hlv := run_loadVar_row (P := Tryd.prog) (wr.setRow w.heap.size #[.int .i64 0, .int .i64 0, .int .i64 0, .int .i64 0, .int .i64 0, .int .i64 0, .bool false, .bool false]) w.heap.size 24 24 #[.int .i64 0, .int .i64 0, .int .i64 0, .int .i64 0, .int .i64 0, .int .i64 0, .bool false, .bool false] (0, 0) _ (setRow_heap _ _ _ _ _ _ HZ.out.row) Tryd.underlying24 rfl size_ins
      exact bodyPost_ret (v := .tuple #[.agg #[.int .i64 0, .int .i64 0, .int .i64 0, .int .i64 0, .int .i64 0, .int .i64 0, .bool false, .bool false], .bool false]) (by simp [results, Tryd.results10, hlv, asAddr]) rfl ⟨rfl, below_setRow HZ.out.bel (Nat.le_refl _) _⟩

set_option maxHeartbeats 2000000 in
theorem refDecode_yes (k : Nat) (h1 : 1 ≤ k) (h2 : k ≤ 113) (x : Int) (hx : In32 x) (hk : isT k x = true) (w : World) :
    Calls Tryd.prog 11 #[.int .u32 x] w fun e w' => e = .returned (.tuple #[.agg #[.int .i64 (says (fT k) k x).op, .int .i64 (says (fT k) k x).rd, .int .i64 (says (fT k) k x).a, .int .i64 (says (fT k) k x).b, .int .i64 (says (fT k) k x).imm, .int .i64 (says (fT k) k x).csr, .bool (says (fT k) k x).aq, .bool (says (fT k) k x).rl], .bool true]) ∧ Below w.heap.size w w' := by
  have HK := Lib.hid hk
  have HNO : Hid (∀ j, 1 ≤ j → j < k → isT j x = false) := Lib.hid fun j a b => by
    cases h : isT j x
    · rfl
    · exact absurd (isT_uniq a (by omega) h1 (by omega) h hk) (by omega)
  have HX := Lib.hid hx
  clear hk hx
  go_enter Tryd.func11, Tryd.ntmps11
  go_wp2
  go_loopw [4] (fun i wr => ∃ j : Nat, 1 ≤ j ∧ j ≤ k ∧ i = .int .i64 j ∧ Zr w wr) (fun i _ => (k + 1 - intOf i).toNat)
  case atStart => exact ⟨1, by omega, h1, rfl, Zr.new w⟩
  case round =>
    obtain ⟨j, hj1, hj2, rfl, hz⟩ := hrel
    have HZ := Lib.hid hz
    clear hz
    have hj3 : (j : Int) ≤ 113 := by omega
    by_cases e : j < k
    · have HF := Lib.hid fun w => refRow_any j hj1 (by omega) w
      have hq : (bits .and .u32 x (mskT j) == (matT j : Int)) = false := HNO.out j hj1 e
      generalize (mskT j : Int) = mk at *
      generalize (matT j : Int) = mt at *
      clear hj1
      go_wp2_with (first
        | (go_at_call 23; (with_reducible refine (HF.out _).mono ?_); rintro e1 w1 ⟨rfl, hb1⟩; have HZ1 := Lib.hid (HZ.out.go hb1); clear hb1))
      go_roundw
      case rel => exact ⟨j + 1, by omega, by omega, by go_num, HZ1.out.alloc _⟩
      case measure => simp [intOf]; omega
    · obtain rfl : j = k := by omega
      have HF := Lib.hid fun w => refRow_any j hj1 (by omega) w
      have hq : (bits .and .u32 x (mskT j) == (matT j : Int)) = true := HK.out
      have HR := Lib.hid fun w => says_any j hj1 (by omega) x HX.out w
      generalize hI : says (fT j) j x = I at *
      have HI := Lib.hid hI
      clear hI
      generalize (mskT j : Int) = mk at *
      generalize (matT j : Int) = mt at *
      clear hj1
      go_wp2_with (first
        | (go_at_call 23; (with_reducible refine (HF.out _).mono ?_); rintro e1 w1 ⟨rfl, hb1⟩; have HZ1 := Lib.hid (HZ.out.go hb1); clear hb1)
        | (go_at_call 24; (with_reducible refine (HR.out _).mono ?_); rintro e3 w3 ⟨rfl, hb3⟩; have HZ3 := Lib.hid ((HZ1.out.alloc _).go hb3); clear hb3)
        | (refine wpList_store_row rfl _ _ _ rfl w.heap.size _ rfl rfl 24 _ HZ3.out.row size_ins rfl (by simp [Value.oneCell']) ?_))
      have hlv := run_loadVar_row (P := Tryd.prog) (w3.setRow w.heap.size #[.int .i64 I.op, .int .i64 I.rd, .int .i64 I.a, .int .i64 I.b, .int .i64 I.imm, .int .i64 I.csr, .bool I.aq, .bool I.rl]) w.heap.size 24 24 #[.int .i64 I.op, .int .i64 I.rd, .int .i64 I.a, .int .i64 I.b, .int .i64 I.imm, .int .i64 I.csr, .bool I.aq, .bool I.rl] (0, 0) _ (setRow_heap _ _ _ _ _ _ HZ3.out.row) Tryd.underlying24 rfl size_ins
      exact bodyPost_ret (v := .tuple #[.agg #[.int .i64 I.op, .int .i64 I.rd, .int .i64 I.a, .int .i64 I.b, .int .i64 I.imm, .int .i64 I.csr, .bool I.aq, .bool I.rl], .bool true]) (by simp [results, Tryd.results11, hlv, asAddr]) rfl ⟨by rw [HI.out], below_setRow HZ3.out.bel (Nat.le_refl _) _⟩

set_option maxHeartbeats 2000000 in
theorem refDecode_no (x : Int) (hno : ∀ j, 1 ≤ j → j ≤ 113 → isT j x = false) (w : World) :
    Calls Tryd.prog 11 #[.int .u32 x] w fun e w' => e = .returned (.tuple #[.agg #[.int .i64 0, .int .i64 0, .int .i64 0, .int .i64 0, .int .i64 0, .int .i64 0, .bool false, .bool false], .bool false]) ∧ Below w.heap.size w w' := by
  have HNO := Lib.hid hno
  clear hno
  go_enter Tryd.func11, Tryd.ntmps11
  go_wp2
  go_loopw [4] (fun i wr => ∃ j : Nat, 1 ≤ j ∧ j ≤ 114 ∧ i = .int .i64 j ∧ Zr w wr) (fun i _ => (115 - intOf i).toNat)
  case atStart => exact ⟨1, by omega, by omega, rfl, Zr.new w⟩
  case round =>
    obtain ⟨j, hj1, hj2, rfl, hz⟩ := hrel
    have HZ := Lib.hid hz
    clear hz
    by_cases e : j ≤ 113
    · have hj3 : (j : Int) ≤ 113 := by omega
      have HF := Lib.hid fun w => refRow_any j hj1 (by omega) w
      have hq : (bits .and .u32 x (mskT j) == (matT j : Int)) = false := HNO.out j hj1 e
      generalize (mskT j : Int) = mk at *
      generalize (matT j : Int) = mt at *
      clear hj1
      go_wp2_with (first
        | (go_at_call 23; (with_reducible refine (HF.out _).mono ?_); rintro e1 w1 ⟨rfl, hb1⟩; have HZ1 := Lib.hid (HZ.out.go hb1); clear hb1))
      go_roundw
      case rel => exact ⟨j + 1, by omega, by omega, by go_num, HZ1.out.alloc _⟩
      case measure => simp [intOf]; omega
    · obtain rfl : j = 114 := by omega
      go_wp2_with (refine wpList_store_row rfl _ _ _ rfl w.heap.size _ rfl rfl 24 _ HZ.out.row size_ins rfl (by simp [Value.oneCell']) ?_)
      have hlv := run_loadVar_row (P := Tryd.prog) (wr.setRow w.heap.size #[.int .i64 0, .int .i64 0, .int .i64 0, .int .i64 0, .int .i64 0, .int .i64 0, .bool false, .bool false]) w.heap.size 24 24 #[.int .i64 0, .int .i64 0, .int .i64 0, .int .i64 0, .int .i64 0, .int .i64 0, .bool false, .bool false] (0, 0) _ (setRow_heap _ _ _ _ _ _ HZ.out.row) Tryd.underlying24 rfl size_ins
      exact bodyPost_ret (v := .tuple #[.agg #[.int .i64 0, .int .i64 0, .int .i64 0, .int .i64 0, .int .i64 0, .int .i64 0, .bool false, .bool false], .bool false]) (by simp [results, Tryd.results11, hlv, asAddr]) rfl ⟨rfl, below_setRow HZ.out.bel (Nat.le_refl _) _⟩

end Go.Proofs.YtehlihhnkojjeaaDoor
