/- Layer 9: find; the table of forms in memory; has, register, put, mark. -/
import Derived.Test.YtehlihhnkojjeaaDoorDaA
import Derived.Test.YtehlihhnkojjeaaDoorDaB
import Derived.Test.YtehlihhnkojjeaaDoorDaC
import Derived.Test.YtehlihhnkojjeaaDoorDaD
import Derived.Test.YtehlihhnkojjeaaDoorFdK
namespace Go.Proofs.YtehlihhnkojjeaaDoor
open Go.RowKit
set_option linter.unusedVariables false
set_option maxRecDepth 100000

theorem belN {B : Nat} {a w : World} (h : Below B a w) (n : Nat) : Below B a (w.drewN n) := ⟨h.os, h.tape, h.output, h.size, h.block⟩

set_option maxHeartbeats 1000000 in
theorem dfind_any (k : Nat) (h1 : 1 ≤ k) (h2 : k ≤ 113) (w : World) :
    Calls Tryd.prog 20 #[.int .i64 k] w fun e w' => e = .returned (.tuple #[.agg #[.string (nameT k), .int .u32 (matT k), .int .u8 (frmT k)], .bool true]) ∧ Below w.heap.size w w' := by
  by_cases c0 : k ≤ 21
  · have HJ := Lib.hid (jumpOrMove_any k (by omega) c0)
    generalize nameT k = nm at *
    generalize matT k = m at *
    generalize frmT k = fr at *
    have e0 : (k : Int) ≤ 21 := by omega
    have f1 : ¬ (k : Int) < 1 := by omega
    have f2 : ¬ (113 < (k : Int)) := by omega
    clear h1 h2 c0
    go_enter Tryd.func20, Tryd.ntmps20
    go_wp2_with (go_at_call 31; refine (HJ.out _).mono ?_; rintro e w1 ⟨rfl, hb1⟩; have HB : Hid (Below w.heap.size w w1) := Lib.hid (((Below.refl _ _).alloc (Nat.le_refl _) _).trans (hb1.mono (by simp))); have hz : w.heap.size < w1.heap.size := (by have := hb1.size; simp at this; omega); obtain ⟨hc, hf⟩ := bcell hb1; clear hb1)
    exact bodyPost_ret (v := .tuple #[.agg #[.string nm, .int .u32 m, .int .u8 fr], .bool true]) (by simp [results, Tryd.results20, go_sem, hc, hz]) rfl ⟨rfl, ((HB.out.setCell (by simp) _).setCell (by simp) _).setCell (by simp) _⟩
  by_cases c1 : k ≤ 62
  · have HJ := Lib.hid (reckoning_any k (by omega) c1)
    generalize nameT k = nm at *
    generalize matT k = m at *
    generalize frmT k = fr at *
    have d0 : ¬ (k : Int) ≤ 21 := by omega
    have e1 : (k : Int) ≤ 62 := by omega
    have f1 : ¬ (k : Int) < 1 := by omega
    have f2 : ¬ (113 < (k : Int)) := by omega
    clear h1 h2 c0 c1
    go_enter Tryd.func20, Tryd.ntmps20
    go_wp2_with (go_at_call 32; refine (HJ.out _).mono ?_; rintro e w1 ⟨rfl, hb1⟩; have HB : Hid (Below w.heap.size w w1) := Lib.hid (((Below.refl _ _).alloc (Nat.le_refl _) _).trans (hb1.mono (by simp))); have hz : w.heap.size < w1.heap.size := (by have := hb1.size; simp at this; omega); obtain ⟨hc, hf⟩ := bcell hb1; clear hb1)
    exact bodyPost_ret (v := .tuple #[.agg #[.string nm, .int .u32 m, .int .u8 fr], .bool true]) (by simp [results, Tryd.results20, go_sem, hc, hz]) rfl ⟨rfl, ((HB.out.setCell (by simp) _).setCell (by simp) _).setCell (by simp) _⟩
  by_cases c2 : k ≤ 84
  · have HJ := Lib.hid (atomic_any k (by omega) c2)
    generalize nameT k = nm at *
    generalize matT k = m at *
    generalize frmT k = fr at *
    have d0 : ¬ (k : Int) ≤ 21 := by omega
    have d1 : ¬ (k : Int) ≤ 62 := by omega
    have e2 : (k : Int) ≤ 84 := by omega
    have f1 : ¬ (k : Int) < 1 := by omega
    have f2 : ¬ (113 < (k : Int)) := by omega
    clear h1 h2 c0 c1 c2
    go_enter Tryd.func20, Tryd.ntmps20
    go_wp2_with (go_at_call 33; refine (HJ.out _).mono ?_; rintro e w1 ⟨rfl, hb1⟩; have HB : Hid (Below w.heap.size w w1) := Lib.hid (((Below.refl _ _).alloc (Nat.le_refl _) _).trans (hb1.mono (by simp))); have hz : w.heap.size < w1.heap.size := (by have := hb1.size; simp at this; omega); obtain ⟨hc, hf⟩ := bcell hb1; clear hb1)
    exact bodyPost_ret (v := .tuple #[.agg #[.string nm, .int .u32 m, .int .u8 fr], .bool true]) (by simp [results, Tryd.results20, go_sem, hc, hz]) rfl ⟨rfl, ((HB.out.setCell (by simp) _).setCell (by simp) _).setCell (by simp) _⟩
  have HJ := Lib.hid (system_any k (by omega) h2)
  generalize nameT k = nm at *
  generalize matT k = m at *
  generalize frmT k = fr at *
  have d0 : ¬ (k : Int) ≤ 21 := by omega
  have d1 : ¬ (k : Int) ≤ 62 := by omega
  have d2 : ¬ (k : Int) ≤ 84 := by omega
  have f1 : ¬ (k : Int) < 1 := by omega
  have f2 : ¬ (113 < (k : Int)) := by omega
  clear h1 h2 c0 c1 c2
  go_enter Tryd.func20, Tryd.ntmps20
  go_wp2_with (go_at_call 34; refine (HJ.out _).mono ?_; rintro e w1 ⟨rfl, hb1⟩; have HB : Hid (Below w.heap.size w w1) := Lib.hid (((Below.refl _ _).alloc (Nat.le_refl _) _).trans (hb1.mono (by simp))); have hz : w.heap.size < w1.heap.size := (by have := hb1.size; simp at this; omega); obtain ⟨hc, hf⟩ := bcell hb1; clear hb1)
  exact bodyPost_ret (v := .tuple #[.agg #[.string nm, .int .u32 m, .int .u8 fr], .bool true]) (by simp [results, Tryd.results20, go_sem, hc, hz]) rfl ⟨rfl, ((HB.out.setCell (by simp) _).setCell (by simp) _).setCell (by simp) _⟩

theorem dfind_none (op : Int) (h : ¬ (1 ≤ op ∧ op ≤ 113)) (w : World) :
    Calls Tryd.prog 20 #[.int .i64 op] w fun e w' => e = .returned (.tuple #[.agg #[.string ⟨#[]⟩, .int .u32 0, .int .u8 0], .bool false]) ∧ Below w.heap.size w w' := by
  by_cases h1 : op < 1
  · clear h
    go_enter Tryd.func20, Tryd.ntmps20
    go_wp2
    exact bodyPost_ret (v := .tuple #[.agg #[.string ⟨#[]⟩, .int .u32 0, .int .u8 0], .bool false]) (by simp [results, Tryd.results20, go_sem]) rfl ⟨rfl, (Below.refl _ _).alloc (Nat.le_refl _) _⟩
  · have h2 : 113 < op := by omega
    clear h
    go_enter Tryd.func20, Tryd.ntmps20
    go_wp2
    exact bodyPost_ret (v := .tuple #[.agg #[.string ⟨#[]⟩, .int .u32 0, .int .u8 0], .bool false]) (by simp [results, Tryd.results20, go_sem]) rfl ⟨rfl, (Below.refl _ _).alloc (Nat.le_refl _) _⟩

def formsQ : Array Value := #[.int .u32 127, .bool true, .bool false, .bool false, .int .i64 4, .bool false, .bool false, .int .u32 127, .bool true, .bool false, .bool false, .int .i64 5, .bool false, .bool false, .int .u32 28799, .bool true, .bool true, .bool false, .int .i64 1, .bool false, .bool false, .int .u32 28799, .bool false, .bool true, .bool true, .int .i64 3, .bool false, .bool false, .int .u32 28799, .bool false, .bool true, .bool true, .int .i64 2, .bool false, .bool false, .int .u32 4227887231, .bool true, .bool true, .bool false, .int .i64 6, .bool false, .bool false, .int .u32 4261441663, .bool true, .bool true, .bool false, .int .i64 7, .bool false, .bool false, .int .u32 4261441663, .bool true, .bool true, .bool true, .int .i64 0, .bool false, .bool false, .int .u32 4193284223, .bool true, .bool true, .bool false, .int .i64 0, .bool false, .bool true, .int .u32 4160778367, .bool true, .bool true, .bool true, .int .i64 0, .bool false, .bool true, .int .u32 4294967295, .bool false, .bool false, .bool false, .int .i64 0, .bool false, .bool false, .int .u32 4261445631, .bool false, .bool true, .bool true, .int .i64 0, .bool false, .bool false, .int .u32 28799, .bool true, .bool true, .bool false, .int .i64 0, .bool true, .bool false, .int .u32 28799, .bool true, .bool false, .bool false, .int .i64 9, .bool true, .bool false, .int .u32 4293947519, .bool true, .bool true, .bool false, .int .i64 0, .bool false, .bool false]
/-- The program's table of forms stands in memory. -/
def Tab (w : World) : Prop := ∃ t fr, w.heap[0]? = some (.cells formsQ t fr)
theorem Tab.lt {w : World} (h : Tab w) : 0 < w.heap.size := by obtain ⟨t, fr, h⟩ := h; exact (Array.getElem?_eq_some_iff.1 h).1
theorem Tab.below {w w' : World} (h : Tab w) (o : Below w.heap.size w w') : Tab w' := by
  have hl := h.lt
  obtain ⟨t, fr, h⟩ := h; exact ⟨t, fr, (o.block _ hl).trans h⟩
theorem Tab.cell {w : World} (h : Tab w) {o : Nat} {v : Value} (hv : formsQ[o]? = some v) : w.cell? ⟨0, o, none⟩ = some v := by
  obtain ⟨t, fr, h⟩ := h
  rw [cell_of_row w _ o _ t fr h]; exact hv
theorem forms_row : ∀ k, k < 15 → formsQ[k * 7]? = some (.int .u32 (frm k).mask) ∧ formsQ[k * 7 + 1]? = some (.bool (frm k).rd) ∧ formsQ[k * 7 + 2]? = some (.bool (frm k).a) ∧ formsQ[k * 7 + 3]? = some (.bool (frm k).b) ∧ formsQ[k * 7 + 4]? = some (.int .i64 (frm k).imm) ∧ formsQ[k * 7 + 5]? = some (.bool (frm k).csr) ∧ formsQ[k * 7 + 6]? = some (.bool (frm k).ord)
  | 0, _ => ⟨rfl, rfl, rfl, rfl, rfl, rfl, rfl⟩
  | 1, _ => ⟨rfl, rfl, rfl, rfl, rfl, rfl, rfl⟩
  | 2, _ => ⟨rfl, rfl, rfl, rfl, rfl, rfl, rfl⟩
  | 3, _ => ⟨rfl, rfl, rfl, rfl, rfl, rfl, rfl⟩
  | 4, _ => ⟨rfl, rfl, rfl, rfl, rfl, rfl, rfl⟩
  | 5, _ => ⟨rfl, rfl, rfl, rfl, rfl, rfl, rfl⟩
  | 6, _ => ⟨rfl, rfl, rfl, rfl, rfl, rfl, rfl⟩
  | 7, _ => ⟨rfl, rfl, rfl, rfl, rfl, rfl, rfl⟩
  | 8, _ => ⟨rfl, rfl, rfl, rfl, rfl, rfl, rfl⟩
  | 9, _ => ⟨rfl, rfl, rfl, rfl, rfl, rfl, rfl⟩
  | 10, _ => ⟨rfl, rfl, rfl, rfl, rfl, rfl, rfl⟩
  | 11, _ => ⟨rfl, rfl, rfl, rfl, rfl, rfl, rfl⟩
  | 12, _ => ⟨rfl, rfl, rfl, rfl, rfl, rfl, rfl⟩
  | 13, _ => ⟨rfl, rfl, rfl, rfl, rfl, rfl, rfl⟩
  | 14, _ => ⟨rfl, rfl, rfl, rfl, rfl, rfl, rfl⟩
  | k + 15, h => absurd h (by omega)

set_option maxHeartbeats 1000000 in
theorem has_any (nm : ByteArray) (m x : Int) (k : Nat) (hk : k < 15) (w : World) (ht : Tab w) :
    Calls Tryd.prog 21 #[.agg #[.string nm, .int .u32 m, .int .u8 k], .int .u32 x] w fun e w' => e = .returned (.bool (bits .and .u32 x (frm k).mask == m)) ∧ Below w.heap.size w w' := by
  have hl := ht.lt
  have c0 := ht.cell (forms_row k hk).1
  have hb : (k : Int) < 15 := by omega
  have hb0 : (0 : Int) ≤ k := by omega
  generalize ((frm k).mask : Int) = M at *
  clear hk ht
  go_enter Tryd.func21, Tryd.ntmps21
  go_wp2
  go_quiet (fail)
  go_wp2
  go_ret
  exact ⟨rfl, belN ((Below.refl _ _).alloc (Nat.le_refl _) _) _⟩

theorem register_any (x : Int) (s : Int) (h0 : 0 ≤ s) (h1 : s + 4 ≤ 31) (w : World) :
    Calls Tryd.prog 35 #[.int .u32 x, .int .i64 s] w fun e w' => e = .returned (.int .i64 (fldZ x (s + 4) s)) ∧ w = w' := by
  have b := fldZ_in32 x (s + 4) s
  unfold In32 at b
  obtain ⟨b1, b2⟩ := b
  have HF := Lib.hid fun w => field_any x (s + 4) s w
  generalize fldZ x (s + 4) s = y at *
  go_enter Tryd.func35, Tryd.ntmps35
  go_wp2_with (go_at_call 36; refine (HF.out _).mono ?_; rintro e w3 ⟨rfl, rfl⟩)
  go_ret
  exact ⟨rfl, rfl⟩

theorem put_any (n : Int) (s : Nat) (h1 : s + 4 ≤ 31) (w : World) :
    Calls Tryd.prog 41 #[.int .i64 n, .int .i64 s] w fun e w' => e = .returned (.int .u32 (put5 n s)) ∧ w = w' := by
  have hs : (s : Int) < 64 := by omega
  have HF := Lib.hid fun w => field_any (IntKind.u32.wrap n) 4 0 w
  have HP : Hid (put5 n s = IntKind.u32.wrap (fldZ (IntKind.u32.wrap n) 4 0 * 2 ^ s)) := Lib.hid rfl
  generalize fldZ (IntKind.u32.wrap n) 4 0 = y at *
  go_enter Tryd.func41, Tryd.ntmps41
  go_wp2_with (go_at_call 36; refine (HF.out _).mono ?_; rintro e w3 ⟨rfl, rfl⟩)
  go_ret
  exact ⟨ret_int HP.out.symm, rfl⟩

theorem mark_any (b : Bool) (s : Nat) (h1 : s ≤ 31) (w : World) :
    Calls Tryd.prog 42 #[.bool b, .int .i64 s] w fun e w' => e = .returned (.int .u32 (markZ b s)) ∧ w = w' := by
  cases b
  · go_enter Tryd.func42, Tryd.ntmps42
    go_wp2
    go_ret
    exact ⟨rfl, rfl⟩
  · have h2 : (2 : Int) ^ s % 4294967296 = 2 ^ s := by
      have a := two_pow_pos s
      have b : (2 : Int) ^ s ≤ 2 ^ 31 := by exact_mod_cast Nat.pow_le_pow_right (by omega) h1
      have c : (2 : Int) ^ 31 = 2147483648 := rfl
      omega
    have HE : Hid (IntKind.u32.wrap (2 ^ s) = 2 ^ s) := Lib.hid (by rw [wrap32, h2])
    clear h2
    have hs : (s : Int) < 64 := by omega
    go_enter Tryd.func42, Tryd.ntmps42
    go_wp2
    go_ret
    exact ⟨ret_int HE.out, rfl⟩

end Go.Proofs.YtehlihhnkojjeaaDoor
