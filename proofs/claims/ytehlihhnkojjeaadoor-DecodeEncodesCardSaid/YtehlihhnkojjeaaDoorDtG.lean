/- Layer 9: the document's Encode. -/
import Derived.Test.YtehlihhnkojjeaaDoorDtA
import Derived.Test.YtehlihhnkojjeaaDoorDsF
import Derived.Deep.RegionHeld3
namespace Go.Proofs.YtehlihhnkojjeaaDoor
open Go.RowKit
set_option linter.unusedVariables false
set_option maxRecDepth 100000

theorem refEncode_no (op rd a b imm csr : Int) (aq rl : Bool) (w : World)
    (HRI : ∀ w, Calls Tryd.prog 26 #[.agg #[.int .i64 op, .int .i64 rd, .int .i64 a, .int .i64 b, .int .i64 imm, .int .i64 csr, .bool aq, .bool rl]] w fun e w' => e = .returned (.bool false) ∧ Below w.heap.size w w') :
    Calls Tryd.prog 14 #[.agg #[.int .i64 op, .int .i64 rd, .int .i64 a, .int .i64 b, .int .i64 imm, .int .i64 csr, .bool aq, .bool rl]] w fun e w' => e = .returned (.tuple #[.int .u32 0, .int .i64 80]) ∧ Below w.heap.size w w' := by
  have HR := Lib.hid HRI
  clear HRI
  go_enter Tryd.func14, Tryd.ntmps14
  go_wp2_with (go_at_call 26; (with_reducible refine (HR.out _).mono ?_); rintro e1 w1 ⟨rfl, hb1⟩; have HB := Lib.hid (((Below.refl _ _).alloc (Nat.le_refl _) _).trans (hb1.mono (by simp))); clear hb1)
  go_ret2
  exact ⟨rfl, HB.out⟩

set_option maxHeartbeats 2000000 in
theorem refEncode_tt0 (op rd a b imm csr mk mt lt K v : Int) (nm : ByteArray) (w : World) (rd0 : 0 ≤ rd) (rd1 : rd ≤ 31) (a0 : 0 ≤ a) (a1 : a ≤ 31) (b0 : 0 ≤ b) (b1 : b ≤ 31) (c0 : 0 ≤ csr) (c1 : csr ≤ 4095)
    (HRI : ∀ w, Calls Tryd.prog 26 #[.agg #[.int .i64 op, .int .i64 rd, .int .i64 a, .int .i64 b, .int .i64 imm, .int .i64 csr, .bool true, .bool true]] w fun e w' => e = .returned (.bool true) ∧ Below w.heap.size w w')
    (HRO : ∀ w, Calls Tryd.prog 23 #[.int .i64 op] w fun e w' => e = .returned (.agg #[.string nm, .int .u32 mk, .int .u32 mt, .int .u8 lt]) ∧ Below w.heap.size w w') (HFO : ∀ w, Calls Tryd.prog 27 #[.int .u8 lt] w fun e w' => e = .returned (.int .i64 0) ∧ w = w') :
    Calls Tryd.prog 14 #[.agg #[.int .i64 op, .int .i64 rd, .int .i64 a, .int .i64 b, .int .i64 imm, .int .i64 csr, .bool true, .bool true]] w fun e w' => e = .returned (.tuple #[.int .u32 (bits .or .u32 (bits .or .u32 (bits .or .u32 (bits .or .u32 (bits .or .u32 (bits .or .u32 mt (rd * 128)) (a * 32768)) (b * 1048576)) (csr * 1048576)) 67108864) 33554432), .int .i64 0]) ∧ Below w.heap.size w w' := by
  have HI := Lib.hid HRI
  have HR := Lib.hid HRO
  have HF := Lib.hid HFO
  clear HRI HRO HFO
  go_enter Tryd.func14, Tryd.ntmps14
  go_wp2_with (first
    | (go_at_call 26; (with_reducible refine (HI.out _).mono ?_); rintro e1 w1 ⟨rfl, hb1⟩; have HB1 : Hid (Below w.heap.size w w1) := Lib.hid (((Below.refl _ _).alloc (Nat.le_refl _) _).trans (hb1.mono (by simp))); have hs1 : w.heap.size < w1.heap.size := (by have := hb1.size; simp at this; omega); have HIR : Hid (w1.heap[w.heap.size]? = some (.cells #[.int .i64 op, .int .i64 rd, .int .i64 a, .int .i64 b, .int .i64 imm, .int .i64 csr, .bool true, .bool true] 24 (0, 0))) := Lib.hid ((hb1.block _ (by simp)).trans (heap_alloc_new w _)); have x0 : w1.cell? ⟨w.heap.size, 0, none⟩ = some (.int .i64 op) := (by rw [cell_of_row _ _ _ _ _ _ HIR.out]; rfl); clear hb1)
    | (go_at_call 23; (with_reducible refine (HR.out _).mono ?_); rintro e2 w2 ⟨rfl, hb2⟩; have HB2 : Hid (Below w.heap.size w w2) := Lib.hid (HB1.out.trans (hb2.mono (Nat.le_of_lt hs1))); have hs2 : w.heap.size < w2.heap.size := Nat.lt_of_lt_of_le hs1 hb2.size; have HIR2 : Hid (w2.heap[w.heap.size]? = some (.cells #[.int .i64 op, .int .i64 rd, .int .i64 a, .int .i64 b, .int .i64 imm, .int .i64 csr, .bool true, .bool true] 24 (0, 0))) := Lib.hid ((hb2.block _ hs1).trans HIR.out); have d0 : w2.cell? ⟨w.heap.size, 0, none⟩ = some (.int .i64 op) := (by rw [cell_of_row _ _ _ _ _ _ HIR2.out]; rfl); have d1 : w2.cell? ⟨w.heap.size, 1, none⟩ = some (.int .i64 rd) := (by rw [cell_of_row _ _ _ _ _ _ HIR2.out]; rfl); have d2 : w2.cell? ⟨w.heap.size, 2, none⟩ = some (.int .i64 a) := (by rw [cell_of_row _ _ _ _ _ _ HIR2.out]; rfl); have d3 : w2.cell? ⟨w.heap.size, 3, none⟩ = some (.int .i64 b) := (by rw [cell_of_row _ _ _ _ _ _ HIR2.out]; rfl); have d4 : w2.cell? ⟨w.heap.size, 4, none⟩ = some (.int .i64 imm) := (by rw [cell_of_row _ _ _ _ _ _ HIR2.out]; rfl); have d5 : w2.cell? ⟨w.heap.size, 5, none⟩ = some (.int .i64 csr) := (by rw [cell_of_row _ _ _ _ _ _ HIR2.out]; rfl); have d6 : w2.cell? ⟨w.heap.size, 6, none⟩ = some (.bool true) := (by rw [cell_of_row _ _ _ _ _ _ HIR2.out]; rfl); have d7 : w2.cell? ⟨w.heap.size, 7, none⟩ = some (.bool true) := (by rw [cell_of_row _ _ _ _ _ _ HIR2.out]; rfl); clear hb2)
    | (go_at_call 27; (with_reducible refine (HF.out _).mono ?_); rintro e w3 ⟨rfl, rfl⟩))
  go_ret2
  exact ⟨rfl, HB2.out.alloc HB2.out.size _⟩

set_option maxHeartbeats 2000000 in
theorem refEncode_tt1 (op rd a b imm csr mk mt lt K v : Int) (nm : ByteArray) (w : World) (rd0 : 0 ≤ rd) (rd1 : rd ≤ 31) (a0 : 0 ≤ a) (a1 : a ≤ 31) (b0 : 0 ≤ b) (b1 : b ≤ 31) (c0 : 0 ≤ csr) (c1 : csr ≤ 4095)
    (HRI : ∀ w, Calls Tryd.prog 26 #[.agg #[.int .i64 op, .int .i64 rd, .int .i64 a, .int .i64 b, .int .i64 imm, .int .i64 csr, .bool true, .bool true]] w fun e w' => e = .returned (.bool true) ∧ Below w.heap.size w w')
    (HRO : ∀ w, Calls Tryd.prog 23 #[.int .i64 op] w fun e w' => e = .returned (.agg #[.string nm, .int .u32 mk, .int .u32 mt, .int .u8 lt]) ∧ Below w.heap.size w w') (HFO : ∀ w, Calls Tryd.prog 27 #[.int .u8 lt] w fun e w' => e = .returned (.int .i64 K) ∧ w = w') (hK : 0 < K) (HPU : ∀ w, Calls Tryd.prog 28 #[.int .i64 K, .int .i64 imm] w fun e w' => e = .returned (.tuple #[.int .u32 v, .bool true]) ∧ Below w.heap.size w w') :
    Calls Tryd.prog 14 #[.agg #[.int .i64 op, .int .i64 rd, .int .i64 a, .int .i64 b, .int .i64 imm, .int .i64 csr, .bool true, .bool true]] w fun e w' => e = .returned (.tuple #[.int .u32 (bits .or .u32 (bits .or .u32 (bits .or .u32 (bits .or .u32 (bits .or .u32 (bits .or .u32 (bits .or .u32 mt (rd * 128)) (a * 32768)) (b * 1048576)) (csr * 1048576)) 67108864) 33554432) v), .int .i64 0]) ∧ Below w.heap.size w w' := by
  have HI := Lib.hid HRI
  have HR := Lib.hid HRO
  have HF := Lib.hid HFO
  clear HRI HRO HFO
  have HP := Lib.hid HPU
  clear HPU
  go_enter Tryd.func14, Tryd.ntmps14
  go_wp2_with (first
    | (go_at_call 26; (with_reducible refine (HI.out _).mono ?_); rintro e1 w1 ⟨rfl, hb1⟩; have HB1 : Hid (Below w.heap.size w w1) := Lib.hid (((Below.refl _ _).alloc (Nat.le_refl _) _).trans (hb1.mono (by simp))); have hs1 : w.heap.size < w1.heap.size := (by have := hb1.size; simp at this; omega); have HIR : Hid (w1.heap[w.heap.size]? = some (.cells #[.int .i64 op, .int .i64 rd, .int .i64 a, .int .i64 b, .int .i64 imm, .int .i64 csr, .bool true, .bool true] 24 (0, 0))) := Lib.hid ((hb1.block _ (by simp)).trans (heap_alloc_new w _)); have x0 : w1.cell? ⟨w.heap.size, 0, none⟩ = some (.int .i64 op) := (by rw [cell_of_row _ _ _ _ _ _ HIR.out]; rfl); clear hb1)
    | (go_at_call 23; (with_reducible refine (HR.out _).mono ?_); rintro e2 w2 ⟨rfl, hb2⟩; have HB2 : Hid (Below w.heap.size w w2) := Lib.hid (HB1.out.trans (hb2.mono (Nat.le_of_lt hs1))); have hs2 : w.heap.size < w2.heap.size := Nat.lt_of_lt_of_le hs1 hb2.size; have HIR2 : Hid (w2.heap[w.heap.size]? = some (.cells #[.int .i64 op, .int .i64 rd, .int .i64 a, .int .i64 b, .int .i64 imm, .int .i64 csr, .bool true, .bool true] 24 (0, 0))) := Lib.hid ((hb2.block _ hs1).trans HIR.out); have d0 : w2.cell? ⟨w.heap.size, 0, none⟩ = some (.int .i64 op) := (by rw [cell_of_row _ _ _ _ _ _ HIR2.out]; rfl); have d1 : w2.cell? ⟨w.heap.size, 1, none⟩ = some (.int .i64 rd) := (by rw [cell_of_row _ _ _ _ _ _ HIR2.out]; rfl); have d2 : w2.cell? ⟨w.heap.size, 2, none⟩ = some (.int .i64 a) := (by rw [cell_of_row _ _ _ _ _ _ HIR2.out]; rfl); have d3 : w2.cell? ⟨w.heap.size, 3, none⟩ = some (.int .i64 b) := (by rw [cell_of_row _ _ _ _ _ _ HIR2.out]; rfl); have d4 : w2.cell? ⟨w.heap.size, 4, none⟩ = some (.int .i64 imm) := (by rw [cell_of_row _ _ _ _ _ _ HIR2.out]; rfl); have d5 : w2.cell? ⟨w.heap.size, 5, none⟩ = some (.int .i64 csr) := (by rw [cell_of_row _ _ _ _ _ _ HIR2.out]; rfl); have d6 : w2.cell? ⟨w.heap.size, 6, none⟩ = some (.bool true) := (by rw [cell_of_row _ _ _ _ _ _ HIR2.out]; rfl); have d7 : w2.cell? ⟨w.heap.size, 7, none⟩ = some (.bool true) := (by rw [cell_of_row _ _ _ _ _ _ HIR2.out]; rfl); clear hb2)
    | (go_at_call 27; (with_reducible refine (HF.out _).mono ?_); rintro e w3 ⟨rfl, rfl⟩))
  have HBX : Hid (Below w.heap.size w (w2.alloc (.cells #[.string nm, .int .u32 mk, .int .u32 mt, .int .u8 lt] 65))) := Lib.hid (HB2.out.alloc HB2.out.size _)
  have q3 : (w2.alloc (.cells #[.string nm, .int .u32 mk, .int .u32 mt, .int .u8 lt] 65)).cell? ⟨w2.heap.size, 3, none⟩ = some (.int .u8 lt) := World.cell?_alloc_at _ _ _ _ rfl
  have q4 : (w2.alloc (.cells #[.string nm, .int .u32 mk, .int .u32 mt, .int .u8 lt] 65)).cell? ⟨w.heap.size, 4, none⟩ = some (.int .i64 imm) := by go_simp
  have s1 : w2.heap.size < (w2.alloc (.cells #[.string nm, .int .u32 mk, .int .u32 mt, .int .u8 lt] 65)).heap.size := by rw [World.size_alloc]; omega
  have s2 : w.heap.size < (w2.alloc (.cells #[.string nm, .int .u32 mk, .int .u32 mt, .int .u8 lt] 65)).heap.size := by rw [World.size_alloc]; omega
  clear d0 d1 d2 d3 d4 d5 d6 d7 x0 HIR HIR2 HB1 HB2
  generalize hw2 : (w2.alloc (.cells #[.string nm, .int .u32 mk, .int .u32 mt, .int .u8 lt] 65)) = ww at *
  clear hw2
  generalize w2.heap.size = m at *
  generalize hn : w.heap.size = n at *
  have HNN := Lib.hid hn
  clear hn
  go_region_held3 (fun w' => w'.cell? ⟨m, 3, none⟩ = some (.int .u8 lt) ∧ w'.cell? ⟨n, 4, none⟩ = some (.int .i64 imm)) (go_keep)
    (first
      | (go_at_call 27; refine (HF.out _).mono ?_; rintro e w3 ⟨rfl, rfl⟩)
      | (go_at_call 28; refine (HP.out _).mono ?_; rintro e w4 ⟨rfl, hb4⟩; have g3 := (hb4.cell (p := ⟨m, 3, none⟩) s1).trans q3; have g4 := (hb4.cell (p := ⟨n, 4, none⟩) s2).trans q4; have HB4 := Lib.hid (HBX.out.trans (((Below.refl _ _).drew.trans hb4).mono (Nat.le_of_lt s2))); clear hb4))
  go_wp2
  go_ret2
  exact ⟨rfl, by rw [HNN.out]; exact HB4.out⟩

set_option maxHeartbeats 2000000 in
theorem refEncode_tf0 (op rd a b imm csr mk mt lt K v : Int) (nm : ByteArray) (w : World) (rd0 : 0 ≤ rd) (rd1 : rd ≤ 31) (a0 : 0 ≤ a) (a1 : a ≤ 31) (b0 : 0 ≤ b) (b1 : b ≤ 31) (c0 : 0 ≤ csr) (c1 : csr ≤ 4095)
    (HRI : ∀ w, Calls Tryd.prog 26 #[.agg #[.int .i64 op, .int .i64 rd, .int .i64 a, .int .i64 b, .int .i64 imm, .int .i64 csr, .bool true, .bool false]] w fun e w' => e = .returned (.bool true) ∧ Below w.heap.size w w')
    (HRO : ∀ w, Calls Tryd.prog 23 #[.int .i64 op] w fun e w' => e = .returned (.agg #[.string nm, .int .u32 mk, .int .u32 mt, .int .u8 lt]) ∧ Below w.heap.size w w') (HFO : ∀ w, Calls Tryd.prog 27 #[.int .u8 lt] w fun e w' => e = .returned (.int .i64 0) ∧ w = w') :
    Calls Tryd.prog 14 #[.agg #[.int .i64 op, .int .i64 rd, .int .i64 a, .int .i64 b, .int .i64 imm, .int .i64 csr, .bool true, .bool false]] w fun e w' => e = .returned (.tuple #[.int .u32 (bits .or .u32 (bits .or .u32 (bits .or .u32 (bits .or .u32 (bits .or .u32 mt (rd * 128)) (a * 32768)) (b * 1048576)) (csr * 1048576)) 67108864), .int .i64 0]) ∧ Below w.heap.size w w' := by
  have HI := Lib.hid HRI
  have HR := Lib.hid HRO
  have HF := Lib.hid HFO
  clear HRI HRO HFO
  go_enter Tryd.func14, Tryd.ntmps14
  go_wp2_with (first
    | (go_at_call 26; (with_reducible refine (HI.out _).mono ?_); rintro e1 w1 ⟨rfl, hb1⟩; have HB1 : Hid (Below w.heap.size w w1) := Lib.hid (((Below.refl _ _).alloc (Nat.le_refl _) _).trans (hb1.mono (by simp))); have hs1 : w.heap.size < w1.heap.size := (by have := hb1.size; simp at this; omega); have HIR : Hid (w1.heap[w.heap.size]? = some (.cells #[.int .i64 op, .int .i64 rd, .int .i64 a, .int .i64 b, .int .i64 imm, .int .i64 csr, .bool true, .bool false] 24 (0, 0))) := Lib.hid ((hb1.block _ (by simp)).trans (heap_alloc_new w _)); have x0 : w1.cell? ⟨w.heap.size, 0, none⟩ = some (.int .i64 op) := (by rw [cell_of_row _ _ _ _ _ _ HIR.out]; rfl); clear hb1)
    | (go_at_call 23; (with_reducible refine (HR.out _).mono ?_); rintro e2 w2 ⟨rfl, hb2⟩; have HB2 : Hid (Below w.heap.size w w2) := Lib.hid (HB1.out.trans (hb2.mono (Nat.le_of_lt hs1))); have hs2 : w.heap.size < w2.heap.size := Nat.lt_of_lt_of_le hs1 hb2.size; have HIR2 : Hid (w2.heap[w.heap.size]? = some (.cells #[.int .i64 op, .int .i64 rd, .int .i64 a, .int .i64 b, .int .i64 imm, .int .i64 csr, .bool true, .bool false] 24 (0, 0))) := Lib.hid ((hb2.block _ hs1).trans HIR.out); have d0 : w2.cell? ⟨w.heap.size, 0, none⟩ = some (.int .i64 op) := (by rw [cell_of_row _ _ _ _ _ _ HIR2.out]; rfl); have d1 : w2.cell? ⟨w.heap.size, 1, none⟩ = some (.int .i64 rd) := (by rw [cell_of_row _ _ _ _ _ _ HIR2.out]; rfl); have d2 : w2.cell? ⟨w.heap.size, 2, none⟩ = some (.int .i64 a) := (by rw [cell_of_row _ _ _ _ _ _ HIR2.out]; rfl); have d3 : w2.cell? ⟨w.heap.size, 3, none⟩ = some (.int .i64 b) := (by rw [cell_of_row _ _ _ _ _ _ HIR2.out]; rfl); have d4 : w2.cell? ⟨w.heap.size, 4, none⟩ = some (.int .i64 imm) := (by rw [cell_of_row _ _ _ _ _ _ HIR2.out]; rfl); have d5 : w2.cell? ⟨w.heap.size, 5, none⟩ = some (.int .i64 csr) := (by rw [cell_of_row _ _ _ _ _ _ HIR2.out]; rfl); have d6 : w2.cell? ⟨w.heap.size, 6, none⟩ = some (.bool true) := (by rw [cell_of_row _ _ _ _ _ _ HIR2.out]; rfl); have d7 : w2.cell? ⟨w.heap.size, 7, none⟩ = some (.bool false) := (by rw [cell_of_row _ _ _ _ _ _ HIR2.out]; rfl); clear hb2)
    | (go_at_call 27; (with_reducible refine (HF.out _).mono ?_); rintro e w3 ⟨rfl, rfl⟩))
  go_ret2
  exact ⟨rfl, HB2.out.alloc HB2.out.size _⟩

set_option maxHeartbeats 2000000 in
theorem refEncode_tf1 (op rd a b imm csr mk mt lt K v : Int) (nm : ByteArray) (w : World) (rd0 : 0 ≤ rd) (rd1 : rd ≤ 31) (a0 : 0 ≤ a) (a1 : a ≤ 31) (b0 : 0 ≤ b) (b1 : b ≤ 31) (c0 : 0 ≤ csr) (c1 : csr ≤ 4095)
    (HRI : ∀ w, Calls Tryd.prog 26 #[.agg #[.int .i64 op, .int .i64 rd, .int .i64 a, .int .i64 b, .int .i64 imm, .int .i64 csr, .bool true, .bool false]] w fun e w' => e = .returned (.bool true) ∧ Below w.heap.size w w')
    (HRO : ∀ w, Calls Tryd.prog 23 #[.int .i64 op] w fun e w' => e = .returned (.agg #[.string nm, .int .u32 mk, .int .u32 mt, .int .u8 lt]) ∧ Below w.heap.size w w') (HFO : ∀ w, Calls Tryd.prog 27 #[.int .u8 lt] w fun e w' => e = .returned (.int .i64 K) ∧ w = w') (hK : 0 < K) (HPU : ∀ w, Calls Tryd.prog 28 #[.int .i64 K, .int .i64 imm] w fun e w' => e = .returned (.tuple #[.int .u32 v, .bool true]) ∧ Below w.heap.size w w') :
    Calls Tryd.prog 14 #[.agg #[.int .i64 op, .int .i64 rd, .int .i64 a, .int .i64 b, .int .i64 imm, .int .i64 csr, .bool true, .bool false]] w fun e w' => e = .returned (.tuple #[.int .u32 (bits .or .u32 (bits .or .u32 (bits .or .u32 (bits .or .u32 (bits .or .u32 (bits .or .u32 mt (rd * 128)) (a * 32768)) (b * 1048576)) (csr * 1048576)) 67108864) v), .int .i64 0]) ∧ Below w.heap.size w w' := by
  have HI := Lib.hid HRI
  have HR := Lib.hid HRO
  have HF := Lib.hid HFO
  clear HRI HRO HFO
  have HP := Lib.hid HPU
  clear HPU
  go_enter Tryd.func14, Tryd.ntmps14
  go_wp2_with (first
    | (go_at_call 26; (with_reducible refine (HI.out _).mono ?_); rintro e1 w1 ⟨rfl, hb1⟩; have HB1 : Hid (Below w.heap.size w w1) := Lib.hid (((Below.refl _ _).alloc (Nat.le_refl _) _).trans (hb1.mono (by simp))); have hs1 : w.heap.size < w1.heap.size := (by have := hb1.size; simp at this; omega); have HIR : Hid (w1.heap[w.heap.size]? = some (.cells #[.int .i64 op, .int .i64 rd, .int .i64 a, .int .i64 b, .int .i64 imm, .int .i64 csr, .bool true, .bool false] 24 (0, 0))) := Lib.hid ((hb1.block _ (by simp)).trans (heap_alloc_new w _)); have x0 : w1.cell? ⟨w.heap.size, 0, none⟩ = some (.int .i64 op) := (by rw [cell_of_row _ _ _ _ _ _ HIR.out]; rfl); clear hb1)
    | (go_at_call 23; (with_reducible refine (HR.out _).mono ?_); rintro e2 w2 ⟨rfl, hb2⟩; have HB2 : Hid (Below w.heap.size w w2) := Lib.hid (HB1.out.trans (hb2.mono (Nat.le_of_lt hs1))); have hs2 : w.heap.size < w2.heap.size := Nat.lt_of_lt_of_le hs1 hb2.size; have HIR2 : Hid (w2.heap[w.heap.size]? = some (.cells #[.int .i64 op, .int .i64 rd, .int .i64 a, .int .i64 b, .int .i64 imm, .int .i64 csr, .bool true, .bool false] 24 (0, 0))) := Lib.hid ((hb2.block _ hs1).trans HIR.out); have d0 : w2.cell? ⟨w.heap.size, 0, none⟩ = some (.int .i64 op) := (by rw [cell_of_row _ _ _ _ _ _ HIR2.out]; rfl); have d1 : w2.cell? ⟨w.heap.size, 1, none⟩ = some (.int .i64 rd) := (by rw [cell_of_row _ _ _ _ _ _ HIR2.out]; rfl); have d2 : w2.cell? ⟨w.heap.size, 2, none⟩ = some (.int .i64 a) := (by rw [cell_of_row _ _ _ _ _ _ HIR2.out]; rfl); have d3 : w2.cell? ⟨w.heap.size, 3, none⟩ = some (.int .i64 b) := (by rw [cell_of_row _ _ _ _ _ _ HIR2.out]; rfl); have d4 : w2.cell? ⟨w.heap.size, 4, none⟩ = some (.int .i64 imm) := (by rw [cell_of_row _ _ _ _ _ _ HIR2.out]; rfl); have d5 : w2.cell? ⟨w.heap.size, 5, none⟩ = some (.int .i64 csr) := (by rw [cell_of_row _ _ _ _ _ _ HIR2.out]; rfl); have d6 : w2.cell? ⟨w.heap.size, 6, none⟩ = some (.bool true) := (by rw [cell_of_row _ _ _ _ _ _ HIR2.out]; rfl); have d7 : w2.cell? ⟨w.heap.size, 7, none⟩ = some (.bool false) := (by rw [cell_of_row _ _ _ _ _ _ HIR2.out]; rfl); clear hb2)
    | (go_at_call 27; (with_reducible refine (HF.out _).mono ?_); rintro e w3 ⟨rfl, rfl⟩))
  have HBX : Hid (Below w.heap.size w (w2.alloc (.cells #[.string nm, .int .u32 mk, .int .u32 mt, .int .u8 lt] 65))) := Lib.hid (HB2.out.alloc HB2.out.size _)
  have q3 : (w2.alloc (.cells #[.string nm, .int .u32 mk, .int .u32 mt, .int .u8 lt] 65)).cell? ⟨w2.heap.size, 3, none⟩ = some (.int .u8 lt) := World.cell?_alloc_at _ _ _ _ rfl
  have q4 : (w2.alloc (.cells #[.string nm, .int .u32 mk, .int .u32 mt, .int .u8 lt] 65)).cell? ⟨w.heap.size, 4, none⟩ = some (.int .i64 imm) := by go_simp
  have s1 : w2.heap.size < (w2.alloc (.cells #[.string nm, .int .u32 mk, .int .u32 mt, .int .u8 lt] 65)).heap.size := by rw [World.size_alloc]; omega
  have s2 : w.heap.size < (w2.alloc (.cells #[.string nm, .int .u32 mk, .int .u32 mt, .int .u8 lt] 65)).heap.size := by rw [World.size_alloc]; omega
  clear d0 d1 d2 d3 d4 d5 d6 d7 x0 HIR HIR2 HB1 HB2
  generalize hw2 : (w2.alloc (.cells #[.string nm, .int .u32 mk, .int .u32 mt, .int .u8 lt] 65)) = ww at *
  clear hw2
  generalize w2.heap.size = m at *
  generalize hn : w.heap.size = n at *
  have HNN := Lib.hid hn
  clear hn
  go_region_held3 (fun w' => w'.cell? ⟨m, 3, none⟩ = some (.int .u8 lt) ∧ w'.cell? ⟨n, 4, none⟩ = some (.int .i64 imm)) (go_keep)
    (first
      | (go_at_call 27; refine (HF.out _).mono ?_; rintro e w3 ⟨rfl, rfl⟩)
      | (go_at_call 28; refine (HP.out _).mono ?_; rintro e w4 ⟨rfl, hb4⟩; have g3 := (hb4.cell (p := ⟨m, 3, none⟩) s1).trans q3; have g4 := (hb4.cell (p := ⟨n, 4, none⟩) s2).trans q4; have HB4 := Lib.hid (HBX.out.trans (((Below.refl _ _).drew.trans hb4).mono (Nat.le_of_lt s2))); clear hb4))
  go_wp2
  go_ret2
  exact ⟨rfl, by rw [HNN.out]; exact HB4.out⟩

set_option maxHeartbeats 2000000 in
theorem refEncode_ft0 (op rd a b imm csr mk mt lt K v : Int) (nm : ByteArray) (w : World) (rd0 : 0 ≤ rd) (rd1 : rd ≤ 31) (a0 : 0 ≤ a) (a1 : a ≤ 31) (b0 : 0 ≤ b) (b1 : b ≤ 31) (c0 : 0 ≤ csr) (c1 : csr ≤ 4095)
    (HRI : ∀ w, Calls Tryd.prog 26 #[.agg #[.int .i64 op, .int .i64 rd, .int .i64 a, .int .i64 b, .int .i64 imm, .int .i64 csr, .bool false, .bool true]] w fun e w' => e = .returned (.bool true) ∧ Below w.heap.size w w')
    (HRO : ∀ w, Calls Tryd.prog 23 #[.int .i64 op] w fun e w' => e = .returned (.agg #[.string nm, .int .u32 mk, .int .u32 mt, .int .u8 lt]) ∧ Below w.heap.size w w') (HFO : ∀ w, Calls Tryd.prog 27 #[.int .u8 lt] w fun e w' => e = .returned (.int .i64 0) ∧ w = w') :
    Calls Tryd.prog 14 #[.agg #[.int .i64 op, .int .i64 rd, .int .i64 a, .int .i64 b, .int .i64 imm, .int .i64 csr, .bool false, .bool true]] w fun e w' => e = .returned (.tuple #[.int .u32 (bits .or .u32 (bits .or .u32 (bits .or .u32 (bits .or .u32 (bits .or .u32 mt (rd * 128)) (a * 32768)) (b * 1048576)) (csr * 1048576)) 33554432), .int .i64 0]) ∧ Below w.heap.size w w' := by
  have HI := Lib.hid HRI
  have HR := Lib.hid HRO
  have HF := Lib.hid HFO
  clear HRI HRO HFO
  go_enter Tryd.func14, Tryd.ntmps14
  go_wp2_with (first
    | (go_at_call 26; (with_reducible refine (HI.out _).mono ?_); rintro e1 w1 ⟨rfl, hb1⟩; have HB1 : Hid (Below w.heap.size w w1) := Lib.hid (((Below.refl _ _).alloc (Nat.le_refl _) _).trans (hb1.mono (by simp))); have hs1 : w.heap.size < w1.heap.size := (by have := hb1.size; simp at this; omega); have HIR : Hid (w1.heap[w.heap.size]? = some (.cells #[.int .i64 op, .int .i64 rd, .int .i64 a, .int .i64 b, .int .i64 imm, .int .i64 csr, .bool false, .bool true] 24 (0, 0))) := Lib.hid ((hb1.block _ (by simp)).trans (heap_alloc_new w _)); have x0 : w1.cell? ⟨w.heap.size, 0, none⟩ = some (.int .i64 op) := (by rw [cell_of_row _ _ _ _ _ _ HIR.out]; rfl); clear hb1)
    | (go_at_call 23; (with_reducible refine (HR.out _).mono ?_); rintro e2 w2 ⟨rfl, hb2⟩; have HB2 : Hid (Below w.heap.size w w2) := Lib.hid (HB1.out.trans (hb2.mono (Nat.le_of_lt hs1))); have hs2 : w.heap.size < w2.heap.size := Nat.lt_of_lt_of_le hs1 hb2.size; have HIR2 : Hid (w2.heap[w.heap.size]? = some (.cells #[.int .i64 op, .int .i64 rd, .int .i64 a, .int .i64 b, .int .i64 imm, .int .i64 csr, .bool false, .bool true] 24 (0, 0))) := Lib.hid ((hb2.block _ hs1).trans HIR.out); have d0 : w2.cell? ⟨w.heap.size, 0, none⟩ = some (.int .i64 op) := (by rw [cell_of_row _ _ _ _ _ _ HIR2.out]; rfl); have d1 : w2.cell? ⟨w.heap.size, 1, none⟩ = some (.int .i64 rd) := (by rw [cell_of_row _ _ _ _ _ _ HIR2.out]; rfl); have d2 : w2.cell? ⟨w.heap.size, 2, none⟩ = some (.int .i64 a) := (by rw [cell_of_row _ _ _ _ _ _ HIR2.out]; rfl); have d3 : w2.cell? ⟨w.heap.size, 3, none⟩ = some (.int .i64 b) := (by rw [cell_of_row _ _ _ _ _ _ HIR2.out]; rfl); have d4 : w2.cell? ⟨w.heap.size, 4, none⟩ = some (.int .i64 imm) := (by rw [cell_of_row _ _ _ _ _ _ HIR2.out]; rfl); have d5 : w2.cell? ⟨w.heap.size, 5, none⟩ = some (.int .i64 csr) := (by rw [cell_of_row _ _ _ _ _ _ HIR2.out]; rfl); have d6 : w2.cell? ⟨w.heap.size, 6, none⟩ = some (.bool false) := (by rw [cell_of_row _ _ _ _ _ _ HIR2.out]; rfl); have d7 : w2.cell? ⟨w.heap.size, 7, none⟩ = some (.bool true) := (by rw [cell_of_row _ _ _ _ _ _ HIR2.out]; rfl); clear hb2)
    | (go_at_call 27; (with_reducible refine (HF.out _).mono ?_); rintro e w3 ⟨rfl, rfl⟩))
  go_ret2
  exact ⟨rfl, HB2.out.alloc HB2.out.size _⟩

set_option maxHeartbeats 2000000 in
theorem refEncode_ft1 (op rd a b imm csr mk mt lt K v : Int) (nm : ByteArray) (w : World) (rd0 : 0 ≤ rd) (rd1 : rd ≤ 31) (a0 : 0 ≤ a) (a1 : a ≤ 31) (b0 : 0 ≤ b) (b1 : b ≤ 31) (c0 : 0 ≤ csr) (c1 : csr ≤ 4095)
    (HRI : ∀ w, Calls Tryd.prog 26 #[.agg #[.int .i64 op, .int .i64 rd, .int .i64 a, .int .i64 b, .int .i64 imm, .int .i64 csr, .bool false, .bool true]] w fun e w' => e = .returned (.bool true) ∧ Below w.heap.size w w')
    (HRO : ∀ w, Calls Tryd.prog 23 #[.int .i64 op] w fun e w' => e = .returned (.agg #[.string nm, .int .u32 mk, .int .u32 mt, .int .u8 lt]) ∧ Below w.heap.size w w') (HFO : ∀ w, Calls Tryd.prog 27 #[.int .u8 lt] w fun e w' => e = .returned (.int .i64 K) ∧ w = w') (hK : 0 < K) (HPU : ∀ w, Calls Tryd.prog 28 #[.int .i64 K, .int .i64 imm] w fun e w' => e = .returned (.tuple #[.int .u32 v, .bool true]) ∧ Below w.heap.size w w') :
    Calls Tryd.prog 14 #[.agg #[.int .i64 op, .int .i64 rd, .int .i64 a, .int .i64 b, .int .i64 imm, .int .i64 csr, .bool false, .bool true]] w fun e w' => e = .returned (.tuple #[.int .u32 (bits .or .u32 (bits .or .u32 (bits .or .u32 (bits .or .u32 (bits .or .u32 (bits .or .u32 mt (rd * 128)) (a * 32768)) (b * 1048576)) (csr * 1048576)) 33554432) v), .int .i64 0]) ∧ Below w.heap.size w w' := by
  have HI := Lib.hid HRI
  have HR := Lib.hid HRO
  have HF := Lib.hid HFO
  clear HRI HRO HFO
  have HP := Lib.hid HPU
  clear HPU
  go_enter Tryd.func14, Tryd.ntmps14
  go_wp2_with (first
    | (go_at_call 26; (with_reducible refine (HI.out _).mono ?_); rintro e1 w1 ⟨rfl, hb1⟩; have HB1 : Hid (Below w.heap.size w w1) := Lib.hid (((Below.refl _ _).alloc (Nat.le_refl _) _).trans (hb1.mono (by simp))); have hs1 : w.heap.size < w1.heap.size := (by have := hb1.size; simp at this; omega); have HIR : Hid (w1.heap[w.heap.size]? = some (.cells #[.int .i64 op, .int .i64 rd, .int .i64 a, .int .i64 b, .int .i64 imm, .int .i64 csr, .bool false, .bool true] 24 (0, 0))) := Lib.hid ((hb1.block _ (by simp)).trans (heap_alloc_new w _)); have x0 : w1.cell? ⟨w.heap.size, 0, none⟩ = some (.int .i64 op) := (by rw [cell_of_row _ _ _ _ _ _ HIR.out]; rfl); clear hb1)
    | (go_at_call 23; (with_reducible refine (HR.out _).mono ?_); rintro e2 w2 ⟨rfl, hb2⟩; have HB2 : Hid (Below w.heap.size w w2) := Lib.hid (HB1.out.trans (hb2.mono (Nat.le_of_lt hs1))); have hs2 : w.heap.size < w2.heap.size := Nat.lt_of_lt_of_le hs1 hb2.size; have HIR2 : Hid (w2.heap[w.heap.size]? = some (.cells #[.int .i64 op, .int .i64 rd, .int .i64 a, .int .i64 b, .int .i64 imm, .int .i64 csr, .bool false, .bool true] 24 (0, 0))) := Lib.hid ((hb2.block _ hs1).trans HIR.out); have d0 : w2.cell? ⟨w.heap.size, 0, none⟩ = some (.int .i64 op) := (by rw [cell_of_row _ _ _ _ _ _ HIR2.out]; rfl); have d1 : w2.cell? ⟨w.heap.size, 1, none⟩ = some (.int .i64 rd) := (by rw [cell_of_row _ _ _ _ _ _ HIR2.out]; rfl); have d2 : w2.cell? ⟨w.heap.size, 2, none⟩ = some (.int .i64 a) := (by rw [cell_of_row _ _ _ _ _ _ HIR2.out]; rfl); have d3 : w2.cell? ⟨w.heap.size, 3, none⟩ = some (.int .i64 b) := (by rw [cell_of_row _ _ _ _ _ _ HIR2.out]; rfl); have d4 : w2.cell? ⟨w.heap.size, 4, none⟩ = some (.int .i64 imm) := (by rw [cell_of_row _ _ _ _ _ _ HIR2.out]; rfl); have d5 : w2.cell? ⟨w.heap.size, 5, none⟩ = some (.int .i64 csr) := (by rw [cell_of_row _ _ _ _ _ _ HIR2.out]; rfl); have d6 : w2.cell? ⟨w.heap.size, 6, none⟩ = some (.bool false) := (by rw [cell_of_row _ _ _ _ _ _ HIR2.out]; rfl); have d7 : w2.cell? ⟨w.heap.size, 7, none⟩ = some (.bool true) := (by rw [cell_of_row _ _ _ _ _ _ HIR2.out]; rfl); clear hb2)
    | (go_at_call 27; (with_reducible refine (HF.out _).mono ?_); rintro e w3 ⟨rfl, rfl⟩))
  have HBX : Hid (Below w.heap.size w (w2.alloc (.cells #[.string nm, .int .u32 mk, .int .u32 mt, .int .u8 lt] 65))) := Lib.hid (HB2.out.alloc HB2.out.size _)
  have q3 : (w2.alloc (.cells #[.string nm, .int .u32 mk, .int .u32 mt, .int .u8 lt] 65)).cell? ⟨w2.heap.size, 3, none⟩ = some (.int .u8 lt) := World.cell?_alloc_at _ _ _ _ rfl
  have q4 : (w2.alloc (.cells #[.string nm, .int .u32 mk, .int .u32 mt, .int .u8 lt] 65)).cell? ⟨w.heap.size, 4, none⟩ = some (.int .i64 imm) := by go_simp
  have s1 : w2.heap.size < (w2.alloc (.cells #[.string nm, .int .u32 mk, .int .u32 mt, .int .u8 lt] 65)).heap.size := by rw [World.size_alloc]; omega
  have s2 : w.heap.size < (w2.alloc (.cells #[.string nm, .int .u32 mk, .int .u32 mt, .int .u8 lt] 65)).heap.size := by rw [World.size_alloc]; omega
  clear d0 d1 d2 d3 d4 d5 d6 d7 x0 HIR HIR2 HB1 HB2
  generalize hw2 : (w2.alloc (.cells #[.string nm, .int .u32 mk, .int .u32 mt, .int .u8 lt] 65)) = ww at *
  clear hw2
  generalize w2.heap.size = m at *
  generalize hn : w.heap.size = n at *
  have HNN := Lib.hid hn
  clear hn
  go_region_held3 (fun w' => w'.cell? ⟨m, 3, none⟩ = some (.int .u8 lt) ∧ w'.cell? ⟨n, 4, none⟩ = some (.int .i64 imm)) (go_keep)
    (first
      | (go_at_call 27; refine (HF.out _).mono ?_; rintro e w3 ⟨rfl, rfl⟩)
      | (go_at_call 28; refine (HP.out _).mono ?_; rintro e w4 ⟨rfl, hb4⟩; have g3 := (hb4.cell (p := ⟨m, 3, none⟩) s1).trans q3; have g4 := (hb4.cell (p := ⟨n, 4, none⟩) s2).trans q4; have HB4 := Lib.hid (HBX.out.trans (((Below.refl _ _).drew.trans hb4).mono (Nat.le_of_lt s2))); clear hb4))
  go_wp2
  go_ret2
  exact ⟨rfl, by rw [HNN.out]; exact HB4.out⟩

set_option maxHeartbeats 2000000 in
theorem refEncode_ff0 (op rd a b imm csr mk mt lt K v : Int) (nm : ByteArray) (w : World) (rd0 : 0 ≤ rd) (rd1 : rd ≤ 31) (a0 : 0 ≤ a) (a1 : a ≤ 31) (b0 : 0 ≤ b) (b1 : b ≤ 31) (c0 : 0 ≤ csr) (c1 : csr ≤ 4095)
    (HRI : ∀ w, Calls Tryd.prog 26 #[.agg #[.int .i64 op, .int .i64 rd, .int .i64 a, .int .i64 b, .int .i64 imm, .int .i64 csr, .bool false, .bool false]] w fun e w' => e = .returned (.bool true) ∧ Below w.heap.size w w')
    (HRO : ∀ w, Calls Tryd.prog 23 #[.int .i64 op] w fun e w' => e = .returned (.agg #[.string nm, .int .u32 mk, .int .u32 mt, .int .u8 lt]) ∧ Below w.heap.size w w') (HFO : ∀ w, Calls Tryd.prog 27 #[.int .u8 lt] w fun e w' => e = .returned (.int .i64 0) ∧ w = w') :
    Calls Tryd.prog 14 #[.agg #[.int .i64 op, .int .i64 rd, .int .i64 a, .int .i64 b, .int .i64 imm, .int .i64 csr, .bool false, .bool false]] w fun e w' => e = .returned (.tuple #[.int .u32 (bits .or .u32 (bits .or .u32 (bits .or .u32 (bits .or .u32 mt (rd * 128)) (a * 32768)) (b * 1048576)) (csr * 1048576)), .int .i64 0]) ∧ Below w.heap.size w w' := by
  have HI := Lib.hid HRI
  have HR := Lib.hid HRO
  have HF := Lib.hid HFO
  clear HRI HRO HFO
  go_enter Tryd.func14, Tryd.ntmps14
  go_wp2_with (first
    | (go_at_call 26; (with_reducible refine (HI.out _).mono ?_); rintro e1 w1 ⟨rfl, hb1⟩; have HB1 : Hid (Below w.heap.size w w1) := Lib.hid (((Below.refl _ _).alloc (Nat.le_refl _) _).trans (hb1.mono (by simp))); have hs1 : w.heap.size < w1.heap.size := (by have := hb1.size; simp at this; omega); have HIR : Hid (w1.heap[w.heap.size]? = some (.cells #[.int .i64 op, .int .i64 rd, .int .i64 a, .int .i64 b, .int .i64 imm, .int .i64 csr, .bool false, .bool false] 24 (0, 0))) := Lib.hid ((hb1.block _ (by simp)).trans (heap_alloc_new w _)); have x0 : w1.cell? ⟨w.heap.size, 0, none⟩ = some (.int .i64 op) := (by rw [cell_of_row _ _ _ _ _ _ HIR.out]; rfl); clear hb1)
    | (go_at_call 23; (with_reducible refine (HR.out _).mono ?_); rintro e2 w2 ⟨rfl, hb2⟩; have HB2 : Hid (Below w.heap.size w w2) := Lib.hid (HB1.out.trans (hb2.mono (Nat.le_of_lt hs1))); have hs2 : w.heap.size < w2.heap.size := Nat.lt_of_lt_of_le hs1 hb2.size; have HIR2 : Hid (w2.heap[w.heap.size]? = some (.cells #[.int .i64 op, .int .i64 rd, .int .i64 a, .int .i64 b, .int .i64 imm, .int .i64 csr, .bool false, .bool false] 24 (0, 0))) := Lib.hid ((hb2.block _ hs1).trans HIR.out); have d0 : w2.cell? ⟨w.heap.size, 0, none⟩ = some (.int .i64 op) := (by rw [cell_of_row _ _ _ _ _ _ HIR2.out]; rfl); have d1 : w2.cell? ⟨w.heap.size, 1, none⟩ = some (.int .i64 rd) := (by rw [cell_of_row _ _ _ _ _ _ HIR2.out]; rfl); have d2 : w2.cell? ⟨w.heap.size, 2, none⟩ = some (.int .i64 a) := (by rw [cell_of_row _ _ _ _ _ _ HIR2.out]; rfl); have d3 : w2.cell? ⟨w.heap.size, 3, none⟩ = some (.int .i64 b) := (by rw [cell_of_row _ _ _ _ _ _ HIR2.out]; rfl); have d4 : w2.cell? ⟨w.heap.size, 4, none⟩ = some (.int .i64 imm) := (by rw [cell_of_row _ _ _ _ _ _ HIR2.out]; rfl); have d5 : w2.cell? ⟨w.heap.size, 5, none⟩ = some (.int .i64 csr) := (by rw [cell_of_row _ _ _ _ _ _ HIR2.out]; rfl); have d6 : w2.cell? ⟨w.heap.size, 6, none⟩ = some (.bool false) := (by rw [cell_of_row _ _ _ _ _ _ HIR2.out]; rfl); have d7 : w2.cell? ⟨w.heap.size, 7, none⟩ = some (.bool false) := (by rw [cell_of_row _ _ _ _ _ _ HIR2.out]; rfl); clear hb2)
    | (go_at_call 27; (with_reducible refine (HF.out _).mono ?_); rintro e w3 ⟨rfl, rfl⟩))
  go_ret2
  exact ⟨rfl, HB2.out.alloc HB2.out.size _⟩

set_option maxHeartbeats 2000000 in
theorem refEncode_ff1 (op rd a b imm csr mk mt lt K v : Int) (nm : ByteArray) (w : World) (rd0 : 0 ≤ rd) (rd1 : rd ≤ 31) (a0 : 0 ≤ a) (a1 : a ≤ 31) (b0 : 0 ≤ b) (b1 : b ≤ 31) (c0 : 0 ≤ csr) (c1 : csr ≤ 4095)
    (HRI : ∀ w, Calls Tryd.prog 26 #[.agg #[.int .i64 op, .int .i64 rd, .int .i64 a, .int .i64 b, .int .i64 imm, .int .i64 csr, .bool false, .bool false]] w fun e w' => e = .returned (.bool true) ∧ Below w.heap.size w w')
    (HRO : ∀ w, Calls Tryd.prog 23 #[.int .i64 op] w fun e w' => e = .returned (.agg #[.string nm, .int .u32 mk, .int .u32 mt, .int .u8 lt]) ∧ Below w.heap.size w w') (HFO : ∀ w, Calls Tryd.prog 27 #[.int .u8 lt] w fun e w' => e = .returned (.int .i64 K) ∧ w = w') (hK : 0 < K) (HPU : ∀ w, Calls Tryd.prog 28 #[.int .i64 K, .int .i64 imm] w fun e w' => e = .returned (.tuple #[.int .u32 v, .bool true]) ∧ Below w.heap.size w w') :
    Calls Tryd.prog 14 #[.agg #[.int .i64 op, .int .i64 rd, .int .i64 a, .int .i64 b, .int .i64 imm, .int .i64 csr, .bool false, .bool false]] w fun e w' => e = .returned (.tuple #[.int .u32 (bits .or .u32 (bits .or .u32 (bits .or .u32 (bits .or .u32 (bits .or .u32 mt (rd * 128)) (a * 32768)) (b * 1048576)) (csr * 1048576)) v), .int .i64 0]) ∧ Below w.heap.size w w' := by
  have HI := Lib.hid HRI
  have HR := Lib.hid HRO
  have HF := Lib.hid HFO
  clear HRI HRO HFO
  have HP := Lib.hid HPU
  clear HPU
  go_enter Tryd.func14, Tryd.ntmps14
  go_wp2_with (first
    | (go_at_call 26; (with_reducible refine (HI.out _).mono ?_); rintro e1 w1 ⟨rfl, hb1⟩; have HB1 : Hid (Below w.heap.size w w1) := Lib.hid (((Below.refl _ _).alloc (Nat.le_refl _) _).trans (hb1.mono (by simp))); have hs1 : w.heap.size < w1.heap.size := (by have := hb1.size; simp at this; omega); have HIR : Hid (w1.heap[w.heap.size]? = some (.cells #[.int .i64 op, .int .i64 rd, .int .i64 a, .int .i64 b, .int .i64 imm, .int .i64 csr, .bool false, .bool false] 24 (0, 0))) := Lib.hid ((hb1.block _ (by simp)).trans (heap_alloc_new w _)); have x0 : w1.cell? ⟨w.heap.size, 0, none⟩ = some (.int .i64 op) := (by rw [cell_of_row _ _ _ _ _ _ HIR.out]; rfl); clear hb1)
    | (go_at_call 23; (with_reducible refine (HR.out _).mono ?_); rintro e2 w2 ⟨rfl, hb2⟩; have HB2 : Hid (Below w.heap.size w w2) := Lib.hid (HB1.out.trans (hb2.mono (Nat.le_of_lt hs1))); have hs2 : w.heap.size < w2.heap.size := Nat.lt_of_lt_of_le hs1 hb2.size; have HIR2 : Hid (w2.heap[w.heap.size]? = some (.cells #[.int .i64 op, .int .i64 rd, .int .i64 a, .int .i64 b, .int .i64 imm, .int .i64 csr, .bool false, .bool false] 24 (0, 0))) := Lib.hid ((hb2.block _ hs1).trans HIR.out); have d0 : w2.cell? ⟨w.heap.size, 0, none⟩ = some (.int .i64 op) := (by rw [cell_of_row _ _ _ _ _ _ HIR2.out]; rfl); have d1 : w2.cell? ⟨w.heap.size, 1, none⟩ = some (.int .i64 rd) := (by rw [cell_of_row _ _ _ _ _ _ HIR2.out]; rfl); have d2 : w2.cell? ⟨w.heap.size, 2, none⟩ = some (.int .i64 a) := (by rw [cell_of_row _ _ _ _ _ _ HIR2.out]; rfl); have d3 : w2.cell? ⟨w.heap.size, 3, none⟩ = some (.int .i64 b) := (by rw [cell_of_row _ _ _ _ _ _ HIR2.out]; rfl); have d4 : w2.cell? ⟨w.heap.size, 4, none⟩ = some (.int .i64 imm) := (by rw [cell_of_row _ _ _ _ _ _ HIR2.out]; rfl); have d5 : w2.cell? ⟨w.heap.size, 5, none⟩ = some (.int .i64 csr) := (by rw [cell_of_row _ _ _ _ _ _ HIR2.out]; rfl); have d6 : w2.cell? ⟨w.heap.size, 6, none⟩ = some (.bool false) := (by rw [cell_of_row _ _ _ _ _ _ HIR2.out]; rfl); have d7 : w2.cell? ⟨w.heap.size, 7, none⟩ = some (.bool false) := (by rw [cell_of_row _ _ _ _ _ _ HIR2.out]; rfl); clear hb2)
    | (go_at_call 27; (with_reducible refine (HF.out _).mono ?_); rintro e w3 ⟨rfl, rfl⟩))
  have HBX : Hid (Below w.heap.size w (w2.alloc (.cells #[.string nm, .int .u32 mk, .int .u32 mt, .int .u8 lt] 65))) := Lib.hid (HB2.out.alloc HB2.out.size _)
  have q3 : (w2.alloc (.cells #[.string nm, .int .u32 mk, .int .u32 mt, .int .u8 lt] 65)).cell? ⟨w2.heap.size, 3, none⟩ = some (.int .u8 lt) := World.cell?_alloc_at _ _ _ _ rfl
  have q4 : (w2.alloc (.cells #[.string nm, .int .u32 mk, .int .u32 mt, .int .u8 lt] 65)).cell? ⟨w.heap.size, 4, none⟩ = some (.int .i64 imm) := by go_simp
  have s1 : w2.heap.size < (w2.alloc (.cells #[.string nm, .int .u32 mk, .int .u32 mt, .int .u8 lt] 65)).heap.size := by rw [World.size_alloc]; omega
  have s2 : w.heap.size < (w2.alloc (.cells #[.string nm, .int .u32 mk, .int .u32 mt, .int .u8 lt] 65)).heap.size := by rw [World.size_alloc]; omega
  clear d0 d1 d2 d3 d4 d5 d6 d7 x0 HIR HIR2 HB1 HB2
  generalize hw2 : (w2.alloc (.cells #[.string nm, .int .u32 mk, .int .u32 mt, .int .u8 lt] 65)) = ww at *
  clear hw2
  generalize w2.heap.size = m at *
  generalize hn : w.heap.size = n at *
  have HNN := Lib.hid hn
  clear hn
  go_region_held3 (fun w' => w'.cell? ⟨m, 3, none⟩ = some (.int .u8 lt) ∧ w'.cell? ⟨n, 4, none⟩ = some (.int .i64 imm)) (go_keep)
    (first
      | (go_at_call 27; refine (HF.out _).mono ?_; rintro e w3 ⟨rfl, rfl⟩)
      | (go_at_call 28; refine (HP.out _).mono ?_; rintro e w4 ⟨rfl, hb4⟩; have g3 := (hb4.cell (p := ⟨m, 3, none⟩) s1).trans q3; have g4 := (hb4.cell (p := ⟨n, 4, none⟩) s2).trans q4; have HB4 := Lib.hid (HBX.out.trans (((Below.refl _ _).drew.trans hb4).mono (Nat.le_of_lt s2))); clear hb4))
  go_wp2
  go_ret2
  exact ⟨rfl, by rw [HNN.out]; exact HB4.out⟩

end Go.Proofs.YtehlihhnkojjeaaDoor
