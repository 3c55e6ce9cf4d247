/- Layer 9: read, write and Says, of any form. -/
import Derived.Test.YtehlihhnkojjeaaDoorDsC
import Derived.Test.YtehlihhnkojjeaaDoorDcD
namespace Go.Proofs.YtehlihhnkojjeaaDoor
open Go.RowKit
set_option linter.unusedVariables false
set_option maxRecDepth 100000

theorem says_is_0 (op x : Int) : says (frm 0) op x = ⟨op, fldZ x 11 7, 0, 0, (formL 4).number x, 0, false, false⟩ := by simp [says, frm]
theorem says_is_1 (op x : Int) : says (frm 1) op x = ⟨op, fldZ x 11 7, 0, 0, (formL 5).number x, 0, false, false⟩ := by simp [says, frm]
theorem says_is_2 (op x : Int) : says (frm 2) op x = ⟨op, fldZ x 11 7, fldZ x 19 15, 0, (formL 1).number x, 0, false, false⟩ := by simp [says, frm]
theorem says_is_3 (op x : Int) : says (frm 3) op x = ⟨op, 0, fldZ x 19 15, fldZ x 24 20, (formL 3).number x, 0, false, false⟩ := by simp [says, frm]
theorem says_is_4 (op x : Int) : says (frm 4) op x = ⟨op, 0, fldZ x 19 15, fldZ x 24 20, (formL 2).number x, 0, false, false⟩ := by simp [says, frm]
theorem says_is_5 (op x : Int) : says (frm 5) op x = ⟨op, fldZ x 11 7, fldZ x 19 15, 0, (formL 6).number x, 0, false, false⟩ := by simp [says, frm]
theorem says_is_6 (op x : Int) : says (frm 6) op x = ⟨op, fldZ x 11 7, fldZ x 19 15, 0, (formL 7).number x, 0, false, false⟩ := by simp [says, frm]
theorem says_is_7 (op x : Int) : says (frm 7) op x = ⟨op, fldZ x 11 7, fldZ x 19 15, fldZ x 24 20, 0, 0, false, false⟩ := by simp [says, frm, number0]
theorem says_is_8 (op x : Int) : says (frm 8) op x = ⟨op, fldZ x 11 7, fldZ x 19 15, 0, 0, 0, fldZ x 26 26 == 1, fldZ x 25 25 == 1⟩ := by simp [says, frm, number0]
theorem says_is_9 (op x : Int) : says (frm 9) op x = ⟨op, fldZ x 11 7, fldZ x 19 15, fldZ x 24 20, 0, 0, fldZ x 26 26 == 1, fldZ x 25 25 == 1⟩ := by simp [says, frm, number0]
theorem says_is_10 (op x : Int) : says (frm 10) op x = ⟨op, 0, 0, 0, 0, 0, false, false⟩ := by simp [says, frm, number0]
theorem says_is_11 (op x : Int) : says (frm 11) op x = ⟨op, 0, fldZ x 19 15, fldZ x 24 20, 0, 0, false, false⟩ := by simp [says, frm, number0]
theorem says_is_12 (op x : Int) : says (frm 12) op x = ⟨op, fldZ x 11 7, fldZ x 19 15, 0, 0, fldZ x 31 20, false, false⟩ := by simp [says, frm, number0]
theorem says_is_13 (op x : Int) : says (frm 13) op x = ⟨op, fldZ x 11 7, 0, 0, (formL 9).number x, fldZ x 31 20, false, false⟩ := by simp [says, frm]
theorem says_is_14 (op x : Int) : says (frm 14) op x = ⟨op, fldZ x 11 7, fldZ x 19 15, 0, 0, 0, false, false⟩ := by simp [says, frm, number0]
theorem read_any (f : Nat) (hf : f < 15) (op x : Int) (w : World) :
    Calls Tryd.prog 22 #[.agg #[.int .u32 (frm f).mask, .bool (frm f).rd, .bool (frm f).a, .bool (frm f).b, .int .i64 (frm f).imm, .bool (frm f).csr, .bool (frm f).ord], .int .i64 op, .int .u32 x] w fun e w' => e = .returned (.agg #[.int .i64 (says (frm f) op x).op, .int .i64 (says (frm f) op x).rd, .int .i64 (says (frm f) op x).a, .int .i64 (says (frm f) op x).b, .int .i64 (says (frm f) op x).imm, .int .i64 (says (frm f) op x).csr, .bool (says (frm f) op x).aq, .bool (says (frm f) op x).rl]) ∧ Below w.heap.size w w' :=
  match f, hf with
  | 0, _ => by rw [says_is_0]; exact read_0 op x w
  | 1, _ => by rw [says_is_1]; exact read_1 op x w
  | 2, _ => by rw [says_is_2]; exact read_2 op x w
  | 3, _ => by rw [says_is_3]; exact read_3 op x w
  | 4, _ => by rw [says_is_4]; exact read_4 op x w
  | 5, _ => by rw [says_is_5]; exact read_5 op x w
  | 6, _ => by rw [says_is_6]; exact read_6 op x w
  | 7, _ => by rw [says_is_7]; exact read_7 op x w
  | 8, _ => by rw [says_is_8]; exact read_8 op x w
  | 9, _ => by rw [says_is_9]; exact read_9 op x w
  | 10, _ => by rw [says_is_10]; exact read_10 op x w
  | 11, _ => by rw [says_is_11]; exact read_11 op x w
  | 12, _ => by rw [says_is_12]; exact read_12 op x w
  | 13, _ => by rw [says_is_13]; exact read_13 op x w
  | 14, _ => by rw [says_is_14]; exact read_14 op x w
  | f + 15, h => absurd h (by omega)
theorem wF_is_0 (i : Ins) : wF (frm 0) i = bits .or .u32 (bits .or .u32 0 (put5 i.rd 7)) (putF 4 i.imm) := by simp [wF, w5, w4, w3, w2, w1, frm]
theorem wF_is_1 (i : Ins) : wF (frm 1) i = bits .or .u32 (bits .or .u32 0 (put5 i.rd 7)) (putF 5 i.imm) := by simp [wF, w5, w4, w3, w2, w1, frm]
theorem wF_is_2 (i : Ins) : wF (frm 2) i = bits .or .u32 (bits .or .u32 (bits .or .u32 0 (put5 i.rd 7)) (put5 i.a 15)) (putF 1 i.imm) := by simp [wF, w5, w4, w3, w2, w1, frm]
theorem wF_is_3 (i : Ins) : wF (frm 3) i = bits .or .u32 (bits .or .u32 (bits .or .u32 (0) (put5 i.a 15)) (put5 i.b 20)) (putF 3 i.imm) := by simp [wF, w5, w4, w3, w2, w1, frm]
theorem wF_is_4 (i : Ins) : wF (frm 4) i = bits .or .u32 (bits .or .u32 (bits .or .u32 (0) (put5 i.a 15)) (put5 i.b 20)) (putF 2 i.imm) := by simp [wF, w5, w4, w3, w2, w1, frm]
theorem wF_is_5 (i : Ins) : wF (frm 5) i = bits .or .u32 (bits .or .u32 (bits .or .u32 0 (put5 i.rd 7)) (put5 i.a 15)) (putF 6 i.imm) := by simp [wF, w5, w4, w3, w2, w1, frm]
theorem wF_is_6 (i : Ins) : wF (frm 6) i = bits .or .u32 (bits .or .u32 (bits .or .u32 0 (put5 i.rd 7)) (put5 i.a 15)) (putF 7 i.imm) := by simp [wF, w5, w4, w3, w2, w1, frm]
theorem wF_is_7 (i : Ins) : wF (frm 7) i = bits .or .u32 (bits .or .u32 (bits .or .u32 (bits .or .u32 0 (put5 i.rd 7)) (put5 i.a 15)) (put5 i.b 20)) (putF 0 i.imm) := by simp [wF, w5, w4, w3, w2, w1, frm]
theorem wF_is_8 (i : Ins) : wF (frm 8) i = bits .or .u32 (bits .or .u32 (bits .or .u32 (bits .or .u32 0 (put5 i.rd 7)) (put5 i.a 15)) (bits .or .u32 (markZ i.aq 26) (markZ i.rl 25))) (putF 0 i.imm) := by simp [wF, w5, w4, w3, w2, w1, frm]
theorem wF_is_9 (i : Ins) : wF (frm 9) i = bits .or .u32 (bits .or .u32 (bits .or .u32 (bits .or .u32 (bits .or .u32 0 (put5 i.rd 7)) (put5 i.a 15)) (put5 i.b 20)) (bits .or .u32 (markZ i.aq 26) (markZ i.rl 25))) (putF 0 i.imm) := by simp [wF, w5, w4, w3, w2, w1, frm]
theorem wF_is_10 (i : Ins) : wF (frm 10) i = bits .or .u32 (0) (putF 0 i.imm) := by simp [wF, w5, w4, w3, w2, w1, frm]
theorem wF_is_11 (i : Ins) : wF (frm 11) i = bits .or .u32 (bits .or .u32 (bits .or .u32 (0) (put5 i.a 15)) (put5 i.b 20)) (putF 0 i.imm) := by simp [wF, w5, w4, w3, w2, w1, frm]
theorem wF_is_12 (i : Ins) : wF (frm 12) i = bits .or .u32 (bits .or .u32 (bits .or .u32 (bits .or .u32 0 (put5 i.rd 7)) (put5 i.a 15)) (putF 8 i.csr)) (putF 0 i.imm) := by simp [wF, w5, w4, w3, w2, w1, frm]
theorem wF_is_13 (i : Ins) : wF (frm 13) i = bits .or .u32 (bits .or .u32 (bits .or .u32 0 (put5 i.rd 7)) (putF 8 i.csr)) (putF 9 i.imm) := by simp [wF, w5, w4, w3, w2, w1, frm]
theorem wF_is_14 (i : Ins) : wF (frm 14) i = bits .or .u32 (bits .or .u32 (bits .or .u32 0 (put5 i.rd 7)) (put5 i.a 15)) (putF 0 i.imm) := by simp [wF, w5, w4, w3, w2, w1, frm]
theorem write_any (f : Nat) (hf : f < 15) (i : Ins) (w : World) :
    Calls Tryd.prog 25 #[.agg #[.int .u32 (frm f).mask, .bool (frm f).rd, .bool (frm f).a, .bool (frm f).b, .int .i64 (frm f).imm, .bool (frm f).csr, .bool (frm f).ord], .agg #[.int .i64 i.op, .int .i64 i.rd, .int .i64 i.a, .int .i64 i.b, .int .i64 i.imm, .int .i64 i.csr, .bool i.aq, .bool i.rl]] w fun e w' => e = .returned (.int .u32 (wF (frm f) i)) ∧ Below w.heap.size w w' :=
  match f, hf with
  | 0, _ => by rw [wF_is_0]; exact write_0 i w
  | 1, _ => by rw [wF_is_1]; exact write_1 i w
  | 2, _ => by rw [wF_is_2]; exact write_2 i w
  | 3, _ => by rw [wF_is_3]; exact write_3 i w
  | 4, _ => by rw [wF_is_4]; exact write_4 i w
  | 5, _ => by rw [wF_is_5]; exact write_5 i w
  | 6, _ => by rw [wF_is_6]; exact write_6 i w
  | 7, _ => by rw [wF_is_7]; exact write_7 i w
  | 8, _ => by rw [wF_is_8]; exact write_8 i w
  | 9, _ => by rw [wF_is_9]; exact write_9 i w
  | 10, _ => by rw [wF_is_10]; exact write_10 i w
  | 11, _ => by rw [wF_is_11]; exact write_11 i w
  | 12, _ => by rw [wF_is_12]; exact write_12 i w
  | 13, _ => by rw [wF_is_13]; exact write_13 i w
  | 14, _ => by rw [wF_is_14]; exact write_14 i w
  | f + 15, h => absurd h (by omega)
theorem says_at (f : Nat) (hf : f < 15) (op : Nat) (h1 : 1 ≤ op) (h2 : op ≤ 113) (hk : frmT op = f) (x : Int) (hx : In32 x) (w : World) :
    Calls Tryd.prog 24 #[.int .i64 op, .int .u32 x] w fun e w' => e = .returned (.agg #[.int .i64 (says (frm f) op x).op, .int .i64 (says (frm f) op x).rd, .int .i64 (says (frm f) op x).a, .int .i64 (says (frm f) op x).b, .int .i64 (says (frm f) op x).imm, .int .i64 (says (frm f) op x).csr, .bool (says (frm f) op x).aq, .bool (says (frm f) op x).rl]) ∧ Below w.heap.size w w' :=
  match f, hf, hk with
  | 0, _, hk => by rw [says_is_0]; exact says_0 op h1 h2 hk x hx w
  | 1, _, hk => by rw [says_is_1]; exact says_1 op h1 h2 hk x hx w
  | 2, _, hk => by rw [says_is_2]; exact says_2 op h1 h2 hk x hx w
  | 3, _, hk => by rw [says_is_3]; exact says_3 op h1 h2 hk x hx w
  | 4, _, hk => by rw [says_is_4]; exact says_4 op h1 h2 hk x hx w
  | 5, _, hk => by rw [says_is_5]; exact says_5 op h1 h2 hk x hx w
  | 6, _, hk => by rw [says_is_6]; exact says_6 op h1 h2 hk x hx w
  | 7, _, hk => by rw [says_is_7]; exact says_7 op h1 h2 hk x hx w
  | 8, _, hk => by rw [says_is_8]; exact says_8 op h1 h2 hk x hx w
  | 9, _, hk => by rw [says_is_9]; exact says_9 op h1 h2 hk x hx w
  | 10, _, hk => by rw [says_is_10]; exact says_10 op h1 h2 hk x hx w
  | 11, _, hk => by rw [says_is_11]; exact says_11 op h1 h2 hk x hx w
  | 12, _, hk => by rw [says_is_12]; exact says_12 op h1 h2 hk x hx w
  | 13, _, hk => by rw [says_is_13]; exact says_13 op h1 h2 hk x hx w
  | 14, _, hk => by rw [says_is_14]; exact says_14 op h1 h2 hk x hx w
  | f + 15, h, _ => absurd h (by omega)
theorem says_any (op : Nat) (h1 : 1 ≤ op) (h2 : op ≤ 113) (x : Int) (hx : In32 x) (w : World) :
    Calls Tryd.prog 24 #[.int .i64 op, .int .u32 x] w fun e w' => e = .returned (.agg #[.int .i64 (says (fT op) op x).op, .int .i64 (says (fT op) op x).rd, .int .i64 (says (fT op) op x).a, .int .i64 (says (fT op) op x).b, .int .i64 (says (fT op) op x).imm, .int .i64 (says (fT op) op x).csr, .bool (says (fT op) op x).aq, .bool (says (fT op) op x).rl]) ∧ Below w.heap.size w w' :=
  says_at (frmT op) (tab_form op (by omega) h1) op h1 h2 rfl x hx w

end Go.Proofs.YtehlihhnkojjeaaDoor
