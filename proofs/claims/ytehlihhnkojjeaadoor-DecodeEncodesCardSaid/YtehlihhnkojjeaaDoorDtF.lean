/- Layer 9: the document's Right, whole. -/
import Derived.Test.YtehlihhnkojjeaaDoorDtB
import Derived.Test.YtehlihhnkojjeaaDoorDtC
import Derived.Test.YtehlihhnkojjeaaDoorDtD
namespace Go.Proofs.YtehlihhnkojjeaaDoor
open Go.RowKit
set_option linter.unusedVariables false
set_option maxRecDepth 100000

theorem ne_true {x : Int} (h : ¬ x = 0) : (x != 0) = true := by simpa using h
theorem ne_false {x : Int} (h : x = 0) : (x != 0) = false := by simpa using h
theorem no_q {q : Bool} {P : Prop} (hq : q = true ↔ P) (h : ¬ P) : q = false := by
  cases q
  · rfl
  · exact absurd (hq.1 rfl) h

theorem refRight_0 (op : Nat) (h1 : 1 ≤ op) (h2 : op ≤ 113) (hk : frmT op = 0) (i : Ins) (hop : i.op = op) (rdl : ¬ i.rd < 0) (rdh : ¬ 31 < i.rd) (al : ¬ i.a < 0) (ah : ¬ 31 < i.a) (bl : ¬ i.b < 0) (bh : ¬ 31 < i.b) (csrl : ¬ i.csr < 0) (csrh : ¬ 4095 < i.csr) (q : Bool) (hq : q = true ↔ Right (frm 0) i) (w : World) :
    Calls Tryd.prog 26 #[.agg #[.int .i64 i.op, .int .i64 i.rd, .int .i64 i.a, .int .i64 i.b, .int .i64 i.imm, .int .i64 i.csr, .bool i.aq, .bool i.rl]] w fun e w' => e = .returned (.bool q) ∧ Below w.heap.size w w' := by
  by_cases ca : i.a = 0
  rotate_left
  · rw [no_q hq fun h => ca (h.na rfl)]; exact right_0_a op h1 h2 hk i hop rdl rdh al ah bl bh csrl csrh  (ne_true ca) w
  by_cases cb : i.b = 0
  rotate_left
  · rw [no_q hq fun h => cb (h.nb rfl)]; exact right_0_b op h1 h2 hk i hop rdl rdh al ah bl bh csrl csrh (ne_false ca) (ne_true cb) w
  by_cases ccsr : i.csr = 0
  rotate_left
  · rw [no_q hq fun h => ccsr (h.ncsr rfl)]; exact right_0_csr op h1 h2 hk i hop rdl rdh al ah bl bh csrl csrh (ne_false ca) (ne_false cb) (ne_true ccsr) w
  cases caq : i.aq
  rotate_left
  · have hx : q = false := no_q hq fun h => by have := (h.nord rfl).1; rw [caq] at this; cases this
    have hy := right_0_aq op h1 h2 hk i hop rdl rdh al ah bl bh csrl csrh (ne_false ca) (ne_false cb) (ne_false ccsr) caq w
    rw [hx]; rw [caq] at hy; exact hy
  rw [← caq]
  cases crl : i.rl
  rotate_left
  · have hx : q = false := no_q hq fun h => by have := (h.nord rfl).2; rw [crl] at this; cases this
    have hy := right_0_rl op h1 h2 hk i hop rdl rdh al ah bl bh csrl csrh (ne_false ca) (ne_false cb) (ne_false ccsr) caq crl w
    rw [hx]; rw [crl] at hy; exact hy
  rw [← crl]
  have e : q = ((formL 4).number ((formL 4).word i.imm) == i.imm) := by
    rw [Bool.eq_iff_iff, hq, beq_iff_eq]
    constructor
    · intro h; exact h.imm
    · intro h; exact ⟨⟨by omega, by omega⟩, ⟨by omega, by omega⟩, ⟨by omega, by omega⟩, ⟨by omega, by omega⟩, (fun h => absurd h (by decide)), (fun _ => ca), (fun _ => cb), (fun _ => ccsr), (fun _ => ⟨caq, crl⟩), h⟩
  rw [e]; exact right_0_end op h1 h2 hk i hop rdl rdh al ah bl bh csrl csrh (ne_false ca) (ne_false cb) (ne_false ccsr) caq crl w
theorem refRight_1 (op : Nat) (h1 : 1 ≤ op) (h2 : op ≤ 113) (hk : frmT op = 1) (i : Ins) (hop : i.op = op) (rdl : ¬ i.rd < 0) (rdh : ¬ 31 < i.rd) (al : ¬ i.a < 0) (ah : ¬ 31 < i.a) (bl : ¬ i.b < 0) (bh : ¬ 31 < i.b) (csrl : ¬ i.csr < 0) (csrh : ¬ 4095 < i.csr) (q : Bool) (hq : q = true ↔ Right (frm 1) i) (w : World) :
    Calls Tryd.prog 26 #[.agg #[.int .i64 i.op, .int .i64 i.rd, .int .i64 i.a, .int .i64 i.b, .int .i64 i.imm, .int .i64 i.csr, .bool i.aq, .bool i.rl]] w fun e w' => e = .returned (.bool q) ∧ Below w.heap.size w w' := by
  by_cases ca : i.a = 0
  rotate_left
  · rw [no_q hq fun h => ca (h.na rfl)]; exact right_1_a op h1 h2 hk i hop rdl rdh al ah bl bh csrl csrh  (ne_true ca) w
  by_cases cb : i.b = 0
  rotate_left
  · rw [no_q hq fun h => cb (h.nb rfl)]; exact right_1_b op h1 h2 hk i hop rdl rdh al ah bl bh csrl csrh (ne_false ca) (ne_true cb) w
  by_cases ccsr : i.csr = 0
  rotate_left
  · rw [no_q hq fun h => ccsr (h.ncsr rfl)]; exact right_1_csr op h1 h2 hk i hop rdl rdh al ah bl bh csrl csrh (ne_false ca) (ne_false cb) (ne_true ccsr) w
  cases caq : i.aq
  rotate_left
  · have hx : q = false := no_q hq fun h => by have := (h.nord rfl).1; rw [caq] at this; cases this
    have hy := right_1_aq op h1 h2 hk i hop rdl rdh al ah bl bh csrl csrh (ne_false ca) (ne_false cb) (ne_false ccsr) caq w
    rw [hx]; rw [caq] at hy; exact hy
  rw [← caq]
  cases crl : i.rl
  rotate_left
  · have hx : q = false := no_q hq fun h => by have := (h.nord rfl).2; rw [crl] at this; cases this
    have hy := right_1_rl op h1 h2 hk i hop rdl rdh al ah bl bh csrl csrh (ne_false ca) (ne_false cb) (ne_false ccsr) caq crl w
    rw [hx]; rw [crl] at hy; exact hy
  rw [← crl]
  have e : q = ((formL 5).number ((formL 5).word i.imm) == i.imm) := by
    rw [Bool.eq_iff_iff, hq, beq_iff_eq]
    constructor
    · intro h; exact h.imm
    · intro h; exact ⟨⟨by omega, by omega⟩, ⟨by omega, by omega⟩, ⟨by omega, by omega⟩, ⟨by omega, by omega⟩, (fun h => absurd h (by decide)), (fun _ => ca), (fun _ => cb), (fun _ => ccsr), (fun _ => ⟨caq, crl⟩), h⟩
  rw [e]; exact right_1_end op h1 h2 hk i hop rdl rdh al ah bl bh csrl csrh (ne_false ca) (ne_false cb) (ne_false ccsr) caq crl w
theorem refRight_2 (op : Nat) (h1 : 1 ≤ op) (h2 : op ≤ 113) (hk : frmT op = 2) (i : Ins) (hop : i.op = op) (rdl : ¬ i.rd < 0) (rdh : ¬ 31 < i.rd) (al : ¬ i.a < 0) (ah : ¬ 31 < i.a) (bl : ¬ i.b < 0) (bh : ¬ 31 < i.b) (csrl : ¬ i.csr < 0) (csrh : ¬ 4095 < i.csr) (q : Bool) (hq : q = true ↔ Right (frm 2) i) (w : World) :
    Calls Tryd.prog 26 #[.agg #[.int .i64 i.op, .int .i64 i.rd, .int .i64 i.a, .int .i64 i.b, .int .i64 i.imm, .int .i64 i.csr, .bool i.aq, .bool i.rl]] w fun e w' => e = .returned (.bool q) ∧ Below w.heap.size w w' := by
  by_cases cb : i.b = 0
  rotate_left
  · rw [no_q hq fun h => cb (h.nb rfl)]; exact right_2_b op h1 h2 hk i hop rdl rdh al ah bl bh csrl csrh  (ne_true cb) w
  by_cases ccsr : i.csr = 0
  rotate_left
  · rw [no_q hq fun h => ccsr (h.ncsr rfl)]; exact right_2_csr op h1 h2 hk i hop rdl rdh al ah bl bh csrl csrh (ne_false cb) (ne_true ccsr) w
  cases caq : i.aq
  rotate_left
  · have hx : q = false := no_q hq fun h => by have := (h.nord rfl).1; rw [caq] at this; cases this
    have hy := right_2_aq op h1 h2 hk i hop rdl rdh al ah bl bh csrl csrh (ne_false cb) (ne_false ccsr) caq w
    rw [hx]; rw [caq] at hy; exact hy
  rw [← caq]
  cases crl : i.rl
  rotate_left
  · have hx : q = false := no_q hq fun h => by have := (h.nord rfl).2; rw [crl] at this; cases this
    have hy := right_2_rl op h1 h2 hk i hop rdl rdh al ah bl bh csrl csrh (ne_false cb) (ne_false ccsr) caq crl w
    rw [hx]; rw [crl] at hy; exact hy
  rw [← crl]
  have e : q = ((formL 1).number ((formL 1).word i.imm) == i.imm) := by
    rw [Bool.eq_iff_iff, hq, beq_iff_eq]
    constructor
    · intro h; exact h.imm
    · intro h; exact ⟨⟨by omega, by omega⟩, ⟨by omega, by omega⟩, ⟨by omega, by omega⟩, ⟨by omega, by omega⟩, (fun h => absurd h (by decide)), (fun h => absurd h (by decide)), (fun _ => cb), (fun _ => ccsr), (fun _ => ⟨caq, crl⟩), h⟩
  rw [e]; exact right_2_end op h1 h2 hk i hop rdl rdh al ah bl bh csrl csrh (ne_false cb) (ne_false ccsr) caq crl w
theorem refRight_3 (op : Nat) (h1 : 1 ≤ op) (h2 : op ≤ 113) (hk : frmT op = 3) (i : Ins) (hop : i.op = op) (rdl : ¬ i.rd < 0) (rdh : ¬ 31 < i.rd) (al : ¬ i.a < 0) (ah : ¬ 31 < i.a) (bl : ¬ i.b < 0) (bh : ¬ 31 < i.b) (csrl : ¬ i.csr < 0) (csrh : ¬ 4095 < i.csr) (q : Bool) (hq : q = true ↔ Right (frm 3) i) (w : World) :
    Calls Tryd.prog 26 #[.agg #[.int .i64 i.op, .int .i64 i.rd, .int .i64 i.a, .int .i64 i.b, .int .i64 i.imm, .int .i64 i.csr, .bool i.aq, .bool i.rl]] w fun e w' => e = .returned (.bool q) ∧ Below w.heap.size w w' := by
  by_cases crd : i.rd = 0
  rotate_left
  · rw [no_q hq fun h => crd (h.nrd rfl)]; exact right_3_rd op h1 h2 hk i hop rdl rdh al ah bl bh csrl csrh  (ne_true crd) w
  by_cases ccsr : i.csr = 0
  rotate_left
  · rw [no_q hq fun h => ccsr (h.ncsr rfl)]; exact right_3_csr op h1 h2 hk i hop rdl rdh al ah bl bh csrl csrh (ne_false crd) (ne_true ccsr) w
  cases caq : i.aq
  rotate_left
  · have hx : q = false := no_q hq fun h => by have := (h.nord rfl).1; rw [caq] at this; cases this
    have hy := right_3_aq op h1 h2 hk i hop rdl rdh al ah bl bh csrl csrh (ne_false crd) (ne_false ccsr) caq w
    rw [hx]; rw [caq] at hy; exact hy
  rw [← caq]
  cases crl : i.rl
  rotate_left
  · have hx : q = false := no_q hq fun h => by have := (h.nord rfl).2; rw [crl] at this; cases this
    have hy := right_3_rl op h1 h2 hk i hop rdl rdh al ah bl bh csrl csrh (ne_false crd) (ne_false ccsr) caq crl w
    rw [hx]; rw [crl] at hy; exact hy
  rw [← crl]
  have e : q = ((formL 3).number ((formL 3).word i.imm) == i.imm) := by
    rw [Bool.eq_iff_iff, hq, beq_iff_eq]
    constructor
    · intro h; exact h.imm
    · intro h; exact ⟨⟨by omega, by omega⟩, ⟨by omega, by omega⟩, ⟨by omega, by omega⟩, ⟨by omega, by omega⟩, (fun _ => crd), (fun h => absurd h (by decide)), (fun h => absurd h (by decide)), (fun _ => ccsr), (fun _ => ⟨caq, crl⟩), h⟩
  rw [e]; exact right_3_end op h1 h2 hk i hop rdl rdh al ah bl bh csrl csrh (ne_false crd) (ne_false ccsr) caq crl w
theorem refRight_4 (op : Nat) (h1 : 1 ≤ op) (h2 : op ≤ 113) (hk : frmT op = 4) (i : Ins) (hop : i.op = op) (rdl : ¬ i.rd < 0) (rdh : ¬ 31 < i.rd) (al : ¬ i.a < 0) (ah : ¬ 31 < i.a) (bl : ¬ i.b < 0) (bh : ¬ 31 < i.b) (csrl : ¬ i.csr < 0) (csrh : ¬ 4095 < i.csr) (q : Bool) (hq : q = true ↔ Right (frm 4) i) (w : World) :
    Calls Tryd.prog 26 #[.agg #[.int .i64 i.op, .int .i64 i.rd, .int .i64 i.a, .int .i64 i.b, .int .i64 i.imm, .int .i64 i.csr, .bool i.aq, .bool i.rl]] w fun e w' => e = .returned (.bool q) ∧ Below w.heap.size w w' := by
  by_cases crd : i.rd = 0
  rotate_left
  · rw [no_q hq fun h => crd (h.nrd rfl)]; exact right_4_rd op h1 h2 hk i hop rdl rdh al ah bl bh csrl csrh  (ne_true crd) w
  by_cases ccsr : i.csr = 0
  rotate_left
  · rw [no_q hq fun h => ccsr (h.ncsr rfl)]; exact right_4_csr op h1 h2 hk i hop rdl rdh al ah bl bh csrl csrh (ne_false crd) (ne_true ccsr) w
  cases caq : i.aq
  rotate_left
  · have hx : q = false := no_q hq fun h => by have := (h.nord rfl).1; rw [caq] at this; cases this
    have hy := right_4_aq op h1 h2 hk i hop rdl rdh al ah bl bh csrl csrh (ne_false crd) (ne_false ccsr) caq w
    rw [hx]; rw [caq] at hy; exact hy
  rw [← caq]
  cases crl : i.rl
  rotate_left
  · have hx : q = false := no_q hq fun h => by have := (h.nord rfl).2; rw [crl] at this; cases this
    have hy := right_4_rl op h1 h2 hk i hop rdl rdh al ah bl bh csrl csrh (ne_false crd) (ne_false ccsr) caq crl w
    rw [hx]; rw [crl] at hy; exact hy
  rw [← crl]
  have e : q = ((formL 2).number ((formL 2).word i.imm) == i.imm) := by
    rw [Bool.eq_iff_iff, hq, beq_iff_eq]
    constructor
    · intro h; exact h.imm
    · intro h; exact ⟨⟨by omega, by omega⟩, ⟨by omega, by omega⟩, ⟨by omega, by omega⟩, ⟨by omega, by omega⟩, (fun _ => crd), (fun h => absurd h (by decide)), (fun h => absurd h (by decide)), (fun _ => ccsr), (fun _ => ⟨caq, crl⟩), h⟩
  rw [e]; exact right_4_end op h1 h2 hk i hop rdl rdh al ah bl bh csrl csrh (ne_false crd) (ne_false ccsr) caq crl w
theorem refRight_5 (op : Nat) (h1 : 1 ≤ op) (h2 : op ≤ 113) (hk : frmT op = 5) (i : Ins) (hop : i.op = op) (rdl : ¬ i.rd < 0) (rdh : ¬ 31 < i.rd) (al : ¬ i.a < 0) (ah : ¬ 31 < i.a) (bl : ¬ i.b < 0) (bh : ¬ 31 < i.b) (csrl : ¬ i.csr < 0) (csrh : ¬ 4095 < i.csr) (q : Bool) (hq : q = true ↔ Right (frm 5) i) (w : World) :
    Calls Tryd.prog 26 #[.agg #[.int .i64 i.op, .int .i64 i.rd, .int .i64 i.a, .int .i64 i.b, .int .i64 i.imm, .int .i64 i.csr, .bool i.aq, .bool i.rl]] w fun e w' => e = .returned (.bool q) ∧ Below w.heap.size w w' := by
  by_cases cb : i.b = 0
  rotate_left
  · rw [no_q hq fun h => cb (h.nb rfl)]; exact right_5_b op h1 h2 hk i hop rdl rdh al ah bl bh csrl csrh  (ne_true cb) w
  by_cases ccsr : i.csr = 0
  rotate_left
  · rw [no_q hq fun h => ccsr (h.ncsr rfl)]; exact right_5_csr op h1 h2 hk i hop rdl rdh al ah bl bh csrl csrh (ne_false cb) (ne_true ccsr) w
  cases caq : i.aq
  rotate_left
  · have hx : q = false := no_q hq fun h => by have := (h.nord rfl).1; rw [caq] at this; cases this
    have hy := right_5_aq op h1 h2 hk i hop rdl rdh al ah bl bh csrl csrh (ne_false cb) (ne_false ccsr) caq w
    rw [hx]; rw [caq] at hy; exact hy
  rw [← caq]
  cases crl : i.rl
  rotate_left
  · have hx : q = false := no_q hq fun h => by have := (h.nord rfl).2; rw [crl] at this; cases this
    have hy := right_5_rl op h1 h2 hk i hop rdl rdh al ah bl bh csrl csrh (ne_false cb) (ne_false ccsr) caq crl w
    rw [hx]; rw [crl] at hy; exact hy
  rw [← crl]
  have e : q = ((formL 6).number ((formL 6).word i.imm) == i.imm) := by
    rw [Bool.eq_iff_iff, hq, beq_iff_eq]
    constructor
    · intro h; exact h.imm
    · intro h; exact ⟨⟨by omega, by omega⟩, ⟨by omega, by omega⟩, ⟨by omega, by omega⟩, ⟨by omega, by omega⟩, (fun h => absurd h (by decide)), (fun h => absurd h (by decide)), (fun _ => cb), (fun _ => ccsr), (fun _ => ⟨caq, crl⟩), h⟩
  rw [e]; exact right_5_end op h1 h2 hk i hop rdl rdh al ah bl bh csrl csrh (ne_false cb) (ne_false ccsr) caq crl w
theorem refRight_6 (op : Nat) (h1 : 1 ≤ op) (h2 : op ≤ 113) (hk : frmT op = 6) (i : Ins) (hop : i.op = op) (rdl : ¬ i.rd < 0) (rdh : ¬ 31 < i.rd) (al : ¬ i.a < 0) (ah : ¬ 31 < i.a) (bl : ¬ i.b < 0) (bh : ¬ 31 < i.b) (csrl : ¬ i.csr < 0) (csrh : ¬ 4095 < i.csr) (q : Bool) (hq : q = true ↔ Right (frm 6) i) (w : World) :
    Calls Tryd.prog 26 #[.agg #[.int .i64 i.op, .int .i64 i.rd, .int .i64 i.a, .int .i64 i.b, .int .i64 i.imm, .int .i64 i.csr, .bool i.aq, .bool i.rl]] w fun e w' => e = .returned (.bool q) ∧ Below w.heap.size w w' := by
  by_cases cb : i.b = 0
  rotate_left
  · rw [no_q hq fun h => cb (h.nb rfl)]; exact right_6_b op h1 h2 hk i hop rdl rdh al ah bl bh csrl csrh  (ne_true cb) w
  by_cases ccsr : i.csr = 0
  rotate_left
  · rw [no_q hq fun h => ccsr (h.ncsr rfl)]; exact right_6_csr op h1 h2 hk i hop rdl rdh al ah bl bh csrl csrh (ne_false cb) (ne_true ccsr) w
  cases caq : i.aq
  rotate_left
  · have hx : q = false := no_q hq fun h => by have := (h.nord rfl).1; rw [caq] at this; cases this
    have hy := right_6_aq op h1 h2 hk i hop rdl rdh al ah bl bh csrl csrh (ne_false cb) (ne_false ccsr) caq w
    rw [hx]; rw [caq] at hy; exact hy
  rw [← caq]
  cases crl : i.rl
  rotate_left
  · have hx : q = false := no_q hq fun h => by have := (h.nord rfl).2; rw [crl] at this; cases this
    have hy := right_6_rl op h1 h2 hk i hop rdl rdh al ah bl bh csrl csrh (ne_false cb) (ne_false ccsr) caq crl w
    rw [hx]; rw [crl] at hy; exact hy
  rw [← crl]
  have e : q = ((formL 7).number ((formL 7).word i.imm) == i.imm) := by
    rw [Bool.eq_iff_iff, hq, beq_iff_eq]
    constructor
    · intro h; exact h.imm
    · intro h; exact ⟨⟨by omega, by omega⟩, ⟨by omega, by omega⟩, ⟨by omega, by omega⟩, ⟨by omega, by omega⟩, (fun h => absurd h (by decide)), (fun h => absurd h (by decide)), (fun _ => cb), (fun _ => ccsr), (fun _ => ⟨caq, crl⟩), h⟩
  rw [e]; exact right_6_end op h1 h2 hk i hop rdl rdh al ah bl bh csrl csrh (ne_false cb) (ne_false ccsr) caq crl w
theorem refRight_7 (op : Nat) (h1 : 1 ≤ op) (h2 : op ≤ 113) (hk : frmT op = 7) (i : Ins) (hop : i.op = op) (rdl : ¬ i.rd < 0) (rdh : ¬ 31 < i.rd) (al : ¬ i.a < 0) (ah : ¬ 31 < i.a) (bl : ¬ i.b < 0) (bh : ¬ 31 < i.b) (csrl : ¬ i.csr < 0) (csrh : ¬ 4095 < i.csr) (q : Bool) (hq : q = true ↔ Right (frm 7) i) (w : World) :
    Calls Tryd.prog 26 #[.agg #[.int .i64 i.op, .int .i64 i.rd, .int .i64 i.a, .int .i64 i.b, .int .i64 i.imm, .int .i64 i.csr, .bool i.aq, .bool i.rl]] w fun e w' => e = .returned (.bool q) ∧ Below w.heap.size w w' := by
  by_cases ccsr : i.csr = 0
  rotate_left
  · rw [no_q hq fun h => ccsr (h.ncsr rfl)]; exact right_7_csr op h1 h2 hk i hop rdl rdh al ah bl bh csrl csrh  (ne_true ccsr) w
  cases caq : i.aq
  rotate_left
  · have hx : q = false := no_q hq fun h => by have := (h.nord rfl).1; rw [caq] at this; cases this
    have hy := right_7_aq op h1 h2 hk i hop rdl rdh al ah bl bh csrl csrh (ne_false ccsr) caq w
    rw [hx]; rw [caq] at hy; exact hy
  rw [← caq]
  cases crl : i.rl
  rotate_left
  · have hx : q = false := no_q hq fun h => by have := (h.nord rfl).2; rw [crl] at this; cases this
    have hy := right_7_rl op h1 h2 hk i hop rdl rdh al ah bl bh csrl csrh (ne_false ccsr) caq crl w
    rw [hx]; rw [crl] at hy; exact hy
  rw [← crl]
  have e : q = (i.imm == 0) := by
    rw [Bool.eq_iff_iff, hq, beq_iff_eq]
    constructor
    · intro h; have h2 : (formL 0).number ((formL 0).word i.imm) = i.imm := h.imm; rw [number0] at h2; exact h2.symm
    · intro h; exact ⟨⟨by omega, by omega⟩, ⟨by omega, by omega⟩, ⟨by omega, by omega⟩, ⟨by omega, by omega⟩, (fun h => absurd h (by decide)), (fun h => absurd h (by decide)), (fun h => absurd h (by decide)), (fun _ => ccsr), (fun _ => ⟨caq, crl⟩), (by show (formL 0).number ((formL 0).word i.imm) = i.imm; rw [number0]; exact h.symm)⟩
  rw [e]; exact right_7_end op h1 h2 hk i hop rdl rdh al ah bl bh csrl csrh (ne_false ccsr) caq crl w
theorem refRight_8 (op : Nat) (h1 : 1 ≤ op) (h2 : op ≤ 113) (hk : frmT op = 8) (i : Ins) (hop : i.op = op) (rdl : ¬ i.rd < 0) (rdh : ¬ 31 < i.rd) (al : ¬ i.a < 0) (ah : ¬ 31 < i.a) (bl : ¬ i.b < 0) (bh : ¬ 31 < i.b) (csrl : ¬ i.csr < 0) (csrh : ¬ 4095 < i.csr) (q : Bool) (hq : q = true ↔ Right (frm 8) i) (w : World) :
    Calls Tryd.prog 26 #[.agg #[.int .i64 i.op, .int .i64 i.rd, .int .i64 i.a, .int .i64 i.b, .int .i64 i.imm, .int .i64 i.csr, .bool i.aq, .bool i.rl]] w fun e w' => e = .returned (.bool q) ∧ Below w.heap.size w w' := by
  by_cases cb : i.b = 0
  rotate_left
  · rw [no_q hq fun h => cb (h.nb rfl)]; exact right_8_b op h1 h2 hk i hop rdl rdh al ah bl bh csrl csrh  (ne_true cb) w
  by_cases ccsr : i.csr = 0
  rotate_left
  · rw [no_q hq fun h => ccsr (h.ncsr rfl)]; exact right_8_csr op h1 h2 hk i hop rdl rdh al ah bl bh csrl csrh (ne_false cb) (ne_true ccsr) w
  have e : q = (i.imm == 0) := by
    rw [Bool.eq_iff_iff, hq, beq_iff_eq]
    constructor
    · intro h; have h2 : (formL 0).number ((formL 0).word i.imm) = i.imm := h.imm; rw [number0] at h2; exact h2.symm
    · intro h; exact ⟨⟨by omega, by omega⟩, ⟨by omega, by omega⟩, ⟨by omega, by omega⟩, ⟨by omega, by omega⟩, (fun h => absurd h (by decide)), (fun h => absurd h (by decide)), (fun _ => cb), (fun _ => ccsr), (fun h => absurd h (by decide)), (by show (formL 0).number ((formL 0).word i.imm) = i.imm; rw [number0]; exact h.symm)⟩
  rw [e]; exact right_8_end op h1 h2 hk i hop rdl rdh al ah bl bh csrl csrh (ne_false cb) (ne_false ccsr) w
theorem refRight_9 (op : Nat) (h1 : 1 ≤ op) (h2 : op ≤ 113) (hk : frmT op = 9) (i : Ins) (hop : i.op = op) (rdl : ¬ i.rd < 0) (rdh : ¬ 31 < i.rd) (al : ¬ i.a < 0) (ah : ¬ 31 < i.a) (bl : ¬ i.b < 0) (bh : ¬ 31 < i.b) (csrl : ¬ i.csr < 0) (csrh : ¬ 4095 < i.csr) (q : Bool) (hq : q = true ↔ Right (frm 9) i) (w : World) :
    Calls Tryd.prog 26 #[.agg #[.int .i64 i.op, .int .i64 i.rd, .int .i64 i.a, .int .i64 i.b, .int .i64 i.imm, .int .i64 i.csr, .bool i.aq, .bool i.rl]] w fun e w' => e = .returned (.bool q) ∧ Below w.heap.size w w' := by
  by_cases ccsr : i.csr = 0
  rotate_left
  · rw [no_q hq fun h => ccsr (h.ncsr rfl)]; exact right_9_csr op h1 h2 hk i hop rdl rdh al ah bl bh csrl csrh  (ne_true ccsr) w
  have e : q = (i.imm == 0) := by
    rw [Bool.eq_iff_iff, hq, beq_iff_eq]
    constructor
    · intro h; have h2 : (formL 0).number ((formL 0).word i.imm) = i.imm := h.imm; rw [number0] at h2; exact h2.symm
    · intro h; exact ⟨⟨by omega, by omega⟩, ⟨by omega, by omega⟩, ⟨by omega, by omega⟩, ⟨by omega, by omega⟩, (fun h => absurd h (by decide)), (fun h => absurd h (by decide)), (fun h => absurd h (by decide)), (fun _ => ccsr), (fun h => absurd h (by decide)), (by show (formL 0).number ((formL 0).word i.imm) = i.imm; rw [number0]; exact h.symm)⟩
  rw [e]; exact right_9_end op h1 h2 hk i hop rdl rdh al ah bl bh csrl csrh (ne_false ccsr) w
theorem refRight_10 (op : Nat) (h1 : 1 ≤ op) (h2 : op ≤ 113) (hk : frmT op = 10) (i : Ins) (hop : i.op = op) (rdl : ¬ i.rd < 0) (rdh : ¬ 31 < i.rd) (al : ¬ i.a < 0) (ah : ¬ 31 < i.a) (bl : ¬ i.b < 0) (bh : ¬ 31 < i.b) (csrl : ¬ i.csr < 0) (csrh : ¬ 4095 < i.csr) (q : Bool) (hq : q = true ↔ Right (frm 10) i) (w : World) :
    Calls Tryd.prog 26 #[.agg #[.int .i64 i.op, .int .i64 i.rd, .int .i64 i.a, .int .i64 i.b, .int .i64 i.imm, .int .i64 i.csr, .bool i.aq, .bool i.rl]] w fun e w' => e = .returned (.bool q) ∧ Below w.heap.size w w' := by
  by_cases crd : i.rd = 0
  rotate_left
  · rw [no_q hq fun h => crd (h.nrd rfl)]; exact right_10_rd op h1 h2 hk i hop rdl rdh al ah bl bh csrl csrh  (ne_true crd) w
  by_cases ca : i.a = 0
  rotate_left
  · rw [no_q hq fun h => ca (h.na rfl)]; exact right_10_a op h1 h2 hk i hop rdl rdh al ah bl bh csrl csrh (ne_false crd) (ne_true ca) w
  by_cases cb : i.b = 0
  rotate_left
  · rw [no_q hq fun h => cb (h.nb rfl)]; exact right_10_b op h1 h2 hk i hop rdl rdh al ah bl bh csrl csrh (ne_false crd) (ne_false ca) (ne_true cb) w
  by_cases ccsr : i.csr = 0
  rotate_left
  · rw [no_q hq fun h => ccsr (h.ncsr rfl)]; exact right_10_csr op h1 h2 hk i hop rdl rdh al ah bl bh csrl csrh (ne_false crd) (ne_false ca) (ne_false cb) (ne_true ccsr) w
  cases caq : i.aq
  rotate_left
  · have hx : q = false := no_q hq fun h => by have := (h.nord rfl).1; rw [caq] at this; cases this
    have hy := right_10_aq op h1 h2 hk i hop rdl rdh al ah bl bh csrl csrh (ne_false crd) (ne_false ca) (ne_false cb) (ne_false ccsr) caq w
    rw [hx]; rw [caq] at hy; exact hy
  rw [← caq]
  cases crl : i.rl
  rotate_left
  · have hx : q = false := no_q hq fun h => by have := (h.nord rfl).2; rw [crl] at this; cases this
    have hy := right_10_rl op h1 h2 hk i hop rdl rdh al ah bl bh csrl csrh (ne_false crd) (ne_false ca) (ne_false cb) (ne_false ccsr) caq crl w
    rw [hx]; rw [crl] at hy; exact hy
  rw [← crl]
  have e : q = (i.imm == 0) := by
    rw [Bool.eq_iff_iff, hq, beq_iff_eq]
    constructor
    · intro h; have h2 : (formL 0).number ((formL 0).word i.imm) = i.imm := h.imm; rw [number0] at h2; exact h2.symm
    · intro h; exact ⟨⟨by omega, by omega⟩, ⟨by omega, by omega⟩, ⟨by omega, by omega⟩, ⟨by omega, by omega⟩, (fun _ => crd), (fun _ => ca), (fun _ => cb), (fun _ => ccsr), (fun _ => ⟨caq, crl⟩), (by show (formL 0).number ((formL 0).word i.imm) = i.imm; rw [number0]; exact h.symm)⟩
  rw [e]; exact right_10_end op h1 h2 hk i hop rdl rdh al ah bl bh csrl csrh (ne_false crd) (ne_false ca) (ne_false cb) (ne_false ccsr) caq crl w
theorem refRight_11 (op : Nat) (h1 : 1 ≤ op) (h2 : op ≤ 113) (hk : frmT op = 11) (i : Ins) (hop : i.op = op) (rdl : ¬ i.rd < 0) (rdh : ¬ 31 < i.rd) (al : ¬ i.a < 0) (ah : ¬ 31 < i.a) (bl : ¬ i.b < 0) (bh : ¬ 31 < i.b) (csrl : ¬ i.csr < 0) (csrh : ¬ 4095 < i.csr) (q : Bool) (hq : q = true ↔ Right (frm 11) i) (w : World) :
    Calls Tryd.prog 26 #[.agg #[.int .i64 i.op, .int .i64 i.rd, .int .i64 i.a, .int .i64 i.b, .int .i64 i.imm, .int .i64 i.csr, .bool i.aq, .bool i.rl]] w fun e w' => e = .returned (.bool q) ∧ Below w.heap.size w w' := by
  by_cases crd : i.rd = 0
  rotate_left
  · rw [no_q hq fun h => crd (h.nrd rfl)]; exact right_11_rd op h1 h2 hk i hop rdl rdh al ah bl bh csrl csrh  (ne_true crd) w
  by_cases ccsr : i.csr = 0
  rotate_left
  · rw [no_q hq fun h => ccsr (h.ncsr rfl)]; exact right_11_csr op h1 h2 hk i hop rdl rdh al ah bl bh csrl csrh (ne_false crd) (ne_true ccsr) w
  cases caq : i.aq
  rotate_left
  · have hx : q = false := no_q hq fun h => by have := (h.nord rfl).1; rw [caq] at this; cases this
    have hy := right_11_aq op h1 h2 hk i hop rdl rdh al ah bl bh csrl csrh (ne_false crd) (ne_false ccsr) caq w
    rw [hx]; rw [caq] at hy; exact hy
  rw [← caq]
  cases crl : i.rl
  rotate_left
  · have hx : q = false := no_q hq fun h => by have := (h.nord rfl).2; rw [crl] at this; cases this
    have hy := right_11_rl op h1 h2 hk i hop rdl rdh al ah bl bh csrl csrh (ne_false crd) (ne_false ccsr) caq crl w
    rw [hx]; rw [crl] at hy; exact hy
  rw [← crl]
  have e : q = (i.imm == 0) := by
    rw [Bool.eq_iff_iff, hq, beq_iff_eq]
    constructor
    · intro h; have h2 : (formL 0).number ((formL 0).word i.imm) = i.imm := h.imm; rw [number0] at h2; exact h2.symm
    · intro h; exact ⟨⟨by omega, by omega⟩, ⟨by omega, by omega⟩, ⟨by omega, by omega⟩, ⟨by omega, by omega⟩, (fun _ => crd), (fun h => absurd h (by decide)), (fun h => absurd h (by decide)), (fun _ => ccsr), (fun _ => ⟨caq, crl⟩), (by show (formL 0).number ((formL 0).word i.imm) = i.imm; rw [number0]; exact h.symm)⟩
  rw [e]; exact right_11_end op h1 h2 hk i hop rdl rdh al ah bl bh csrl csrh (ne_false crd) (ne_false ccsr) caq crl w
theorem refRight_12 (op : Nat) (h1 : 1 ≤ op) (h2 : op ≤ 113) (hk : frmT op = 12) (i : Ins) (hop : i.op = op) (rdl : ¬ i.rd < 0) (rdh : ¬ 31 < i.rd) (al : ¬ i.a < 0) (ah : ¬ 31 < i.a) (bl : ¬ i.b < 0) (bh : ¬ 31 < i.b) (csrl : ¬ i.csr < 0) (csrh : ¬ 4095 < i.csr) (q : Bool) (hq : q = true ↔ Right (frm 12) i) (w : World) :
    Calls Tryd.prog 26 #[.agg #[.int .i64 i.op, .int .i64 i.rd, .int .i64 i.a, .int .i64 i.b, .int .i64 i.imm, .int .i64 i.csr, .bool i.aq, .bool i.rl]] w fun e w' => e = .returned (.bool q) ∧ Below w.heap.size w w' := by
  by_cases cb : i.b = 0
  rotate_left
  · rw [no_q hq fun h => cb (h.nb rfl)]; exact right_12_b op h1 h2 hk i hop rdl rdh al ah bl bh csrl csrh  (ne_true cb) w
  cases caq : i.aq
  rotate_left
  · have hx : q = false := no_q hq fun h => by have := (h.nord rfl).1; rw [caq] at this; cases this
    have hy := right_12_aq op h1 h2 hk i hop rdl rdh al ah bl bh csrl csrh (ne_false cb) caq w
    rw [hx]; rw [caq] at hy; exact hy
  rw [← caq]
  cases crl : i.rl
  rotate_left
  · have hx : q = false := no_q hq fun h => by have := (h.nord rfl).2; rw [crl] at this; cases this
    have hy := right_12_rl op h1 h2 hk i hop rdl rdh al ah bl bh csrl csrh (ne_false cb) caq crl w
    rw [hx]; rw [crl] at hy; exact hy
  rw [← crl]
  have e : q = (i.imm == 0) := by
    rw [Bool.eq_iff_iff, hq, beq_iff_eq]
    constructor
    · intro h; have h2 : (formL 0).number ((formL 0).word i.imm) = i.imm := h.imm; rw [number0] at h2; exact h2.symm
    · intro h; exact ⟨⟨by omega, by omega⟩, ⟨by omega, by omega⟩, ⟨by omega, by omega⟩, ⟨by omega, by omega⟩, (fun h => absurd h (by decide)), (fun h => absurd h (by decide)), (fun _ => cb), (fun h => absurd h (by decide)), (fun _ => ⟨caq, crl⟩), (by show (formL 0).number ((formL 0).word i.imm) = i.imm; rw [number0]; exact h.symm)⟩
  rw [e]; exact right_12_end op h1 h2 hk i hop rdl rdh al ah bl bh csrl csrh (ne_false cb) caq crl w
theorem refRight_13 (op : Nat) (h1 : 1 ≤ op) (h2 : op ≤ 113) (hk : frmT op = 13) (i : Ins) (hop : i.op = op) (rdl : ¬ i.rd < 0) (rdh : ¬ 31 < i.rd) (al : ¬ i.a < 0) (ah : ¬ 31 < i.a) (bl : ¬ i.b < 0) (bh : ¬ 31 < i.b) (csrl : ¬ i.csr < 0) (csrh : ¬ 4095 < i.csr) (q : Bool) (hq : q = true ↔ Right (frm 13) i) (w : World) :
    Calls Tryd.prog 26 #[.agg #[.int .i64 i.op, .int .i64 i.rd, .int .i64 i.a, .int .i64 i.b, .int .i64 i.imm, .int .i64 i.csr, .bool i.aq, .bool i.rl]] w fun e w' => e = .returned (.bool q) ∧ Below w.heap.size w w' := by
  by_cases ca : i.a = 0
  rotate_left
  · rw [no_q hq fun h => ca (h.na rfl)]; exact right_13_a op h1 h2 hk i hop rdl rdh al ah bl bh csrl csrh  (ne_true ca) w
  by_cases cb : i.b = 0
  rotate_left
  · rw [no_q hq fun h => cb (h.nb rfl)]; exact right_13_b op h1 h2 hk i hop rdl rdh al ah bl bh csrl csrh (ne_false ca) (ne_true cb) w
  cases caq : i.aq
  rotate_left
  · have hx : q = false := no_q hq fun h => by have := (h.nord rfl).1; rw [caq] at this; cases this
    have hy := right_13_aq op h1 h2 hk i hop rdl rdh al ah bl bh csrl csrh (ne_false ca) (ne_false cb) caq w
    rw [hx]; rw [caq] at hy; exact hy
  rw [← caq]
  cases crl : i.rl
  rotate_left
  · have hx : q = false := no_q hq fun h => by have := (h.nord rfl).2; rw [crl] at this; cases this
    have hy := right_13_rl op h1 h2 hk i hop rdl rdh al ah bl bh csrl csrh (ne_false ca) (ne_false cb) caq crl w
    rw [hx]; rw [crl] at hy; exact hy
  rw [← crl]
  have e : q = ((formL 9).number ((formL 9).word i.imm) == i.imm) := by
    rw [Bool.eq_iff_iff, hq, beq_iff_eq]
    constructor
    · intro h; exact h.imm
    · intro h; exact ⟨⟨by omega, by omega⟩, ⟨by omega, by omega⟩, ⟨by omega, by omega⟩, ⟨by omega, by omega⟩, (fun h => absurd h (by decide)), (fun _ => ca), (fun _ => cb), (fun h => absurd h (by decide)), (fun _ => ⟨caq, crl⟩), h⟩
  rw [e]; exact right_13_end op h1 h2 hk i hop rdl rdh al ah bl bh csrl csrh (ne_false ca) (ne_false cb) caq crl w
theorem refRight_14 (op : Nat) (h1 : 1 ≤ op) (h2 : op ≤ 113) (hk : frmT op = 14) (i : Ins) (hop : i.op = op) (rdl : ¬ i.rd < 0) (rdh : ¬ 31 < i.rd) (al : ¬ i.a < 0) (ah : ¬ 31 < i.a) (bl : ¬ i.b < 0) (bh : ¬ 31 < i.b) (csrl : ¬ i.csr < 0) (csrh : ¬ 4095 < i.csr) (q : Bool) (hq : q = true ↔ Right (frm 14) i) (w : World) :
    Calls Tryd.prog 26 #[.agg #[.int .i64 i.op, .int .i64 i.rd, .int .i64 i.a, .int .i64 i.b, .int .i64 i.imm, .int .i64 i.csr, .bool i.aq, .bool i.rl]] w fun e w' => e = .returned (.bool q) ∧ Below w.heap.size w w' := by
  by_cases cb : i.b = 0
  rotate_left
  · rw [no_q hq fun h => cb (h.nb rfl)]; exact right_14_b op h1 h2 hk i hop rdl rdh al ah bl bh csrl csrh  (ne_true cb) w
  by_cases ccsr : i.csr = 0
  rotate_left
  · rw [no_q hq fun h => ccsr (h.ncsr rfl)]; exact right_14_csr op h1 h2 hk i hop rdl rdh al ah bl bh csrl csrh (ne_false cb) (ne_true ccsr) w
  cases caq : i.aq
  rotate_left
  · have hx : q = false := no_q hq fun h => by have := (h.nord rfl).1; rw [caq] at this; cases this
    have hy := right_14_aq op h1 h2 hk i hop rdl rdh al ah bl bh csrl csrh (ne_false cb) (ne_false ccsr) caq w
    rw [hx]; rw [caq] at hy; exact hy
  rw [← caq]
  cases crl : i.rl
  rotate_left
  · have hx : q = false := no_q hq fun h => by have := (h.nord rfl).2; rw [crl] at this; cases this
    have hy := right_14_rl op h1 h2 hk i hop rdl rdh al ah bl bh csrl csrh (ne_false cb) (ne_false ccsr) caq crl w
    rw [hx]; rw [crl] at hy; exact hy
  rw [← crl]
  have e : q = (i.imm == 0) := by
    rw [Bool.eq_iff_iff, hq, beq_iff_eq]
    constructor
    · intro h; have h2 : (formL 0).number ((formL 0).word i.imm) = i.imm := h.imm; rw [number0] at h2; exact h2.symm
    · intro h; exact ⟨⟨by omega, by omega⟩, ⟨by omega, by omega⟩, ⟨by omega, by omega⟩, ⟨by omega, by omega⟩, (fun h => absurd h (by decide)), (fun h => absurd h (by decide)), (fun _ => cb), (fun _ => ccsr), (fun _ => ⟨caq, crl⟩), (by show (formL 0).number ((formL 0).word i.imm) = i.imm; rw [number0]; exact h.symm)⟩
  rw [e]; exact right_14_end op h1 h2 hk i hop rdl rdh al ah bl bh csrl csrh (ne_false cb) (ne_false ccsr) caq crl w
theorem refRight_at (k : Nat) (hk15 : k < 15) (op : Nat) (h1 : 1 ≤ op) (h2 : op ≤ 113) (hk : frmT op = k) (i : Ins) (hop : i.op = op) (rdl : ¬ i.rd < 0) (rdh : ¬ 31 < i.rd) (al : ¬ i.a < 0) (ah : ¬ 31 < i.a) (bl : ¬ i.b < 0) (bh : ¬ 31 < i.b) (csrl : ¬ i.csr < 0) (csrh : ¬ 4095 < i.csr) (q : Bool) (hq : q = true ↔ Right (frm k) i) (w : World) :
    Calls Tryd.prog 26 #[.agg #[.int .i64 i.op, .int .i64 i.rd, .int .i64 i.a, .int .i64 i.b, .int .i64 i.imm, .int .i64 i.csr, .bool i.aq, .bool i.rl]] w fun e w' => e = .returned (.bool q) ∧ Below w.heap.size w w' :=
  match k, hk15, hk, hq with
  | 0, _, hk, hq => refRight_0 op h1 h2 hk i hop rdl rdh al ah bl bh csrl csrh q hq w
  | 1, _, hk, hq => refRight_1 op h1 h2 hk i hop rdl rdh al ah bl bh csrl csrh q hq w
  | 2, _, hk, hq => refRight_2 op h1 h2 hk i hop rdl rdh al ah bl bh csrl csrh q hq w
  | 3, _, hk, hq => refRight_3 op h1 h2 hk i hop rdl rdh al ah bl bh csrl csrh q hq w
  | 4, _, hk, hq => refRight_4 op h1 h2 hk i hop rdl rdh al ah bl bh csrl csrh q hq w
  | 5, _, hk, hq => refRight_5 op h1 h2 hk i hop rdl rdh al ah bl bh csrl csrh q hq w
  | 6, _, hk, hq => refRight_6 op h1 h2 hk i hop rdl rdh al ah bl bh csrl csrh q hq w
  | 7, _, hk, hq => refRight_7 op h1 h2 hk i hop rdl rdh al ah bl bh csrl csrh q hq w
  | 8, _, hk, hq => refRight_8 op h1 h2 hk i hop rdl rdh al ah bl bh csrl csrh q hq w
  | 9, _, hk, hq => refRight_9 op h1 h2 hk i hop rdl rdh al ah bl bh csrl csrh q hq w
  | 10, _, hk, hq => refRight_10 op h1 h2 hk i hop rdl rdh al ah bl bh csrl csrh q hq w
  | 11, _, hk, hq => refRight_11 op h1 h2 hk i hop rdl rdh al ah bl bh csrl csrh q hq w
  | 12, _, hk, hq => refRight_12 op h1 h2 hk i hop rdl rdh al ah bl bh csrl csrh q hq w
  | 13, _, hk, hq => refRight_13 op h1 h2 hk i hop rdl rdh al ah bl bh csrl csrh q hq w
  | 14, _, hk, hq => refRight_14 op h1 h2 hk i hop rdl rdh al ah bl bh csrl csrh q hq w
  | k + 15, h, _, _ => absurd h (by omega)
theorem refRight_any (op : Nat) (h1 : 1 ≤ op) (h2 : op ≤ 113) (i : Ins) (hop : i.op = op) (q : Bool) (hq : q = true ↔ Right (fT op) i) (w : World) :
    Calls Tryd.prog 26 #[.agg #[.int .i64 i.op, .int .i64 i.rd, .int .i64 i.a, .int .i64 i.b, .int .i64 i.imm, .int .i64 i.csr, .bool i.aq, .bool i.rl]] w fun e w' => e = .returned (.bool q) ∧ Below w.heap.size w w' := by
  by_cases rdl : i.rd < 0
  · rw [no_q hq fun h => by have := h.rd; omega]; exact right_rd_lo op h1 h2 i hop  rdl w
  by_cases rdh : 31 < i.rd
  · rw [no_q hq fun h => by have := h.rd; omega]; exact right_rd_hi op h1 h2 i hop rdl rdh w
  by_cases al : i.a < 0
  · rw [no_q hq fun h => by have := h.a; omega]; exact right_a_lo op h1 h2 i hop rdl rdh al w
  by_cases ah : 31 < i.a
  · rw [no_q hq fun h => by have := h.a; omega]; exact right_a_hi op h1 h2 i hop rdl rdh al ah w
  by_cases bl : i.b < 0
  · rw [no_q hq fun h => by have := h.b; omega]; exact right_b_lo op h1 h2 i hop rdl rdh al ah bl w
  by_cases bh : 31 < i.b
  · rw [no_q hq fun h => by have := h.b; omega]; exact right_b_hi op h1 h2 i hop rdl rdh al ah bl bh w
  by_cases csrl : i.csr < 0
  · rw [no_q hq fun h => by have := h.csr; omega]; exact right_csr_lo op h1 h2 i hop rdl rdh al ah bl bh csrl w
  by_cases csrh : 4095 < i.csr
  · rw [no_q hq fun h => by have := h.csr; omega]; exact right_csr_hi op h1 h2 i hop rdl rdh al ah bl bh csrl csrh w
  exact refRight_at (frmT op) (tab_form op (by omega) h1) op h1 h2 rfl i hop rdl rdh al ah bl bh csrl csrh q hq w

end Go.Proofs.YtehlihhnkojjeaaDoor
