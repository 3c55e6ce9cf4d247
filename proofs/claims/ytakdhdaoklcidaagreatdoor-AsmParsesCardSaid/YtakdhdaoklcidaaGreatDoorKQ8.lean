/- Joined: DtF AsPr2 AsRp LawAsmParses ATab -/
import Derived.Test.YtakdhdaoklcidaaGreatDoorKQ7
import Derived.Test.YtakdhdaoklcidaaGreatDoorRows
import Derived.ProofKit
import Derived.LaidMore
import Derived.OpenShut
import Derived.Stop.Joined
import Derived.MakeChecks
import Derived.Lib.LaidTab
import Derived.Stop.LaidErr
import Derived.Shelf.Vars
import Derived.HandedShaped
import Derived.Lay
namespace Go.Proofs.YtakdhdaoklcidaaGreatDoor
open Go.RowKit
set_option linter.unusedVariables false
set_option maxRecDepth 100000

theorem ne_true {x : Int} (h : ¬ x = 0) : (x != 0) = true := by simpa using h
theorem ne_false {x : Int} (h : x = 0) : (x != 0) = false := by simpa using h
theorem no_q {q : Bool} {P : Prop} (hq : q = true ↔ P) (h : ¬ P) : q = false := by
  cases q
  · rfl
  · exact absurd (hq.1 rfl) h

theorem refRight_0 (op : Nat) (h1 : 1 ≤ op) (h2 : op ≤ 113) (hk : frmT op = 0) (i : Ins) (hop : i.op = op) (rdl : ¬ i.rd < 0) (rdh : ¬ 31 < i.rd) (al : ¬ i.a < 0) (ah : ¬ 31 < i.a) (bl : ¬ i.b < 0) (bh : ¬ 31 < i.b) (csrl : ¬ i.csr < 0) (csrh : ¬ 4095 < i.csr) (q : Bool) (hq : q = true ↔ Right (frm 0) i) (w : World) :
    Calls Tryz.prog 30 #[.agg #[.int .i64 i.op, .int .i64 i.rd, .int .i64 i.a, .int .i64 i.b, .int .i64 i.imm, .int .i64 i.csr, .bool i.aq, .bool i.rl]] w fun e w' => e = .returned (.bool q) ∧ Below w.heap.size w w' := by
  by_cases ca : i.a = 0
  rotate_left
  · rw [no_q hq fun h => ca (h.na rfl)]; exact right_0_a op h1 h2 hk i hop rdl rdh al ah bl bh csrl csrh  (ne_true ca) w
  by_cases cb : i.b = 0
  rotate_left
  · rw [no_q hq fun h => cb (h.nb rfl)]; exact right_0_b op h1 h2 hk i hop rdl rdh al ah bl bh csrl csrh (ne_false ca) (ne_true cb) w
  by_cases ccsr : i.csr = 0
  rotate_left
  · rw [no_q hq fun h => ccsr (h.ncsr rfl)]; exact right_0_csr op h1 h2 hk i hop rdl rdh al ah bl bh csrl csrh (ne_false ca) (ne_false cb) (ne_true ccsr) w
  cases caq : i.aq
  rotate_left
  · have hx : q = false := no_q hq fun h => by have := (h.nord rfl).1; rw [caq] at this; cases this
    have hy := right_0_aq op h1 h2 hk i hop rdl rdh al ah bl bh csrl csrh (ne_false ca) (ne_false cb) (ne_false ccsr) caq w
    rw [hx]; rw [caq] at hy; exact hy
  rw [← caq]
  cases crl : i.rl
  rotate_left
  · have hx : q = false := no_q hq fun h => by have := (h.nord rfl).2; rw [crl] at this; cases this
    have hy := right_0_rl op h1 h2 hk i hop rdl rdh al ah bl bh csrl csrh (ne_false ca) (ne_false cb) (ne_false ccsr) caq crl w
    rw [hx]; rw [crl] at hy; exact hy
  rw [← crl]
  have e : q = ((formL 4).number ((formL 4).word i.imm) == i.imm) := by
    rw [Bool.eq_iff_iff, hq, beq_iff_eq]
    constructor
    · intro h; exact h.imm
    · intro h; exact ⟨⟨by omega, by omega⟩, ⟨by omega, by omega⟩, ⟨by omega, by omega⟩, ⟨by omega, by omega⟩, (fun h => absurd h (by decide)), (fun _ => ca), (fun _ => cb), (fun _ => ccsr), (fun _ => ⟨caq, crl⟩), h⟩
  rw [e]; exact right_0_end op h1 h2 hk i hop rdl rdh al ah bl bh csrl csrh (ne_false ca) (ne_false cb) (ne_false ccsr) caq crl w
theorem refRight_1 (op : Nat) (h1 : 1 ≤ op) (h2 : op ≤ 113) (hk : frmT op = 1) (i : Ins) (hop : i.op = op) (rdl : ¬ i.rd < 0) (rdh : ¬ 31 < i.rd) (al : ¬ i.a < 0) (ah : ¬ 31 < i.a) (bl : ¬ i.b < 0) (bh : ¬ 31 < i.b) (csrl : ¬ i.csr < 0) (csrh : ¬ 4095 < i.csr) (q : Bool) (hq : q = true ↔ Right (frm 1) i) (w : World) :
    Calls Tryz.prog 30 #[.agg #[.int .i64 i.op, .int .i64 i.rd, .int .i64 i.a, .int .i64 i.b, .int .i64 i.imm, .int .i64 i.csr, .bool i.aq, .bool i.rl]] w fun e w' => e = .returned (.bool q) ∧ Below w.heap.size w w' := by
  by_cases ca : i.a = 0
  rotate_left
  · rw [no_q hq fun h => ca (h.na rfl)]; exact right_1_a op h1 h2 hk i hop rdl rdh al ah bl bh csrl csrh  (ne_true ca) w
  by_cases cb : i.b = 0
  rotate_left
  · rw [no_q hq fun h => cb (h.nb rfl)]; exact right_1_b op h1 h2 hk i hop rdl rdh al ah bl bh csrl csrh (ne_false ca) (ne_true cb) w
  by_cases ccsr : i.csr = 0
  rotate_left
  · rw [no_q hq fun h => ccsr (h.ncsr rfl)]; exact right_1_csr op h1 h2 hk i hop rdl rdh al ah bl bh csrl csrh (ne_false ca) (ne_false cb) (ne_true ccsr) w
  cases caq : i.aq
  rotate_left
  · have hx : q = false := no_q hq fun h => by have := (h.nord rfl).1; rw [caq] at this; cases this
    have hy := right_1_aq op h1 h2 hk i hop rdl rdh al ah bl bh csrl csrh (ne_false ca) (ne_false cb) (ne_false ccsr) caq w
    rw [hx]; rw [caq] at hy; exact hy
  rw [← caq]
  cases crl : i.rl
  rotate_left
  · have hx : q = false := no_q hq fun h => by have := (h.nord rfl).2; rw [crl] at this; cases this
    have hy := right_1_rl op h1 h2 hk i hop rdl rdh al ah bl bh csrl csrh (ne_false ca) (ne_false cb) (ne_false ccsr) caq crl w
    rw [hx]; rw [crl] at hy; exact hy
  rw [← crl]
  have e : q = ((formL 5).number ((formL 5).word i.imm) == i.imm) := by
    rw [Bool.eq_iff_iff, hq, beq_iff_eq]
    constructor
    · intro h; exact h.imm
    · intro h; exact ⟨⟨by omega, by omega⟩, ⟨by omega, by omega⟩, ⟨by omega, by omega⟩, ⟨by omega, by omega⟩, (fun h => absurd h (by decide)), (fun _ => ca), (fun _ => cb), (fun _ => ccsr), (fun _ => ⟨caq, crl⟩), h⟩
  rw [e]; exact right_1_end op h1 h2 hk i hop rdl rdh al ah bl bh csrl csrh (ne_false ca) (ne_false cb) (ne_false ccsr) caq crl w
theorem refRight_2 (op : Nat) (h1 : 1 ≤ op) (h2 : op ≤ 113) (hk : frmT op = 2) (i : Ins) (hop : i.op = op) (rdl : ¬ i.rd < 0) (rdh : ¬ 31 < i.rd) (al : ¬ i.a < 0) (ah : ¬ 31 < i.a) (bl : ¬ i.b < 0) (bh : ¬ 31 < i.b) (csrl : ¬ i.csr < 0) (csrh : ¬ 4095 < i.csr) (q : Bool) (hq : q = true ↔ Right (frm 2) i) (w : World) :
    Calls Tryz.prog 30 #[.agg #[.int .i64 i.op, .int .i64 i.rd, .int .i64 i.a, .int .i64 i.b, .int .i64 i.imm, .int .i64 i.csr, .bool i.aq, .bool i.rl]] w fun e w' => e = .returned (.bool q) ∧ Below w.heap.size w w' := by
  by_cases cb : i.b = 0
  rotate_left
  · rw [no_q hq fun h => cb (h.nb rfl)]; exact right_2_b op h1 h2 hk i hop rdl rdh al ah bl bh csrl csrh  (ne_true cb) w
  by_cases ccsr : i.csr = 0
  rotate_left
  · rw [no_q hq fun h => ccsr (h.ncsr rfl)]; exact right_2_csr op h1 h2 hk i hop rdl rdh al ah bl bh csrl csrh (ne_false cb) (ne_true ccsr) w
  cases caq : i.aq
  rotate_left
  · have hx : q = false := no_q hq fun h => by have := (h.nord rfl).1; rw [caq] at this; cases this
    have hy := right_2_aq op h1 h2 hk i hop rdl rdh al ah bl bh csrl csrh (ne_false cb) (ne_false ccsr) caq w
    rw [hx]; rw [caq] at hy; exact hy
  rw [← caq]
  cases crl : i.rl
  rotate_left
  · have hx : q = false := no_q hq fun h => by have := (h.nord rfl).2; rw [crl] at this; cases this
    have hy := right_2_rl op h1 h2 hk i hop rdl rdh al ah bl bh csrl csrh (ne_false cb) (ne_false ccsr) caq crl w
    rw [hx]; rw [crl] at hy; exact hy
  rw [← crl]
  have e : q = ((formL 1).number ((formL 1).word i.imm) == i.imm) := by
    rw [Bool.eq_iff_iff, hq, beq_iff_eq]
    constructor
    · intro h; exact h.imm
    · intro h; exact ⟨⟨by omega, by omega⟩, ⟨by omega, by omega⟩, ⟨by omega, by omega⟩, ⟨by omega, by omega⟩, (fun h => absurd h (by decide)), (fun h => absurd h (by decide)), (fun _ => cb), (fun _ => ccsr), (fun _ => ⟨caq, crl⟩), h⟩
  rw [e]; exact right_2_end op h1 h2 hk i hop rdl rdh al ah bl bh csrl csrh (ne_false cb) (ne_false ccsr) caq crl w
theorem refRight_3 (op : Nat) (h1 : 1 ≤ op) (h2 : op ≤ 113) (hk : frmT op = 3) (i : Ins) (hop : i.op = op) (rdl : ¬ i.rd < 0) (rdh : ¬ 31 < i.rd) (al : ¬ i.a < 0) (ah : ¬ 31 < i.a) (bl : ¬ i.b < 0) (bh : ¬ 31 < i.b) (csrl : ¬ i.csr < 0) (csrh : ¬ 4095 < i.csr) (q : Bool) (hq : q = true ↔ Right (frm 3) i) (w : World) :
    Calls Tryz.prog 30 #[.agg #[.int .i64 i.op, .int .i64 i.rd, .int .i64 i.a, .int .i64 i.b, .int .i64 i.imm, .int .i64 i.csr, .bool i.aq, .bool i.rl]] w fun e w' => e = .returned (.bool q) ∧ Below w.heap.size w w' := by
  by_cases crd : i.rd = 0
  rotate_left
  · rw [no_q hq fun h => crd (h.nrd rfl)]; exact right_3_rd op h1 h2 hk i hop rdl rdh al ah bl bh csrl csrh  (ne_true crd) w
  by_cases ccsr : i.csr = 0
  rotate_left
  · rw [no_q hq fun h => ccsr (h.ncsr rfl)]; exact right_3_csr op h1 h2 hk i hop rdl rdh al ah bl bh csrl csrh (ne_false crd) (ne_true ccsr) w
  cases caq : i.aq
  rotate_left
  · have hx : q = false := no_q hq fun h => by have := (h.nord rfl).1; rw [caq] at this; cases this
    have hy := right_3_aq op h1 h2 hk i hop rdl rdh al ah bl bh csrl csrh (ne_false crd) (ne_false ccsr) caq w
    rw [hx]; rw [caq] at hy; exact hy
  rw [← caq]
  cases crl : i.rl
  rotate_left
  · have hx : q = false := no_q hq fun h => by have := (h.nord rfl).2; rw [crl] at this; cases this
    have hy := right_3_rl op h1 h2 hk i hop rdl rdh al ah bl bh csrl csrh (ne_false crd) (ne_false ccsr) caq crl w
    rw [hx]; rw [crl] at hy; exact hy
  rw [← crl]
  have e : q = ((formL 3).number ((formL 3).word i.imm) == i.imm) := by
    rw [Bool.eq_iff_iff, hq, beq_iff_eq]
    constructor
    · intro h; exact h.imm
    · intro h; exact ⟨⟨by omega, by omega⟩, ⟨by omega, by omega⟩, ⟨by omega, by omega⟩, ⟨by omega, by omega⟩, (fun _ => crd), (fun h => absurd h (by decide)), (fun h => absurd h (by decide)), (fun _ => ccsr), (fun _ => ⟨caq, crl⟩), h⟩
  rw [e]; exact right_3_end op h1 h2 hk i hop rdl rdh al ah bl bh csrl csrh (ne_false crd) (ne_false ccsr) caq crl w
theorem refRight_4 (op : Nat) (h1 : 1 ≤ op) (h2 : op ≤ 113) (hk : frmT op = 4) (i : Ins) (hop : i.op = op) (rdl : ¬ i.rd < 0) (rdh : ¬ 31 < i.rd) (al : ¬ i.a < 0) (ah : ¬ 31 < i.a) (bl : ¬ i.b < 0) (bh : ¬ 31 < i.b) (csrl : ¬ i.csr < 0) (csrh : ¬ 4095 < i.csr) (q : Bool) (hq : q = true ↔ Right (frm 4) i) (w : World) :
    Calls Tryz.prog 30 #[.agg #[.int .i64 i.op, .int .i64 i.rd, .int .i64 i.a, .int .i64 i.b, .int .i64 i.imm, .int .i64 i.csr, .bool i.aq, .bool i.rl]] w fun e w' => e = .returned (.bool q) ∧ Below w.heap.size w w' := by
  by_cases crd : i.rd = 0
  rotate_left
  · rw [no_q hq fun h => crd (h.nrd rfl)]; exact right_4_rd op h1 h2 hk i hop rdl rdh al ah bl bh csrl csrh  (ne_true crd) w
  by_cases ccsr : i.csr = 0
  rotate_left
  · rw [no_q hq fun h => ccsr (h.ncsr rfl)]; exact right_4_csr op h1 h2 hk i hop rdl rdh al ah bl bh csrl csrh (ne_false crd) (ne_true ccsr) w
  cases caq : i.aq
  rotate_left
  · have hx : q = false := no_q hq fun h => by have := (h.nord rfl).1; rw [caq] at this; cases this
    have hy := right_4_aq op h1 h2 hk i hop rdl rdh al ah bl bh csrl csrh (ne_false crd) (ne_false ccsr) caq w
    rw [hx]; rw [caq] at hy; exact hy
  rw [← caq]
  cases crl : i.rl
  rotate_left
  · have hx : q = false := no_q hq fun h => by have := (h.nord rfl).2; rw [crl] at this; cases this
    have hy := right_4_rl op h1 h2 hk i hop rdl rdh al ah bl bh csrl csrh (ne_false crd) (ne_false ccsr) caq crl w
    rw [hx]; rw [crl] at hy; exact hy
  rw [← crl]
  have e : q = ((formL 2).number ((formL 2).word i.imm) == i.imm) := by
    rw [Bool.eq_iff_iff, hq, beq_iff_eq]
    constructor
    · intro h; exact h.imm
    · intro h; exact ⟨⟨by omega, by omega⟩, ⟨by omega, by omega⟩, ⟨by omega, by omega⟩, ⟨by omega, by omega⟩, (fun _ => crd), (fun h => absurd h (by decide)), (fun h => absurd h (by decide)), (fun _ => ccsr), (fun _ => ⟨caq, crl⟩), h⟩
  rw [e]; exact right_4_end op h1 h2 hk i hop rdl rdh al ah bl bh csrl csrh (ne_false crd) (ne_false ccsr) caq crl w
theorem refRight_5 (op : Nat) (h1 : 1 ≤ op) (h2 : op ≤ 113) (hk : frmT op = 5) (i : Ins) (hop : i.op = op) (rdl : ¬ i.rd < 0) (rdh : ¬ 31 < i.rd) (al : ¬ i.a < 0) (ah : ¬ 31 < i.a) (bl : ¬ i.b < 0) (bh : ¬ 31 < i.b) (csrl : ¬ i.csr < 0) (csrh : ¬ 4095 < i.csr) (q : Bool) (hq : q = true ↔ Right (frm 5) i) (w : World) :
    Calls Tryz.prog 30 #[.agg #[.int .i64 i.op, .int .i64 i.rd, .int .i64 i.a, .int .i64 i.b, .int .i64 i.imm, .int .i64 i.csr, .bool i.aq, .bool i.rl]] w fun e w' => e = .returned (.bool q) ∧ Below w.heap.size w w' := by
  by_cases cb : i.b = 0
  rotate_left
  · rw [no_q hq fun h => cb (h.nb rfl)]; exact right_5_b op h1 h2 hk i hop rdl rdh al ah bl bh csrl csrh  (ne_true cb) w
  by_cases ccsr : i.csr = 0
  rotate_left
  · rw [no_q hq fun h => ccsr (h.ncsr rfl)]; exact right_5_csr op h1 h2 hk i hop rdl rdh al ah bl bh csrl csrh (ne_false cb) (ne_true ccsr) w
  cases caq : i.aq
  rotate_left
  · have hx : q = false := no_q hq fun h => by have := (h.nord rfl).1; rw [caq] at this; cases this
    have hy := right_5_aq op h1 h2 hk i hop rdl rdh al ah bl bh csrl csrh (ne_false cb) (ne_false ccsr) caq w
    rw [hx]; rw [caq] at hy; exact hy
  rw [← caq]
  cases crl : i.rl
  rotate_left
  · have hx : q = false := no_q hq fun h => by have := (h.nord rfl).2; rw [crl] at this; cases this
    have hy := right_5_rl op h1 h2 hk i hop rdl rdh al ah bl bh csrl csrh (ne_false cb) (ne_false ccsr) caq crl w
    rw [hx]; rw [crl] at hy; exact hy
  rw [← crl]
  have e : q = ((formL 6).number ((formL 6).word i.imm) == i.imm) := by
    rw [Bool.eq_iff_iff, hq, beq_iff_eq]
    constructor
    · intro h; exact h.imm
    · intro h; exact ⟨⟨by omega, by omega⟩, ⟨by omega, by omega⟩, ⟨by omega, by omega⟩, ⟨by omega, by omega⟩, (fun h => absurd h (by decide)), (fun h => absurd h (by decide)), (fun _ => cb), (fun _ => ccsr), (fun _ => ⟨caq, crl⟩), h⟩
  rw [e]; exact right_5_end op h1 h2 hk i hop rdl rdh al ah bl bh csrl csrh (ne_false cb) (ne_false ccsr) caq crl w
theorem refRight_6 (op : Nat) (h1 : 1 ≤ op) (h2 : op ≤ 113) (hk : frmT op = 6) (i : Ins) (hop : i.op = op) (rdl : ¬ i.rd < 0) (rdh : ¬ 31 < i.rd) (al : ¬ i.a < 0) (ah : ¬ 31 < i.a) (bl : ¬ i.b < 0) (bh : ¬ 31 < i.b) (csrl : ¬ i.csr < 0) (csrh : ¬ 4095 < i.csr) (q : Bool) (hq : q = true ↔ Right (frm 6) i) (w : World) :
    Calls Tryz.prog 30 #[.agg #[.int .i64 i.op, .int .i64 i.rd, .int .i64 i.a, .int .i64 i.b, .int .i64 i.imm, .int .i64 i.csr, .bool i.aq, .bool i.rl]] w fun e w' => e = .returned (.bool q) ∧ Below w.heap.size w w' := by
  by_cases cb : i.b = 0
  rotate_left
  · rw [no_q hq fun h => cb (h.nb rfl)]; exact right_6_b op h1 h2 hk i hop rdl rdh al ah bl bh csrl csrh  (ne_true cb) w
  by_cases ccsr : i.csr = 0
  rotate_left
  · rw [no_q hq fun h => ccsr (h.ncsr rfl)]; exact right_6_csr op h1 h2 hk i hop rdl rdh al ah bl bh csrl csrh (ne_false cb) (ne_true ccsr) w
  cases caq : i.aq
  rotate_left
  · have hx : q = false := no_q hq fun h => by have := (h.nord rfl).1; rw [caq] at this; cases this
    have hy := right_6_aq op h1 h2 hk i hop rdl rdh al ah bl bh csrl csrh (ne_false cb) (ne_false ccsr) caq w
    rw [hx]; rw [caq] at hy; exact hy
  rw [← caq]
  cases crl : i.rl
  rotate_left
  · have hx : q = false := no_q hq fun h => by have := (h.nord rfl).2; rw [crl] at this; cases this
    have hy := right_6_rl op h1 h2 hk i hop rdl rdh al ah bl bh csrl csrh (ne_false cb) (ne_false ccsr) caq crl w
    rw [hx]; rw [crl] at hy; exact hy
  rw [← crl]
  have e : q = ((formL 7).number ((formL 7).word i.imm) == i.imm) := by
    rw [Bool.eq_iff_iff, hq, beq_iff_eq]
    constructor
    · intro h; exact h.imm
    · intro h; exact ⟨⟨by omega, by omega⟩, ⟨by omega, by omega⟩, ⟨by omega, by omega⟩, ⟨by omega, by omega⟩, (fun h => absurd h (by decide)), (fun h => absurd h (by decide)), (fun _ => cb), (fun _ => ccsr), (fun _ => ⟨caq, crl⟩), h⟩
  rw [e]; exact right_6_end op h1 h2 hk i hop rdl rdh al ah bl bh csrl csrh (ne_false cb) (ne_false ccsr) caq crl w
theorem refRight_7 (op : Nat) (h1 : 1 ≤ op) (h2 : op ≤ 113) (hk : frmT op = 7) (i : Ins) (hop : i.op = op) (rdl : ¬ i.rd < 0) (rdh : ¬ 31 < i.rd) (al : ¬ i.a < 0) (ah : ¬ 31 < i.a) (bl : ¬ i.b < 0) (bh : ¬ 31 < i.b) (csrl : ¬ i.csr < 0) (csrh : ¬ 4095 < i.csr) (q : Bool) (hq : q = true ↔ Right (frm 7) i) (w : World) :
    Calls Tryz.prog 30 #[.agg #[.int .i64 i.op, .int .i64 i.rd, .int .i64 i.a, .int .i64 i.b, .int .i64 i.imm, .int .i64 i.csr, .bool i.aq, .bool i.rl]] w fun e w' => e = .returned (.bool q) ∧ Below w.heap.size w w' := by
  by_cases ccsr : i.csr = 0
  rotate_left
  · rw [no_q hq fun h => ccsr (h.ncsr rfl)]; exact right_7_csr op h1 h2 hk i hop rdl rdh al ah bl bh csrl csrh  (ne_true ccsr) w
  cases caq : i.aq
  rotate_left
  · have hx : q = false := no_q hq fun h => by have := (h.nord rfl).1; rw [caq] at this; cases this
    have hy := right_7_aq op h1 h2 hk i hop rdl rdh al ah bl bh csrl csrh (ne_false ccsr) caq w
    rw [hx]; rw [caq] at hy; exact hy
  rw [← caq]
  cases crl : i.rl
  rotate_left
  · have hx : q = false := no_q hq fun h => by have := (h.nord rfl).2; rw [crl] at this; cases this
    have hy := right_7_rl op h1 h2 hk i hop rdl rdh al ah bl bh csrl csrh (ne_false ccsr) caq crl w
    rw [hx]; rw [crl] at hy; exact hy
  rw [← crl]
  have e : q = (i.imm == 0) := by
    rw [Bool.eq_iff_iff, hq, beq_iff_eq]
    constructor
    · intro h; have h2 : (formL 0).number ((formL 0).word i.imm) = i.imm := h.imm; rw [number0] at h2; exact h2.symm
    · intro h; exact ⟨⟨by omega, by omega⟩, ⟨by omega, by omega⟩, ⟨by omega, by omega⟩, ⟨by omega, by omega⟩, (fun h => absurd h (by decide)), (fun h => absurd h (by decide)), (fun h => absurd h (by decide)), (fun _ => ccsr), (fun _ => ⟨caq, crl⟩), (by show (formL 0).number ((formL 0).word i.imm) = i.imm; rw [number0]; exact h.symm)⟩
  rw [e]; exact right_7_end op h1 h2 hk i hop rdl rdh al ah bl bh csrl csrh (ne_false ccsr) caq crl w
theorem refRight_8 (op : Nat) (h1 : 1 ≤ op) (h2 : op ≤ 113) (hk : frmT op = 8) (i : Ins) (hop : i.op = op) (rdl : ¬ i.rd < 0) (rdh : ¬ 31 < i.rd) (al : ¬ i.a < 0) (ah : ¬ 31 < i.a) (bl : ¬ i.b < 0) (bh : ¬ 31 < i.b) (csrl : ¬ i.csr < 0) (csrh : ¬ 4095 < i.csr) (q : Bool) (hq : q = true ↔ Right (frm 8) i) (w : World) :
    Calls Tryz.prog 30 #[.agg #[.int .i64 i.op, .int .i64 i.rd, .int .i64 i.a, .int .i64 i.b, .int .i64 i.imm, .int .i64 i.csr, .bool i.aq, .bool i.rl]] w fun e w' => e = .returned (.bool q) ∧ Below w.heap.size w w' := by
  by_cases cb : i.b = 0
  rotate_left
  · rw [no_q hq fun h => cb (h.nb rfl)]; exact right_8_b op h1 h2 hk i hop rdl rdh al ah bl bh csrl csrh  (ne_true cb) w
  by_cases ccsr : i.csr = 0
  rotate_left
  · rw [no_q hq fun h => ccsr (h.ncsr rfl)]; exact right_8_csr op h1 h2 hk i hop rdl rdh al ah bl bh csrl csrh (ne_false cb) (ne_true ccsr) w
  have e : q = (i.imm == 0) := by
    rw [Bool.eq_iff_iff, hq, beq_iff_eq]
    constructor
    · intro h; have h2 : (formL 0).number ((formL 0).word i.imm) = i.imm := h.imm; rw [number0] at h2; exact h2.symm
    · intro h; exact ⟨⟨by omega, by omega⟩, ⟨by omega, by omega⟩, ⟨by omega, by omega⟩, ⟨by omega, by omega⟩, (fun h => absurd h (by decide)), (fun h => absurd h (by decide)), (fun _ => cb), (fun _ => ccsr), (fun h => absurd h (by decide)), (by show (formL 0).number ((formL 0).word i.imm) = i.imm; rw [number0]; exact h.symm)⟩
  rw [e]; exact right_8_end op h1 h2 hk i hop rdl rdh al ah bl bh csrl csrh (ne_false cb) (ne_false ccsr) w
theorem refRight_9 (op : Nat) (h1 : 1 ≤ op) (h2 : op ≤ 113) (hk : frmT op = 9) (i : Ins) (hop : i.op = op) (rdl : ¬ i.rd < 0) (rdh : ¬ 31 < i.rd) (al : ¬ i.a < 0) (ah : ¬ 31 < i.a) (bl : ¬ i.b < 0) (bh : ¬ 31 < i.b) (csrl : ¬ i.csr < 0) (csrh : ¬ 4095 < i.csr) (q : Bool) (hq : q = true ↔ Right (frm 9) i) (w : World) :
    Calls Tryz.prog 30 #[.agg #[.int .i64 i.op, .int .i64 i.rd, .int .i64 i.a, .int .i64 i.b, .int .i64 i.imm, .int .i64 i.csr, .bool i.aq, .bool i.rl]] w fun e w' => e = .returned (.bool q) ∧ Below w.heap.size w w' := by
  by_cases ccsr : i.csr = 0
  rotate_left
  · rw [no_q hq fun h => ccsr (h.ncsr rfl)]; exact right_9_csr op h1 h2 hk i hop rdl rdh al ah bl bh csrl csrh  (ne_true ccsr) w
  have e : q = (i.imm == 0) := by
    rw [Bool.eq_iff_iff, hq, beq_iff_eq]
    constructor
    · intro h; have h2 : (formL 0).number ((formL 0).word i.imm) = i.imm := h.imm; rw [number0] at h2; exact h2.symm
    · intro h; exact ⟨⟨by omega, by omega⟩, ⟨by omega, by omega⟩, ⟨by omega, by omega⟩, ⟨by omega, by omega⟩, (fun h => absurd h (by decide)), (fun h => absurd h (by decide)), (fun h => absurd h (by decide)), (fun _ => ccsr), (fun h => absurd h (by decide)), (by show (formL 0).number ((formL 0).word i.imm) = i.imm; rw [number0]; exact h.symm)⟩
  rw [e]; exact right_9_end op h1 h2 hk i hop rdl rdh al ah bl bh csrl csrh (ne_false ccsr) w
theorem refRight_10 (op : Nat) (h1 : 1 ≤ op) (h2 : op ≤ 113) (hk : frmT op = 10) (i : Ins) (hop : i.op = op) (rdl : ¬ i.rd < 0) (rdh : ¬ 31 < i.rd) (al : ¬ i.a < 0) (ah : ¬ 31 < i.a) (bl : ¬ i.b < 0) (bh : ¬ 31 < i.b) (csrl : ¬ i.csr < 0) (csrh : ¬ 4095 < i.csr) (q : Bool) (hq : q = true ↔ Right (frm 10) i) (w : World) :
    Calls Tryz.prog 30 #[.agg #[.int .i64 i.op, .int .i64 i.rd, .int .i64 i.a, .int .i64 i.b, .int .i64 i.imm, .int .i64 i.csr, .bool i.aq, .bool i.rl]] w fun e w' => e = .returned (.bool q) ∧ Below w.heap.size w w' := by
  by_cases crd : i.rd = 0
  rotate_left
  · rw [no_q hq fun h => crd (h.nrd rfl)]; exact right_10_rd op h1 h2 hk i hop rdl rdh al ah bl bh csrl csrh  (ne_true crd) w
  by_cases ca : i.a = 0
  rotate_left
  · rw [no_q hq fun h => ca (h.na rfl)]; exact right_10_a op h1 h2 hk i hop rdl rdh al ah bl bh csrl csrh (ne_false crd) (ne_true ca) w
  by_cases cb : i.b = 0
  rotate_left
  · rw [no_q hq fun h => cb (h.nb rfl)]; exact right_10_b op h1 h2 hk i hop rdl rdh al ah bl bh csrl csrh (ne_false crd) (ne_false ca) (ne_true cb) w
  by_cases ccsr : i.csr = 0
  rotate_left
  · rw [no_q hq fun h => ccsr (h.ncsr rfl)]; exact right_10_csr op h1 h2 hk i hop rdl rdh al ah bl bh csrl csrh (ne_false crd) (ne_false ca) (ne_false cb) (ne_true ccsr) w
  cases caq : i.aq
  rotate_left
  · have hx : q = false := no_q hq fun h => by have := (h.nord rfl).1; rw [caq] at this; cases this
    have hy := right_10_aq op h1 h2 hk i hop rdl rdh al ah bl bh csrl csrh (ne_false crd) (ne_false ca) (ne_false cb) (ne_false ccsr) caq w
    rw [hx]; rw [caq] at hy; exact hy
  rw [← caq]
  cases crl : i.rl
  rotate_left
  · have hx : q = false := no_q hq fun h => by have := (h.nord rfl).2; rw [crl] at this; cases this
    have hy := right_10_rl op h1 h2 hk i hop rdl rdh al ah bl bh csrl csrh (ne_false crd) (ne_false ca) (ne_false cb) (ne_false ccsr) caq crl w
    rw [hx]; rw [crl] at hy; exact hy
  rw [← crl]
  have e : q = (i.imm == 0) := by
    rw [Bool.eq_iff_iff, hq, beq_iff_eq]
    constructor
    · intro h; have h2 : (formL 0).number ((formL 0).word i.imm) = i.imm := h.imm; rw [number0] at h2; exact h2.symm
    · intro h; exact ⟨⟨by omega, by omega⟩, ⟨by omega, by omega⟩, ⟨by omega, by omega⟩, ⟨by omega, by omega⟩, (fun _ => crd), (fun _ => ca), (fun _ => cb), (fun _ => ccsr), (fun _ => ⟨caq, crl⟩), (by show (formL 0).number ((formL 0).word i.imm) = i.imm; rw [number0]; exact h.symm)⟩
  rw [e]; exact right_10_end op h1 h2 hk i hop rdl rdh al ah bl bh csrl csrh (ne_false crd) (ne_false ca) (ne_false cb) (ne_false ccsr) caq crl w
theorem refRight_11 (op : Nat) (h1 : 1 ≤ op) (h2 : op ≤ 113) (hk : frmT op = 11) (i : Ins) (hop : i.op = op) (rdl : ¬ i.rd < 0) (rdh : ¬ 31 < i.rd) (al : ¬ i.a < 0) (ah : ¬ 31 < i.a) (bl : ¬ i.b < 0) (bh : ¬ 31 < i.b) (csrl : ¬ i.csr < 0) (csrh : ¬ 4095 < i.csr) (q : Bool) (hq : q = true ↔ Right (frm 11) i) (w : World) :
    Calls Tryz.prog 30 #[.agg #[.int .i64 i.op, .int .i64 i.rd, .int .i64 i.a, .int .i64 i.b, .int .i64 i.imm, .int .i64 i.csr, .bool i.aq, .bool i.rl]] w fun e w' => e = .returned (.bool q) ∧ Below w.heap.size w w' := by
  by_cases crd : i.rd = 0
  rotate_left
  · rw [no_q hq fun h => crd (h.nrd rfl)]; exact right_11_rd op h1 h2 hk i hop rdl rdh al ah bl bh csrl csrh  (ne_true crd) w
  by_cases ccsr : i.csr = 0
  rotate_left
  · rw [no_q hq fun h => ccsr (h.ncsr rfl)]; exact right_11_csr op h1 h2 hk i hop rdl rdh al ah bl bh csrl csrh (ne_false crd) (ne_true ccsr) w
  cases caq : i.aq
  rotate_left
  · have hx : q = false := no_q hq fun h => by have := (h.nord rfl).1; rw [caq] at this; cases this
    have hy := right_11_aq op h1 h2 hk i hop rdl rdh al ah bl bh csrl csrh (ne_false crd) (ne_false ccsr) caq w
    rw [hx]; rw [caq] at hy; exact hy
  rw [← caq]
  cases crl : i.rl
  rotate_left
  · have hx : q = false := no_q hq fun h => by have := (h.nord rfl).2; rw [crl] at this; cases this
    have hy := right_11_rl op h1 h2 hk i hop rdl rdh al ah bl bh csrl csrh (ne_false crd) (ne_false ccsr) caq crl w
    rw [hx]; rw [crl] at hy; exact hy
  rw [← crl]
  have e : q = (i.imm == 0) := by
    rw [Bool.eq_iff_iff, hq, beq_iff_eq]
    constructor
    · intro h; have h2 : (formL 0).number ((formL 0).word i.imm) = i.imm := h.imm; rw [number0] at h2; exact h2.symm
    · intro h; exact ⟨⟨by omega, by omega⟩, ⟨by omega, by omega⟩, ⟨by omega, by omega⟩, ⟨by omega, by omega⟩, (fun _ => crd), (fun h => absurd h (by decide)), (fun h => absurd h (by decide)), (fun _ => ccsr), (fun _ => ⟨caq, crl⟩), (by show (formL 0).number ((formL 0).word i.imm) = i.imm; rw [number0]; exact h.symm)⟩
  rw [e]; exact right_11_end op h1 h2 hk i hop rdl rdh al ah bl bh csrl csrh (ne_false crd) (ne_false ccsr) caq crl w
theorem refRight_12 (op : Nat) (h1 : 1 ≤ op) (h2 : op ≤ 113) (hk : frmT op = 12) (i : Ins) (hop : i.op = op) (rdl : ¬ i.rd < 0) (rdh : ¬ 31 < i.rd) (al : ¬ i.a < 0) (ah : ¬ 31 < i.a) (bl : ¬ i.b < 0) (bh : ¬ 31 < i.b) (csrl : ¬ i.csr < 0) (csrh : ¬ 4095 < i.csr) (q : Bool) (hq : q = true ↔ Right (frm 12) i) (w : World) :
    Calls Tryz.prog 30 #[.agg #[.int .i64 i.op, .int .i64 i.rd, .int .i64 i.a, .int .i64 i.b, .int .i64 i.imm, .int .i64 i.csr, .bool i.aq, .bool i.rl]] w fun e w' => e = .returned (.bool q) ∧ Below w.heap.size w w' := by
  by_cases cb : i.b = 0
  rotate_left
  · rw [no_q hq fun h => cb (h.nb rfl)]; exact right_12_b op h1 h2 hk i hop rdl rdh al ah bl bh csrl csrh  (ne_true cb) w
  cases caq : i.aq
  rotate_left
  · have hx : q = false := no_q hq fun h => by have := (h.nord rfl).1; rw [caq] at this; cases this
    have hy := right_12_aq op h1 h2 hk i hop rdl rdh al ah bl bh csrl csrh (ne_false cb) caq w
    rw [hx]; rw [caq] at hy; exact hy
  rw [← caq]
  cases crl : i.rl
  rotate_left
  · have hx : q = false := no_q hq fun h => by have := (h.nord rfl).2; rw [crl] at this; cases this
    have hy := right_12_rl op h1 h2 hk i hop rdl rdh al ah bl bh csrl csrh (ne_false cb) caq crl w
    rw [hx]; rw [crl] at hy; exact hy
  rw [← crl]
  have e : q = (i.imm == 0) := by
    rw [Bool.eq_iff_iff, hq, beq_iff_eq]
    constructor
    · intro h; have h2 : (formL 0).number ((formL 0).word i.imm) = i.imm := h.imm; rw [number0] at h2; exact h2.symm
    · intro h; exact ⟨⟨by omega, by omega⟩, ⟨by omega, by omega⟩, ⟨by omega, by omega⟩, ⟨by omega, by omega⟩, (fun h => absurd h (by decide)), (fun h => absurd h (by decide)), (fun _ => cb), (fun h => absurd h (by decide)), (fun _ => ⟨caq, crl⟩), (by show (formL 0).number ((formL 0).word i.imm) = i.imm; rw [number0]; exact h.symm)⟩
  rw [e]; exact right_12_end op h1 h2 hk i hop rdl rdh al ah bl bh csrl csrh (ne_false cb) caq crl w
theorem refRight_13 (op : Nat) (h1 : 1 ≤ op) (h2 : op ≤ 113) (hk : frmT op = 13) (i : Ins) (hop : i.op = op) (rdl : ¬ i.rd < 0) (rdh : ¬ 31 < i.rd) (al : ¬ i.a < 0) (ah : ¬ 31 < i.a) (bl : ¬ i.b < 0) (bh : ¬ 31 < i.b) (csrl : ¬ i.csr < 0) (csrh : ¬ 4095 < i.csr) (q : Bool) (hq : q = true ↔ Right (frm 13) i) (w : World) :
    Calls Tryz.prog 30 #[.agg #[.int .i64 i.op, .int .i64 i.rd, .int .i64 i.a, .int .i64 i.b, .int .i64 i.imm, .int .i64 i.csr, .bool i.aq, .bool i.rl]] w fun e w' => e = .returned (.bool q) ∧ Below w.heap.size w w' := by
  by_cases ca : i.a = 0
  rotate_left
  · rw [no_q hq fun h => ca (h.na rfl)]; exact right_13_a op h1 h2 hk i hop rdl rdh al ah bl bh csrl csrh  (ne_true ca) w
  by_cases cb : i.b = 0
  rotate_left
  · rw [no_q hq fun h => cb (h.nb rfl)]; exact right_13_b op h1 h2 hk i hop rdl rdh al ah bl bh csrl csrh (ne_false ca) (ne_true cb) w
  cases caq : i.aq
  rotate_left
  · have hx : q = false := no_q hq fun h => by have := (h.nord rfl).1; rw [caq] at this; cases this
    have hy := right_13_aq op h1 h2 hk i hop rdl rdh al ah bl bh csrl csrh (ne_false ca) (ne_false cb) caq w
    rw [hx]; rw [caq] at hy; exact hy
  rw [← caq]
  cases crl : i.rl
  rotate_left
  · have hx : q = false := no_q hq fun h => by have := (h.nord rfl).2; rw [crl] at this; cases this
    have hy := right_13_rl op h1 h2 hk i hop rdl rdh al ah bl bh csrl csrh (ne_false ca) (ne_false cb) caq crl w
    rw [hx]; rw [crl] at hy; exact hy
  rw [← crl]
  have e : q = ((formL 9).number ((formL 9).word i.imm) == i.imm) := by
    rw [Bool.eq_iff_iff, hq, beq_iff_eq]
    constructor
    · intro h; exact h.imm
    · intro h; exact ⟨⟨by omega, by omega⟩, ⟨by omega, by omega⟩, ⟨by omega, by omega⟩, ⟨by omega, by omega⟩, (fun h => absurd h (by decide)), (fun _ => ca), (fun _ => cb), (fun h => absurd h (by decide)), (fun _ => ⟨caq, crl⟩), h⟩
  rw [e]; exact right_13_end op h1 h2 hk i hop rdl rdh al ah bl bh csrl csrh (ne_false ca) (ne_false cb) caq crl w
theorem refRight_14 (op : Nat) (h1 : 1 ≤ op) (h2 : op ≤ 113) (hk : frmT op = 14) (i : Ins) (hop : i.op = op) (rdl : ¬ i.rd < 0) (rdh : ¬ 31 < i.rd) (al : ¬ i.a < 0) (ah : ¬ 31 < i.a) (bl : ¬ i.b < 0) (bh : ¬ 31 < i.b) (csrl : ¬ i.csr < 0) (csrh : ¬ 4095 < i.csr) (q : Bool) (hq : q = true ↔ Right (frm 14) i) (w : World) :
    Calls Tryz.prog 30 #[.agg #[.int .i64 i.op, .int .i64 i.rd, .int .i64 i.a, .int .i64 i.b, .int .i64 i.imm, .int .i64 i.csr, .bool i.aq, .bool i.rl]] w fun e w' => e = .returned (.bool q) ∧ Below w.heap.size w w' := by
  by_cases cb : i.b = 0
  rotate_left
  · rw [no_q hq fun h => cb (h.nb rfl)]; exact right_14_b op h1 h2 hk i hop rdl rdh al ah bl bh csrl csrh  (ne_true cb) w
  by_cases ccsr : i.csr = 0
  rotate_left
  · rw [no_q hq fun h => ccsr (h.ncsr rfl)]; exact right_14_csr op h1 h2 hk i hop rdl rdh al ah bl bh csrl csrh (ne_false cb) (ne_true ccsr) w
  cases caq : i.aq
  rotate_left
  · have hx : q = false := no_q hq fun h => by have := (h.nord rfl).1; rw [caq] at this; cases this
    have hy := right_14_aq op h1 h2 hk i hop rdl rdh al ah bl bh csrl csrh (ne_false cb) (ne_false ccsr) caq w
    rw [hx]; rw [caq] at hy; exact hy
  rw [← caq]
  cases crl : i.rl
  rotate_left
  · have hx : q = false := no_q hq fun h => by have := (h.nord rfl).2; rw [crl] at this; cases this
    have hy := right_14_rl op h1 h2 hk i hop rdl rdh al ah bl bh csrl csrh (ne_false cb) (ne_false ccsr) caq crl w
    rw [hx]; rw [crl] at hy; exact hy
  rw [← crl]
  have e : q = (i.imm == 0) := by
    rw [Bool.eq_iff_iff, hq, beq_iff_eq]
    constructor
    · intro h; have h2 : (formL 0).number ((formL 0).word i.imm) = i.imm := h.imm; rw [number0] at h2; exact h2.symm
    · intro h; exact ⟨⟨by omega, by omega⟩, ⟨by omega, by omega⟩, ⟨by omega, by omega⟩, ⟨by omega, by omega⟩, (fun h => absurd h (by decide)), (fun h => absurd h (by decide)), (fun _ => cb), (fun _ => ccsr), (fun _ => ⟨caq, crl⟩), (by show (formL 0).number ((formL 0).word i.imm) = i.imm; rw [number0]; exact h.symm)⟩
  rw [e]; exact right_14_end op h1 h2 hk i hop rdl rdh al ah bl bh csrl csrh (ne_false cb) (ne_false ccsr) caq crl w
theorem refRight_at (k : Nat) (hk15 : k < 15) (op : Nat) (h1 : 1 ≤ op) (h2 : op ≤ 113) (hk : frmT op = k) (i : Ins) (hop : i.op = op) (rdl : ¬ i.rd < 0) (rdh : ¬ 31 < i.rd) (al : ¬ i.a < 0) (ah : ¬ 31 < i.a) (bl : ¬ i.b < 0) (bh : ¬ 31 < i.b) (csrl : ¬ i.csr < 0) (csrh : ¬ 4095 < i.csr) (q : Bool) (hq : q = true ↔ Right (frm k) i) (w : World) :
    Calls Tryz.prog 30 #[.agg #[.int .i64 i.op, .int .i64 i.rd, .int .i64 i.a, .int .i64 i.b, .int .i64 i.imm, .int .i64 i.csr, .bool i.aq, .bool i.rl]] w fun e w' => e = .returned (.bool q) ∧ Below w.heap.size w w' :=
  match k, hk15, hk, hq with
  | 0, _, hk, hq => refRight_0 op h1 h2 hk i hop rdl rdh al ah bl bh csrl csrh q hq w
  | 1, _, hk, hq => refRight_1 op h1 h2 hk i hop rdl rdh al ah bl bh csrl csrh q hq w
  | 2, _, hk, hq => refRight_2 op h1 h2 hk i hop rdl rdh al ah bl bh csrl csrh q hq w
  | 3, _, hk, hq => refRight_3 op h1 h2 hk i hop rdl rdh al ah bl bh csrl csrh q hq w
  | 4, _, hk, hq => refRight_4 op h1 h2 hk i hop rdl rdh al ah bl bh csrl csrh q hq w
  | 5, _, hk, hq => refRight_5 op h1 h2 hk i hop rdl rdh al ah bl bh csrl csrh q hq w
  | 6, _, hk, hq => refRight_6 op h1 h2 hk i hop rdl rdh al ah bl bh csrl csrh q hq w
  | 7, _, hk, hq => refRight_7 op h1 h2 hk i hop rdl rdh al ah bl bh csrl csrh q hq w
  | 8, _, hk, hq => refRight_8 op h1 h2 hk i hop rdl rdh al ah bl bh csrl csrh q hq w
  | 9, _, hk, hq => refRight_9 op h1 h2 hk i hop rdl rdh al ah bl bh csrl csrh q hq w
  | 10, _, hk, hq => refRight_10 op h1 h2 hk i hop rdl rdh al ah bl bh csrl csrh q hq w
  | 11, _, hk, hq => refRight_11 op h1 h2 hk i hop rdl rdh al ah bl bh csrl csrh q hq w
  | 12, _, hk, hq => refRight_12 op h1 h2 hk i hop rdl rdh al ah bl bh csrl csrh q hq w
  | 13, _, hk, hq => refRight_13 op h1 h2 hk i hop rdl rdh al ah bl bh csrl csrh q hq w
  | 14, _, hk, hq => refRight_14 op h1 h2 hk i hop rdl rdh al ah bl bh csrl csrh q hq w
  | k + 15, h, _, _ => absurd h (by omega)
theorem refRight_any (op : Nat) (h1 : 1 ≤ op) (h2 : op ≤ 113) (i : Ins) (hop : i.op = op) (q : Bool) (hq : q = true ↔ Right (fT op) i) (w : World) :
    Calls Tryz.prog 30 #[.agg #[.int .i64 i.op, .int .i64 i.rd, .int .i64 i.a, .int .i64 i.b, .int .i64 i.imm, .int .i64 i.csr, .bool i.aq, .bool i.rl]] w fun e w' => e = .returned (.bool q) ∧ Below w.heap.size w w' := by
  by_cases rdl : i.rd < 0
  · rw [no_q hq fun h => by have := h.rd; omega]; exact right_rd_lo op h1 h2 i hop  rdl w
  by_cases rdh : 31 < i.rd
  · rw [no_q hq fun h => by have := h.rd; omega]; exact right_rd_hi op h1 h2 i hop rdl rdh w
  by_cases al : i.a < 0
  · rw [no_q hq fun h => by have := h.a; omega]; exact right_a_lo op h1 h2 i hop rdl rdh al w
  by_cases ah : 31 < i.a
  · rw [no_q hq fun h => by have := h.a; omega]; exact right_a_hi op h1 h2 i hop rdl rdh al ah w
  by_cases bl : i.b < 0
  · rw [no_q hq fun h => by have := h.b; omega]; exact right_b_lo op h1 h2 i hop rdl rdh al ah bl w
  by_cases bh : 31 < i.b
  · rw [no_q hq fun h => by have := h.b; omega]; exact right_b_hi op h1 h2 i hop rdl rdh al ah bl bh w
  by_cases csrl : i.csr < 0
  · rw [no_q hq fun h => by have := h.csr; omega]; exact right_csr_lo op h1 h2 i hop rdl rdh al ah bl bh csrl w
  by_cases csrh : 4095 < i.csr
  · rw [no_q hq fun h => by have := h.csr; omega]; exact right_csr_hi op h1 h2 i hop rdl rdh al ah bl bh csrl csrh w
  exact refRight_at (frmT op) (tab_form op (by omega) h1) op h1 h2 rfl i hop rdl rdh al ah bl bh csrl csrh q hq w

end Go.Proofs.YtakdhdaoklcidaaGreatDoor

namespace Go.Proofs.YtakdhdaoklcidaaGreatDoor
open Go.RowKit Go.Lib
set_option linter.unusedVariables false
set_option maxRecDepth 100000

theorem bcat2 (a b : Bs) : ((⟨a.toArray⟩ : ByteArray) ++ ⟨b.toArray⟩) = ⟨(a ++ b).toArray⟩ := by
  have e := str_cat a b
  injection e
theorem refRightB (i : Ins) (w : World) : Calls Tryz.prog 30 #[insV i] w fun e w' => e = .returned (.bool (rightB i)) ∧ Below w.heap.size w w' := by
  by_cases c : 1 ≤ i.op ∧ i.op ≤ 113
  · have e : i.op = (i.op.toNat : Int) := by omega
    refine refRight_any i.op.toNat (by omega) (by omega) i e (rightB i) ⟨fun h => (rightT_of h).2.2.2, fun h => (rightB_of ⟨by omega, by omega, e, h⟩).1⟩ w
  · have h : rightB i = false := by
      cases h : rightB i
      · rfl
      · obtain ⟨h1, h2, h3, _⟩ := rightT_of h
        omega
    rw [h]; exact right_op i c w
theorem tail_snoc (s : Bs) (os : List Bs) (o : Bs) : tailT s (os ++ [o]) = tailT s os ++ (if os = [] then s else sepC) ++ o := by
  induction os generalizing s with
  | nil => simp [tailT]
  | cons p os ih =>
    show s ++ p ++ tailT sepC (os ++ [o]) = s ++ p ++ tailT sepC os ++ (if p :: os = [] then s else sepC) ++ o
    rw [ih, if_neg (by simp : ¬ p :: os = [])]
    have e : (if os = [] then sepC else sepC) = sepC := by split <;> rfl
    rw [e]; simp
theorem line_snoc (n : Bs) (os : List Bs) (o : Bs) : lineT n (os ++ [o]) = lineT n os ++ ((if os = [] then [32] else sepC) ++ o) := by unfold lineT; rw [tail_snoc]; simp
theorem sum_ops {os : List Bs} (h : ∀ o ∈ os, o.length ≤ 30) : (os.map fun o => o.length + 2).sum ≤ 32 * os.length := by
  induction os with
  | nil => simp
  | cons o os ih =>
    have h1 := h o List.mem_cons_self
    have h2 := ih (fun x hx => h x (List.mem_cons_of_mem _ hx))
    simp only [List.map_cons, List.sum_cons, List.length_cons]
    omega
theorem letters_ok : ∀ f, f < 15 → (lettersT f).length ≤ 3 ∧ ∀ c ∈ lettersT f, c = 114 ∨ c = 97 ∨ c = 98 ∨ c = 105 ∨ c = 99 := by decide +kernel
set_option maxHeartbeats 1000000 in
theorem rprint_no (i : Ins) (hr : rightB i = false) (w : World) : Calls Tryz.prog 11 #[insV i] w fun e w' => e = .returned (.tuple #[str [], .int .i64 80]) ∧ Below w.heap.size w w' := by
  have hR := fun w => refRightB i w
  rw [hr] at hR
  have HR := Lib.hid hR
  clear hR hr
  obtain ⟨op, rd, a, b, imm, csr, aq, rl⟩ := i
  go_enter Tryz.func11, Tryz.ntmps11
  go_wp2_with (go_at_call 30; (with_reducible refine (HR.out _).mono ?_); rintro e1 w1 ⟨rfl, hb1⟩; have HB := Lib.hid (((Below.refl _ _).alloc (Nat.le_refl _) (.cells #[.int .i64 op, .int .i64 rd, .int .i64 a, .int .i64 b, .int .i64 imm, .int .i64 csr, .bool aq, .bool rl] 23)).trans (hb1.mono (by simp))); clear hb1)
  go_ret2
  exact ⟨rfl, HB.out⟩

set_option maxHeartbeats 4000000 in
theorem rprint_true_true (op rd a b imm csr : Int) (NB Lt : Bs) (mk mt lt : Int) (hNB : NB.length ≤ 12) (hLt : Lt.length ≤ 3) (hch : ∀ c ∈ Lt, c = 114 ∨ c = 97 ∨ c = 98 ∨ c = 105 ∨ c = 99) (hop : ∀ c, (opOf ⟨op, rd, a, b, imm, csr, true, true⟩ c).length ≤ 30)
    (hR : ∀ w, Calls Tryz.prog 30 #[.agg #[.int .i64 op, .int .i64 rd, .int .i64 a, .int .i64 b, .int .i64 imm, .int .i64 csr, .bool true, .bool true]] w fun e w' => e = .returned (.bool true) ∧ Below w.heap.size w w')
    (hW : ∀ w, Calls Tryz.prog 31 #[.int .i64 op] w fun e w' => e = .returned (.agg #[str NB, .int .u32 mk, .int .u32 mt, .int .u8 lt]) ∧ Below w.heap.size w w')
    (hL : ∀ w, Calls Tryz.prog 32 #[.int .u8 lt] w fun e w' => e = .returned (str Lt) ∧ w = w')
    (hD : ∀ n, n = rd ∨ n = a ∨ n = b ∨ n = imm ∨ n = csr → ∀ w, Calls Tryz.prog 33 #[.int .i64 n] w fun e w' => e = .returned (str (itoa n)) ∧ Below w.heap.size w w') (w : World) :
    Calls Tryz.prog 11 #[.agg #[.int .i64 op, .int .i64 rd, .int .i64 a, .int .i64 b, .int .i64 imm, .int .i64 csr, .bool true, .bool true]] w fun e w' => e = .returned (.tuple #[str (lineT (NB ++ ([46, 97, 113, 114, 108] : Bs)) (Lt.map (opOf ⟨op, rd, a, b, imm, csr, true, true⟩))), .int .i64 0]) ∧ Below w.heap.size w w' := by
  have HR := Lib.hid hR; have HW := Lib.hid hW; have HL := Lib.hid hL; have HD := Lib.hid hD; have HCH := Lib.hid hch; have HOP := Lib.hid hop
  clear hR hW hL hD hch hop
  go_enter Tryz.func11, Tryz.ntmps11
  go_wp2_with (fail)
  (with_reducible refine (HR.out _).mono ?_)
  rintro e w1 ⟨rfl, hb1⟩
  have HI1 := Lib.hid ((hb1.block _ (by simp)).trans (heap_alloc_new w (.cells #[.int .i64 op, .int .i64 rd, .int .i64 a, .int .i64 b, .int .i64 imm, .int .i64 csr, .bool true, .bool true] 23)))
  have hz1 : w.heap.size < w1.heap.size := by have := hb1.size; simp at this; omega
  have HB1 := Lib.hid (((Below.refl _ _).alloc (Nat.le_refl _) (.cells #[.int .i64 op, .int .i64 rd, .int .i64 a, .int .i64 b, .int .i64 imm, .int .i64 csr, .bool true, .bool true] 23)).trans (hb1.mono (by simp)))
  clear hb1
  have x0 : w1.cell? ⟨w.heap.size, 0, none⟩ = some (.int .i64 op) := by rw [Lib.cell_of_heap HI1.out]; rfl
  go_wp2_with (fail)
  (with_reducible refine (HW.out _).mono ?_)
  rintro e w2 ⟨rfl, hb2⟩
  have HI2 := Lib.hid ((hb2.block _ hz1).trans HI1.out)
  have hz2 : w.heap.size < w2.heap.size := Nat.lt_of_lt_of_le hz1 hb2.size
  have HB2 := Lib.hid (HB1.out.trans (hb2.mono HB1.out.size))
  clear x0 hb2
  have x6 : w2.cell? ⟨w.heap.size, 6, none⟩ = some (.bool true) := by rw [Lib.cell_of_heap HI2.out]; rfl
  have x7 : w2.cell? ⟨w.heap.size, 7, none⟩ = some (.bool true) := by rw [Lib.cell_of_heap HI2.out]; rfl
  go_wp2_with (go_at_call 32; (with_reducible refine (HL.out _).mono ?_); rintro e wu ⟨rfl, rfl⟩)
  have HB3 : Hid (Below w.heap.size w (w2.alloc (.cells #[str NB, .int .u32 mk, .int .u32 mt, .int .u8 lt] 59))) := Lib.hid (HB2.out.alloc HB2.out.size _)
  have HI3 : Hid ((w2.alloc (.cells #[str NB, .int .u32 mk, .int .u32 mt, .int .u8 lt] 59)).heap[w.heap.size]? = some (.cells #[.int .i64 op, .int .i64 rd, .int .i64 a, .int .i64 b, .int .i64 imm, .int .i64 csr, .bool true, .bool true] 23 (0, 0))) := Lib.hid ((Below.heap_alloc _ _ _ hz2).trans HI2.out)
  have hz3 : w.heap.size < (w2.alloc (.cells #[str NB, .int .u32 mk, .int .u32 mt, .int .u8 lt] 59)).heap.size := by rw [World.size_alloc]; omega
  generalize w2.alloc (.cells #[str NB, .int .u32 mk, .int .u32 mt, .int .u8 lt] 59) = w3 at *
  clear x6 x7
  generalize hO : opOf ⟨op, rd, a, b, imm, csr, true, true⟩ = O at *
  have HO := Lib.hid hO
  clear hO
  have hnm : (NB ++ ([46, 97, 113, 114, 108] : Bs)).length ≤ 17 := by first | (simp; omega) | omega
  go_loopw [5, 7] (fun s k wr => ∃ j : Nat, j ≤ Lt.length ∧ k = .int .i64 j ∧ s = str (lineT (NB ++ ([46, 97, 113, 114, 108] : Bs)) ((Lt.map O).take j)) ∧ wr.heap[w.heap.size]? = some (.cells #[.int .i64 op, .int .i64 rd, .int .i64 a, .int .i64 b, .int .i64 imm, .int .i64 csr, .bool true, .bool true] 23 (0, 0)) ∧ Below w.heap.size w wr ∧ w.heap.size < wr.heap.size) (fun _ k _ => Lt.length - (RowKit.intOf k).toNat)
  case atStart => exact ⟨0, Nat.zero_le _, rfl, by show Value.string (⟨NB.toArray⟩ ++ ⟨([46, 97, 113, 114, 108] : Bs).toArray⟩) = _; rw [str_cat]; simp [lineT, tailT], HI3.out, HB3.out, hz3⟩
  case round =>
    obtain ⟨j, hj, rfl, rfl, hI, hB, hz⟩ := hrel
    have HI := Lib.hid hI
    have HB := Lib.hid hB
    clear hB
    by_cases hlt : j < Lt.length
    · have hTl : (lineT (NB ++ ([46, 97, 113, 114, 108] : Bs)) ((Lt.map O).take j)).length ≤ 200 := by
        have h1 := lineT_len (NB ++ ([46, 97, 113, 114, 108] : Bs)) ((Lt.map O).take j)
        have h2 := sum_ops (os := (Lt.map O).take j) (fun o ho => by obtain ⟨c, _, rfl⟩ := List.mem_map.1 (List.mem_of_mem_take ho); exact HOP.out c)
        have h3 : ((Lt.map O).take j).length ≤ 3 := by rw [List.length_take, List.length_map]; omega
        omega
      have hcm := HCH.out Lt[j] (List.getElem_mem hlt)
      have HNX : Hid (lineT (NB ++ ([46, 97, 113, 114, 108] : Bs)) ((Lt.map O).take (j + 1)) = lineT (NB ++ ([46, 97, 113, 114, 108] : Bs)) ((Lt.map O).take j) ++ ((if j = 0 then [32] else [44, 32]) ++ O Lt[j])) := Lib.hid (by
        have e : (Lt.map O).take (j + 1) = (Lt.map O).take j ++ [O Lt[j]] := by rw [List.take_succ_eq_append_getElem (by rw [List.length_map]; exact hlt), List.getElem_map]
        rw [e, line_snoc]
        by_cases h0 : j = 0
        · subst h0; rfl
        · rw [if_neg h0, if_neg (by intro h; have := congrArg List.length h; rw [List.length_take, List.length_map] at this; simp only [List.length_nil] at this; omega)]; rfl)
      generalize lineT (NB ++ ([46, 97, 113, 114, 108] : Bs)) ((Lt.map O).take j) = T at *
      have hix : ((⟨Lt.toArray⟩ : ByteArray)[j]'(by show j < Lt.toArray.size; rw [List.size_toArray]; exact hlt)) = Lt[j] := rfl
      generalize Lt[j] = c at *
      have x1 : wr.cell? ⟨w.heap.size, 1, none⟩ = some (.int .i64 rd) := by rw [Lib.cell_of_heap HI.out]; rfl
      have x2 : wr.cell? ⟨w.heap.size, 2, none⟩ = some (.int .i64 a) := by rw [Lib.cell_of_heap HI.out]; rfl
      have x3 : wr.cell? ⟨w.heap.size, 3, none⟩ = some (.int .i64 b) := by rw [Lib.cell_of_heap HI.out]; rfl
      have x4 : wr.cell? ⟨w.heap.size, 4, none⟩ = some (.int .i64 imm) := by rw [Lib.cell_of_heap HI.out]; rfl
      have x5 : wr.cell? ⟨w.heap.size, 5, none⟩ = some (.int .i64 csr) := by rw [Lib.cell_of_heap HI.out]; rfl
      rcases hcm with rfl | rfl | rfl | rfl | rfl
      · have hoc : O 114 = xr rd := by rw [← HO.out]; rfl
        rw [hoc] at HNX
        clear hoc
        have HDX := Lib.hid (fun w => HD.out rd (by simp) w)
        have hdl : (itoa rd).length ≤ 30 := by have := HOP.out 114; rw [← HO.out] at this; exact Nat.le_trans (by show (itoa rd).length ≤ (xr rd).length; simp [xr]) this
        by_cases hj0 : j = 0
        · subst hj0
          rw [if_pos rfl] at HNX
          go_wp2_with (fail)
          (with_reducible refine (HDX.out _).mono ?_)
          rintro e w5 ⟨rfl, hb5⟩
          have HB5 := Lib.hid (HB.out.trans (hb5.mono HB.out.size))
          have HI5 := Lib.hid ((hb5.block _ hz).trans HI.out)
          have hz5 : w.heap.size < w5.heap.size := Nat.lt_of_lt_of_le hz hb5.size
          clear x1 x2 x3 x4 x5 hb5
          go_wp2
          case roundEnd => exact ⟨⟨1, by omega, rfl, by rw [HNX.out]; show Value.string (((⟨T.toArray⟩ ++ ⟨([32] : Bs).toArray⟩) ++ ⟨([120] : Bs).toArray⟩) ++ ⟨(itoa rd).toArray⟩) = _; simp only [bcat2]; simp [xr], HI5.out, HB5.out, hz5⟩, by simp [RowKit.intOf]; omega⟩
          all_goals (exfalso; omega)
        · have hj1 : ((j : Int) == 0) = false := beq_eq_false_iff_ne.2 (by omega)
          rw [if_neg hj0] at HNX
          go_wp2_with (fail)
          (with_reducible refine (HDX.out _).mono ?_)
          rintro e w5 ⟨rfl, hb5⟩
          have HB5 := Lib.hid (HB.out.trans (hb5.mono HB.out.size))
          have HI5 := Lib.hid ((hb5.block _ hz).trans HI.out)
          have hz5 : w.heap.size < w5.heap.size := Nat.lt_of_lt_of_le hz hb5.size
          clear x1 x2 x3 x4 x5 hb5
          go_wp2
          case roundEnd => exact ⟨⟨j + 1, by omega, rfl, by rw [HNX.out]; show Value.string (((⟨T.toArray⟩ ++ ⟨([44, 32] : Bs).toArray⟩) ++ ⟨([120] : Bs).toArray⟩) ++ ⟨(itoa rd).toArray⟩) = _; simp only [bcat2]; simp [xr], HI5.out, HB5.out, hz5⟩, by simp [RowKit.intOf]; omega⟩
          all_goals (exfalso; omega)
      · have hoc : O 97 = xr a := by rw [← HO.out]; rfl
        rw [hoc] at HNX
        clear hoc
        have HDX := Lib.hid (fun w => HD.out a (by simp) w)
        have hdl : (itoa a).length ≤ 30 := by have := HOP.out 97; rw [← HO.out] at this; exact Nat.le_trans (by show (itoa a).length ≤ (xr a).length; simp [xr]) this
        by_cases hj0 : j = 0
        · subst hj0
          rw [if_pos rfl] at HNX
          go_wp2_with (fail)
          (with_reducible refine (HDX.out _).mono ?_)
          rintro e w5 ⟨rfl, hb5⟩
          have HB5 := Lib.hid (HB.out.trans (hb5.mono HB.out.size))
          have HI5 := Lib.hid ((hb5.block _ hz).trans HI.out)
          have hz5 : w.heap.size < w5.heap.size := Nat.lt_of_lt_of_le hz hb5.size
          clear x1 x2 x3 x4 x5 hb5
          go_wp2
          case roundEnd => exact ⟨⟨1, by omega, rfl, by rw [HNX.out]; show Value.string (((⟨T.toArray⟩ ++ ⟨([32] : Bs).toArray⟩) ++ ⟨([120] : Bs).toArray⟩) ++ ⟨(itoa a).toArray⟩) = _; simp only [bcat2]; simp [xr], HI5.out, HB5.out, hz5⟩, by simp [RowKit.intOf]; omega⟩
          all_goals (exfalso; omega)
        · have hj1 : ((j : Int) == 0) = false := beq_eq_false_iff_ne.2 (by omega)
          rw [if_neg hj0] at HNX
          go_wp2_with (fail)
          (with_reducible refine (HDX.out _).mono ?_)
          rintro e w5 ⟨rfl, hb5⟩
          have HB5 := Lib.hid (HB.out.trans (hb5.mono HB.out.size))
          have HI5 := Lib.hid ((hb5.block _ hz).trans HI.out)
          have hz5 : w.heap.size < w5.heap.size := Nat.lt_of_lt_of_le hz hb5.size
          clear x1 x2 x3 x4 x5 hb5
          go_wp2
          case roundEnd => exact ⟨⟨j + 1, by omega, rfl, by rw [HNX.out]; show Value.string (((⟨T.toArray⟩ ++ ⟨([44, 32] : Bs).toArray⟩) ++ ⟨([120] : Bs).toArray⟩) ++ ⟨(itoa a).toArray⟩) = _; simp only [bcat2]; simp [xr], HI5.out, HB5.out, hz5⟩, by simp [RowKit.intOf]; omega⟩
          all_goals (exfalso; omega)
      · have hoc : O 98 = xr b := by rw [← HO.out]; rfl
        rw [hoc] at HNX
        clear hoc
        have HDX := Lib.hid (fun w => HD.out b (by simp) w)
        have hdl : (itoa b).length ≤ 30 := by have := HOP.out 98; rw [← HO.out] at this; exact Nat.le_trans (by show (itoa b).length ≤ (xr b).length; simp [xr]) this
        by_cases hj0 : j = 0
        · subst hj0
          rw [if_pos rfl] at HNX
          go_wp2_with (fail)
          (with_reducible refine (HDX.out _).mono ?_)
          rintro e w5 ⟨rfl, hb5⟩
          have HB5 := Lib.hid (HB.out.trans (hb5.mono HB.out.size))
          have HI5 := Lib.hid ((hb5.block _ hz).trans HI.out)
          have hz5 : w.heap.size < w5.heap.size := Nat.lt_of_lt_of_le hz hb5.size
          clear x1 x2 x3 x4 x5 hb5
          go_wp2
          case roundEnd => exact ⟨⟨1, by omega, rfl, by rw [HNX.out]; show Value.string (((⟨T.toArray⟩ ++ ⟨([32] : Bs).toArray⟩) ++ ⟨([120] : Bs).toArray⟩) ++ ⟨(itoa b).toArray⟩) = _; simp only [bcat2]; simp [xr], HI5.out, HB5.out, hz5⟩, by simp [RowKit.intOf]; omega⟩
          all_goals (exfalso; omega)
        · have hj1 : ((j : Int) == 0) = false := beq_eq_false_iff_ne.2 (by omega)
          rw [if_neg hj0] at HNX
          go_wp2_with (fail)
          (with_reducible refine (HDX.out _).mono ?_)
          rintro e w5 ⟨rfl, hb5⟩
          have HB5 := Lib.hid (HB.out.trans (hb5.mono HB.out.size))
          have HI5 := Lib.hid ((hb5.block _ hz).trans HI.out)
          have hz5 : w.heap.size < w5.heap.size := Nat.lt_of_lt_of_le hz hb5.size
          clear x1 x2 x3 x4 x5 hb5
          go_wp2
          case roundEnd => exact ⟨⟨j + 1, by omega, rfl, by rw [HNX.out]; show Value.string (((⟨T.toArray⟩ ++ ⟨([44, 32] : Bs).toArray⟩) ++ ⟨([120] : Bs).toArray⟩) ++ ⟨(itoa b).toArray⟩) = _; simp only [bcat2]; simp [xr], HI5.out, HB5.out, hz5⟩, by simp [RowKit.intOf]; omega⟩
          all_goals (exfalso; omega)
      · have hoc : O 105 = itoa imm := by rw [← HO.out]; rfl
        rw [hoc] at HNX
        clear hoc
        have HDX := Lib.hid (fun w => HD.out imm (by simp) w)
        have hdl : (itoa imm).length ≤ 30 := by have := HOP.out 105; rw [← HO.out] at this; exact Nat.le_trans (by show (itoa imm).length ≤ (itoa imm).length; simp [xr]) this
        by_cases hj0 : j = 0
        · subst hj0
          rw [if_pos rfl] at HNX
          go_wp2_with (fail)
          (with_reducible refine (HDX.out _).mono ?_)
          rintro e w5 ⟨rfl, hb5⟩
          have HB5 := Lib.hid (HB.out.trans (hb5.mono HB.out.size))
          have HI5 := Lib.hid ((hb5.block _ hz).trans HI.out)
          have hz5 : w.heap.size < w5.heap.size := Nat.lt_of_lt_of_le hz hb5.size
          clear x1 x2 x3 x4 x5 hb5
          go_wp2
          case roundEnd => exact ⟨⟨1, by omega, rfl, by rw [HNX.out]; show Value.string (((⟨T.toArray⟩ ++ ⟨([32] : Bs).toArray⟩)) ++ ⟨(itoa imm).toArray⟩) = _; simp only [bcat2]; simp [xr], HI5.out, HB5.out, hz5⟩, by simp [RowKit.intOf]; omega⟩
          all_goals (exfalso; omega)
        · have hj1 : ((j : Int) == 0) = false := beq_eq_false_iff_ne.2 (by omega)
          rw [if_neg hj0] at HNX
          go_wp2_with (fail)
          (with_reducible refine (HDX.out _).mono ?_)
          rintro e w5 ⟨rfl, hb5⟩
          have HB5 := Lib.hid (HB.out.trans (hb5.mono HB.out.size))
          have HI5 := Lib.hid ((hb5.block _ hz).trans HI.out)
          have hz5 : w.heap.size < w5.heap.size := Nat.lt_of_lt_of_le hz hb5.size
          clear x1 x2 x3 x4 x5 hb5
          go_wp2
          case roundEnd => exact ⟨⟨j + 1, by omega, rfl, by rw [HNX.out]; show Value.string (((⟨T.toArray⟩ ++ ⟨([44, 32] : Bs).toArray⟩)) ++ ⟨(itoa imm).toArray⟩) = _; simp only [bcat2]; simp [xr], HI5.out, HB5.out, hz5⟩, by simp [RowKit.intOf]; omega⟩
          all_goals (exfalso; omega)
      · have hoc : O 99 = itoa csr := by rw [← HO.out]; rfl
        rw [hoc] at HNX
        clear hoc
        have HDX := Lib.hid (fun w => HD.out csr (by simp) w)
        have hdl : (itoa csr).length ≤ 30 := by have := HOP.out 99; rw [← HO.out] at this; exact Nat.le_trans (by show (itoa csr).length ≤ (itoa csr).length; simp [xr]) this
        by_cases hj0 : j = 0
        · subst hj0
          rw [if_pos rfl] at HNX
          go_wp2_with (fail)
          (with_reducible refine (HDX.out _).mono ?_)
          rintro e w5 ⟨rfl, hb5⟩
          have HB5 := Lib.hid (HB.out.trans (hb5.mono HB.out.size))
          have HI5 := Lib.hid ((hb5.block _ hz).trans HI.out)
          have hz5 : w.heap.size < w5.heap.size := Nat.lt_of_lt_of_le hz hb5.size
          clear x1 x2 x3 x4 x5 hb5
          go_wp2
          case roundEnd => exact ⟨⟨1, by omega, rfl, by rw [HNX.out]; show Value.string (((⟨T.toArray⟩ ++ ⟨([32] : Bs).toArray⟩)) ++ ⟨(itoa csr).toArray⟩) = _; simp only [bcat2]; simp [xr], HI5.out, HB5.out, hz5⟩, by simp [RowKit.intOf]; omega⟩
          all_goals (exfalso; omega)
        · have hj1 : ((j : Int) == 0) = false := beq_eq_false_iff_ne.2 (by omega)
          rw [if_neg hj0] at HNX
          go_wp2_with (fail)
          (with_reducible refine (HDX.out _).mono ?_)
          rintro e w5 ⟨rfl, hb5⟩
          have HB5 := Lib.hid (HB.out.trans (hb5.mono HB.out.size))
          have HI5 := Lib.hid ((hb5.block _ hz).trans HI.out)
          have hz5 : w.heap.size < w5.heap.size := Nat.lt_of_lt_of_le hz hb5.size
          clear x1 x2 x3 x4 x5 hb5
          go_wp2
          case roundEnd => exact ⟨⟨j + 1, by omega, rfl, by rw [HNX.out]; show Value.string (((⟨T.toArray⟩ ++ ⟨([44, 32] : Bs).toArray⟩)) ++ ⟨(itoa csr).toArray⟩) = _; simp only [bcat2]; simp [xr], HI5.out, HB5.out, hz5⟩, by simp [RowKit.intOf]; omega⟩
          all_goals (exfalso; omega)
    · obtain rfl : j = Lt.length := by omega
      have e : (Lt.map O).take Lt.length = Lt.map O := List.take_of_length_le (by rw [List.length_map]; exact Nat.le_refl _)
      rw [e]
      go_wp2
      go_ret2
      have h := HO.out
      subst h
      exact ⟨rfl, HB.out⟩

set_option maxHeartbeats 4000000 in
theorem rprint_true_false (op rd a b imm csr : Int) (NB Lt : Bs) (mk mt lt : Int) (hNB : NB.length ≤ 12) (hLt : Lt.length ≤ 3) (hch : ∀ c ∈ Lt, c = 114 ∨ c = 97 ∨ c = 98 ∨ c = 105 ∨ c = 99) (hop : ∀ c, (opOf ⟨op, rd, a, b, imm, csr, true, false⟩ c).length ≤ 30)
    (hR : ∀ w, Calls Tryz.prog 30 #[.agg #[.int .i64 op, .int .i64 rd, .int .i64 a, .int .i64 b, .int .i64 imm, .int .i64 csr, .bool true, .bool false]] w fun e w' => e = .returned (.bool true) ∧ Below w.heap.size w w')
    (hW : ∀ w, Calls Tryz.prog 31 #[.int .i64 op] w fun e w' => e = .returned (.agg #[str NB, .int .u32 mk, .int .u32 mt, .int .u8 lt]) ∧ Below w.heap.size w w')
    (hL : ∀ w, Calls Tryz.prog 32 #[.int .u8 lt] w fun e w' => e = .returned (str Lt) ∧ w = w')
    (hD : ∀ n, n = rd ∨ n = a ∨ n = b ∨ n = imm ∨ n = csr → ∀ w, Calls Tryz.prog 33 #[.int .i64 n] w fun e w' => e = .returned (str (itoa n)) ∧ Below w.heap.size w w') (w : World) :
    Calls Tryz.prog 11 #[.agg #[.int .i64 op, .int .i64 rd, .int .i64 a, .int .i64 b, .int .i64 imm, .int .i64 csr, .bool true, .bool false]] w fun e w' => e = .returned (.tuple #[str (lineT (NB ++ ([46, 97, 113] : Bs)) (Lt.map (opOf ⟨op, rd, a, b, imm, csr, true, false⟩))), .int .i64 0]) ∧ Below w.heap.size w w' := by
  have HR := Lib.hid hR; have HW := Lib.hid hW; have HL := Lib.hid hL; have HD := Lib.hid hD; have HCH := Lib.hid hch; have HOP := Lib.hid hop
  clear hR hW hL hD hch hop
  go_enter Tryz.func11, Tryz.ntmps11
  go_wp2_with (fail)
  (with_reducible refine (HR.out _).mono ?_)
  rintro e w1 ⟨rfl, hb1⟩
  have HI1 := Lib.hid ((hb1.block _ (by simp)).trans (heap_alloc_new w (.cells #[.int .i64 op, .int .i64 rd, .int .i64 a, .int .i64 b, .int .i64 imm, .int .i64 csr, .bool true, .bool false] 23)))
  have hz1 : w.heap.size < w1.heap.size := by have := hb1.size; simp at this; omega
  have HB1 := Lib.hid (((Below.refl _ _).alloc (Nat.le_refl _) (.cells #[.int .i64 op, .int .i64 rd, .int .i64 a, .int .i64 b, .int .i64 imm, .int .i64 csr, .bool true, .bool false] 23)).trans (hb1.mono (by simp)))
  clear hb1
  have x0 : w1.cell? ⟨w.heap.size, 0, none⟩ = some (.int .i64 op) := by rw [Lib.cell_of_heap HI1.out]; rfl
  go_wp2_with (fail)
  (with_reducible refine (HW.out _).mono ?_)
  rintro e w2 ⟨rfl, hb2⟩
  have HI2 := Lib.hid ((hb2.block _ hz1).trans HI1.out)
  have hz2 : w.heap.size < w2.heap.size := Nat.lt_of_lt_of_le hz1 hb2.size
  have HB2 := Lib.hid (HB1.out.trans (hb2.mono HB1.out.size))
  clear x0 hb2
  have x6 : w2.cell? ⟨w.heap.size, 6, none⟩ = some (.bool true) := by rw [Lib.cell_of_heap HI2.out]; rfl
  have x7 : w2.cell? ⟨w.heap.size, 7, none⟩ = some (.bool false) := by rw [Lib.cell_of_heap HI2.out]; rfl
  go_wp2_with (go_at_call 32; (with_reducible refine (HL.out _).mono ?_); rintro e wu ⟨rfl, rfl⟩)
  have HB3 : Hid (Below w.heap.size w (w2.alloc (.cells #[str NB, .int .u32 mk, .int .u32 mt, .int .u8 lt] 59))) := Lib.hid (HB2.out.alloc HB2.out.size _)
  have HI3 : Hid ((w2.alloc (.cells #[str NB, .int .u32 mk, .int .u32 mt, .int .u8 lt] 59)).heap[w.heap.size]? = some (.cells #[.int .i64 op, .int .i64 rd, .int .i64 a, .int .i64 b, .int .i64 imm, .int .i64 csr, .bool true, .bool false] 23 (0, 0))) := Lib.hid ((Below.heap_alloc _ _ _ hz2).trans HI2.out)
  have hz3 : w.heap.size < (w2.alloc (.cells #[str NB, .int .u32 mk, .int .u32 mt, .int .u8 lt] 59)).heap.size := by rw [World.size_alloc]; omega
  generalize w2.alloc (.cells #[str NB, .int .u32 mk, .int .u32 mt, .int .u8 lt] 59) = w3 at *
  clear x6 x7
  generalize hO : opOf ⟨op, rd, a, b, imm, csr, true, false⟩ = O at *
  have HO := Lib.hid hO
  clear hO
  have hnm : (NB ++ ([46, 97, 113] : Bs)).length ≤ 17 := by first | (simp; omega) | omega
  go_loopw [5, 7] (fun s k wr => ∃ j : Nat, j ≤ Lt.length ∧ k = .int .i64 j ∧ s = str (lineT (NB ++ ([46, 97, 113] : Bs)) ((Lt.map O).take j)) ∧ wr.heap[w.heap.size]? = some (.cells #[.int .i64 op, .int .i64 rd, .int .i64 a, .int .i64 b, .int .i64 imm, .int .i64 csr, .bool true, .bool false] 23 (0, 0)) ∧ Below w.heap.size w wr ∧ w.heap.size < wr.heap.size) (fun _ k _ => Lt.length - (RowKit.intOf k).toNat)
  case atStart => exact ⟨0, Nat.zero_le _, rfl, by show Value.string (⟨NB.toArray⟩ ++ ⟨([46, 97, 113] : Bs).toArray⟩) = _; rw [str_cat]; simp [lineT, tailT], HI3.out, HB3.out, hz3⟩
  case round =>
    obtain ⟨j, hj, rfl, rfl, hI, hB, hz⟩ := hrel
    have HI := Lib.hid hI
    have HB := Lib.hid hB
    clear hB
    by_cases hlt : j < Lt.length
    · have hTl : (lineT (NB ++ ([46, 97, 113] : Bs)) ((Lt.map O).take j)).length ≤ 200 := by
        have h1 := lineT_len (NB ++ ([46, 97, 113] : Bs)) ((Lt.map O).take j)
        have h2 := sum_ops (os := (Lt.map O).take j) (fun o ho => by obtain ⟨c, _, rfl⟩ := List.mem_map.1 (List.mem_of_mem_take ho); exact HOP.out c)
        have h3 : ((Lt.map O).take j).length ≤ 3 := by rw [List.length_take, List.length_map]; omega
        omega
      have hcm := HCH.out Lt[j] (List.getElem_mem hlt)
      have HNX : Hid (lineT (NB ++ ([46, 97, 113] : Bs)) ((Lt.map O).take (j + 1)) = lineT (NB ++ ([46, 97, 113] : Bs)) ((Lt.map O).take j) ++ ((if j = 0 then [32] else [44, 32]) ++ O Lt[j])) := Lib.hid (by
        have e : (Lt.map O).take (j + 1) = (Lt.map O).take j ++ [O Lt[j]] := by rw [List.take_succ_eq_append_getElem (by rw [List.length_map]; exact hlt), List.getElem_map]
        rw [e, line_snoc]
        by_cases h0 : j = 0
        · subst h0; rfl
        · rw [if_neg h0, if_neg (by intro h; have := congrArg List.length h; rw [List.length_take, List.length_map] at this; simp only [List.length_nil] at this; omega)]; rfl)
      generalize lineT (NB ++ ([46, 97, 113] : Bs)) ((Lt.map O).take j) = T at *
      have hix : ((⟨Lt.toArray⟩ : ByteArray)[j]'(by show j < Lt.toArray.size; rw [List.size_toArray]; exact hlt)) = Lt[j] := rfl
      generalize Lt[j] = c at *
      have x1 : wr.cell? ⟨w.heap.size, 1, none⟩ = some (.int .i64 rd) := by rw [Lib.cell_of_heap HI.out]; rfl
      have x2 : wr.cell? ⟨w.heap.size, 2, none⟩ = some (.int .i64 a) := by rw [Lib.cell_of_heap HI.out]; rfl
      have x3 : wr.cell? ⟨w.heap.size, 3, none⟩ = some (.int .i64 b) := by rw [Lib.cell_of_heap HI.out]; rfl
      have x4 : wr.cell? ⟨w.heap.size, 4, none⟩ = some (.int .i64 imm) := by rw [Lib.cell_of_heap HI.out]; rfl
      have x5 : wr.cell? ⟨w.heap.size, 5, none⟩ = some (.int .i64 csr) := by rw [Lib.cell_of_heap HI.out]; rfl
      rcases hcm with rfl | rfl | rfl | rfl | rfl
      · have hoc : O 114 = xr rd := by rw [← HO.out]; rfl
        rw [hoc] at HNX
        clear hoc
        have HDX := Lib.hid (fun w => HD.out rd (by simp) w)
        have hdl : (itoa rd).length ≤ 30 := by have := HOP.out 114; rw [← HO.out] at this; exact Nat.le_trans (by show (itoa rd).length ≤ (xr rd).length; simp [xr]) this
        by_cases hj0 : j = 0
        · subst hj0
          rw [if_pos rfl] at HNX
          go_wp2_with (fail)
          (with_reducible refine (HDX.out _).mono ?_)
          rintro e w5 ⟨rfl, hb5⟩
          have HB5 := Lib.hid (HB.out.trans (hb5.mono HB.out.size))
          have HI5 := Lib.hid ((hb5.block _ hz).trans HI.out)
          have hz5 : w.heap.size < w5.heap.size := Nat.lt_of_lt_of_le hz hb5.size
          clear x1 x2 x3 x4 x5 hb5
          go_wp2
          case roundEnd => exact ⟨⟨1, by omega, rfl, by rw [HNX.out]; show Value.string (((⟨T.toArray⟩ ++ ⟨([32] : Bs).toArray⟩) ++ ⟨([120] : Bs).toArray⟩) ++ ⟨(itoa rd).toArray⟩) = _; simp only [bcat2]; simp [xr], HI5.out, HB5.out, hz5⟩, by simp [RowKit.intOf]; omega⟩
          all_goals (exfalso; omega)
        · have hj1 : ((j : Int) == 0) = false := beq_eq_false_iff_ne.2 (by omega)
          rw [if_neg hj0] at HNX
          go_wp2_with (fail)
          (with_reducible refine (HDX.out _).mono ?_)
          rintro e w5 ⟨rfl, hb5⟩
          have HB5 := Lib.hid (HB.out.trans (hb5.mono HB.out.size))
          have HI5 := Lib.hid ((hb5.block _ hz).trans HI.out)
          have hz5 : w.heap.size < w5.heap.size := Nat.lt_of_lt_of_le hz hb5.size
          clear x1 x2 x3 x4 x5 hb5
          go_wp2
          case roundEnd => exact ⟨⟨j + 1, by omega, rfl, by rw [HNX.out]; show Value.string (((⟨T.toArray⟩ ++ ⟨([44, 32] : Bs).toArray⟩) ++ ⟨([120] : Bs).toArray⟩) ++ ⟨(itoa rd).toArray⟩) = _; simp only [bcat2]; simp [xr], HI5.out, HB5.out, hz5⟩, by simp [RowKit.intOf]; omega⟩
          all_goals (exfalso; omega)
      · have hoc : O 97 = xr a := by rw [← HO.out]; rfl
        rw [hoc] at HNX
        clear hoc
        have HDX := Lib.hid (fun w => HD.out a (by simp) w)
        have hdl : (itoa a).length ≤ 30 := by have := HOP.out 97; rw [← HO.out] at this; exact Nat.le_trans (by show (itoa a).length ≤ (xr a).length; simp [xr]) this
        by_cases hj0 : j = 0
        · subst hj0
          rw [if_pos rfl] at HNX
          go_wp2_with (fail)
          (with_reducible refine (HDX.out _).mono ?_)
          rintro e w5 ⟨rfl, hb5⟩
          have HB5 := Lib.hid (HB.out.trans (hb5.mono HB.out.size))
          have HI5 := Lib.hid ((hb5.block _ hz).trans HI.out)
          have hz5 : w.heap.size < w5.heap.size := Nat.lt_of_lt_of_le hz hb5.size
          clear x1 x2 x3 x4 x5 hb5
          go_wp2
          case roundEnd => exact ⟨⟨1, by omega, rfl, by rw [HNX.out]; show Value.string (((⟨T.toArray⟩ ++ ⟨([32] : Bs).toArray⟩) ++ ⟨([120] : Bs).toArray⟩) ++ ⟨(itoa a).toArray⟩) = _; simp only [bcat2]; simp [xr], HI5.out, HB5.out, hz5⟩, by simp [RowKit.intOf]; omega⟩
          all_goals (exfalso; omega)
        · have hj1 : ((j : Int) == 0) = false := beq_eq_false_iff_ne.2 (by omega)
          rw [if_neg hj0] at HNX
          go_wp2_with (fail)
          (with_reducible refine (HDX.out _).mono ?_)
          rintro e w5 ⟨rfl, hb5⟩
          have HB5 := Lib.hid (HB.out.trans (hb5.mono HB.out.size))
          have HI5 := Lib.hid ((hb5.block _ hz).trans HI.out)
          have hz5 : w.heap.size < w5.heap.size := Nat.lt_of_lt_of_le hz hb5.size
          clear x1 x2 x3 x4 x5 hb5
          go_wp2
          case roundEnd => exact ⟨⟨j + 1, by omega, rfl, by rw [HNX.out]; show Value.string (((⟨T.toArray⟩ ++ ⟨([44, 32] : Bs).toArray⟩) ++ ⟨([120] : Bs).toArray⟩) ++ ⟨(itoa a).toArray⟩) = _; simp only [bcat2]; simp [xr], HI5.out, HB5.out, hz5⟩, by simp [RowKit.intOf]; omega⟩
          all_goals (exfalso; omega)
      · have hoc : O 98 = xr b := by rw [← HO.out]; rfl
        rw [hoc] at HNX
        clear hoc
        have HDX := Lib.hid (fun w => HD.out b (by simp) w)
        have hdl : (itoa b).length ≤ 30 := by have := HOP.out 98; rw [← HO.out] at this; exact Nat.le_trans (by show (itoa b).length ≤ (xr b).length; simp [xr]) this
        by_cases hj0 : j = 0
        · subst hj0
          rw [if_pos rfl] at HNX
          go_wp2_with (fail)
          (with_reducible refine (HDX.out _).mono ?_)
          rintro e w5 ⟨rfl, hb5⟩
          have HB5 := Lib.hid (HB.out.trans (hb5.mono HB.out.size))
          have HI5 := Lib.hid ((hb5.block _ hz).trans HI.out)
          have hz5 : w.heap.size < w5.heap.size := Nat.lt_of_lt_of_le hz hb5.size
          clear x1 x2 x3 x4 x5 hb5
          go_wp2
          case roundEnd => exact ⟨⟨1, by omega, rfl, by rw [HNX.out]; show Value.string (((⟨T.toArray⟩ ++ ⟨([32] : Bs).toArray⟩) ++ ⟨([120] : Bs).toArray⟩) ++ ⟨(itoa b).toArray⟩) = _; simp only [bcat2]; simp [xr], HI5.out, HB5.out, hz5⟩, by simp [RowKit.intOf]; omega⟩
          all_goals (exfalso; omega)
        · have hj1 : ((j : Int) == 0) = false := beq_eq_false_iff_ne.2 (by omega)
          rw [if_neg hj0] at HNX
          go_wp2_with (fail)
          (with_reducible refine (HDX.out _).mono ?_)
          rintro e w5 ⟨rfl, hb5⟩
          have HB5 := Lib.hid (HB.out.trans (hb5.mono HB.out.size))
          have HI5 := Lib.hid ((hb5.block _ hz).trans HI.out)
          have hz5 : w.heap.size < w5.heap.size := Nat.lt_of_lt_of_le hz hb5.size
          clear x1 x2 x3 x4 x5 hb5
          go_wp2
          case roundEnd => exact ⟨⟨j + 1, by omega, rfl, by rw [HNX.out]; show Value.string (((⟨T.toArray⟩ ++ ⟨([44, 32] : Bs).toArray⟩) ++ ⟨([120] : Bs).toArray⟩) ++ ⟨(itoa b).toArray⟩) = _; simp only [bcat2]; simp [xr], HI5.out, HB5.out, hz5⟩, by simp [RowKit.intOf]; omega⟩
          all_goals (exfalso; omega)
      · have hoc : O 105 = itoa imm := by rw [← HO.out]; rfl
        rw [hoc] at HNX
        clear hoc
        have HDX := Lib.hid (fun w => HD.out imm (by simp) w)
        have hdl : (itoa imm).length ≤ 30 := by have := HOP.out 105; rw [← HO.out] at this; exact Nat.le_trans (by show (itoa imm).length ≤ (itoa imm).length; simp [xr]) this
        by_cases hj0 : j = 0
        · subst hj0
          rw [if_pos rfl] at HNX
          go_wp2_with (fail)
          (with_reducible refine (HDX.out _).mono ?_)
          rintro e w5 ⟨rfl, hb5⟩
          have HB5 := Lib.hid (HB.out.trans (hb5.mono HB.out.size))
          have HI5 := Lib.hid ((hb5.block _ hz).trans HI.out)
          have hz5 : w.heap.size < w5.heap.size := Nat.lt_of_lt_of_le hz hb5.size
          clear x1 x2 x3 x4 x5 hb5
          go_wp2
          case roundEnd => exact ⟨⟨1, by omega, rfl, by rw [HNX.out]; show Value.string (((⟨T.toArray⟩ ++ ⟨([32] : Bs).toArray⟩)) ++ ⟨(itoa imm).toArray⟩) = _; simp only [bcat2]; simp [xr], HI5.out, HB5.out, hz5⟩, by simp [RowKit.intOf]; omega⟩
          all_goals (exfalso; omega)
        · have hj1 : ((j : Int) == 0) = false := beq_eq_false_iff_ne.2 (by omega)
          rw [if_neg hj0] at HNX
          go_wp2_with (fail)
          (with_reducible refine (HDX.out _).mono ?_)
          rintro e w5 ⟨rfl, hb5⟩
          have HB5 := Lib.hid (HB.out.trans (hb5.mono HB.out.size))
          have HI5 := Lib.hid ((hb5.block _ hz).trans HI.out)
          have hz5 : w.heap.size < w5.heap.size := Nat.lt_of_lt_of_le hz hb5.size
          clear x1 x2 x3 x4 x5 hb5
          go_wp2
          case roundEnd => exact ⟨⟨j + 1, by omega, rfl, by rw [HNX.out]; show Value.string (((⟨T.toArray⟩ ++ ⟨([44, 32] : Bs).toArray⟩)) ++ ⟨(itoa imm).toArray⟩) = _; simp only [bcat2]; simp [xr], HI5.out, HB5.out, hz5⟩, by simp [RowKit.intOf]; omega⟩
          all_goals (exfalso; omega)
      · have hoc : O 99 = itoa csr := by rw [← HO.out]; rfl
        rw [hoc] at HNX
        clear hoc
        have HDX := Lib.hid (fun w => HD.out csr (by simp) w)
        have hdl : (itoa csr).length ≤ 30 := by have := HOP.out 99; rw [← HO.out] at this; exact Nat.le_trans (by show (itoa csr).length ≤ (itoa csr).length; simp [xr]) this
        by_cases hj0 : j = 0
        · subst hj0
          rw [if_pos rfl] at HNX
          go_wp2_with (fail)
          (with_reducible refine (HDX.out _).mono ?_)
          rintro e w5 ⟨rfl, hb5⟩
          have HB5 := Lib.hid (HB.out.trans (hb5.mono HB.out.size))
          have HI5 := Lib.hid ((hb5.block _ hz).trans HI.out)
          have hz5 : w.heap.size < w5.heap.size := Nat.lt_of_lt_of_le hz hb5.size
          clear x1 x2 x3 x4 x5 hb5
          go_wp2
          case roundEnd => exact ⟨⟨1, by omega, rfl, by rw [HNX.out]; show Value.string (((⟨T.toArray⟩ ++ ⟨([32] : Bs).toArray⟩)) ++ ⟨(itoa csr).toArray⟩) = _; simp only [bcat2]; simp [xr], HI5.out, HB5.out, hz5⟩, by simp [RowKit.intOf]; omega⟩
          all_goals (exfalso; omega)
        · have hj1 : ((j : Int) == 0) = false := beq_eq_false_iff_ne.2 (by omega)
          rw [if_neg hj0] at HNX
          go_wp2_with (fail)
          (with_reducible refine (HDX.out _).mono ?_)
          rintro e w5 ⟨rfl, hb5⟩
          have HB5 := Lib.hid (HB.out.trans (hb5.mono HB.out.size))
          have HI5 := Lib.hid ((hb5.block _ hz).trans HI.out)
          have hz5 : w.heap.size < w5.heap.size := Nat.lt_of_lt_of_le hz hb5.size
          clear x1 x2 x3 x4 x5 hb5
          go_wp2
          case roundEnd => exact ⟨⟨j + 1, by omega, rfl, by rw [HNX.out]; show Value.string (((⟨T.toArray⟩ ++ ⟨([44, 32] : Bs).toArray⟩)) ++ ⟨(itoa csr).toArray⟩) = _; simp only [bcat2]; simp [xr], HI5.out, HB5.out, hz5⟩, by simp [RowKit.intOf]; omega⟩
          all_goals (exfalso; omega)
    · obtain rfl : j = Lt.length := by omega
      have e : (Lt.map O).take Lt.length = Lt.map O := List.take_of_length_le (by rw [List.length_map]; exact Nat.le_refl _)
      rw [e]
      go_wp2
      go_ret2
      have h := HO.out
      subst h
      exact ⟨rfl, HB.out⟩

set_option maxHeartbeats 4000000 in
theorem rprint_false_true (op rd a b imm csr : Int) (NB Lt : Bs) (mk mt lt : Int) (hNB : NB.length ≤ 12) (hLt : Lt.length ≤ 3) (hch : ∀ c ∈ Lt, c = 114 ∨ c = 97 ∨ c = 98 ∨ c = 105 ∨ c = 99) (hop : ∀ c, (opOf ⟨op, rd, a, b, imm, csr, false, true⟩ c).length ≤ 30)
    (hR : ∀ w, Calls Tryz.prog 30 #[.agg #[.int .i64 op, .int .i64 rd, .int .i64 a, .int .i64 b, .int .i64 imm, .int .i64 csr, .bool false, .bool true]] w fun e w' => e = .returned (.bool true) ∧ Below w.heap.size w w')
    (hW : ∀ w, Calls Tryz.prog 31 #[.int .i64 op] w fun e w' => e = .returned (.agg #[str NB, .int .u32 mk, .int .u32 mt, .int .u8 lt]) ∧ Below w.heap.size w w')
    (hL : ∀ w, Calls Tryz.prog 32 #[.int .u8 lt] w fun e w' => e = .returned (str Lt) ∧ w = w')
    (hD : ∀ n, n = rd ∨ n = a ∨ n = b ∨ n = imm ∨ n = csr → ∀ w, Calls Tryz.prog 33 #[.int .i64 n] w fun e w' => e = .returned (str (itoa n)) ∧ Below w.heap.size w w') (w : World) :
    Calls Tryz.prog 11 #[.agg #[.int .i64 op, .int .i64 rd, .int .i64 a, .int .i64 b, .int .i64 imm, .int .i64 csr, .bool false, .bool true]] w fun e w' => e = .returned (.tuple #[str (lineT (NB ++ ([46, 114, 108] : Bs)) (Lt.map (opOf ⟨op, rd, a, b, imm, csr, false, true⟩))), .int .i64 0]) ∧ Below w.heap.size w w' := by
  have HR := Lib.hid hR; have HW := Lib.hid hW; have HL := Lib.hid hL; have HD := Lib.hid hD; have HCH := Lib.hid hch; have HOP := Lib.hid hop
  clear hR hW hL hD hch hop
  go_enter Tryz.func11, Tryz.ntmps11
  go_wp2_with (fail)
  (with_reducible refine (HR.out _).mono ?_)
  rintro e w1 ⟨rfl, hb1⟩
  have HI1 := Lib.hid ((hb1.block _ (by simp)).trans (heap_alloc_new w (.cells #[.int .i64 op, .int .i64 rd, .int .i64 a, .int .i64 b, .int .i64 imm, .int .i64 csr, .bool false, .bool true] 23)))
  have hz1 : w.heap.size < w1.heap.size := by have := hb1.size; simp at this; omega
  have HB1 := Lib.hid (((Below.refl _ _).alloc (Nat.le_refl _) (.cells #[.int .i64 op, .int .i64 rd, .int .i64 a, .int .i64 b, .int .i64 imm, .int .i64 csr, .bool false, .bool true] 23)).trans (hb1.mono (by simp)))
  clear hb1
  have x0 : w1.cell? ⟨w.heap.size, 0, none⟩ = some (.int .i64 op) := by rw [Lib.cell_of_heap HI1.out]; rfl
  go_wp2_with (fail)
  (with_reducible refine (HW.out _).mono ?_)
  rintro e w2 ⟨rfl, hb2⟩
  have HI2 := Lib.hid ((hb2.block _ hz1).trans HI1.out)
  have hz2 : w.heap.size < w2.heap.size := Nat.lt_of_lt_of_le hz1 hb2.size
  have HB2 := Lib.hid (HB1.out.trans (hb2.mono HB1.out.size))
  clear x0 hb2
  have x6 : w2.cell? ⟨w.heap.size, 6, none⟩ = some (.bool false) := by rw [Lib.cell_of_heap HI2.out]; rfl
  have x7 : w2.cell? ⟨w.heap.size, 7, none⟩ = some (.bool true) := by rw [Lib.cell_of_heap HI2.out]; rfl
  go_wp2_with (go_at_call 32; (with_reducible refine (HL.out _).mono ?_); rintro e wu ⟨rfl, rfl⟩)
  have HB3 : Hid (Below w.heap.size w (w2.alloc (.cells #[str NB, .int .u32 mk, .int .u32 mt, .int .u8 lt] 59))) := Lib.hid (HB2.out.alloc HB2.out.size _)
  have HI3 : Hid ((w2.alloc (.cells #[str NB, .int .u32 mk, .int .u32 mt, .int .u8 lt] 59)).heap[w.heap.size]? = some (.cells #[.int .i64 op, .int .i64 rd, .int .i64 a, .int .i64 b, .int .i64 imm, .int .i64 csr, .bool false, .bool true] 23 (0, 0))) := Lib.hid ((Below.heap_alloc _ _ _ hz2).trans HI2.out)
  have hz3 : w.heap.size < (w2.alloc (.cells #[str NB, .int .u32 mk, .int .u32 mt, .int .u8 lt] 59)).heap.size := by rw [World.size_alloc]; omega
  generalize w2.alloc (.cells #[str NB, .int .u32 mk, .int .u32 mt, .int .u8 lt] 59) = w3 at *
  clear x6 x7
  generalize hO : opOf ⟨op, rd, a, b, imm, csr, false, true⟩ = O at *
  have HO := Lib.hid hO
  clear hO
  have hnm : (NB ++ ([46, 114, 108] : Bs)).length ≤ 17 := by first | (simp; omega) | omega
  go_loopw [5, 7] (fun s k wr => ∃ j : Nat, j ≤ Lt.length ∧ k = .int .i64 j ∧ s = str (lineT (NB ++ ([46, 114, 108] : Bs)) ((Lt.map O).take j)) ∧ wr.heap[w.heap.size]? = some (.cells #[.int .i64 op, .int .i64 rd, .int .i64 a, .int .i64 b, .int .i64 imm, .int .i64 csr, .bool false, .bool true] 23 (0, 0)) ∧ Below w.heap.size w wr ∧ w.heap.size < wr.heap.size) (fun _ k _ => Lt.length - (RowKit.intOf k).toNat)
  case atStart => exact ⟨0, Nat.zero_le _, rfl, by show Value.string (⟨NB.toArray⟩ ++ ⟨([46, 114, 108] : Bs).toArray⟩) = _; rw [str_cat]; simp [lineT, tailT], HI3.out, HB3.out, hz3⟩
  case round =>
    obtain ⟨j, hj, rfl, rfl, hI, hB, hz⟩ := hrel
    have HI := Lib.hid hI
    have HB := Lib.hid hB
    clear hB
    by_cases hlt : j < Lt.length
    · have hTl : (lineT (NB ++ ([46, 114, 108] : Bs)) ((Lt.map O).take j)).length ≤ 200 := by
        have h1 := lineT_len (NB ++ ([46, 114, 108] : Bs)) ((Lt.map O).take j)
        have h2 := sum_ops (os := (Lt.map O).take j) (fun o ho => by obtain ⟨c, _, rfl⟩ := List.mem_map.1 (List.mem_of_mem_take ho); exact HOP.out c)
        have h3 : ((Lt.map O).take j).length ≤ 3 := by rw [List.length_take, List.length_map]; omega
        omega
      have hcm := HCH.out Lt[j] (List.getElem_mem hlt)
      have HNX : Hid (lineT (NB ++ ([46, 114, 108] : Bs)) ((Lt.map O).take (j + 1)) = lineT (NB ++ ([46, 114, 108] : Bs)) ((Lt.map O).take j) ++ ((if j = 0 then [32] else [44, 32]) ++ O Lt[j])) := Lib.hid (by
        have e : (Lt.map O).take (j + 1) = (Lt.map O).take j ++ [O Lt[j]] := by rw [List.take_succ_eq_append_getElem (by rw [List.length_map]; exact hlt), List.getElem_map]
        rw [e, line_snoc]
        by_cases h0 : j = 0
        · subst h0; rfl
        · rw [if_neg h0, if_neg (by intro h; have := congrArg List.length h; rw [List.length_take, List.length_map] at this; simp only [List.length_nil] at this; omega)]; rfl)
      generalize lineT (NB ++ ([46, 114, 108] : Bs)) ((Lt.map O).take j) = T at *
      have hix : ((⟨Lt.toArray⟩ : ByteArray)[j]'(by show j < Lt.toArray.size; rw [List.size_toArray]; exact hlt)) = Lt[j] := rfl
      generalize Lt[j] = c at *
      have x1 : wr.cell? ⟨w.heap.size, 1, none⟩ = some (.int .i64 rd) := by rw [Lib.cell_of_heap HI.out]; rfl
      have x2 : wr.cell? ⟨w.heap.size, 2, none⟩ = some (.int .i64 a) := by rw [Lib.cell_of_heap HI.out]; rfl
      have x3 : wr.cell? ⟨w.heap.size, 3, none⟩ = some (.int .i64 b) := by rw [Lib.cell_of_heap HI.out]; rfl
      have x4 : wr.cell? ⟨w.heap.size, 4, none⟩ = some (.int .i64 imm) := by rw [Lib.cell_of_heap HI.out]; rfl
      have x5 : wr.cell? ⟨w.heap.size, 5, none⟩ = some (.int .i64 csr) := by rw [Lib.cell_of_heap HI.out]; rfl
      rcases hcm with rfl | rfl | rfl | rfl | rfl
      · have hoc : O 114 = xr rd := by rw [← HO.out]; rfl
        rw [hoc] at HNX
        clear hoc
        have HDX := Lib.hid (fun w => HD.out rd (by simp) w)
        have hdl : (itoa rd).length ≤ 30 := by have := HOP.out 114; rw [← HO.out] at this; exact Nat.le_trans (by show (itoa rd).length ≤ (xr rd).length; simp [xr]) this
        by_cases hj0 : j = 0
        · subst hj0
          rw [if_pos rfl] at HNX
          go_wp2_with (fail)
          (with_reducible refine (HDX.out _).mono ?_)
          rintro e w5 ⟨rfl, hb5⟩
          have HB5 := Lib.hid (HB.out.trans (hb5.mono HB.out.size))
          have HI5 := Lib.hid ((hb5.block _ hz).trans HI.out)
          have hz5 : w.heap.size < w5.heap.size := Nat.lt_of_lt_of_le hz hb5.size
          clear x1 x2 x3 x4 x5 hb5
          go_wp2
          case roundEnd => exact ⟨⟨1, by omega, rfl, by rw [HNX.out]; show Value.string (((⟨T.toArray⟩ ++ ⟨([32] : Bs).toArray⟩) ++ ⟨([120] : Bs).toArray⟩) ++ ⟨(itoa rd).toArray⟩) = _; simp only [bcat2]; simp [xr], HI5.out, HB5.out, hz5⟩, by simp [RowKit.intOf]; omega⟩
          all_goals (exfalso; omega)
        · have hj1 : ((j : Int) == 0) = false := beq_eq_false_iff_ne.2 (by omega)
          rw [if_neg hj0] at HNX
          go_wp2_with (fail)
          (with_reducible refine (HDX.out _).mono ?_)
          rintro e w5 ⟨rfl, hb5⟩
          have HB5 := Lib.hid (HB.out.trans (hb5.mono HB.out.size))
          have HI5 := Lib.hid ((hb5.block _ hz).trans HI.out)
          have hz5 : w.heap.size < w5.heap.size := Nat.lt_of_lt_of_le hz hb5.size
          clear x1 x2 x3 x4 x5 hb5
          go_wp2
          case roundEnd => exact ⟨⟨j + 1, by omega, rfl, by rw [HNX.out]; show Value.string (((⟨T.toArray⟩ ++ ⟨([44, 32] : Bs).toArray⟩) ++ ⟨([120] : Bs).toArray⟩) ++ ⟨(itoa rd).toArray⟩) = _; simp only [bcat2]; simp [xr], HI5.out, HB5.out, hz5⟩, by simp [RowKit.intOf]; omega⟩
          all_goals (exfalso; omega)
      · have hoc : O 97 = xr a := by rw [← HO.out]; rfl
        rw [hoc] at HNX
        clear hoc
        have HDX := Lib.hid (fun w => HD.out a (by simp) w)
        have hdl : (itoa a).length ≤ 30 := by have := HOP.out 97; rw [← HO.out] at this; exact Nat.le_trans (by show (itoa a).length ≤ (xr a).length; simp [xr]) this
        by_cases hj0 : j = 0
        · subst hj0
          rw [if_pos rfl] at HNX
          go_wp2_with (fail)
          (with_reducible refine (HDX.out _).mono ?_)
          rintro e w5 ⟨rfl, hb5⟩
          have HB5 := Lib.hid (HB.out.trans (hb5.mono HB.out.size))
          have HI5 := Lib.hid ((hb5.block _ hz).trans HI.out)
          have hz5 : w.heap.size < w5.heap.size := Nat.lt_of_lt_of_le hz hb5.size
          clear x1 x2 x3 x4 x5 hb5
          go_wp2
          case roundEnd => exact ⟨⟨1, by omega, rfl, by rw [HNX.out]; show Value.string (((⟨T.toArray⟩ ++ ⟨([32] : Bs).toArray⟩) ++ ⟨([120] : Bs).toArray⟩) ++ ⟨(itoa a).toArray⟩) = _; simp only [bcat2]; simp [xr], HI5.out, HB5.out, hz5⟩, by simp [RowKit.intOf]; omega⟩
          all_goals (exfalso; omega)
        · have hj1 : ((j : Int) == 0) = false := beq_eq_false_iff_ne.2 (by omega)
          rw [if_neg hj0] at HNX
          go_wp2_with (fail)
          (with_reducible refine (HDX.out _).mono ?_)
          rintro e w5 ⟨rfl, hb5⟩
          have HB5 := Lib.hid (HB.out.trans (hb5.mono HB.out.size))
          have HI5 := Lib.hid ((hb5.block _ hz).trans HI.out)
          have hz5 : w.heap.size < w5.heap.size := Nat.lt_of_lt_of_le hz hb5.size
          clear x1 x2 x3 x4 x5 hb5
          go_wp2
          case roundEnd => exact ⟨⟨j + 1, by omega, rfl, by rw [HNX.out]; show Value.string (((⟨T.toArray⟩ ++ ⟨([44, 32] : Bs).toArray⟩) ++ ⟨([120] : Bs).toArray⟩) ++ ⟨(itoa a).toArray⟩) = _; simp only [bcat2]; simp [xr], HI5.out, HB5.out, hz5⟩, by simp [RowKit.intOf]; omega⟩
          all_goals (exfalso; omega)
      · have hoc : O 98 = xr b := by rw [← HO.out]; rfl
        rw [hoc] at HNX
        clear hoc
        have HDX := Lib.hid (fun w => HD.out b (by simp) w)
        have hdl : (itoa b).length ≤ 30 := by have := HOP.out 98; rw [← HO.out] at this; exact Nat.le_trans (by show (itoa b).length ≤ (xr b).length; simp [xr]) this
        by_cases hj0 : j = 0
        · subst hj0
          rw [if_pos rfl] at HNX
          go_wp2_with (fail)
          (with_reducible refine (HDX.out _).mono ?_)
          rintro e w5 ⟨rfl, hb5⟩
          have HB5 := Lib.hid (HB.out.trans (hb5.mono HB.out.size))
          have HI5 := Lib.hid ((hb5.block _ hz).trans HI.out)
          have hz5 : w.heap.size < w5.heap.size := Nat.lt_of_lt_of_le hz hb5.size
          clear x1 x2 x3 x4 x5 hb5
          go_wp2
          case roundEnd => exact ⟨⟨1, by omega, rfl, by rw [HNX.out]; show Value.string (((⟨T.toArray⟩ ++ ⟨([32] : Bs).toArray⟩) ++ ⟨([120] : Bs).toArray⟩) ++ ⟨(itoa b).toArray⟩) = _; simp only [bcat2]; simp [xr], HI5.out, HB5.out, hz5⟩, by simp [RowKit.intOf]; omega⟩
          all_goals (exfalso; omega)
        · have hj1 : ((j : Int) == 0) = false := beq_eq_false_iff_ne.2 (by omega)
          rw [if_neg hj0] at HNX
          go_wp2_with (fail)
          (with_reducible refine (HDX.out _).mono ?_)
          rintro e w5 ⟨rfl, hb5⟩
          have HB5 := Lib.hid (HB.out.trans (hb5.mono HB.out.size))
          have HI5 := Lib.hid ((hb5.block _ hz).trans HI.out)
          have hz5 : w.heap.size < w5.heap.size := Nat.lt_of_lt_of_le hz hb5.size
          clear x1 x2 x3 x4 x5 hb5
          go_wp2
          case roundEnd => exact ⟨⟨j + 1, by omega, rfl, by rw [HNX.out]; show Value.string (((⟨T.toArray⟩ ++ ⟨([44, 32] : Bs).toArray⟩) ++ ⟨([120] : Bs).toArray⟩) ++ ⟨(itoa b).toArray⟩) = _; simp only [bcat2]; simp [xr], HI5.out, HB5.out, hz5⟩, by simp [RowKit.intOf]; omega⟩
          all_goals (exfalso; omega)
      · have hoc : O 105 = itoa imm := by rw [← HO.out]; rfl
        rw [hoc] at HNX
        clear hoc
        have HDX := Lib.hid (fun w => HD.out imm (by simp) w)
        have hdl : (itoa imm).length ≤ 30 := by have := HOP.out 105; rw [← HO.out] at this; exact Nat.le_trans (by show (itoa imm).length ≤ (itoa imm).length; simp [xr]) this
        by_cases hj0 : j = 0
        · subst hj0
          rw [if_pos rfl] at HNX
          go_wp2_with (fail)
          (with_reducible refine (HDX.out _).mono ?_)
          rintro e w5 ⟨rfl, hb5⟩
          have HB5 := Lib.hid (HB.out.trans (hb5.mono HB.out.size))
          have HI5 := Lib.hid ((hb5.block _ hz).trans HI.out)
          have hz5 : w.heap.size < w5.heap.size := Nat.lt_of_lt_of_le hz hb5.size
          clear x1 x2 x3 x4 x5 hb5
          go_wp2
          case roundEnd => exact ⟨⟨1, by omega, rfl, by rw [HNX.out]; show Value.string (((⟨T.toArray⟩ ++ ⟨([32] : Bs).toArray⟩)) ++ ⟨(itoa imm).toArray⟩) = _; simp only [bcat2]; simp [xr], HI5.out, HB5.out, hz5⟩, by simp [RowKit.intOf]; omega⟩
          all_goals (exfalso; omega)
        · have hj1 : ((j : Int) == 0) = false := beq_eq_false_iff_ne.2 (by omega)
          rw [if_neg hj0] at HNX
          go_wp2_with (fail)
          (with_reducible refine (HDX.out _).mono ?_)
          rintro e w5 ⟨rfl, hb5⟩
          have HB5 := Lib.hid (HB.out.trans (hb5.mono HB.out.size))
          have HI5 := Lib.hid ((hb5.block _ hz).trans HI.out)
          have hz5 : w.heap.size < w5.heap.size := Nat.lt_of_lt_of_le hz hb5.size
          clear x1 x2 x3 x4 x5 hb5
          go_wp2
          case roundEnd => exact ⟨⟨j + 1, by omega, rfl, by rw [HNX.out]; show Value.string (((⟨T.toArray⟩ ++ ⟨([44, 32] : Bs).toArray⟩)) ++ ⟨(itoa imm).toArray⟩) = _; simp only [bcat2]; simp [xr], HI5.out, HB5.out, hz5⟩, by simp [RowKit.intOf]; omega⟩
          all_goals (exfalso; omega)
      · have hoc : O 99 = itoa csr := by rw [← HO.out]; rfl
        rw [hoc] at HNX
        clear hoc
        have HDX := Lib.hid (fun w => HD.out csr (by simp) w)
        have hdl : (itoa csr).length ≤ 30 := by have := HOP.out 99; rw [← HO.out] at this; exact Nat.le_trans (by show (itoa csr).length ≤ (itoa csr).length; simp [xr]) this
        by_cases hj0 : j = 0
        · subst hj0
          rw [if_pos rfl] at HNX
          go_wp2_with (fail)
          (with_reducible refine (HDX.out _).mono ?_)
          rintro e w5 ⟨rfl, hb5⟩
          have HB5 := Lib.hid (HB.out.trans (hb5.mono HB.out.size))
          have HI5 := Lib.hid ((hb5.block _ hz).trans HI.out)
          have hz5 : w.heap.size < w5.heap.size := Nat.lt_of_lt_of_le hz hb5.size
          clear x1 x2 x3 x4 x5 hb5
          go_wp2
          case roundEnd => exact ⟨⟨1, by omega, rfl, by rw [HNX.out]; show Value.string (((⟨T.toArray⟩ ++ ⟨([32] : Bs).toArray⟩)) ++ ⟨(itoa csr).toArray⟩) = _; simp only [bcat2]; simp [xr], HI5.out, HB5.out, hz5⟩, by simp [RowKit.intOf]; omega⟩
          all_goals (exfalso; omega)
        · have hj1 : ((j : Int) == 0) = false := beq_eq_false_iff_ne.2 (by omega)
          rw [if_neg hj0] at HNX
          go_wp2_with (fail)
          (with_reducible refine (HDX.out _).mono ?_)
          rintro e w5 ⟨rfl, hb5⟩
          have HB5 := Lib.hid (HB.out.trans (hb5.mono HB.out.size))
          have HI5 := Lib.hid ((hb5.block _ hz).trans HI.out)
          have hz5 : w.heap.size < w5.heap.size := Nat.lt_of_lt_of_le hz hb5.size
          clear x1 x2 x3 x4 x5 hb5
          go_wp2
          case roundEnd => exact ⟨⟨j + 1, by omega, rfl, by rw [HNX.out]; show Value.string (((⟨T.toArray⟩ ++ ⟨([44, 32] : Bs).toArray⟩)) ++ ⟨(itoa csr).toArray⟩) = _; simp only [bcat2]; simp [xr], HI5.out, HB5.out, hz5⟩, by simp [RowKit.intOf]; omega⟩
          all_goals (exfalso; omega)
    · obtain rfl : j = Lt.length := by omega
      have e : (Lt.map O).take Lt.length = Lt.map O := List.take_of_length_le (by rw [List.length_map]; exact Nat.le_refl _)
      rw [e]
      go_wp2
      go_ret2
      have h := HO.out
      subst h
      exact ⟨rfl, HB.out⟩

set_option maxHeartbeats 4000000 in
theorem rprint_false_false (op rd a b imm csr : Int) (NB Lt : Bs) (mk mt lt : Int) (hNB : NB.length ≤ 12) (hLt : Lt.length ≤ 3) (hch : ∀ c ∈ Lt, c = 114 ∨ c = 97 ∨ c = 98 ∨ c = 105 ∨ c = 99) (hop : ∀ c, (opOf ⟨op, rd, a, b, imm, csr, false, false⟩ c).length ≤ 30)
    (hR : ∀ w, Calls Tryz.prog 30 #[.agg #[.int .i64 op, .int .i64 rd, .int .i64 a, .int .i64 b, .int .i64 imm, .int .i64 csr, .bool false, .bool false]] w fun e w' => e = .returned (.bool true) ∧ Below w.heap.size w w')
    (hW : ∀ w, Calls Tryz.prog 31 #[.int .i64 op] w fun e w' => e = .returned (.agg #[str NB, .int .u32 mk, .int .u32 mt, .int .u8 lt]) ∧ Below w.heap.size w w')
    (hL : ∀ w, Calls Tryz.prog 32 #[.int .u8 lt] w fun e w' => e = .returned (str Lt) ∧ w = w')
    (hD : ∀ n, n = rd ∨ n = a ∨ n = b ∨ n = imm ∨ n = csr → ∀ w, Calls Tryz.prog 33 #[.int .i64 n] w fun e w' => e = .returned (str (itoa n)) ∧ Below w.heap.size w w') (w : World) :
    Calls Tryz.prog 11 #[.agg #[.int .i64 op, .int .i64 rd, .int .i64 a, .int .i64 b, .int .i64 imm, .int .i64 csr, .bool false, .bool false]] w fun e w' => e = .returned (.tuple #[str (lineT (NB) (Lt.map (opOf ⟨op, rd, a, b, imm, csr, false, false⟩))), .int .i64 0]) ∧ Below w.heap.size w w' := by
  have HR := Lib.hid hR; have HW := Lib.hid hW; have HL := Lib.hid hL; have HD := Lib.hid hD; have HCH := Lib.hid hch; have HOP := Lib.hid hop
  clear hR hW hL hD hch hop
  go_enter Tryz.func11, Tryz.ntmps11
  go_wp2_with (fail)
  (with_reducible refine (HR.out _).mono ?_)
  rintro e w1 ⟨rfl, hb1⟩
  have HI1 := Lib.hid ((hb1.block _ (by simp)).trans (heap_alloc_new w (.cells #[.int .i64 op, .int .i64 rd, .int .i64 a, .int .i64 b, .int .i64 imm, .int .i64 csr, .bool false, .bool false] 23)))
  have hz1 : w.heap.size < w1.heap.size := by have := hb1.size; simp at this; omega
  have HB1 := Lib.hid (((Below.refl _ _).alloc (Nat.le_refl _) (.cells #[.int .i64 op, .int .i64 rd, .int .i64 a, .int .i64 b, .int .i64 imm, .int .i64 csr, .bool false, .bool false] 23)).trans (hb1.mono (by simp)))
  clear hb1
  have x0 : w1.cell? ⟨w.heap.size, 0, none⟩ = some (.int .i64 op) := by rw [Lib.cell_of_heap HI1.out]; rfl
  go_wp2_with (fail)
  (with_reducible refine (HW.out _).mono ?_)
  rintro e w2 ⟨rfl, hb2⟩
  have HI2 := Lib.hid ((hb2.block _ hz1).trans HI1.out)
  have hz2 : w.heap.size < w2.heap.size := Nat.lt_of_lt_of_le hz1 hb2.size
  have HB2 := Lib.hid (HB1.out.trans (hb2.mono HB1.out.size))
  clear x0 hb2
  have x6 : w2.cell? ⟨w.heap.size, 6, none⟩ = some (.bool false) := by rw [Lib.cell_of_heap HI2.out]; rfl
  have x7 : w2.cell? ⟨w.heap.size, 7, none⟩ = some (.bool false) := by rw [Lib.cell_of_heap HI2.out]; rfl
  go_wp2_with (go_at_call 32; (with_reducible refine (HL.out _).mono ?_); rintro e wu ⟨rfl, rfl⟩)
  have HB3 : Hid (Below w.heap.size w (w2.alloc (.cells #[str NB, .int .u32 mk, .int .u32 mt, .int .u8 lt] 59))) := Lib.hid (HB2.out.alloc HB2.out.size _)
  have HI3 : Hid ((w2.alloc (.cells #[str NB, .int .u32 mk, .int .u32 mt, .int .u8 lt] 59)).heap[w.heap.size]? = some (.cells #[.int .i64 op, .int .i64 rd, .int .i64 a, .int .i64 b, .int .i64 imm, .int .i64 csr, .bool false, .bool false] 23 (0, 0))) := Lib.hid ((Below.heap_alloc _ _ _ hz2).trans HI2.out)
  have hz3 : w.heap.size < (w2.alloc (.cells #[str NB, .int .u32 mk, .int .u32 mt, .int .u8 lt] 59)).heap.size := by rw [World.size_alloc]; omega
  generalize w2.alloc (.cells #[str NB, .int .u32 mk, .int .u32 mt, .int .u8 lt] 59) = w3 at *
  clear x6 x7
  generalize hO : opOf ⟨op, rd, a, b, imm, csr, false, false⟩ = O at *
  have HO := Lib.hid hO
  clear hO
  have hnm : (NB).length ≤ 17 := by first | (simp; omega) | omega
  go_loopw [5, 7] (fun s k wr => ∃ j : Nat, j ≤ Lt.length ∧ k = .int .i64 j ∧ s = str (lineT (NB) ((Lt.map O).take j)) ∧ wr.heap[w.heap.size]? = some (.cells #[.int .i64 op, .int .i64 rd, .int .i64 a, .int .i64 b, .int .i64 imm, .int .i64 csr, .bool false, .bool false] 23 (0, 0)) ∧ Below w.heap.size w wr ∧ w.heap.size < wr.heap.size) (fun _ k _ => Lt.length - (RowKit.intOf k).toNat)
  case atStart => exact ⟨0, Nat.zero_le _, rfl, by simp [lineT, tailT], HI3.out, HB3.out, hz3⟩
  case round =>
    obtain ⟨j, hj, rfl, rfl, hI, hB, hz⟩ := hrel
    have HI := Lib.hid hI
    have HB := Lib.hid hB
    clear hB
    by_cases hlt : j < Lt.length
    · have hTl : (lineT (NB) ((Lt.map O).take j)).length ≤ 200 := by
        have h1 := lineT_len (NB) ((Lt.map O).take j)
        have h2 := sum_ops (os := (Lt.map O).take j) (fun o ho => by obtain ⟨c, _, rfl⟩ := List.mem_map.1 (List.mem_of_mem_take ho); exact HOP.out c)
        have h3 : ((Lt.map O).take j).length ≤ 3 := by rw [List.length_take, List.length_map]; omega
        omega
      have hcm := HCH.out Lt[j] (List.getElem_mem hlt)
      have HNX : Hid (lineT (NB) ((Lt.map O).take (j + 1)) = lineT (NB) ((Lt.map O).take j) ++ ((if j = 0 then [32] else [44, 32]) ++ O Lt[j])) := Lib.hid (by
        have e : (Lt.map O).take (j + 1) = (Lt.map O).take j ++ [O Lt[j]] := by rw [List.take_succ_eq_append_getElem (by rw [List.length_map]; exact hlt), List.getElem_map]
        rw [e, line_snoc]
        by_cases h0 : j = 0
        · subst h0; rfl
        · rw [if_neg h0, if_neg (by intro h; have := congrArg List.length h; rw [List.length_take, List.length_map] at this; simp only [List.length_nil] at this; omega)]; rfl)
      generalize lineT (NB) ((Lt.map O).take j) = T at *
      have hix : ((⟨Lt.toArray⟩ : ByteArray)[j]'(by show j < Lt.toArray.size; rw [List.size_toArray]; exact hlt)) = Lt[j] := rfl
      generalize Lt[j] = c at *
      have x1 : wr.cell? ⟨w.heap.size, 1, none⟩ = some (.int .i64 rd) := by rw [Lib.cell_of_heap HI.out]; rfl
      have x2 : wr.cell? ⟨w.heap.size, 2, none⟩ = some (.int .i64 a) := by rw [Lib.cell_of_heap HI.out]; rfl
      have x3 : wr.cell? ⟨w.heap.size, 3, none⟩ = some (.int .i64 b) := by rw [Lib.cell_of_heap HI.out]; rfl
      have x4 : wr.cell? ⟨w.heap.size, 4, none⟩ = some (.int .i64 imm) := by rw [Lib.cell_of_heap HI.out]; rfl
      have x5 : wr.cell? ⟨w.heap.size, 5, none⟩ = some (.int .i64 csr) := by rw [Lib.cell_of_heap HI.out]; rfl
      rcases hcm with rfl | rfl | rfl | rfl | rfl
      · have hoc : O 114 = xr rd := by rw [← HO.out]; rfl
        rw [hoc] at HNX
        clear hoc
        have HDX := Lib.hid (fun w => HD.out rd (by simp) w)
        have hdl : (itoa rd).length ≤ 30 := by have := HOP.out 114; rw [← HO.out] at this; exact Nat.le_trans (by show (itoa rd).length ≤ (xr rd).length; simp [xr]) this
        by_cases hj0 : j = 0
        · subst hj0
          rw [if_pos rfl] at HNX
          go_wp2_with (fail)
          (with_reducible refine (HDX.out _).mono ?_)
          rintro e w5 ⟨rfl, hb5⟩
          have HB5 := Lib.hid (HB.out.trans (hb5.mono HB.out.size))
          have HI5 := Lib.hid ((hb5.block _ hz).trans HI.out)
          have hz5 : w.heap.size < w5.heap.size := Nat.lt_of_lt_of_le hz hb5.size
          clear x1 x2 x3 x4 x5 hb5
          go_wp2
          case roundEnd => exact ⟨⟨1, by omega, rfl, by rw [HNX.out]; show Value.string (((⟨T.toArray⟩ ++ ⟨([32] : Bs).toArray⟩) ++ ⟨([120] : Bs).toArray⟩) ++ ⟨(itoa rd).toArray⟩) = _; simp only [bcat2]; simp [xr], HI5.out, HB5.out, hz5⟩, by simp [RowKit.intOf]; omega⟩
          all_goals (exfalso; omega)
        · have hj1 : ((j : Int) == 0) = false := beq_eq_false_iff_ne.2 (by omega)
          rw [if_neg hj0] at HNX
          go_wp2_with (fail)
          (with_reducible refine (HDX.out _).mono ?_)
          rintro e w5 ⟨rfl, hb5⟩
          have HB5 := Lib.hid (HB.out.trans (hb5.mono HB.out.size))
          have HI5 := Lib.hid ((hb5.block _ hz).trans HI.out)
          have hz5 : w.heap.size < w5.heap.size := Nat.lt_of_lt_of_le hz hb5.size
          clear x1 x2 x3 x4 x5 hb5
          go_wp2
          case roundEnd => exact ⟨⟨j + 1, by omega, rfl, by rw [HNX.out]; show Value.string (((⟨T.toArray⟩ ++ ⟨([44, 32] : Bs).toArray⟩) ++ ⟨([120] : Bs).toArray⟩) ++ ⟨(itoa rd).toArray⟩) = _; simp only [bcat2]; simp [xr], HI5.out, HB5.out, hz5⟩, by simp [RowKit.intOf]; omega⟩
          all_goals (exfalso; omega)
      · have hoc : O 97 = xr a := by rw [← HO.out]; rfl
        rw [hoc] at HNX
        clear hoc
        have HDX := Lib.hid (fun w => HD.out a (by simp) w)
        have hdl : (itoa a).length ≤ 30 := by have := HOP.out 97; rw [← HO.out] at this; exact Nat.le_trans (by show (itoa a).length ≤ (xr a).length; simp [xr]) this
        by_cases hj0 : j = 0
        · subst hj0
          rw [if_pos rfl] at HNX
          go_wp2_with (fail)
          (with_reducible refine (HDX.out _).mono ?_)
          rintro e w5 ⟨rfl, hb5⟩
          have HB5 := Lib.hid (HB.out.trans (hb5.mono HB.out.size))
          have HI5 := Lib.hid ((hb5.block _ hz).trans HI.out)
          have hz5 : w.heap.size < w5.heap.size := Nat.lt_of_lt_of_le hz hb5.size
          clear x1 x2 x3 x4 x5 hb5
          go_wp2
          case roundEnd => exact ⟨⟨1, by omega, rfl, by rw [HNX.out]; show Value.string (((⟨T.toArray⟩ ++ ⟨([32] : Bs).toArray⟩) ++ ⟨([120] : Bs).toArray⟩) ++ ⟨(itoa a).toArray⟩) = _; simp only [bcat2]; simp [xr], HI5.out, HB5.out, hz5⟩, by simp [RowKit.intOf]; omega⟩
          all_goals (exfalso; omega)
        · have hj1 : ((j : Int) == 0) = false := beq_eq_false_iff_ne.2 (by omega)
          rw [if_neg hj0] at HNX
          go_wp2_with (fail)
          (with_reducible refine (HDX.out _).mono ?_)
          rintro e w5 ⟨rfl, hb5⟩
          have HB5 := Lib.hid (HB.out.trans (hb5.mono HB.out.size))
          have HI5 := Lib.hid ((hb5.block _ hz).trans HI.out)
          have hz5 : w.heap.size < w5.heap.size := Nat.lt_of_lt_of_le hz hb5.size
          clear x1 x2 x3 x4 x5 hb5
          go_wp2
          case roundEnd => exact ⟨⟨j + 1, by omega, rfl, by rw [HNX.out]; show Value.string (((⟨T.toArray⟩ ++ ⟨([44, 32] : Bs).toArray⟩) ++ ⟨([120] : Bs).toArray⟩) ++ ⟨(itoa a).toArray⟩) = _; simp only [bcat2]; simp [xr], HI5.out, HB5.out, hz5⟩, by simp [RowKit.intOf]; omega⟩
          all_goals (exfalso; omega)
      · have hoc : O 98 = xr b := by rw [← HO.out]; rfl
        rw [hoc] at HNX
        clear hoc
        have HDX := Lib.hid (fun w => HD.out b (by simp) w)
        have hdl : (itoa b).length ≤ 30 := by have := HOP.out 98; rw [← HO.out] at this; exact Nat.le_trans (by show (itoa b).length ≤ (xr b).length; simp [xr]) this
        by_cases hj0 : j = 0
        · subst hj0
          rw [if_pos rfl] at HNX
          go_wp2_with (fail)
          (with_reducible refine (HDX.out _).mono ?_)
          rintro e w5 ⟨rfl, hb5⟩
          have HB5 := Lib.hid (HB.out.trans (hb5.mono HB.out.size))
          have HI5 := Lib.hid ((hb5.block _ hz).trans HI.out)
          have hz5 : w.heap.size < w5.heap.size := Nat.lt_of_lt_of_le hz hb5.size
          clear x1 x2 x3 x4 x5 hb5
          go_wp2
          case roundEnd => exact ⟨⟨1, by omega, rfl, by rw [HNX.out]; show Value.string (((⟨T.toArray⟩ ++ ⟨([32] : Bs).toArray⟩) ++ ⟨([120] : Bs).toArray⟩) ++ ⟨(itoa b).toArray⟩) = _; simp only [bcat2]; simp [xr], HI5.out, HB5.out, hz5⟩, by simp [RowKit.intOf]; omega⟩
          all_goals (exfalso; omega)
        · have hj1 : ((j : Int) == 0) = false := beq_eq_false_iff_ne.2 (by omega)
          rw [if_neg hj0] at HNX
          go_wp2_with (fail)
          (with_reducible refine (HDX.out _).mono ?_)
          rintro e w5 ⟨rfl, hb5⟩
          have HB5 := Lib.hid (HB.out.trans (hb5.mono HB.out.size))
          have HI5 := Lib.hid ((hb5.block _ hz).trans HI.out)
          have hz5 : w.heap.size < w5.heap.size := Nat.lt_of_lt_of_le hz hb5.size
          clear x1 x2 x3 x4 x5 hb5
          go_wp2
          case roundEnd => exact ⟨⟨j + 1, by omega, rfl, by rw [HNX.out]; show Value.string (((⟨T.toArray⟩ ++ ⟨([44, 32] : Bs).toArray⟩) ++ ⟨([120] : Bs).toArray⟩) ++ ⟨(itoa b).toArray⟩) = _; simp only [bcat2]; simp [xr], HI5.out, HB5.out, hz5⟩, by simp [RowKit.intOf]; omega⟩
          all_goals (exfalso; omega)
      · have hoc : O 105 = itoa imm := by rw [← HO.out]; rfl
        rw [hoc] at HNX
        clear hoc
        have HDX := Lib.hid (fun w => HD.out imm (by simp) w)
        have hdl : (itoa imm).length ≤ 30 := by have := HOP.out 105; rw [← HO.out] at this; exact Nat.le_trans (by show (itoa imm).length ≤ (itoa imm).length; simp [xr]) this
        by_cases hj0 : j = 0
        · subst hj0
          rw [if_pos rfl] at HNX
          go_wp2_with (fail)
          (with_reducible refine (HDX.out _).mono ?_)
          rintro e w5 ⟨rfl, hb5⟩
          have HB5 := Lib.hid (HB.out.trans (hb5.mono HB.out.size))
          have HI5 := Lib.hid ((hb5.block _ hz).trans HI.out)
          have hz5 : w.heap.size < w5.heap.size := Nat.lt_of_lt_of_le hz hb5.size
          clear x1 x2 x3 x4 x5 hb5
          go_wp2
          case roundEnd => exact ⟨⟨1, by omega, rfl, by rw [HNX.out]; show Value.string (((⟨T.toArray⟩ ++ ⟨([32] : Bs).toArray⟩)) ++ ⟨(itoa imm).toArray⟩) = _; simp only [bcat2]; simp [xr], HI5.out, HB5.out, hz5⟩, by simp [RowKit.intOf]; omega⟩
          all_goals (exfalso; omega)
        · have hj1 : ((j : Int) == 0) = false := beq_eq_false_iff_ne.2 (by omega)
          rw [if_neg hj0] at HNX
          go_wp2_with (fail)
          (with_reducible refine (HDX.out _).mono ?_)
          rintro e w5 ⟨rfl, hb5⟩
          have HB5 := Lib.hid (HB.out.trans (hb5.mono HB.out.size))
          have HI5 := Lib.hid ((hb5.block _ hz).trans HI.out)
          have hz5 : w.heap.size < w5.heap.size := Nat.lt_of_lt_of_le hz hb5.size
          clear x1 x2 x3 x4 x5 hb5
          go_wp2
          case roundEnd => exact ⟨⟨j + 1, by omega, rfl, by rw [HNX.out]; show Value.string (((⟨T.toArray⟩ ++ ⟨([44, 32] : Bs).toArray⟩)) ++ ⟨(itoa imm).toArray⟩) = _; simp only [bcat2]; simp [xr], HI5.out, HB5.out, hz5⟩, by simp [RowKit.intOf]; omega⟩
          all_goals (exfalso; omega)
      · have hoc : O 99 = itoa csr := by rw [← HO.out]; rfl
        rw [hoc] at HNX
        clear hoc
        have HDX := Lib.hid (fun w => HD.out csr (by simp) w)
        have hdl : (itoa csr).length ≤ 30 := by have := HOP.out 99; rw [← HO.out] at this; exact Nat.le_trans (by show (itoa csr).length ≤ (itoa csr).length; simp [xr]) this
        by_cases hj0 : j = 0
        · subst hj0
          rw [if_pos rfl] at HNX
          go_wp2_with (fail)
          (with_reducible refine (HDX.out _).mono ?_)
          rintro e w5 ⟨rfl, hb5⟩
          have HB5 := Lib.hid (HB.out.trans (hb5.mono HB.out.size))
          have HI5 := Lib.hid ((hb5.block _ hz).trans HI.out)
          have hz5 : w.heap.size < w5.heap.size := Nat.lt_of_lt_of_le hz hb5.size
          clear x1 x2 x3 x4 x5 hb5
          go_wp2
          case roundEnd => exact ⟨⟨1, by omega, rfl, by rw [HNX.out]; show Value.string (((⟨T.toArray⟩ ++ ⟨([32] : Bs).toArray⟩)) ++ ⟨(itoa csr).toArray⟩) = _; simp only [bcat2]; simp [xr], HI5.out, HB5.out, hz5⟩, by simp [RowKit.intOf]; omega⟩
          all_goals (exfalso; omega)
        · have hj1 : ((j : Int) == 0) = false := beq_eq_false_iff_ne.2 (by omega)
          rw [if_neg hj0] at HNX
          go_wp2_with (fail)
          (with_reducible refine (HDX.out _).mono ?_)
          rintro e w5 ⟨rfl, hb5⟩
          have HB5 := Lib.hid (HB.out.trans (hb5.mono HB.out.size))
          have HI5 := Lib.hid ((hb5.block _ hz).trans HI.out)
          have hz5 : w.heap.size < w5.heap.size := Nat.lt_of_lt_of_le hz hb5.size
          clear x1 x2 x3 x4 x5 hb5
          go_wp2
          case roundEnd => exact ⟨⟨j + 1, by omega, rfl, by rw [HNX.out]; show Value.string (((⟨T.toArray⟩ ++ ⟨([44, 32] : Bs).toArray⟩)) ++ ⟨(itoa csr).toArray⟩) = _; simp only [bcat2]; simp [xr], HI5.out, HB5.out, hz5⟩, by simp [RowKit.intOf]; omega⟩
          all_goals (exfalso; omega)
    · obtain rfl : j = Lt.length := by omega
      have e : (Lt.map O).take Lt.length = Lt.map O := List.take_of_length_le (by rw [List.length_map]; exact Nat.le_refl _)
      rw [e]
      go_wp2
      go_ret2
      have h := HO.out
      subst h
      exact ⟨rfl, HB.out⟩

theorem frm_lt : ∀ k, k < 114 → 1 ≤ k → frmT k < 15 := by decide +kernel
theorem op_short {i : Ins} (hr : rightB i = true) (c : UInt8) : (opOf i c).length ≤ 30 := by
  obtain ⟨h1, h2, h3, h4⟩ := rightT_of hr
  have hf := (fT_ok h1 (by omega)).imm
  have hI := (right_imm hf h4).1
  have p1 := h4.rd; have p2 := h4.a; have p3 := h4.b; have p4 := h4.csr
  have l1 := itoa_length_le i.rd (by omega) (by omega)
  have l2 := itoa_length_le i.a (by omega) (by omega)
  have l3 := itoa_length_le i.b (by omega) (by omega)
  have l4 := itoa_length_le i.imm (by omega) (by omega)
  have l5 := itoa_length_le i.csr (by omega) (by omega)
  unfold opOf
  split
  · simp [xr]; omega
  · split
    · simp [xr]; omega
    · split
      · simp [xr]; omega
      · split <;> omega
theorem rprint_yes (i : Ins) (hr : rightB i = true) (w : World) : Calls Tryz.prog 11 #[insV i] w fun e w' => e = .returned (.tuple #[str (printT i), .int .i64 0]) ∧ Below w.heap.size w w' := by
  obtain ⟨h1, h2, h3, h4⟩ := rightT_of hr
  have hf := (fT_ok h1 (by omega)).imm
  have hI := (right_imm hf h4).1
  have p1 := h4.rd; have p2 := h4.a; have p3 := h4.b; have p4 := h4.csr
  have hfl := frm_lt i.op.toNat (by omega) h1
  obtain ⟨l1, l2⟩ := letters_ok _ hfl
  have hR : ∀ w, Calls Tryz.prog 30 #[insV i] w fun e w' => e = .returned (.bool true) ∧ Below w.heap.size w w' := fun w => by
    have h := refRightB i w
    rw [hr] at h; exact h
  have hW : ∀ w, Calls Tryz.prog 31 #[.int .i64 i.op] w fun e w' => e = .returned (.agg #[str (nameB i.op.toNat), .int .u32 (mskT i.op.toNat), .int .u32 (matT i.op.toNat), .int .u8 (letT (frmT i.op.toNat))]) ∧ Below w.heap.size w w' := fun w => by
    have h := refRow_any i.op.toNat h1 (by omega) w
    rw [← h3] at h; exact h
  have hP : printT i = lineT (nmT i) ((lettersT (frmT i.op.toNat)).map (opOf i)) := by
    unfold printT
    rw [show fT i.op.toNat = frm (frmT i.op.toNat) from rfl, ops_letters _ hfl]
  have hD : ∀ n, n = i.rd ∨ n = i.a ∨ n = i.b ∨ n = i.imm ∨ n = i.csr → ∀ w, Calls Tryz.prog 33 #[.int .i64 n] w fun e w' => e = .returned (str (itoa n)) ∧ Below w.heap.size w w' := fun n hn w => digits_any n (by rcases hn with rfl | rfl | rfl | rfl | rfl <;> omega) (by rcases hn with rfl | rfl | rfl | rfl | rfl <;> omega) w
  have hop := op_short hr
  have hnb := name_short i.op.toNat (by omega)
  have hL := fun w => letters_any (frmT i.op.toNat) hfl w
  rw [hP]
  clear h4 hI hf hP hr
  obtain ⟨op, rd, a, b, imm, csr, aq, rl⟩ := i
  cases aq <;> cases rl
  · have h := rprint_false_false op rd a b imm csr (nameB op.toNat) _ _ _ _ hnb l1 l2 hop hR hW hL hD w
    show Calls Tryz.prog _ _ w fun e w' => e = .returned (.tuple #[str (lineT (nameB op.toNat ++ []) _), .int .i64 0]) ∧ Below w.heap.size w w'
    rw [List.append_nil]; exact h
  · exact rprint_false_true op rd a b imm csr (nameB op.toNat) _ _ _ _ hnb l1 l2 hop hR hW hL hD w
  · exact rprint_true_false op rd a b imm csr (nameB op.toNat) _ _ _ _ hnb l1 l2 hop hR hW hL hD w
  · exact rprint_true_true op rd a b imm csr (nameB op.toNat) _ _ _ _ hnb l1 l2 hop hR hW hL hD w

end Go.Proofs.YtakdhdaoklcidaaGreatDoor

namespace Go.Proofs.YtakdhdaoklcidaaGreatDoor
open Go.RowKit Go.Lib
set_option linter.unusedVariables false
set_option maxRecDepth 100000

set_option maxHeartbeats 4000000 in
theorem rparse_gen (l Lb : Bs) (op rd a b imm csr : Int) (aq rl : Bool) (RI : Ins) (RE : Int) (c : Bool)
    (hc : c = (rightB ⟨op, rd, a, b, imm, csr, aq, rl⟩ && (printT ⟨op, rd, a, b, imm, csr, aq, rl⟩ == l))) (hRI : RI = if c then ⟨op, rd, a, b, imm, csr, aq, rl⟩ else insZ) (hRE : RE = if c then 0 else 100)
    (hGU : ∀ w, Calls Tryz.prog 38 #[str l] w fun e w' => e = .returned (.tuple #[.agg #[.int .i64 op, .int .i64 rd, .int .i64 a, .int .i64 b, .int .i64 imm, .int .i64 csr, .bool aq, .bool rl], str Lb]) ∧ Below w.heap.size w w') (w : World) :
    Calls Tryz.prog 14 #[str l] w fun e w' => e = .returned (.tuple #[insV RI, .int .i64 RE]) ∧ Below w.heap.size w w' := by
  have HGU := Lib.hid hGU; have HC := Lib.hid hc; have HRI := Lib.hid hRI; have HRE := Lib.hid hRE
  clear hGU hc hRI hRE
  go_enter Tryz.func14, Tryz.ntmps14
  go_wp2_with (fail)
  (with_reducible refine (HGU.out _).mono ?_)
  rintro e w1 ⟨rfl, hb1⟩
  have HB1 := Lib.hid (((Below.refl w.heap.size w).alloc (Nat.le_refl _) (.cells #[.int .i64 0, .int .i64 0, .int .i64 0, .int .i64 0, .int .i64 0, .int .i64 0, .bool false, .bool false] 23)).trans (hb1.mono (by simp)))
  have HR1 : Hid (w1.heap[w.heap.size]? = some (.cells #[.int .i64 0, .int .i64 0, .int .i64 0, .int .i64 0, .int .i64 0, .int .i64 0, .bool false, .bool false] 23 (0, 0))) := Lib.hid ((hb1.block _ (by simp)).trans (heap_alloc_new _ _))
  have HZ1 : Hid (w.heap.size < w1.heap.size) := Lib.hid (by have := hb1.size; simp at this; omega)
  clear hb1 HGU
  have HI2 : Hid ((w1.alloc (.cells #[.int .i64 op, .int .i64 rd, .int .i64 a, .int .i64 b, .int .i64 imm, .int .i64 csr, .bool aq, .bool rl] 23)).heap[w1.heap.size]? = some (.cells #[.int .i64 op, .int .i64 rd, .int .i64 a, .int .i64 b, .int .i64 imm, .int .i64 csr, .bool aq, .bool rl] 23 (0, 0))) := Lib.hid (heap_alloc_new _ _)
  have HR2 : Hid ((w1.alloc (.cells #[.int .i64 op, .int .i64 rd, .int .i64 a, .int .i64 b, .int .i64 imm, .int .i64 csr, .bool aq, .bool rl] 23)).heap[w.heap.size]? = some (.cells #[.int .i64 0, .int .i64 0, .int .i64 0, .int .i64 0, .int .i64 0, .int .i64 0, .bool false, .bool false] 23 (0, 0))) := Lib.hid ((Lib.alloc_old _ _ _ HZ1.out).trans HR1.out)
  have HB2 : Hid (Below w.heap.size w (w1.alloc (.cells #[.int .i64 op, .int .i64 rd, .int .i64 a, .int .i64 b, .int .i64 imm, .int .i64 csr, .bool aq, .bool rl] 23))) := Lib.hid (HB1.out.alloc HB1.out.size _)
  cases hr : rightB ⟨op, rd, a, b, imm, csr, aq, rl⟩
  · have hC : c = false := by rw [HC.out, hr]; rfl
    have eRI : RI = insZ := by rw [HRI.out, hC]; rfl
    have eRE : RE = 100 := by rw [HRE.out, hC]; rfl
    subst eRI eRE
    have HPR := Lib.hid (fun w => rprint_no ⟨op, rd, a, b, imm, csr, aq, rl⟩ hr w)
    clear hC HC HRI HRE hr HR1 HB1
    go_wp2_with (refine wpList_load_row rfl _ _ rfl w1.heap.size rfl 23 _ _ _ HI2.out Tryz.underlying23 rfl size_ins ?_)
    (with_reducible refine (HPR.out _).mono ?_)
    rintro e wp ⟨rfl, hbp⟩
    have HBP : Hid (Below w.heap.size w wp) := Lib.hid (HB2.out.trans (hbp.mono HB2.out.size))
    have HRS : Hid (wp.heap[w.heap.size]? = some (.cells #[.int .i64 0, .int .i64 0, .int .i64 0, .int .i64 0, .int .i64 0, .int .i64 0, .bool false, .bool false] 23 (0, 0))) := Lib.hid ((hbp.block _ (Array.getElem?_eq_some_iff.1 HR2.out).1).trans HR2.out)
    clear hbp
    go_wp2_with (refine wpList_store_row rfl _ _ _ rfl w.heap.size _ rfl rfl 23 _ HRS.out size_ins rfl (by simp [Value.oneCell']) ?_)
    exact bodyPost_ret (v := .tuple #[.agg #[.int .i64 0, .int .i64 0, .int .i64 0, .int .i64 0, .int .i64 0, .int .i64 0, .bool false, .bool false], .int .i64 100]) (results_cell_tmp (show Tryz.f14.results = #[.cell 2 23, .tmp 3] by kernel_rfl) _ _ w.heap.size 23 _ _ _ rfl (setRow_heap _ _ _ _ _ _ HRS.out) Tryz.underlying23 rfl size_ins) rfl ⟨rfl, below_setRow HBP.out (Nat.le_refl _) _⟩
  · by_cases hp : printT ⟨op, rd, a, b, imm, csr, aq, rl⟩ = l
    · have hC : c = true := by rw [HC.out, hr, hp]; simp
      have eRI : RI = ⟨op, rd, a, b, imm, csr, aq, rl⟩ := by rw [HRI.out, hC]; rfl
      have eRE : RE = 0 := by rw [HRE.out, hC]; rfl
      subst eRI eRE
      have HPR := Lib.hid (fun w => rprint_yes ⟨op, rd, a, b, imm, csr, aq, rl⟩ hr w)
      rw [hp] at HPR
      clear hC HC HRI HRE hr hp HR1 HB1
      go_wp2_with (refine wpList_load_row rfl _ _ rfl w1.heap.size rfl 23 _ _ _ HI2.out Tryz.underlying23 rfl size_ins ?_)
      (with_reducible refine (HPR.out _).mono ?_)
      rintro e wp ⟨rfl, hbp⟩
      have HBP : Hid (Below w.heap.size w wp) := Lib.hid (HB2.out.trans (hbp.mono HB2.out.size))
      have HRS : Hid (wp.heap[w.heap.size]? = some (.cells #[.int .i64 0, .int .i64 0, .int .i64 0, .int .i64 0, .int .i64 0, .int .i64 0, .bool false, .bool false] 23 (0, 0))) := Lib.hid ((hbp.block _ (Array.getElem?_eq_some_iff.1 HR2.out).1).trans HR2.out)
      have HIS : Hid (wp.heap[w1.heap.size]? = some (.cells #[.int .i64 op, .int .i64 rd, .int .i64 a, .int .i64 b, .int .i64 imm, .int .i64 csr, .bool aq, .bool rl] 23 (0, 0))) := Lib.hid ((hbp.block _ (Array.getElem?_eq_some_iff.1 HI2.out).1).trans HI2.out)
      clear hbp
      go_wp2_with (first
        | (refine wpList_load_row rfl _ _ rfl w1.heap.size rfl 23 _ _ _ HIS.out Tryz.underlying23 rfl size_ins ?_)
        | (refine wpList_store_row rfl _ _ _ rfl w.heap.size _ rfl rfl 23 _ HRS.out size_ins rfl (by simp [Value.oneCell']) ?_))
      exact bodyPost_ret (v := .tuple #[.agg #[.int .i64 op, .int .i64 rd, .int .i64 a, .int .i64 b, .int .i64 imm, .int .i64 csr, .bool aq, .bool rl], .int .i64 0]) (results_cell_tmp (show Tryz.f14.results = #[.cell 2 23, .tmp 3] by kernel_rfl) _ _ w.heap.size 23 _ _ _ rfl (setRow_heap _ _ _ _ _ _ HRS.out) Tryz.underlying23 rfl size_ins) rfl ⟨rfl, below_setRow HBP.out (Nat.le_refl _) _⟩
    · have hC : c = false := by rw [HC.out, hr, Bool.true_and]; exact beq_eq_false_iff_ne.2 hp
      have eRI : RI = insZ := by rw [HRI.out, hC]; rfl
      have eRE : RE = 100 := by rw [HRE.out, hC]; rfl
      subst eRI eRE
      have HPR := Lib.hid (fun w => rprint_yes ⟨op, rd, a, b, imm, csr, aq, rl⟩ hr w)
      have hq : (printT ⟨op, rd, a, b, imm, csr, aq, rl⟩ == l) = false := beq_eq_false_iff_ne.2 hp
      clear hC HC HRI HRE hr hp HR1 HB1
      generalize printT ⟨op, rd, a, b, imm, csr, aq, rl⟩ = tx at *
      go_wp2_with (refine wpList_load_row rfl _ _ rfl w1.heap.size rfl 23 _ _ _ HI2.out Tryz.underlying23 rfl size_ins ?_)
      (with_reducible refine (HPR.out _).mono ?_)
      rintro e wp ⟨rfl, hbp⟩
      have HBP : Hid (Below w.heap.size w wp) := Lib.hid (HB2.out.trans (hbp.mono HB2.out.size))
      have HRS : Hid (wp.heap[w.heap.size]? = some (.cells #[.int .i64 0, .int .i64 0, .int .i64 0, .int .i64 0, .int .i64 0, .int .i64 0, .bool false, .bool false] 23 (0, 0))) := Lib.hid ((hbp.block _ (Array.getElem?_eq_some_iff.1 HR2.out).1).trans HR2.out)
      clear hbp
      go_wp2_with (refine wpList_store_row rfl _ _ _ rfl w.heap.size _ rfl rfl 23 _ HRS.out size_ins rfl (by simp [Value.oneCell']) ?_)
      exact bodyPost_ret (v := .tuple #[.agg #[.int .i64 0, .int .i64 0, .int .i64 0, .int .i64 0, .int .i64 0, .int .i64 0, .bool false, .bool false], .int .i64 100]) (results_cell_tmp (show Tryz.f14.results = #[.cell 2 23, .tmp 3] by kernel_rfl) _ _ w.heap.size 23 _ _ _ rfl (setRow_heap _ _ _ _ _ _ HRS.out) Tryz.underlying23 rfl size_ins) rfl ⟨rfl, below_setRow HBP.out (Nat.le_refl _) _⟩
theorem rparse_any (l : Bs) (hl : l.length ≤ 100000) (w : World) : Calls Tryz.prog 14 #[str l] w fun e w' => e = .returned (.tuple #[insV (parseI l), .int .i64 (parseE l)]) ∧ Below w.heap.size w w' := by
  obtain ⟨h1, h2⟩ := parse_one l
  have hg := fun w => rguess_any l hl w
  refine rparse_gen l (guessR l).2 (guessR l).1.op (guessR l).1.rd (guessR l).1.a (guessR l).1.b (guessR l).1.imm (guessR l).1.csr (guessR l).1.aq (guessR l).1.rl (parseI l) (parseE l) (parseB l) ?_ ?_ rfl hg w
  · exact h1.symm
  · unfold parseI
    cases hb : parseB l
    · rfl
    · rw [if_pos rfl, if_pos rfl, ← h2 hb]

end Go.Proofs.YtakdhdaoklcidaaGreatDoor

namespace Go.Proofs.YtakdhdaoklcidaaGreatDoor
open Go.RowKit Go.Lib
set_option linter.unusedVariables false
set_option maxRecDepth 100000

set_option maxHeartbeats 4000000 in
theorem parses_short (l : Bs) (hl : l.length ≤ 5000) (w : World) (he : Env w) : Calls Tryz.prog 4 #[str l] w fun e w' => e = .returned (.bool true) ∧ Below w.heap.size w w' := by
  have hg : ¬ (5000 : Int) < (l.length : Int) := by omega
  have HA : Hid (∀ w, Env w → Calls Tryz.prog 13 #[str l] w fun e w' => e = .returned (.tuple #[insV (parseI l), .int .i64 (parseE l)]) ∧ Below w.heap.size w w') := Lib.hid fun w he => parseP l (by omega) w he
  have HB : Hid (∀ w, Calls Tryz.prog 14 #[str l] w fun e w' => e = .returned (.tuple #[insV (parseI l), .int .i64 (parseE l)]) ∧ Below w.heap.size w w') := Lib.hid fun w => rparse_any l (by omega) w
  have hQ := fun w => eql_ins (parseI l) (parseI l) w
  rw [(eqI_iff _ _).2 rfl] at hQ
  generalize parseE l = q at *
  generalize parseI l = P at *
  obtain ⟨op, rd, a, b, imm, csr, aq, rl⟩ := P
  simp only [] at hQ HA HB
  have HE := Lib.hid he
  clear he
  go_enter Tryz.func4, Tryz.ntmps4
  go_wp2_with (fail)
  (with_reducible refine (HA.out _ HE.out).mono ?_)
  rintro e w1 ⟨rfl, hb1⟩
  have HB1 := Lib.hid (hb1.alloc hb1.size (.cells #[.int .i64 op, .int .i64 rd, .int .i64 a, .int .i64 b, .int .i64 imm, .int .i64 csr, .bool aq, .bool rl] 23))
  have HI1 : Hid ((w1.alloc (.cells #[.int .i64 op, .int .i64 rd, .int .i64 a, .int .i64 b, .int .i64 imm, .int .i64 csr, .bool aq, .bool rl] 23)).heap[w1.heap.size]? = some (.cells #[.int .i64 op, .int .i64 rd, .int .i64 a, .int .i64 b, .int .i64 imm, .int .i64 csr, .bool aq, .bool rl] 23 (0, 0))) := Lib.hid (heap_alloc_new _ _)
  clear hb1
  go_wp2_with (fail)
  (with_reducible refine (HB.out _).mono ?_)
  rintro e w2 ⟨rfl, hb2⟩
  have hz := hb2.size
  have HI2 : Hid ((w2.alloc (.cells #[.int .i64 op, .int .i64 rd, .int .i64 a, .int .i64 b, .int .i64 imm, .int .i64 csr, .bool aq, .bool rl] 23)).heap[w1.heap.size]? = some (.cells #[.int .i64 op, .int .i64 rd, .int .i64 a, .int .i64 b, .int .i64 imm, .int .i64 csr, .bool aq, .bool rl] 23 (0, 0))) := Lib.hid ((Lib.alloc_old _ _ _ (by simp at hz; omega)).trans ((hb2.block _ (by simp)).trans HI1.out))
  have HJ2 : Hid ((w2.alloc (.cells #[.int .i64 op, .int .i64 rd, .int .i64 a, .int .i64 b, .int .i64 imm, .int .i64 csr, .bool aq, .bool rl] 23)).heap[w2.heap.size]? = some (.cells #[.int .i64 op, .int .i64 rd, .int .i64 a, .int .i64 b, .int .i64 imm, .int .i64 csr, .bool aq, .bool rl] 23 (0, 0))) := Lib.hid (heap_alloc_new _ _)
  have HB2a := Lib.hid (HB1.out.trans (hb2.mono HB1.out.size))
  have HB2 := Lib.hid (HB2a.out.alloc HB2a.out.size (.cells #[.int .i64 op, .int .i64 rd, .int .i64 a, .int .i64 b, .int .i64 imm, .int .i64 csr, .bool aq, .bool rl] 23))
  clear hb2 hz HB2a HI1 HB1
  go_wp2_with (first
    | (refine wpList_load_row rfl _ _ rfl w1.heap.size rfl 23 _ _ _ HI2.out Tryz.underlying23 rfl size_ins ?_)
    | (refine wpList_load_row rfl _ _ rfl w2.heap.size rfl 23 _ _ _ HJ2.out Tryz.underlying23 rfl size_ins ?_)
    | (go_at_call 12; (with_reducible refine (wakes10 _ (HE.out.below HB2.out)).mono ?_); rintro e w6 ⟨rfl, hb6⟩; have HB6 := Lib.hid (HB2.out.trans (hb6.mono HB2.out.size)); clear hb6))
  go_ret
  exact ⟨rfl, HB6.out⟩
set_option maxHeartbeats 4000000 in
theorem parses_long (l : Bs) (hl : 5000 < l.length) (w : World) (he : Env w) : Calls Tryz.prog 4 #[str l] w fun e w' => e = .returned (.bool true) ∧ Below w.heap.size w w' := by
  have hg : (5000 : Int) < (l.length : Int) := by omega
  have hsl := fun wx => slice_to l 5000 (by omega) (by omega) wx
  rw [show (5000 : Int).toNat = 5000 from rfl] at hsl
  have hS : (l.take 5000).length ≤ 5000 := by rw [List.length_take]; omega
  generalize l.take 5000 = S at *
  have HA : Hid (∀ w, Env w → Calls Tryz.prog 13 #[str S] w fun e w' => e = .returned (.tuple #[insV (parseI S), .int .i64 (parseE S)]) ∧ Below w.heap.size w w') := Lib.hid fun w he => parseP S (by omega) w he
  have HB : Hid (∀ w, Calls Tryz.prog 14 #[str S] w fun e w' => e = .returned (.tuple #[insV (parseI S), .int .i64 (parseE S)]) ∧ Below w.heap.size w w') := Lib.hid fun w => rparse_any S (by omega) w
  have hQ := fun w => eql_ins (parseI S) (parseI S) w
  rw [(eqI_iff _ _).2 rfl] at hQ
  generalize parseE S = q at *
  generalize parseI S = P at *
  obtain ⟨op, rd, a, b, imm, csr, aq, rl⟩ := P
  simp only [] at hQ HA HB
  have HE := Lib.hid he
  clear he
  go_enter Tryz.func4, Tryz.ntmps4
  go_wp2_with (fail)
  (with_reducible refine (HA.out _ HE.out).mono ?_)
  rintro e w1 ⟨rfl, hb1⟩
  have HB1 := Lib.hid (hb1.alloc hb1.size (.cells #[.int .i64 op, .int .i64 rd, .int .i64 a, .int .i64 b, .int .i64 imm, .int .i64 csr, .bool aq, .bool rl] 23))
  have HI1 : Hid ((w1.alloc (.cells #[.int .i64 op, .int .i64 rd, .int .i64 a, .int .i64 b, .int .i64 imm, .int .i64 csr, .bool aq, .bool rl] 23)).heap[w1.heap.size]? = some (.cells #[.int .i64 op, .int .i64 rd, .int .i64 a, .int .i64 b, .int .i64 imm, .int .i64 csr, .bool aq, .bool rl] 23 (0, 0))) := Lib.hid (heap_alloc_new _ _)
  clear hb1
  go_wp2_with (fail)
  (with_reducible refine (HB.out _).mono ?_)
  rintro e w2 ⟨rfl, hb2⟩
  have hz := hb2.size
  have HI2 : Hid ((w2.alloc (.cells #[.int .i64 op, .int .i64 rd, .int .i64 a, .int .i64 b, .int .i64 imm, .int .i64 csr, .bool aq, .bool rl] 23)).heap[w1.heap.size]? = some (.cells #[.int .i64 op, .int .i64 rd, .int .i64 a, .int .i64 b, .int .i64 imm, .int .i64 csr, .bool aq, .bool rl] 23 (0, 0))) := Lib.hid ((Lib.alloc_old _ _ _ (by simp at hz; omega)).trans ((hb2.block _ (by simp)).trans HI1.out))
  have HJ2 : Hid ((w2.alloc (.cells #[.int .i64 op, .int .i64 rd, .int .i64 a, .int .i64 b, .int .i64 imm, .int .i64 csr, .bool aq, .bool rl] 23)).heap[w2.heap.size]? = some (.cells #[.int .i64 op, .int .i64 rd, .int .i64 a, .int .i64 b, .int .i64 imm, .int .i64 csr, .bool aq, .bool rl] 23 (0, 0))) := Lib.hid (heap_alloc_new _ _)
  have HB2a := Lib.hid (HB1.out.trans (hb2.mono HB1.out.size))
  have HB2 := Lib.hid (HB2a.out.alloc HB2a.out.size (.cells #[.int .i64 op, .int .i64 rd, .int .i64 a, .int .i64 b, .int .i64 imm, .int .i64 csr, .bool aq, .bool rl] 23))
  clear hb2 hz HB2a HI1 HB1
  go_wp2_with (first
    | (refine wpList_load_row rfl _ _ rfl w1.heap.size rfl 23 _ _ _ HI2.out Tryz.underlying23 rfl size_ins ?_)
    | (refine wpList_load_row rfl _ _ rfl w2.heap.size rfl 23 _ _ _ HJ2.out Tryz.underlying23 rfl size_ins ?_)
    | (go_at_call 12; (with_reducible refine (wakes10 _ (HE.out.below HB2.out)).mono ?_); rintro e w6 ⟨rfl, hb6⟩; have HB6 := Lib.hid (HB2.out.trans (hb6.mono HB2.out.size)); clear hb6))
  go_ret
  exact ⟨rfl, HB6.out⟩
theorem asmParses_walk (s : ByteArray) (w : World) (hs : s.size ≤ maxLen) (he : Env w) : Calls Tryz.prog 4 #[.string s] w fun e w' => e = .returned (.bool true) ∧ Below w.heap.size w w' := by
  have e : Value.string s = str s.data.toList := rfl
  rw [e]
  by_cases h : s.data.toList.length ≤ 5000
  · exact parses_short _ h w he
  · exact parses_long _ (by omega) w he

end Go.Proofs.YtakdhdaoklcidaaGreatDoor

namespace Go.Proofs.YtakdhdaoklcidaaGreatDoor
open Go.ChangeShapes Go.WideShapes Go.ChangeAt Go.RowKit
set_option linter.unusedVariables false
set_option maxRecDepth 100000

/-- The listed variables. -/
abbrev laidT : List (String × DataW Unit) := Rows.asmPrintsRow.laid
theorem gForms : Tryz.prog.globalNamed "mezzanine/decode.forms" = some 0 := by kernel_rfl
theorem tForms : (Tryz.prog.globals[0]?).map (·.type) = some 97 := by kernel_rfl
theorem start_met (os : Os) (args : Array Value) : laidMetH Tryz.prog laidT ((World.laidAll Tryz.prog os laidT).forCall (fun _ _ => 0) ⟨#[], args, []⟩).memory := by
  rw [MakeChecks.laidMetH_plain _ _ _ (by kernel_rfl)]
  exact laidMet_laidAll _ (by kernel_rfl) (by kernel_rfl)
section
variable {H : Type} {enc : TypeId × Value → H} {w : World} {base : Nat} {spare : Nat → Bool} {held : Bool}
theorem form_cells {n : Nat} {cs : List Value} {x : DataW H × List MemPlace} {m i : Int} {p q r s u : Bool}
    (h : DataW.trod enc Tryz.prog w base spare held n 96 cs = some x) (hx : x.1 = .agg [.lit (.int .u32 m), .lit (.bool p), .lit (.bool q), .lit (.bool r), .lit (.int .i64 i), .lit (.bool s), .lit (.bool u)]) :
    cs = [.int .u32 m, .bool p, .bool q, .bool r, .int .i64 i, .bool s, .bool u] := by
  obtain ⟨xs, m, _, rfl, hl, hlen, hf⟩ := DataW.trod_struct Tryz.underlying96 h
  have hC : Tryz.prog.cellsOf 96 = 7 := by kernel_rfl
  rw [hC] at hl
  match cs, hl with
  | [v0, v1, v2, v3, v4, v5, v6], _ =>
    have t0 := hf 0 _ rfl
    have t1 := hf 1 _ rfl
    have t2 := hf 2 _ rfl
    have t3 := hf 3 _ rfl
    have t4 := hf 4 _ rfl
    have t5 := hf 5 _ rfl
    have t6 := hf 6 _ rfl
    match xs, hlen with
    | [x0, x1, x2, x3, x4, x5, x6], _ =>
      obtain ⟨n0, e0, y0, _⟩ := DataW.trod_int Tryz.underlying43 (show DataW.trod enc Tryz.prog w base spare held m 43 [v0] = some x0 from t0)
      obtain ⟨n1, e1, y1⟩ := DataW.trod_bool Tryz.underlying4 (show DataW.trod enc Tryz.prog w base spare held m 4 [v1] = some x1 from t1)
      obtain ⟨n2, e2, y2⟩ := DataW.trod_bool Tryz.underlying4 (show DataW.trod enc Tryz.prog w base spare held m 4 [v2] = some x2 from t2)
      obtain ⟨n3, e3, y3⟩ := DataW.trod_bool Tryz.underlying4 (show DataW.trod enc Tryz.prog w base spare held m 4 [v3] = some x3 from t3)
      obtain ⟨n4, e4, y4, _⟩ := DataW.trod_int Tryz.underlying3 (show DataW.trod enc Tryz.prog w base spare held m 3 [v4] = some x4 from t4)
      obtain ⟨n5, e5, y5⟩ := DataW.trod_bool Tryz.underlying4 (show DataW.trod enc Tryz.prog w base spare held m 4 [v5] = some x5 from t5)
      obtain ⟨n6, e6, y6⟩ := DataW.trod_bool Tryz.underlying4 (show DataW.trod enc Tryz.prog w base spare held m 4 [v6] = some x6 from t6)
      simp only [List.cons.injEq, and_true] at e0 e1 e2 e3 e4 e5 e6
      subst e0 e1 e2 e3 e4 e5 e6 y0 y1 y2 y3 y4 y5 y6
      simp at hx
      obtain ⟨rfl, rfl, rfl, rfl, rfl, rfl, rfl⟩ := hx
      rfl
end
theorem list105 {l r0 r1 r2 r3 r4 r5 r6 r7 r8 r9 r10 r11 r12 r13 r14 : List Value} (hl : l.length = 105) (h0 : (l.drop 0).take 7 = r0) (h1 : (l.drop 7).take 7 = r1) (h2 : (l.drop 14).take 7 = r2) (h3 : (l.drop 21).take 7 = r3) (h4 : (l.drop 28).take 7 = r4) (h5 : (l.drop 35).take 7 = r5) (h6 : (l.drop 42).take 7 = r6) (h7 : (l.drop 49).take 7 = r7) (h8 : (l.drop 56).take 7 = r8) (h9 : (l.drop 63).take 7 = r9) (h10 : (l.drop 70).take 7 = r10) (h11 : (l.drop 77).take 7 = r11) (h12 : (l.drop 84).take 7 = r12) (h13 : (l.drop 91).take 7 = r13) (h14 : (l.drop 98).take 7 = r14) : l = r0 ++ (r1 ++ (r2 ++ (r3 ++ (r4 ++ (r5 ++ (r6 ++ (r7 ++ (r8 ++ (r9 ++ (r10 ++ (r11 ++ (r12 ++ (r13 ++ (r14 ++ [])))))))))))))) := by
  have s : ∀ n, l.drop n = (l.drop n).take 7 ++ l.drop (n + 7) := fun n => by rw [← List.drop_drop, List.take_append_drop]
  have z : l.drop 105 = [] := List.drop_eq_nil_of_le (by omega)
  subst h0 h1 h2 h3 h4 h5 h6 h7 h8 h9 h10 h11 h12 h13 h14
  have e0 : l = l.drop 0 := rfl
  have s0 := s 0
  have s7 := s 7
  have s14 := s 14
  have s21 := s 21
  have s28 := s 28
  have s35 := s 35
  have s42 := s 42
  have s49 := s 49
  have s56 := s 56
  have s63 := s 63
  have s70 := s 70
  have s77 := s 77
  have s84 := s 84
  have s91 := s 91
  have s98 := s 98
  rw [s98, z] at s91
  rw [s91] at s84
  rw [s84] at s77
  rw [s77] at s70
  rw [s70] at s63
  rw [s63] at s56
  rw [s56] at s49
  rw [s49] at s42
  rw [s42] at s35
  rw [s35] at s28
  rw [s28] at s21
  rw [s21] at s14
  rw [s14] at s7
  rw [s7] at s0
  exact s0
/-- What the condition gives. -/
theorem tab_of_forms {W : World} {r : List (String × DataW Unit)} (h : laidMet Tryz.prog (("mezzanine/decode.forms", Rows.laid_mezzanine_decode_forms) :: r) W) : Tab W := by
  obtain ⟨ps, ⟨g0, t0, cs0, f0, p0, q0, hg0, ht0, hv0, hd0, _⟩, _, _⟩ := h
  obtain rfl := Option.some.inj (gForms.symm.trans hg0)
  obtain rfl := Option.some.inj (tForms.symm.trans ht0)
  obtain ⟨xs, m, _, hx, hl, hn, hel⟩ := DataW.trod_array Tryz.underlying97 hd0
  have c68 : Tryz.prog.cellsOf 96 = 7 := by kernel_rfl
  have c69 : Tryz.prog.cellsOf 97 = 105 := by kernel_rfl
  rw [c69] at hl
  rw [c68] at hel
  simp only [Prod.mk.injEq] at hx
  match xs, hn with
  | [x0, x1, x2, x3, x4, x5, x6, x7, x8, x9, x10, x11, x12, x13, x14], _ =>
    have hx1 := hx.1
    unfold Rows.laid_mezzanine_decode_forms at hx1
    simp only [List.map_cons, List.map_nil, DataW.agg.injEq, List.cons.injEq] at hx1
    obtain ⟨e0, e1, e2, e3, e4, e5, e6, e7, e8, e9, e10, e11, e12, e13, e14, _⟩ := hx1
    have k0 := form_cells (hel 0 (by decide)) e0.symm
    have k1 := form_cells (hel 1 (by decide)) e1.symm
    have k2 := form_cells (hel 2 (by decide)) e2.symm
    have k3 := form_cells (hel 3 (by decide)) e3.symm
    have k4 := form_cells (hel 4 (by decide)) e4.symm
    have k5 := form_cells (hel 5 (by decide)) e5.symm
    have k6 := form_cells (hel 6 (by decide)) e6.symm
    have k7 := form_cells (hel 7 (by decide)) e7.symm
    have k8 := form_cells (hel 8 (by decide)) e8.symm
    have k9 := form_cells (hel 9 (by decide)) e9.symm
    have k10 := form_cells (hel 10 (by decide)) e10.symm
    have k11 := form_cells (hel 11 (by decide)) e11.symm
    have k12 := form_cells (hel 12 (by decide)) e12.symm
    have k13 := form_cells (hel 13 (by decide)) e13.symm
    have k14 := form_cells (hel 14 (by decide)) e14.symm
    have hcs := list105 hl k0 k1 k2 k3 k4 k5 k6 k7 k8 k9 k10 k11 k12 k13 k14
    simp only [World.var?, gForms, Option.bind_some] at hv0
    split at hv0
    · rename_i c t fr hb
      have hc := Option.some.inj hv0
      have hq : cs0 = formsQ := Array.ext' (by rw [hcs]; rfl)
      exact ⟨t, fr, by rw [hb, hc, hq]⟩
    · cases hv0

theorem returnsInHanded_and_shaped {H : Type} {enc : TypeId × Value → H} {a : Assume} {C : Checked} {os : Os} {f : FuncId} {fn : Func} {s : ChangeSpec} {conds : List PathCond} {apart fresh handsOn again : Bool} {X : World → Array Value → Prop}
    (hX : ∀ (w w' : World) (args : Array Value), w.heap = w'.heap → X w args → X w' args)
    (own : ownKnob C.prog.godebug = none) (started : os.Started) (noInit : C.prog.inits.idxOf? f = none) (hfn : C.prog.funcs[f]? = some fn)
    (witness : ∃ (w : World) (tape : Tape) (i : Input), w.os = os ∧ (w.forCall tape i).Shaped C.prog ∧ i.vars = [] ∧ Input.okWide C.prog (w.forCall tape i) .any w.heap.size f i ∧
      ((s.pre enc C.prog fn conds apart (w.forCall tape i).memory i.args ∧ X (w.forCall tape i).memory i.args) ∧ sizedMet enc C.prog fn (OpenSpec.ofChange s) apart (w.forCall tape i).memory i.args) ∧ a.holds C.prog (lone (Frame.enter C.prog f i.args .normal) [] (w.forCall tape i)))
    (contract : ∀ (W : World) (base : Nat) (args : Array Value) (ds gs : List (DataW H)) (before : List MemPlace),
      (∀ (j : Nat) t v, fn.params[j]? = some t → args[j]? = some v → Value.okWide C.prog W .any base t v) →
      DataW.Whole enc C.prog fn.params.toList s.vars apart W args.toList ds gs before → X W args → W.ShapedOpen C.prog →
      Calls C.prog f args W fun e W' => ∃ v, e = .returned v ∧ s.post enc C.prog fn apart fresh handsOn again W args v W') :
    ReturnsInHanded a C os f .any (fun w args => (s.pre enc C.prog fn conds apart w args ∧ X w args) ∧ sizedMet enc C.prog fn (OpenSpec.ofChange s) apart w args) (s.post enc C.prog fn apart fresh handsOn again) := by
  refine returnsInHanded_of_calls own started noInit witness ?_
  intro w tape i _ hsh _ hok hpre hholds
  obtain ⟨_, _, _, fn', hfn', _, _, _, _, hval⟩ := hok
  have e : fn' = fn := Option.some.inj (hfn'.symm.trans hfn)
  subst e
  obtain ⟨⟨⟨ds, gs, before, hw, hc⟩, hx⟩, hz⟩ := hpre
  have hw' := DataW.Whole.of_heap (w' := w.forCall tape i) (by rfl) hw
  refine (contract (w.forCall tape i) w.heap.size i.args ds gs before hval hw' (hX _ _ _ (by rfl) hx) hsh).mono fun e W' ⟨v, he, hp⟩ => ?_
  subst he
  exact ChangeSpec.post_blind hp
theorem mlen_of_shaped {w : World} (h : w.ShapedOpen Tryz.prog) : ∃ m, w.cell? ⟨2, 0, none⟩ = some (.int .i64 m) :=
  cell_of_shapedOpen_int (g := 2) (t := 3) (zero := #[.int .i64 0]) h (of_decide_eq_true (by kernel_rfl)) (by kernel_rfl) rfl (by kernel_rfl) (by kernel_rfl) Tryz.underlying3
def bruTab : List Int := [0, 1, 56, 2, 57, 49, 28, 3, 61, 58, 42, 50, 38, 29, 17, 4, 62, 47, 59, 36, 45, 43, 51, 22, 53, 39, 33, 30, 24, 18, 12, 5, 63, 55, 48, 27, 60, 41, 37, 16, 46, 35, 44, 21, 52, 32, 23, 11, 54, 26, 40, 15, 34, 20, 31, 10, 25, 14, 19, 9, 13, 8, 7, 6]
theorem bru_same : ∀ j, j < 64 → bruTab.getD j 0 = (([0, 1, 56, 2, 57, 49, 28, 3, 61, 58, 42, 50, 38, 29, 17, 4, 62, 47, 59, 36, 45, 43, 51, 22, 53, 39, 33, 30, 24, 18, 12, 5, 63, 55, 48, 27, 60, 41, 37, 16, 46, 35, 44, 21, 52, 32, 23, 11, 54, 26, 40, 15, 34, 20, 31, 10, 25, 14, 19, 9, 13, 8, 7, 6] : List Nat).getD j 0 : Nat) := by decide
theorem gBru : Tryz.prog.globalNamed "math/bits.deBruijn64tab" = some 1 := by kernel_rfl
theorem gSyn : Tryz.prog.globalNamed "strconv.ErrSyntax" = some 4 := by kernel_rfl
theorem gRan : Tryz.prog.globalNamed "strconv.ErrRange" = some 5 := by kernel_rfl
theorem iface_of_laid {n nm : String} {d : DataW Unit} {r : List (String × DataW Unit)} {W : World} {g : Nat} {ti : TypeId} {ms : Array (String × TypeId)} (h : laidMet Tryz.prog ((n, .iface nm d) :: r) W)
    (hg : Tryz.prog.globalNamed n = some g) (ht : (Tryz.prog.globals[g]?).map (·.type) = some ti) (hi : Tryz.prog.underlying ti = some (.interface ms)) : ∃ tp p, W.cell? ⟨g, 0, none⟩ = some (.iface tp p) := by
  obtain ⟨ps, ⟨g0, t0, cs0, f0, p0, q0, hg0, ht0, hv0, hd0, _, e0⟩, _, hrows⟩ := h
  obtain rfl := Option.some.inj (hg.symm.trans hg0)
  obtain rfl := Option.some.inj (ht.symm.trans ht0)
  obtain ⟨f1, u, v, e, _, _⟩ := iface_of_trod hi hd0
  have hc := World.var?_cell hg hv0 0
  obtain ⟨l⟩ := cs0
  have e' : l = [.iface u v] := e
  subst e'
  exact ⟨u, v, by simpa using hc⟩
/-- What the condition and the world's shape give. -/
theorem env_of_laid {W : World} (h : laidMetH Tryz.prog laidT W) (hs : W.ShapedOpen Tryz.prog) : Env W := by
  rw [MakeChecks.laidMetH_plain _ _ _ (by kernel_rfl)] at h
  have h1 := h.tail
  have h2 := h1.tail
  have h3 := h2.tail
  have h4 := h3.tail
  have h5 := h4.tail
  have h6 := h5.tail
  have hb : Lib.TabIs Tryz.prog W "math/bits.deBruijn64tab" .u8 bruTab := Lib.tabIs_of_head (n := 64) gBru (t := 125) (e := 5) (by kernel_rfl) Tryz.underlying125 Tryz.underlying5 (by kernel_rfl) (by kernel_rfl) h1
  exact ⟨tab_of_forms h6, Lib.tabIs_of_head (n := 20) gPow (t := 189) (e := 36) (by kernel_rfl) Tryz.underlying189 Tryz.underlying36 (by kernel_rfl) (by kernel_rfl) h2,
    fun j hj => ⟨_, by rw [hb.cell gBru j (by simpa [bruTab] using hj), bru_same j hj], rfl⟩,
    iface_of_laid h5 gSyn (by kernel_rfl) Tryz.underlying105, iface_of_laid h4 gRan (by kernel_rfl) Tryz.underlying105, mlen_of_shaped hs⟩

end Go.Proofs.YtakdhdaoklcidaaGreatDoor
