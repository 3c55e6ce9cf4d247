/- Joined: ClA ClRef ClRef2 ClP ClFind ClFind2 ClWrite ClProg ClS -/
import Derived.Test.YtohidopbggcejaaDoorMZ1
import Derived.Test.YtohidopbggcejaaDoorRows
import Derived.WalkLawsBesides
import Derived.BigQuiet
import Derived.Deep.QuietTactic
import Derived.StillTailTactics
import Derived.Lib.Hide
import Derived.Deep.RegionHeld3
import Derived.Laws.EntriesVeiled
import Derived.Laws.CopyOwn
import Derived.Deep.RegionWith
namespace Go.Proofs.YtohidopbggcejaaDoor.C4
open Go.RowKit
set_option linter.unusedVariables false
set_option maxRecDepth 100000

/-- A clint's state: its software word, the time to compare with, the time. -/
structure Cl where
  s : Bool
  c : Int
  n : Int
/-- Both times are words. -/
def Cl.ok (t : Cl) : Prop := In64 t.c ∧ In64 t.n
/-- The software word as a number. -/
def sI (b : Bool) : Int := if b then 1 else 0
theorem sI_true : sI true = 1 := rfl
theorem sI_false : sI false = 0 := rfl
theorem sI_in (b : Bool) : In64 (sI b) := by cases b <;> (unfold In64 sI; simp)
/-- The numbers of the places: 0 is none. -/
def kindC (off n : Int) : Nat :=
  if off = 0 ∧ n = 4 then 1 else if off = 16384 ∧ n = 8 then 2 else if off = 16384 ∧ n = 4 then 3 else if off = 16388 ∧ n = 4 then 4
  else if off = 49144 ∧ n = 8 then 5 else if off = 49144 ∧ n = 4 then 6 else if off = 49148 ∧ n = 4 then 7 else 0
/-- Whether there is such a place. -/
def okC (off n : Int) : Bool := kindC off n != 0
/-- What stands at a place. -/
def rdC (t : Cl) : Nat → Int
  | 1 => sI t.s
  | 2 => t.c
  | 3 => t.c % 4294967296
  | 4 => t.c / 4294967296
  | 5 => t.n
  | 6 => t.n % 4294967296
  | 7 => t.n / 4294967296
  | _ => 0
/-- What a write of v leaves. -/
def wrC (t : Cl) (v : Int) : Nat → Cl
  | 1 => ⟨v % 2 == 1, t.c, t.n⟩
  | 2 => ⟨t.s, v, t.n⟩
  | 3 => ⟨t.s, t.c / 4294967296 * 4294967296 + v % 4294967296, t.n⟩
  | 4 => ⟨t.s, v % 4294967296 * 4294967296 + t.c % 4294967296, t.n⟩
  | 5 => ⟨t.s, t.c, v⟩
  | 6 => ⟨t.s, t.c, t.n / 4294967296 * 4294967296 + v % 4294967296⟩
  | 7 => ⟨t.s, t.c, v % 4294967296 * 4294967296 + t.n % 4294967296⟩
  | _ => t
/-- What ticks leave. -/
def tickC (t : Cl) (n : Int) : Cl := ⟨t.s, t.c, (t.n + n) % 18446744073709551616⟩
theorem wrC_ok {t : Cl} {v : Int} (h : t.ok) (hv : In64 v) (k : Nat) : (wrC t v k).ok := by
  unfold Cl.ok In64 at *
  match k with
  | 0 => exact h
  | 1 => exact h
  | 2 => exact ⟨hv, h.2⟩
  | 3 => simp only [wrC]; omega
  | 4 => simp only [wrC]; omega
  | 5 => exact ⟨h.1, hv⟩
  | 6 => simp only [wrC]; omega
  | 7 => simp only [wrC]; omega
  | _ + 8 => exact h
theorem tickC_ok {t : Cl} {n : Int} (h : t.ok) : (tickC t n).ok := by
  unfold Cl.ok In64 tickC at *; simp only; omega

/-- Every offset and length: one of the seven places, or none, as one asks. -/
theorem kind_cases (off n : Int) :
    (off = 0 ∧ n = 4 ∧ kindC off n = 1) ∨ (off = 16384 ∧ n = 8 ∧ kindC off n = 2) ∨ (off = 16384 ∧ n = 4 ∧ kindC off n = 3) ∨ (off = 16388 ∧ n = 4 ∧ kindC off n = 4) ∨
    (off = 49144 ∧ n = 8 ∧ kindC off n = 5) ∨ (off = 49144 ∧ n = 4 ∧ kindC off n = 6) ∨ (off = 49148 ∧ n = 4 ∧ kindC off n = 7) ∨
    (kindC off n = 0 ∧ ¬ (off = 0 ∧ n = 4) ∧ ¬ ((off = 16384 ∨ off = 49144) ∧ n = 8) ∧ ¬ ((off = 16384 ∨ off = 16388 ∨ off = 49144 ∨ off = 49148) ∧ n = 4)) := by
  by_cases h1 : off = 0 ∧ n = 4
  · obtain ⟨rfl, rfl⟩ := h1; exact .inl ⟨rfl, rfl, rfl⟩
  by_cases h2 : off = 16384 ∧ n = 8
  · obtain ⟨rfl, rfl⟩ := h2; exact .inr (.inl ⟨rfl, rfl, rfl⟩)
  by_cases h3 : off = 16384 ∧ n = 4
  · obtain ⟨rfl, rfl⟩ := h3; exact .inr (.inr (.inl ⟨rfl, rfl, rfl⟩))
  by_cases h4 : off = 16388 ∧ n = 4
  · obtain ⟨rfl, rfl⟩ := h4; exact .inr (.inr (.inr (.inl ⟨rfl, rfl, rfl⟩)))
  by_cases h5 : off = 49144 ∧ n = 8
  · obtain ⟨rfl, rfl⟩ := h5; exact .inr (.inr (.inr (.inr (.inl ⟨rfl, rfl, rfl⟩))))
  by_cases h6 : off = 49144 ∧ n = 4
  · obtain ⟨rfl, rfl⟩ := h6; exact .inr (.inr (.inr (.inr (.inr (.inl ⟨rfl, rfl, rfl⟩)))))
  by_cases h7 : off = 49148 ∧ n = 4
  · obtain ⟨rfl, rfl⟩ := h7; exact .inr (.inr (.inr (.inr (.inr (.inr (.inl ⟨rfl, rfl, rfl⟩))))))
  refine .inr (.inr (.inr (.inr (.inr (.inr (.inr ⟨?_, h1, ?_, ?_⟩))))))
  · unfold kindC; rw [if_neg h1, if_neg h2, if_neg h3, if_neg h4, if_neg h5, if_neg h6, if_neg h7]
  · omega
  · omega

/-! ### what the program reckons: pieces of a word, told and put -/
theorem field_whole {x : Int} (h : In64 x) : U (fieldB (V x) 0 64) = x := by
  rw [← U_V h]
  congr 1
  rw [V_U]
  refine ext64 fun i hi => ?_
  rw [field_bit _ _ (by omega)]
  simp [hi]; omega
theorem put_whole {x v : Int} (h : In64 v) : U (putB (V x) 0 64 (V v)) = v := by
  conv => rhs; rw [← U_V h]
  congr 1
  refine ext64 fun i hi => ?_
  rw [put_bit _ _ _ (by omega)]
  simp [hi]; omega
theorem low_toNat (b : BitVec 64) : fieldB b 0 32 = BitVec.ofNat 64 (b.toNat % 2 ^ 32) := by
  refine ext64 fun i hi => ?_
  rw [field_bit _ _ (by omega), BitVec.getLsbD_ofNat, Nat.testBit_mod_two_pow, decide_eq_true hi]
  by_cases c : i < 32
  · simp [BitVec.getLsbD, c, show (i : Int) < 32 by omega]
  · simp [c, show ¬ (i : Int) < 32 by omega]
theorem high_toNat (b : BitVec 64) : fieldB b 32 32 = BitVec.ofNat 64 (b.toNat / 2 ^ 32) := by
  refine ext64 fun i hi => ?_
  rw [field_bit _ _ (by omega), BitVec.getLsbD_ofNat, Nat.testBit_div_two_pow, decide_eq_true hi]
  have hb := b.isLt
  by_cases h : i < 32
  · simp [BitVec.getLsbD, show (i : Int) < 32 by omega, Nat.add_comm]
  · have hz : b.toNat.testBit (32 + i) = false := Nat.testBit_lt_two_pow (Nat.lt_of_lt_of_le hb (Nat.pow_le_pow_right (by omega) (by omega)))
    have hz2 : b.toNat.testBit (i + 32) = false := by rw [Nat.add_comm]; exact hz
    simp [hz2, show ¬ (i : Int) < 32 by omega]
theorem V_nat {x : Int} (h : In64 x) : ((V x).toNat : Int) = x := toNat_V h
theorem field_low {x : Int} (h : In64 x) : U (fieldB (V x) 0 32) = x % 4294967296 := by
  rw [low_toNat]; unfold U
  rw [BitVec.toNat_ofNat]
  have := V_nat h
  unfold In64 at h
  omega
theorem field_high {x : Int} (h : In64 x) : U (fieldB (V x) 32 32) = x / 4294967296 := by
  rw [high_toNat]; unfold U
  rw [BitVec.toNat_ofNat]
  have := V_nat h
  unfold In64 at h
  omega
theorem put_low {x v : Int} (h : In64 x) (hv : In64 v) : U (putB (V x) 0 32 (V v)) = x / 4294967296 * 4294967296 + v % 4294967296 := by
  have e : putB (V x) 0 32 (V v) = BitVec.ofNat 64 (2 ^ 32 * ((V x).toNat / 2 ^ 32) + (V v).toNat % 2 ^ 32) := by
    refine ext64 fun i hi => ?_
    rw [put_bit _ _ _ (by omega), BitVec.getLsbD_ofNat, decide_eq_true hi, Nat.testBit_two_pow_mul_add _ (Nat.mod_lt _ (by omega)), Nat.testBit_mod_two_pow, Nat.testBit_div_two_pow]
    by_cases c : i < 32
    · simp [BitVec.getLsbD, c, show (i : Int) < 32 by omega]
    · simp [BitVec.getLsbD, c, show ¬ (i : Int) < 32 by omega, show i - 32 + 32 = i by omega]
  rw [e]; unfold U
  rw [BitVec.toNat_ofNat]
  have h1 := V_nat h
  have h2 := V_nat hv
  unfold In64 at h hv
  omega
theorem put_high {x v : Int} (h : In64 x) (hv : In64 v) : U (putB (V x) 32 32 (V v)) = v % 4294967296 * 4294967296 + x % 4294967296 := by
  have e : putB (V x) 32 32 (V v) = BitVec.ofNat 64 (2 ^ 32 * ((V v).toNat % 2 ^ 32) + (V x).toNat % 2 ^ 32) := by
    refine ext64 fun i hi => ?_
    rw [put_bit _ _ _ (by omega), BitVec.getLsbD_ofNat, decide_eq_true hi, Nat.testBit_two_pow_mul_add _ (Nat.mod_lt _ (by omega)), Nat.testBit_mod_two_pow, Nat.testBit_mod_two_pow]
    by_cases c : i < 32
    · simp [BitVec.getLsbD, c, show ¬ 32 ≤ i by omega]
    · simp [BitVec.getLsbD, c, show 32 ≤ i by omega, show (i : Int) - 32 < 32 by omega, show i - 32 < 32 by omega]
  rw [e]; unfold U
  rw [BitVec.toNat_ofNat]
  have h1 := V_nat h
  have h2 := V_nat hv
  unfold In64 at h hv
  omega
/-- The lowest bit of a number. -/
theorem bit_zero {v : Int} (hv : In64 v) : bitB (V v) 0 = (v % 2 == 1) := by
  unfold bitB
  have h2 := V_nat hv
  rw [decide_eq_true (show (0 : Int) ≤ 0 by omega), Bool.true_and, show (0 : Int).toNat = 0 from rfl, bit_div, Bool.eq_iff_iff, decide_eq_true_eq, beq_iff_eq]
  omega
theorem bit_put_low {x v : Int} (h : In64 x) (hv : In64 v) : bitB (V (U (putB (V x) 0 32 (V v)))) 0 = (v % 2 == 1) := by
  rw [bit_zero (U_in _), put_low h hv, Bool.eq_iff_iff, beq_iff_eq, beq_iff_eq]
  unfold In64 at *
  omega

end Go.Proofs.YtohidopbggcejaaDoor.C4

namespace Go.Proofs.YtohidopbggcejaaDoor.C4
open Go.RowKit
set_option linter.unusedVariables false
set_option maxRecDepth 100000

/-- The document's clint t stands in block b. -/
def RefC (w : World) (b : Nat) (t : Cl) : Prop := w.heap[b]? = some (.cells #[.int .u64 (sI t.s), .int .u64 t.c, .int .u64 t.n] 0 (0, 0)) ∧ t.ok
theorem RefC.keeps {w w' : World} {b : Nat} {t : Cl} {T : Nat → Prop} (h : RefC w b t) (o : Only T w w') (hb : ¬ T b) : RefC w' b t := ⟨o.keeps hb h.1, h.2⟩
theorem RefC.lt {w : World} {b : Nat} {t : Cl} (h : RefC w b t) : b < w.heap.size := (Array.getElem?_eq_some_iff.1 h.1).1
theorem RefC.below {w w' : World} {b : Nat} {t : Cl} (h : RefC w b t) (o : Below w.heap.size w w') : RefC w' b t := ⟨(o.block b h.lt).trans h.1, h.2⟩
/-- The three cells. -/
theorem RefC.cells {w : World} {b : Nat} {t : Cl} (h : RefC w b t) : w.cell? ⟨b, 0, none⟩ = some (.int .u64 (sI t.s)) ∧ w.cell? ⟨b, 1, none⟩ = some (.int .u64 t.c) ∧ w.cell? ⟨b, 2, none⟩ = some (.int .u64 t.n) := by
  refine ⟨?_, ?_, ?_⟩ <;> (rw [cell_of_row w b _ _ _ _ h.1]; rfl)
theorem RefC.free {w : World} {b : Nat} {t : Cl} (h : RefC w b t) (k : Nat) : w.frozen? ⟨b, k, none⟩ = false := frozen_of_row w b k _ _ h.1
/-- Its value. -/
def refV (t : Cl) : Value := .agg #[.int .u64 (sI t.s), .int .u64 t.c, .int .u64 t.n]

/-- What a call leaves that turns the clint. -/
def RefEnd (w : World) (b : Nat) (r : Value) (t' : Cl) (e : Ending) (w' : World) : Prop := e = .returned r ∧ Only (fun i => i = b) w w' ∧ RefC w' b t'
theorem refC_set {w w' : World} {b k : Nat} {t t' : Cl} {v : Value} {r : Value} (h : RefC w b t) (ho : ∃ n, w' = (w.drewN n).setCell ⟨b, k, none⟩ v)
    (e : (#[.int .u64 (sI t.s), .int .u64 t.c, .int .u64 t.n] : Array Value).setIfInBounds k v = #[.int .u64 (sI t'.s), .int .u64 t'.c, .int .u64 t'.n]) (hok : t'.ok) : RefEnd w b r t' (.returned r) w' := by
  obtain ⟨n, rfl⟩ := ho
  refine ⟨rfl, ((Only.refl (fun i => i = b) w).drewN n).setCell (p := ⟨b, k, none⟩) (.inl rfl) v, ?_, hok⟩
  rw [heap_setCell_same (w.drewN n) b k _ _ _ h.1, e]

theorem sI_mod {v : Int} (h : In64 v) : sI (v % 2 == 1) = v % 2 := by
  unfold sI
  by_cases e : v % 2 = 1
  · rw [e]; rfl
  · have e2 : (v % 2 == 1) = false := by simpa using e
    rw [e2]; simp; unfold In64 at h; omega

end Go.Proofs.YtohidopbggcejaaDoor.C4

namespace Go.Proofs.YtohidopbggcejaaDoor.C4
open Go.RowKit
set_option linter.unusedVariables false
set_option maxRecDepth 100000

/-- No such place: what the walk asks of the tests, in its own spelling. -/
structure NoPlace (off n : Int) : Prop where
  k : kindC off n = 0
  soft : ¬ (off = 0 ∧ n = 4)
  whole : ¬ ((off = 16384 ∨ off = 49144) ∧ n = 8)
  half : ¬ ((off = 16384 ∨ off = 16388 ∨ off = 49144 ∨ off = 49148) ∧ n = 4)

theorem ne_bool {a b : Int} (h : ¬ a = b) : (a == b) = false := by simpa using h
theorem ne_bool2 {a b : Int} (h : ¬ a = b) : (a != b) = true := by simpa using h

/-- Whether the time has come. -/
def mtC (t : Cl) : Bool := decide (t.c ≤ t.n)

/-- What Read leaves. -/
def ReadC (w : World) (x : Int) (r : Bool) (e : Ending) (w' : World) : Prop := e = .returned (.tuple #[.int .u64 x, .bool r]) ∧ Below w.heap.size w w'

end Go.Proofs.YtohidopbggcejaaDoor.C4

namespace Go.Proofs.YtohidopbggcejaaDoor.C4
open Go.RowKit
set_option linter.unusedVariables false
set_option maxRecDepth 100000

/-- The program's clint t stands in block b. -/
def ProgC (w : World) (b : Nat) (t : Cl) : Prop := w.heap[b]? = some (.cells #[.bool t.s, .int .u64 t.c, .int .u64 t.n] 52 (0, 0)) ∧ t.ok
theorem ProgC.keeps {w w' : World} {b : Nat} {t : Cl} {T : Nat → Prop} (h : ProgC w b t) (o : Only T w w') (hb : ¬ T b) : ProgC w' b t := ⟨o.keeps hb h.1, h.2⟩
theorem ProgC.lt {w : World} {b : Nat} {t : Cl} (h : ProgC w b t) : b < w.heap.size := (Array.getElem?_eq_some_iff.1 h.1).1
theorem ProgC.below {w w' : World} {b : Nat} {t : Cl} (h : ProgC w b t) (o : Below w.heap.size w w') : ProgC w' b t := ⟨(o.block b h.lt).trans h.1, h.2⟩
theorem ProgC.cells {w : World} {b : Nat} {t : Cl} (h : ProgC w b t) : w.cell? ⟨b, 0, none⟩ = some (.bool t.s) ∧ w.cell? ⟨b, 1, none⟩ = some (.int .u64 t.c) ∧ w.cell? ⟨b, 2, none⟩ = some (.int .u64 t.n) := by
  refine ⟨?_, ?_, ?_⟩ <;> (rw [cell_of_row w b _ _ _ _ h.1]; rfl)
theorem ProgC.free {w : World} {b : Nat} {t : Cl} (h : ProgC w b t) (k : Nat) : w.frozen? ⟨b, k, none⟩ = false := frozen_of_row w b k _ _ h.1
/-- Its value, and its times'. -/
def timesV (t : Cl) : Value := .agg #[.int .u64 t.c, .int .u64 t.n]
def progV (t : Cl) : Value := .agg #[.bool t.s, .int .u64 t.c, .int .u64 t.n]

theorem time_any (w : World) (t : Cl) : Calls Tryd.prog 37 #[timesV t] w fun e w' => e = .returned (.int .u64 t.n) ∧ Below w.heap.size w w' := by
  obtain ⟨s, c, n⟩ := t
  show Calls Tryd.prog 37 #[.agg #[.int .u64 c, .int .u64 n]] w _
  go_enter Tryd.func37, Tryd.ntmps37
  go_wp2
  go_ret
  exact ⟨rfl, (Below.refl _ _).alloc (Nat.le_refl _) _⟩
theorem alarm_any (w : World) (t : Cl) : Calls Tryd.prog 75 #[timesV t] w fun e w' => e = .returned (.int .u64 t.c) ∧ Below w.heap.size w w' := by
  obtain ⟨s, c, n⟩ := t
  show Calls Tryd.prog 75 #[.agg #[.int .u64 c, .int .u64 n]] w _
  go_enter Tryd.func75, Tryd.ntmps75
  go_wp2
  go_ret
  exact ⟨rfl, (Below.refl _ _).alloc (Nat.le_refl _) _⟩
theorem mtip_any (w : World) (t : Cl) : Calls Tryd.prog 35 #[timesV t] w fun e w' => e = .returned (.bool (mtC t)) ∧ Below w.heap.size w w' := by
  obtain ⟨s, c, n⟩ := t
  show Calls Tryd.prog 35 #[.agg #[.int .u64 c, .int .u64 n]] w _
  go_enter Tryd.func35, Tryd.ntmps35
  go_wp2
  go_ret
  exact ⟨rfl, (Below.refl _ _).alloc (Nat.le_refl _) _⟩
theorem msip_any (w : World) (t : Cl) : Calls Tryd.prog 34 #[progV t] w fun e w' => e = .returned (.bool t.s) ∧ Below w.heap.size w w' := by
  obtain ⟨s, c, n⟩ := t
  show Calls Tryd.prog 34 #[.agg #[.bool s, .int .u64 c, .int .u64 n]] w _
  go_enter Tryd.func34, Tryd.ntmps34
  go_wp2
  go_ret
  exact ⟨rfl, (Below.refl _ _).alloc (Nat.le_refl _) _⟩
theorem softWord_any (w : World) (t : Cl) : Calls Tryd.prog 72 #[progV t] w fun e w' => e = .returned (.int .u64 (sI t.s)) ∧ Below w.heap.size w w' := by
  obtain ⟨s, c, n⟩ := t
  cases s with
  | true =>
    show Calls Tryd.prog 72 #[.agg #[.bool true, .int .u64 c, .int .u64 n]] w _
    go_enter Tryd.func72, Tryd.ntmps72
    go_wp2
    go_ret
    exact ⟨rfl, (Below.refl _ _).alloc (Nat.le_refl _) _⟩
  | false =>
    show Calls Tryd.prog 72 #[.agg #[.bool false, .int .u64 c, .int .u64 n]] w _
    go_enter Tryd.func72, Tryd.ntmps72
    go_wp2
    go_ret
    exact ⟨rfl, (Below.refl _ _).alloc (Nat.le_refl _) _⟩

/-- What a call leaves that turns the clint. -/
def ProgCEnd (w : World) (b : Nat) (r : Ending) (t' : Cl) (e : Ending) (w' : World) : Prop := e = r ∧ Only (fun i => i = b) w w' ∧ ProgC w' b t'
theorem progC_set {w w' : World} {b k : Nat} {t t' : Cl} {v : Value} (h : ProgC w b t) (ho : ∃ n, w' = (w.drewN n).setCell ⟨b, k, none⟩ v)
    (e : (#[.bool t.s, .int .u64 t.c, .int .u64 t.n] : Array Value).setIfInBounds k v = #[.bool t'.s, .int .u64 t'.c, .int .u64 t'.n]) (hok : t'.ok) : Only (fun i => i = b) w w' ∧ ProgC w' b t' := by
  obtain ⟨n, rfl⟩ := ho
  refine ⟨((Only.refl (fun i => i = b) w).drewN n).setCell (p := ⟨b, k, none⟩) (.inl rfl) v, ?_, hok⟩
  rw [heap_setCell_same (w.drewN n) b k _ _ _ h.1, e]
/-- What a call leaves that answers nothing. -/
def SetEndC (w : World) (b : Nat) (t' : Cl) (e : Ending) (w' : World) : Prop := (∃ u, e = .returned u) ∧ Only (fun i => i = b) w w' ∧ ProgC w' b t'

theorem setTime_any (w : World) (b : Nat) (t : Cl) (v : Int) (h : ProgC w b t) (hv : In64 v) :
    Calls Tryd.prog 78 #[.pointer (some ⟨b, 1, none⟩), .int .u64 v] w (SetEndC w b ⟨t.s, t.c, v⟩) := by
  obtain ⟨hc0, hc1, hc2⟩ := h.cells
  have f2 := h.free 2
  have H := Lib.hid h
  have HV := Lib.hid hv
  clear h hv
  go_enter Tryd.func78, Tryd.ntmps78
  go_wp2
  go_end0
  exact ⟨⟨_, rfl⟩, progC_set (k := 2) H.out ⟨0, rfl⟩ rfl ⟨H.out.2.1, HV.out⟩⟩
theorem setAlarm_any (w : World) (b : Nat) (t : Cl) (v : Int) (h : ProgC w b t) (hv : In64 v) :
    Calls Tryd.prog 76 #[.pointer (some ⟨b, 1, none⟩), .int .u64 v] w (SetEndC w b ⟨t.s, v, t.n⟩) := by
  obtain ⟨hc0, hc1, hc2⟩ := h.cells
  have f1 := h.free 1
  have H := Lib.hid h
  have HV := Lib.hid hv
  clear h hv
  go_enter Tryd.func76, Tryd.ntmps76
  go_wp2
  go_end0
  exact ⟨⟨_, rfl⟩, progC_set (k := 1) H.out ⟨0, rfl⟩ rfl ⟨HV.out, H.out.2.2⟩⟩
theorem setSoftWord_any (w : World) (b : Nat) (t : Cl) (v : Int) (h : ProgC w b t) (hv : In64 v) :
    Calls Tryd.prog 73 #[.pointer (some ⟨b, 0, none⟩), .int .u64 v] w (SetEndC w b ⟨bitB (V v) 0, t.c, t.n⟩) := by
  obtain ⟨hc0, hc1, hc2⟩ := h.cells
  have f0 := h.free 0
  have H := Lib.hid h
  have HV := Lib.hid hv
  have hv0 := hv.1
  clear h hv
  go_enter Tryd.func73, Tryd.ntmps73
  go_wp2_with (go_at_call 84; refine (bit64_any _ _ hv0 HV.out.2 _).mono ?_; rintro e w' ⟨rfl, rfl⟩)
  go_end0
  exact ⟨⟨_, rfl⟩, progC_set (k := 0) H.out ⟨0, rfl⟩ rfl ⟨H.out.2.1, H.out.2.2⟩⟩

/-- Whether a time's byte and a length make a place. -/
def tmB (a n : Int) : Bool := decide (a = 0 ∧ n = 8 ∨ (a = 0 ∨ a = 4) ∧ n = 4)
theorem isOfTime_any (a n : Int) (w : World) : Calls Tryd.prog 74 #[.int .u64 a, .int .i64 n] w fun e w' => e = .returned (.bool (tmB a n)) ∧ w = w' := by
  by_cases n8 : n = 8
  · subst n8
    by_cases a0 : a = 0
    · subst a0
      have HE : Hid (true = tmB 0 8) := Lib.hid rfl
      go_enter Tryd.func74, Tryd.ntmps74
      go_wp2
      go_ret
      exact ⟨ret_bool HE.out, rfl⟩
    · have e0 := ne_bool a0
      have HE : Hid (false = tmB a 8) := by
        refine Lib.hid ?_
        unfold tmB; symm; rw [decide_eq_false_iff_not]; omega
      clear a0
      by_cases a4 : a = 4
      · subst a4
        go_enter Tryd.func74, Tryd.ntmps74
        go_wp2
        go_ret
        exact ⟨ret_bool HE.out, rfl⟩
      · have e4 := ne_bool a4
        clear a4
        go_enter Tryd.func74, Tryd.ntmps74
        go_wp2
        go_ret
        exact ⟨ret_bool HE.out, rfl⟩
  have e8 := ne_bool n8
  by_cases n4 : n = 4
  · subst n4
    clear n8 e8
    by_cases a0 : a = 0
    · subst a0
      have HE : Hid (true = tmB 0 4) := Lib.hid rfl
      go_enter Tryd.func74, Tryd.ntmps74
      go_wp2
      go_ret
      exact ⟨ret_bool HE.out, rfl⟩
    have e0 := ne_bool a0
    by_cases a4 : a = 4
    · subst a4
      have HE : Hid (true = tmB 4 4) := Lib.hid rfl
      clear a0 e0
      go_enter Tryd.func74, Tryd.ntmps74
      go_wp2
      go_ret
      exact ⟨ret_bool HE.out, rfl⟩
    · have HE : Hid (false = tmB a 4) := by
        refine Lib.hid ?_
        unfold tmB; symm; rw [decide_eq_false_iff_not]; omega
      have e4 := ne_bool a4
      clear a0 a4
      go_enter Tryd.func74, Tryd.ntmps74
      go_wp2
      go_ret
      exact ⟨ret_bool HE.out, rfl⟩
  have e4 := ne_bool n4
  have HE : Hid (false = tmB a n) := by
    refine Lib.hid ?_
    unfold tmB; symm; rw [decide_eq_false_iff_not]; omega
  clear n8 n4
  by_cases a0 : a = 0
  · subst a0
    go_enter Tryd.func74, Tryd.ntmps74
    go_wp2
    go_ret
    exact ⟨ret_bool HE.out, rfl⟩
  have e0 := ne_bool a0
  by_cases a4 : a = 4
  · subst a4
    clear a0 e0
    go_enter Tryd.func74, Tryd.ntmps74
    go_wp2
    go_ret
    exact ⟨ret_bool HE.out, rfl⟩
  have e44 := ne_bool a4
  clear a0 a4
  go_enter Tryd.func74, Tryd.ntmps74
  go_wp2
  go_ret
  exact ⟨ret_bool HE.out, rfl⟩

theorem firstBit_0 (w : World) : Calls Tryd.prog 77 #[.int .u64 0] w fun e w' => e = .returned (.int .i64 0) ∧ w' = w := by
  go_enter Tryd.func77, Tryd.ntmps77
  go_wp2
  go_ret
  exact ⟨rfl, rfl⟩
theorem firstBit_4 (w : World) : Calls Tryd.prog 77 #[.int .u64 4] w fun e w' => e = .returned (.int .i64 32) ∧ w' = w := by
  go_enter Tryd.func77, Tryd.ntmps77
  go_wp2
  go_ret
  exact ⟨rfl, rfl⟩

end Go.Proofs.YtohidopbggcejaaDoor.C4

namespace Go.Proofs.YtohidopbggcejaaDoor.C4
open Go.RowKit
set_option linter.unusedVariables false
set_option maxRecDepth 100000

/-- What find leaves: a place as a value. -/
def FindEnd (w : World) (v : Value) (r : Bool) (e : Ending) (w' : World) : Prop := e = .returned (.tuple #[v, .bool r]) ∧ Below w.heap.size w w'

/-- A cell of a block that was there, behind a making. -/
theorem cell_alloc {w : World} {b k : Nat} {v : Value} (h : w.cell? ⟨b, k, none⟩ = some v) (o : Obj) : (w.alloc o).cell? ⟨b, k, none⟩ = some v := by
  have hb : b < w.heap.size := by
    by_cases hb : b < w.heap.size
    · exact hb
    · have hn : w.heap[b]? = none := by simp; omega
      simp [World.cell?, hn] at h
  exact (((Below.refl w.heap.size w).alloc (Nat.le_refl _) o).cell (p := ⟨b, k, none⟩) hb).trans h
theorem isOfTime_is (a n : Int) (r : Bool) (w : World) (h : tmB a n = r) : Calls Tryd.prog 74 #[.int .u64 a, .int .i64 n] w fun e w' => e = .returned (.bool r) ∧ w = w' := by
  subst h; exact isOfTime_any a n w
/-- A place's cells. -/
def rowP (f m : Value) (lo : Int) : Array Value := #[f, m, .int .i64 lo]
theorem rowP_one (f m : Fn) (x y : Array Value) (lo : Int) : (rowP (.func f x #[]) (.func m y #[]) lo).all (·.oneCell') = true := by unfold rowP; simp [Value.oneCell']
/-- The places as values. -/
def softP (b : Nat) (t : Cl) : Value := .agg #[.func (.func 72) #[progV t] #[], .func (.func 73) #[.pointer (some ⟨b, 0, none⟩)] #[], .int .i64 0]
def alarmP (b : Nat) (t : Cl) (lo : Int) : Value := .agg #[.func (.func 75) #[timesV t] #[], .func (.func 76) #[.pointer (some ⟨b, 1, none⟩)] #[], .int .i64 lo]
def timeP (b : Nat) (t : Cl) (lo : Int) : Value := .agg #[.func (.func 37) #[timesV t] #[], .func (.func 78) #[.pointer (some ⟨b, 1, none⟩)] #[], .int .i64 lo]
def noP : Value := .agg #[Value.nilFunc, Value.nilFunc, .int .i64 0]

theorem find_1 (w : World) (b : Nat) (t : Cl) (h : ProgC w b t) :
    Calls Tryd.prog 62 #[.pointer (some ⟨b, 0, none⟩), .int .u64 0, .int .i64 4] w (FindEnd w (softP b t) true) := by
  obtain ⟨hc0, hc1, hc2⟩ := h.cells
  have a0 := fun o => cell_alloc hc0 o
  have a1 := fun o => cell_alloc hc1 o
  have a2 := fun o => cell_alloc hc2 o
  have hmf : ∀ (fn : Fn) (first cap : Array Value) (w : World), (Instr.makeFunc fn first cap).run Tryd.prog w = .ok (.func fn first cap) w := fun _ _ _ _ => rfl
  clear h
  go_enter Tryd.func62, Tryd.ntmps62
  go_wp2
  exact bodyPost_ret (v := .tuple #[softP b t, .bool true]) (by simp [results, Tryd.results62, go_sem]; rfl) rfl ⟨rfl, (Below.refl _ _).alloc (Nat.le_refl _) _⟩

theorem find_2 (w : World) (b : Nat) (t : Cl) (h : ProgC w b t) :
    Calls Tryd.prog 62 #[.pointer (some ⟨b, 0, none⟩), .int .u64 16384, .int .i64 8] w (FindEnd w (alarmP b t 0) true) := by
  obtain ⟨hc0, hc1, hc2⟩ := h.cells
  have a1 := fun o => cell_alloc hc1 o
  have a2 := fun o => cell_alloc hc2 o
  have hmf : ∀ (fn : Fn) (first cap : Array Value) (w : World), (Instr.makeFunc fn first cap).run Tryd.prog w = .ok (.func fn first cap) w := fun _ _ _ _ => rfl
  clear h
  go_enter Tryd.func62, Tryd.ntmps62
  go_wp2_with (go_at_call 74; refine (isOfTime_is _ _ true _ (by decide)).mono ?_; rintro e w' ⟨rfl, rfl⟩)
  have D : (w.alloc (.cells #[Value.nilFunc, Value.nilFunc, .int .i64 0] 101)).heap[w.heap.size]? = some (.cells #[Value.nilFunc, Value.nilFunc, .int .i64 0] 101 (0, 0)) := heap_alloc_new w _
  have HB := Lib.hid ((Below.refl w.heap.size w).alloc (Nat.le_refl _) (.cells #[Value.nilFunc, Value.nilFunc, .int .i64 0] 101))
  have b1 := a1 (.cells #[Value.nilFunc, Value.nilFunc, .int .i64 0] 101)
  have b2 := a2 (.cells #[Value.nilFunc, Value.nilFunc, .int .i64 0] 101)
  clear a1 a2 hc0 hc1 hc2
  generalize w.alloc (.cells #[Value.nilFunc, Value.nilFunc, .int .i64 0] 101) = w1 at *
  have HD := Lib.hid D
  clear D
  go_still_tail 13, (by kernel_rfl)
  still_call (firstBit_0 _)
  repeat still_step
  refine wpStill_nil ?_
  change wpList _ _ _ _ _ w1.drew
  refine wpList_store_row rfl 101 (.tmp 6) (.tmp 39) rfl w.heap.size (rowP (.func (.func 75) #[.agg #[.int .u64 t.c, .int .u64 t.n]] #[]) (.func (.func 76) #[.pointer (some ⟨b, 1, none⟩)] #[]) 0) rfl rfl 101 #[Value.nilFunc, Value.nilFunc, .int .i64 0] HD.out (by kernel_rfl) rfl (rowP_one _ _ _ _ _) ?_
  have c0 := cell_setRow_same w1.drew w.heap.size 0 _ (rowP (.func (.func 75) #[.agg #[.int .u64 t.c, .int .u64 t.n]] #[]) (.func (.func 76) #[.pointer (some ⟨b, 1, none⟩)] #[]) 0) _ _ HD.out
  have c1 := cell_setRow_same w1.drew w.heap.size 1 _ (rowP (.func (.func 75) #[.agg #[.int .u64 t.c, .int .u64 t.n]] #[]) (.func (.func 76) #[.pointer (some ⟨b, 1, none⟩)] #[]) 0) _ _ HD.out
  have c2 := cell_setRow_same w1.drew w.heap.size 2 _ (rowP (.func (.func 75) #[.agg #[.int .u64 t.c, .int .u64 t.n]] #[]) (.func (.func 76) #[.pointer (some ⟨b, 1, none⟩)] #[]) 0) _ _ HD.out
  have HB2 := Lib.hid (below_setRow (HB.out.trans ((Below.refl w.heap.size w1).drew)) (Nat.le_refl w.heap.size) (rowP (.func (.func 75) #[.agg #[.int .u64 t.c, .int .u64 t.n]] #[]) (.func (.func 76) #[.pointer (some ⟨b, 1, none⟩)] #[]) 0))
  generalize w1.drew.setRow w.heap.size (rowP (.func (.func 75) #[.agg #[.int .u64 t.c, .int .u64 t.n]] #[]) (.func (.func 76) #[.pointer (some ⟨b, 1, none⟩)] #[]) 0) = w2 at *
  simp only [rowP, List.getElem?_toArray, List.getElem?_cons_zero, List.getElem?_cons_succ] at c0 c1 c2
  go_wp2
  exact bodyPost_ret (v := .tuple #[alarmP b t 0, .bool true]) (by simp [results, Tryd.results62, go_sem, *]; rfl) rfl ⟨rfl, HB2.out⟩

theorem find_3 (w : World) (b : Nat) (t : Cl) (h : ProgC w b t) :
    Calls Tryd.prog 62 #[.pointer (some ⟨b, 0, none⟩), .int .u64 16384, .int .i64 4] w (FindEnd w (alarmP b t 0) true) := by
  obtain ⟨hc0, hc1, hc2⟩ := h.cells
  have a1 := fun o => cell_alloc hc1 o
  have a2 := fun o => cell_alloc hc2 o
  have hmf : ∀ (fn : Fn) (first cap : Array Value) (w : World), (Instr.makeFunc fn first cap).run Tryd.prog w = .ok (.func fn first cap) w := fun _ _ _ _ => rfl
  clear h
  go_enter Tryd.func62, Tryd.ntmps62
  go_wp2_with (go_at_call 74; refine (isOfTime_is _ _ true _ (by decide)).mono ?_; rintro e w' ⟨rfl, rfl⟩)
  have D : (w.alloc (.cells #[Value.nilFunc, Value.nilFunc, .int .i64 0] 101)).heap[w.heap.size]? = some (.cells #[Value.nilFunc, Value.nilFunc, .int .i64 0] 101 (0, 0)) := heap_alloc_new w _
  have HB := Lib.hid ((Below.refl w.heap.size w).alloc (Nat.le_refl _) (.cells #[Value.nilFunc, Value.nilFunc, .int .i64 0] 101))
  have b1 := a1 (.cells #[Value.nilFunc, Value.nilFunc, .int .i64 0] 101)
  have b2 := a2 (.cells #[Value.nilFunc, Value.nilFunc, .int .i64 0] 101)
  clear a1 a2 hc0 hc1 hc2
  generalize w.alloc (.cells #[Value.nilFunc, Value.nilFunc, .int .i64 0] 101) = w1 at *
  have HD := Lib.hid D
  clear D
  go_still_tail 13, (by kernel_rfl)
  still_call (firstBit_0 _)
  repeat still_step
  refine wpStill_nil ?_
  change wpList _ _ _ _ _ w1.drew
  refine wpList_store_row rfl 101 (.tmp 6) (.tmp 39) rfl w.heap.size (rowP (.func (.func 75) #[.agg #[.int .u64 t.c, .int .u64 t.n]] #[]) (.func (.func 76) #[.pointer (some ⟨b, 1, none⟩)] #[]) 0) rfl rfl 101 #[Value.nilFunc, Value.nilFunc, .int .i64 0] HD.out (by kernel_rfl) rfl (rowP_one _ _ _ _ _) ?_
  have c0 := cell_setRow_same w1.drew w.heap.size 0 _ (rowP (.func (.func 75) #[.agg #[.int .u64 t.c, .int .u64 t.n]] #[]) (.func (.func 76) #[.pointer (some ⟨b, 1, none⟩)] #[]) 0) _ _ HD.out
  have c1 := cell_setRow_same w1.drew w.heap.size 1 _ (rowP (.func (.func 75) #[.agg #[.int .u64 t.c, .int .u64 t.n]] #[]) (.func (.func 76) #[.pointer (some ⟨b, 1, none⟩)] #[]) 0) _ _ HD.out
  have c2 := cell_setRow_same w1.drew w.heap.size 2 _ (rowP (.func (.func 75) #[.agg #[.int .u64 t.c, .int .u64 t.n]] #[]) (.func (.func 76) #[.pointer (some ⟨b, 1, none⟩)] #[]) 0) _ _ HD.out
  have HB2 := Lib.hid (below_setRow (HB.out.trans ((Below.refl w.heap.size w1).drew)) (Nat.le_refl w.heap.size) (rowP (.func (.func 75) #[.agg #[.int .u64 t.c, .int .u64 t.n]] #[]) (.func (.func 76) #[.pointer (some ⟨b, 1, none⟩)] #[]) 0))
  generalize w1.drew.setRow w.heap.size (rowP (.func (.func 75) #[.agg #[.int .u64 t.c, .int .u64 t.n]] #[]) (.func (.func 76) #[.pointer (some ⟨b, 1, none⟩)] #[]) 0) = w2 at *
  simp only [rowP, List.getElem?_toArray, List.getElem?_cons_zero, List.getElem?_cons_succ] at c0 c1 c2
  go_wp2
  exact bodyPost_ret (v := .tuple #[alarmP b t 0, .bool true]) (by simp [results, Tryd.results62, go_sem, *]; rfl) rfl ⟨rfl, HB2.out⟩

theorem find_4 (w : World) (b : Nat) (t : Cl) (h : ProgC w b t) :
    Calls Tryd.prog 62 #[.pointer (some ⟨b, 0, none⟩), .int .u64 16388, .int .i64 4] w (FindEnd w (alarmP b t 32) true) := by
  obtain ⟨hc0, hc1, hc2⟩ := h.cells
  have a1 := fun o => cell_alloc hc1 o
  have a2 := fun o => cell_alloc hc2 o
  have hmf : ∀ (fn : Fn) (first cap : Array Value) (w : World), (Instr.makeFunc fn first cap).run Tryd.prog w = .ok (.func fn first cap) w := fun _ _ _ _ => rfl
  clear h
  go_enter Tryd.func62, Tryd.ntmps62
  go_wp2_with (go_at_call 74; refine (isOfTime_is _ _ true _ (by decide)).mono ?_; rintro e w' ⟨rfl, rfl⟩)
  have D : (w.alloc (.cells #[Value.nilFunc, Value.nilFunc, .int .i64 0] 101)).heap[w.heap.size]? = some (.cells #[Value.nilFunc, Value.nilFunc, .int .i64 0] 101 (0, 0)) := heap_alloc_new w _
  have HB := Lib.hid ((Below.refl w.heap.size w).alloc (Nat.le_refl _) (.cells #[Value.nilFunc, Value.nilFunc, .int .i64 0] 101))
  have b1 := a1 (.cells #[Value.nilFunc, Value.nilFunc, .int .i64 0] 101)
  have b2 := a2 (.cells #[Value.nilFunc, Value.nilFunc, .int .i64 0] 101)
  clear a1 a2 hc0 hc1 hc2
  generalize w.alloc (.cells #[Value.nilFunc, Value.nilFunc, .int .i64 0] 101) = w1 at *
  have HD := Lib.hid D
  clear D
  go_still_tail 13, (by kernel_rfl)
  still_call (firstBit_4 _)
  repeat still_step
  refine wpStill_nil ?_
  change wpList _ _ _ _ _ w1.drew
  refine wpList_store_row rfl 101 (.tmp 6) (.tmp 39) rfl w.heap.size (rowP (.func (.func 75) #[.agg #[.int .u64 t.c, .int .u64 t.n]] #[]) (.func (.func 76) #[.pointer (some ⟨b, 1, none⟩)] #[]) 32) rfl rfl 101 #[Value.nilFunc, Value.nilFunc, .int .i64 0] HD.out (by kernel_rfl) rfl (rowP_one _ _ _ _ _) ?_
  have c0 := cell_setRow_same w1.drew w.heap.size 0 _ (rowP (.func (.func 75) #[.agg #[.int .u64 t.c, .int .u64 t.n]] #[]) (.func (.func 76) #[.pointer (some ⟨b, 1, none⟩)] #[]) 32) _ _ HD.out
  have c1 := cell_setRow_same w1.drew w.heap.size 1 _ (rowP (.func (.func 75) #[.agg #[.int .u64 t.c, .int .u64 t.n]] #[]) (.func (.func 76) #[.pointer (some ⟨b, 1, none⟩)] #[]) 32) _ _ HD.out
  have c2 := cell_setRow_same w1.drew w.heap.size 2 _ (rowP (.func (.func 75) #[.agg #[.int .u64 t.c, .int .u64 t.n]] #[]) (.func (.func 76) #[.pointer (some ⟨b, 1, none⟩)] #[]) 32) _ _ HD.out
  have HB2 := Lib.hid (below_setRow (HB.out.trans ((Below.refl w.heap.size w1).drew)) (Nat.le_refl w.heap.size) (rowP (.func (.func 75) #[.agg #[.int .u64 t.c, .int .u64 t.n]] #[]) (.func (.func 76) #[.pointer (some ⟨b, 1, none⟩)] #[]) 32))
  generalize w1.drew.setRow w.heap.size (rowP (.func (.func 75) #[.agg #[.int .u64 t.c, .int .u64 t.n]] #[]) (.func (.func 76) #[.pointer (some ⟨b, 1, none⟩)] #[]) 32) = w2 at *
  simp only [rowP, List.getElem?_toArray, List.getElem?_cons_zero, List.getElem?_cons_succ] at c0 c1 c2
  go_wp2
  exact bodyPost_ret (v := .tuple #[alarmP b t 32, .bool true]) (by simp [results, Tryd.results62, go_sem, *]; rfl) rfl ⟨rfl, HB2.out⟩

theorem find_5 (w : World) (b : Nat) (t : Cl) (h : ProgC w b t) :
    Calls Tryd.prog 62 #[.pointer (some ⟨b, 0, none⟩), .int .u64 49144, .int .i64 8] w (FindEnd w (timeP b t 0) true) := by
  obtain ⟨hc0, hc1, hc2⟩ := h.cells
  have a1 := fun o => cell_alloc hc1 o
  have a2 := fun o => cell_alloc hc2 o
  have hmf : ∀ (fn : Fn) (first cap : Array Value) (w : World), (Instr.makeFunc fn first cap).run Tryd.prog w = .ok (.func fn first cap) w := fun _ _ _ _ => rfl
  clear h
  go_enter Tryd.func62, Tryd.ntmps62
  go_wp2_with fail
  refine (isOfTime_is _ _ false _ (by decide)).mono ?_
  rintro e w' ⟨rfl, rfl⟩
  go_wp2_with fail
  refine (isOfTime_is _ _ true _ (by decide)).mono ?_
  rintro e w' ⟨rfl, rfl⟩
  go_wp2_with fail
  have D : (w.alloc (.cells #[Value.nilFunc, Value.nilFunc, .int .i64 0] 101)).heap[w.heap.size]? = some (.cells #[Value.nilFunc, Value.nilFunc, .int .i64 0] 101 (0, 0)) := heap_alloc_new w _
  have HB := Lib.hid ((Below.refl w.heap.size w).alloc (Nat.le_refl _) (.cells #[Value.nilFunc, Value.nilFunc, .int .i64 0] 101))
  have b1 := a1 (.cells #[Value.nilFunc, Value.nilFunc, .int .i64 0] 101)
  have b2 := a2 (.cells #[Value.nilFunc, Value.nilFunc, .int .i64 0] 101)
  clear a1 a2 hc0 hc1 hc2
  generalize w.alloc (.cells #[Value.nilFunc, Value.nilFunc, .int .i64 0] 101) = w1 at *
  have HD := Lib.hid D
  clear D
  go_still_tail 13, (by kernel_rfl)
  still_call (firstBit_0 _)
  repeat still_step
  refine wpStill_nil ?_
  change wpList _ _ _ _ _ w1.drew
  refine wpList_store_row rfl 101 (.tmp 6) (.tmp 57) rfl w.heap.size (rowP (.func (.func 37) #[.agg #[.int .u64 t.c, .int .u64 t.n]] #[]) (.func (.func 78) #[.pointer (some ⟨b, 1, none⟩)] #[]) 0) rfl rfl 101 #[Value.nilFunc, Value.nilFunc, .int .i64 0] HD.out (by kernel_rfl) rfl (rowP_one _ _ _ _ _) ?_
  have c0 := cell_setRow_same w1.drew w.heap.size 0 _ (rowP (.func (.func 37) #[.agg #[.int .u64 t.c, .int .u64 t.n]] #[]) (.func (.func 78) #[.pointer (some ⟨b, 1, none⟩)] #[]) 0) _ _ HD.out
  have c1 := cell_setRow_same w1.drew w.heap.size 1 _ (rowP (.func (.func 37) #[.agg #[.int .u64 t.c, .int .u64 t.n]] #[]) (.func (.func 78) #[.pointer (some ⟨b, 1, none⟩)] #[]) 0) _ _ HD.out
  have c2 := cell_setRow_same w1.drew w.heap.size 2 _ (rowP (.func (.func 37) #[.agg #[.int .u64 t.c, .int .u64 t.n]] #[]) (.func (.func 78) #[.pointer (some ⟨b, 1, none⟩)] #[]) 0) _ _ HD.out
  have HB2 := Lib.hid (below_setRow (HB.out.trans ((Below.refl w.heap.size w1).drew)) (Nat.le_refl w.heap.size) (rowP (.func (.func 37) #[.agg #[.int .u64 t.c, .int .u64 t.n]] #[]) (.func (.func 78) #[.pointer (some ⟨b, 1, none⟩)] #[]) 0))
  generalize w1.drew.setRow w.heap.size (rowP (.func (.func 37) #[.agg #[.int .u64 t.c, .int .u64 t.n]] #[]) (.func (.func 78) #[.pointer (some ⟨b, 1, none⟩)] #[]) 0) = w2 at *
  simp only [rowP, List.getElem?_toArray, List.getElem?_cons_zero, List.getElem?_cons_succ] at c0 c1 c2
  go_wp2
  exact bodyPost_ret (v := .tuple #[timeP b t 0, .bool true]) (by simp [results, Tryd.results62, go_sem, *]; rfl) rfl ⟨rfl, HB2.out⟩

theorem find_6 (w : World) (b : Nat) (t : Cl) (h : ProgC w b t) :
    Calls Tryd.prog 62 #[.pointer (some ⟨b, 0, none⟩), .int .u64 49144, .int .i64 4] w (FindEnd w (timeP b t 0) true) := by
  obtain ⟨hc0, hc1, hc2⟩ := h.cells
  have a1 := fun o => cell_alloc hc1 o
  have a2 := fun o => cell_alloc hc2 o
  have hmf : ∀ (fn : Fn) (first cap : Array Value) (w : World), (Instr.makeFunc fn first cap).run Tryd.prog w = .ok (.func fn first cap) w := fun _ _ _ _ => rfl
  clear h
  go_enter Tryd.func62, Tryd.ntmps62
  go_wp2_with fail
  refine (isOfTime_is _ _ false _ (by decide)).mono ?_
  rintro e w' ⟨rfl, rfl⟩
  go_wp2_with fail
  refine (isOfTime_is _ _ true _ (by decide)).mono ?_
  rintro e w' ⟨rfl, rfl⟩
  go_wp2_with fail
  have D : (w.alloc (.cells #[Value.nilFunc, Value.nilFunc, .int .i64 0] 101)).heap[w.heap.size]? = some (.cells #[Value.nilFunc, Value.nilFunc, .int .i64 0] 101 (0, 0)) := heap_alloc_new w _
  have HB := Lib.hid ((Below.refl w.heap.size w).alloc (Nat.le_refl _) (.cells #[Value.nilFunc, Value.nilFunc, .int .i64 0] 101))
  have b1 := a1 (.cells #[Value.nilFunc, Value.nilFunc, .int .i64 0] 101)
  have b2 := a2 (.cells #[Value.nilFunc, Value.nilFunc, .int .i64 0] 101)
  clear a1 a2 hc0 hc1 hc2
  generalize w.alloc (.cells #[Value.nilFunc, Value.nilFunc, .int .i64 0] 101) = w1 at *
  have HD := Lib.hid D
  clear D
  go_still_tail 13, (by kernel_rfl)
  still_call (firstBit_0 _)
  repeat still_step
  refine wpStill_nil ?_
  change wpList _ _ _ _ _ w1.drew
  refine wpList_store_row rfl 101 (.tmp 6) (.tmp 57) rfl w.heap.size (rowP (.func (.func 37) #[.agg #[.int .u64 t.c, .int .u64 t.n]] #[]) (.func (.func 78) #[.pointer (some ⟨b, 1, none⟩)] #[]) 0) rfl rfl 101 #[Value.nilFunc, Value.nilFunc, .int .i64 0] HD.out (by kernel_rfl) rfl (rowP_one _ _ _ _ _) ?_
  have c0 := cell_setRow_same w1.drew w.heap.size 0 _ (rowP (.func (.func 37) #[.agg #[.int .u64 t.c, .int .u64 t.n]] #[]) (.func (.func 78) #[.pointer (some ⟨b, 1, none⟩)] #[]) 0) _ _ HD.out
  have c1 := cell_setRow_same w1.drew w.heap.size 1 _ (rowP (.func (.func 37) #[.agg #[.int .u64 t.c, .int .u64 t.n]] #[]) (.func (.func 78) #[.pointer (some ⟨b, 1, none⟩)] #[]) 0) _ _ HD.out
  have c2 := cell_setRow_same w1.drew w.heap.size 2 _ (rowP (.func (.func 37) #[.agg #[.int .u64 t.c, .int .u64 t.n]] #[]) (.func (.func 78) #[.pointer (some ⟨b, 1, none⟩)] #[]) 0) _ _ HD.out
  have HB2 := Lib.hid (below_setRow (HB.out.trans ((Below.refl w.heap.size w1).drew)) (Nat.le_refl w.heap.size) (rowP (.func (.func 37) #[.agg #[.int .u64 t.c, .int .u64 t.n]] #[]) (.func (.func 78) #[.pointer (some ⟨b, 1, none⟩)] #[]) 0))
  generalize w1.drew.setRow w.heap.size (rowP (.func (.func 37) #[.agg #[.int .u64 t.c, .int .u64 t.n]] #[]) (.func (.func 78) #[.pointer (some ⟨b, 1, none⟩)] #[]) 0) = w2 at *
  simp only [rowP, List.getElem?_toArray, List.getElem?_cons_zero, List.getElem?_cons_succ] at c0 c1 c2
  go_wp2
  exact bodyPost_ret (v := .tuple #[timeP b t 0, .bool true]) (by simp [results, Tryd.results62, go_sem, *]; rfl) rfl ⟨rfl, HB2.out⟩

theorem find_7 (w : World) (b : Nat) (t : Cl) (h : ProgC w b t) :
    Calls Tryd.prog 62 #[.pointer (some ⟨b, 0, none⟩), .int .u64 49148, .int .i64 4] w (FindEnd w (timeP b t 32) true) := by
  obtain ⟨hc0, hc1, hc2⟩ := h.cells
  have a1 := fun o => cell_alloc hc1 o
  have a2 := fun o => cell_alloc hc2 o
  have hmf : ∀ (fn : Fn) (first cap : Array Value) (w : World), (Instr.makeFunc fn first cap).run Tryd.prog w = .ok (.func fn first cap) w := fun _ _ _ _ => rfl
  clear h
  go_enter Tryd.func62, Tryd.ntmps62
  go_wp2_with fail
  refine (isOfTime_is _ _ false _ (by decide)).mono ?_
  rintro e w' ⟨rfl, rfl⟩
  go_wp2_with fail
  refine (isOfTime_is _ _ true _ (by decide)).mono ?_
  rintro e w' ⟨rfl, rfl⟩
  go_wp2_with fail
  have D : (w.alloc (.cells #[Value.nilFunc, Value.nilFunc, .int .i64 0] 101)).heap[w.heap.size]? = some (.cells #[Value.nilFunc, Value.nilFunc, .int .i64 0] 101 (0, 0)) := heap_alloc_new w _
  have HB := Lib.hid ((Below.refl w.heap.size w).alloc (Nat.le_refl _) (.cells #[Value.nilFunc, Value.nilFunc, .int .i64 0] 101))
  have b1 := a1 (.cells #[Value.nilFunc, Value.nilFunc, .int .i64 0] 101)
  have b2 := a2 (.cells #[Value.nilFunc, Value.nilFunc, .int .i64 0] 101)
  clear a1 a2 hc0 hc1 hc2
  generalize w.alloc (.cells #[Value.nilFunc, Value.nilFunc, .int .i64 0] 101) = w1 at *
  have HD := Lib.hid D
  clear D
  go_still_tail 13, (by kernel_rfl)
  still_call (firstBit_4 _)
  repeat still_step
  refine wpStill_nil ?_
  change wpList _ _ _ _ _ w1.drew
  refine wpList_store_row rfl 101 (.tmp 6) (.tmp 57) rfl w.heap.size (rowP (.func (.func 37) #[.agg #[.int .u64 t.c, .int .u64 t.n]] #[]) (.func (.func 78) #[.pointer (some ⟨b, 1, none⟩)] #[]) 32) rfl rfl 101 #[Value.nilFunc, Value.nilFunc, .int .i64 0] HD.out (by kernel_rfl) rfl (rowP_one _ _ _ _ _) ?_
  have c0 := cell_setRow_same w1.drew w.heap.size 0 _ (rowP (.func (.func 37) #[.agg #[.int .u64 t.c, .int .u64 t.n]] #[]) (.func (.func 78) #[.pointer (some ⟨b, 1, none⟩)] #[]) 32) _ _ HD.out
  have c1 := cell_setRow_same w1.drew w.heap.size 1 _ (rowP (.func (.func 37) #[.agg #[.int .u64 t.c, .int .u64 t.n]] #[]) (.func (.func 78) #[.pointer (some ⟨b, 1, none⟩)] #[]) 32) _ _ HD.out
  have c2 := cell_setRow_same w1.drew w.heap.size 2 _ (rowP (.func (.func 37) #[.agg #[.int .u64 t.c, .int .u64 t.n]] #[]) (.func (.func 78) #[.pointer (some ⟨b, 1, none⟩)] #[]) 32) _ _ HD.out
  have HB2 := Lib.hid (below_setRow (HB.out.trans ((Below.refl w.heap.size w1).drew)) (Nat.le_refl w.heap.size) (rowP (.func (.func 37) #[.agg #[.int .u64 t.c, .int .u64 t.n]] #[]) (.func (.func 78) #[.pointer (some ⟨b, 1, none⟩)] #[]) 32))
  generalize w1.drew.setRow w.heap.size (rowP (.func (.func 37) #[.agg #[.int .u64 t.c, .int .u64 t.n]] #[]) (.func (.func 78) #[.pointer (some ⟨b, 1, none⟩)] #[]) 32) = w2 at *
  simp only [rowP, List.getElem?_toArray, List.getElem?_cons_zero, List.getElem?_cons_succ] at c0 c1 c2
  go_wp2
  exact bodyPost_ret (v := .tuple #[timeP b t 32, .bool true]) (by simp [results, Tryd.results62, go_sem, *]; rfl) rfl ⟨rfl, HB2.out⟩

end Go.Proofs.YtohidopbggcejaaDoor.C4

namespace Go.Proofs.YtohidopbggcejaaDoor.C4
open Go.RowKit
set_option linter.unusedVariables false
set_option maxRecDepth 100000

theorem find_0 (w : World) (b : Nat) (off n : Int) (hp : NoPlace off n) (ho : In64 off) :
    Calls Tryd.prog 62 #[.pointer (some ⟨b, 0, none⟩), .int .u64 off, .int .i64 n] w (FindEnd w noP false) := by
  obtain ⟨hk, h1, h2, h3⟩ := hp
  have T1 : Hid (tmB (IntKind.u64.wrap (off - 16384)) n = false) := by
    refine Lib.hid ?_
    unfold tmB In64 at *; rw [decide_eq_false_iff_not, IntKind.wrap_u64]; omega
  have T2 : Hid (tmB (IntKind.u64.wrap (off - 49144)) n = false) := by
    refine Lib.hid ?_
    unfold tmB In64 at *; rw [decide_eq_false_iff_not, IntKind.wrap_u64]; omega
  clear hk ho h2 h3
  by_cases o0 : off = 0
  · subst o0
    have e4 := ne_bool (show ¬ n = 4 by omega)
    clear h1
    go_enter Tryd.func62, Tryd.ntmps62
    go_wp2_with fail
    refine (isOfTime_is _ _ false _ T1.out).mono ?_
    rintro e w' ⟨rfl, rfl⟩
    go_wp2_with fail
    refine (isOfTime_is _ _ false _ T2.out).mono ?_
    rintro e w' ⟨rfl, rfl⟩
    go_wp2_with fail
    exact bodyPost_ret (v := .tuple #[noP, .bool false]) (by simp [results, Tryd.results62, go_sem]; rfl) rfl ⟨rfl, (Below.refl _ _).alloc (Nat.le_refl _) _⟩
  · have e0 := ne_bool o0
    clear h1 o0
    go_enter Tryd.func62, Tryd.ntmps62
    go_wp2_with fail
    refine (isOfTime_is _ _ false _ T1.out).mono ?_
    rintro e w' ⟨rfl, rfl⟩
    go_wp2_with fail
    refine (isOfTime_is _ _ false _ T2.out).mono ?_
    rintro e w' ⟨rfl, rfl⟩
    go_wp2_with fail
    exact bodyPost_ret (v := .tuple #[noP, .bool false]) (by simp [results, Tryd.results62, go_sem]; rfl) rfl ⟨rfl, (Below.refl _ _).alloc (Nat.le_refl _) _⟩

/-- What a place's reading tells. -/
def Tells (f : FuncId) (x : Array Value) (X : Int) : Prop := (∀ w, (callFunc f x).run Tryd.prog w = .ok (.enter f x) w) ∧ ∀ w, Calls Tryd.prog f x w fun e w' => e = .returned (.int .u64 X) ∧ Below w.heap.size w w'

set_option maxHeartbeats 1000000 in
theorem read_place (w : World) (t : Cl) (hok : t.ok) (off n : Int) (f g : FuncId) (x y : Nat → Array Value) (lo X : Int) (hX : In64 X) (hn : n = 4 ∨ n = 8)
    (hf : ∀ w b, ProgC w b t → Calls Tryd.prog 62 #[.pointer (some ⟨b, 0, none⟩), .int .u64 off, .int .i64 n] w (FindEnd w (.agg #[.func (.func f) (x b) #[], .func (.func g) (y b) #[], .int .i64 lo]) true)) (hrd : ∀ b, Tells f (x b) X) :
    Calls Tryd.prog 61 #[progV t, .int .u64 off, .int .i64 n] w (ReadC w (U (fieldB (V X) lo (8 * n))) true) := by
  have HP : Hid (ProgC (w.alloc (.cells #[.bool t.s, .int .u64 t.c, .int .u64 t.n] 52)) w.heap.size t) := Lib.hid ⟨heap_alloc_new w _, hok⟩
  have HB := Lib.hid ((Below.refl w.heap.size w).alloc (Nat.le_refl _) (.cells #[.bool t.s, .int .u64 t.c, .int .u64 t.n] 52))
  have HF := Lib.hid hf
  have HRD := Lib.hid (hrd w.heap.size)
  have w32 : IntKind.i64.wrap 32 = 32 := rfl
  have w64 : IntKind.i64.wrap 64 = 64 := rfl
  have HX := Lib.hid hX
  clear hok hf hrd hX
  show Calls Tryd.prog 61 #[.agg #[.bool t.s, .int .u64 t.c, .int .u64 t.n], .int .u64 off, .int .i64 n] w _
  rcases hn with rfl | rfl
  all_goals
    go_enter Tryd.func61, Tryd.ntmps61
    go_wp2_with fail
    refine (HF.out _ _ HP.out).mono ?_
    rintro e w2 ⟨rfl, hb⟩
    have HB2 := Lib.hid (HB.out.trans (hb.mono HB.out.size))
    clear HB HP hb HF
    generalize x w.heap.size = x at *
    generalize y w.heap.size = y at *
    go_wp2_with fail
    have D : (w2.alloc (.cells #[.func (.func f) x #[], .func (.func g) y #[], .int .i64 lo] 101)).heap[w2.heap.size]? = some (.cells #[.func (.func f) x #[], .func (.func g) y #[], .int .i64 lo] 101 (0, 0)) := heap_alloc_new w2 _
    have HB3 := Lib.hid (HB2.out.alloc HB2.out.size (.cells #[.func (.func f) x #[], .func (.func g) y #[], .int .i64 lo] 101))
    have hz : w2.heap.size < (w2.alloc (.cells #[.func (.func f) x #[], .func (.func g) y #[], .int .i64 lo] 101)).heap.size := by rw [World.size_alloc]; omega
    generalize w2.alloc (.cells #[.func (.func f) x #[], .func (.func g) y #[], .int .i64 lo] 101) = w3 at *
    generalize w2.heap.size = b2 at *
    have c0 : w3.cell? ⟨b2, 0, none⟩ = some (.func (.func f) x #[]) := by rw [cell_of_row w3 b2 _ _ _ _ D]; rfl
    have c2 : w3.cell? ⟨b2, 2, none⟩ = some (.int .i64 lo) := by rw [cell_of_row w3 b2 _ _ _ _ D]; rfl
    have HD := Lib.hid D
    have hcf := HRD.out.1
    clear D HB2
    go_region_held3 (fun w' => w'.cell? ⟨b2, 0, none⟩ = some (.func (.func f) x #[]) ∧ w'.cell? ⟨b2, 2, none⟩ = some (.int .i64 lo)) (go_keep)
      (first
        | (go_at_call 67; refine (field_any _ _ _ HX.out _).mono ?_; rintro e w5 ⟨rfl, hk⟩; obtain ⟨nk, rfl⟩ := hk; have g0 : (w4.drewN nk).cell? ⟨b2, 0, none⟩ = some (.func (.func f) x #[]) := e0; have g2 : (w4.drewN nk).cell? ⟨b2, 2, none⟩ = some (.int .i64 lo) := e2; have HB5 : Hid (Below w.heap.size w (w4.drewN nk)) := Lib.hid (HB4.out.trans ⟨rfl, rfl, rfl, Nat.le_refl _, fun _ _ => rfl⟩); generalize w4.drewN nk = w6 at *)
        | (refine (HRD.out.2 _).mono ?_; rintro e w4 ⟨rfl, hb⟩; have e0 := (hb.cell (p := ⟨b2, 0, none⟩) hz).trans c0; have e2 := (hb.cell (p := ⟨b2, 2, none⟩) hz).trans c2; have HB4 := Lib.hid (HB3.out.trans (((Below.refl w3.heap.size w3).drew.trans hb).mono HB3.out.size)); clear hb))
    go_wp2
    go_ret2
    exact ⟨rfl, HB5.out⟩

end Go.Proofs.YtohidopbggcejaaDoor.C4

namespace Go.Proofs.YtohidopbggcejaaDoor.C4
open Go.RowKit
set_option linter.unusedVariables false
set_option maxRecDepth 100000

theorem _root_.Go.Proofs.YtohidopbggcejaaDoor.Only.cell {S : Nat → Prop} {w w' : World} (h : Only S w w') {k o : Nat} {v : Value} (hs : ¬ S k) (hc : w.cell? ⟨k, o, none⟩ = some v) : w'.cell? ⟨k, o, none⟩ = some v := by
  have hb : k < w.heap.size := by
    by_cases hb : k < w.heap.size
    · exact hb
    · have hn : w.heap[k]? = none := by simp; omega
      simp [World.cell?, hn] at hc
  rw [← hc]
  simp only [World.cell?, h.block k hb hs]
/-- What a place's writing leaves. -/
def Puts (g : FuncId) (y : Array Value) (b : Nat) (t : Cl) (T : Int → Cl) : Prop :=
  (∀ (v : Value) (w : World), (callFunc g (y.push v)).run Tryd.prog w = .ok (.enter g (y.push v)) w) ∧ ∀ (v : Int) (w : World), In64 v → ProgC w b t → Calls Tryd.prog g (y.push (.int .u64 v)) w (SetEndC w b (T v))
/-- What Write leaves. -/
def WriteC (w : World) (b : Nat) (r : Bool) (t' : Cl) (e : Ending) (w' : World) : Prop := e = .returned (.bool r) ∧ Only (fun i => i = b) w w' ∧ ProgC w' b t'

set_option maxHeartbeats 1000000 in
theorem write_place (w : World) (b : Nat) (t : Cl) (h : ProgC w b t) (off n v : Int) (f g : FuncId) (x y : Array Value) (lo X : Int) (T : Int → Cl) (hX : In64 X) (hv : In64 v) (hn : n = 4 ∨ n = 8)
    (hf : ∀ w, ProgC w b t → Calls Tryd.prog 62 #[.pointer (some ⟨b, 0, none⟩), .int .u64 off, .int .i64 n] w (FindEnd w (.agg #[.func (.func f) x #[], .func (.func g) y #[], .int .i64 lo]) true)) (hrd : Tells f x X) (hwr : Puts g y b t T) :
    Calls Tryd.prog 45 #[.pointer (some ⟨b, 0, none⟩), .int .u64 off, .int .i64 n, .int .u64 v] w (WriteC w b true (T (U (putB (V X) lo (8 * n) (V v))))) := by
  have HP := Lib.hid h
  have hbl := h.lt
  have HF := Lib.hid hf
  have HRD := Lib.hid hrd
  have HWR := Lib.hid hwr
  have HW : Hid (∀ (v : Int) (w : World), In64 v → ProgC w b t → Calls Tryd.prog g (y.push (.int .u64 v)) w (SetEndC w b (T v))) := Lib.hid hwr.2
  have HT : Hid (∀ w, Calls Tryd.prog f x w fun e w' => e = .returned (.int .u64 X) ∧ Below w.heap.size w w') := Lib.hid hrd.2
  have w32 : IntKind.i64.wrap 32 = 32 := rfl
  have w64 : IntKind.i64.wrap 64 = 64 := rfl
  have HX := Lib.hid hX
  have HV := Lib.hid hv
  clear h hf hrd hX hwr hv
  rcases hn with rfl | rfl
  all_goals
    go_enter Tryd.func45, Tryd.ntmps45
    go_wp2_with fail
    refine (HF.out _ HP.out).mono ?_
    rintro e w2 ⟨rfl, hb⟩
    have HB2 := Lib.hid hb
    clear hb HF
    go_wp2_with fail
    have D : (w2.alloc (.cells #[.func (.func f) x #[], .func (.func g) y #[], .int .i64 lo] 101)).heap[w2.heap.size]? = some (.cells #[.func (.func f) x #[], .func (.func g) y #[], .int .i64 lo] 101 (0, 0)) := heap_alloc_new w2 _
    have HB3 := Lib.hid (HB2.out.alloc HB2.out.size (.cells #[.func (.func f) x #[], .func (.func g) y #[], .int .i64 lo] 101))
    have hz : w2.heap.size < (w2.alloc (.cells #[.func (.func f) x #[], .func (.func g) y #[], .int .i64 lo] 101)).heap.size := by rw [World.size_alloc]; omega
    have hne : ¬ w2.heap.size = b := by have := HB2.out.size; omega
    generalize w2.alloc (.cells #[.func (.func f) x #[], .func (.func g) y #[], .int .i64 lo] 101) = w3 at *
    generalize w2.heap.size = b2 at *
    have c0 : w3.cell? ⟨b2, 0, none⟩ = some (.func (.func f) x #[]) := by rw [cell_of_row w3 b2 _ _ _ _ D]; rfl
    have c1 : w3.cell? ⟨b2, 1, none⟩ = some (.func (.func g) y #[]) := by rw [cell_of_row w3 b2 _ _ _ _ D]; rfl
    have c2 : w3.cell? ⟨b2, 2, none⟩ = some (.int .i64 lo) := by rw [cell_of_row w3 b2 _ _ _ _ D]; rfl
    have hcf := HRD.out.1
    have hcg := HWR.out.1
    clear D HB2
    go_region_held3 (fun w' => w'.cell? ⟨b2, 0, none⟩ = some (.func (.func f) x #[]) ∧ w'.cell? ⟨b2, 1, none⟩ = some (.func (.func g) y #[]) ∧ w'.cell? ⟨b2, 2, none⟩ = some (.int .i64 lo)) (go_keep)
      (first
        | (go_at_call 63; refine (put_any _ _ _ _ HX.out _).mono ?_; rintro e w5 ⟨rfl, rfl⟩)
        | ((with_reducible refine (HT.out _).mono ?_); rintro e w4 ⟨rfl, hb⟩; have e0 := (hb.cell (p := ⟨b2, 0, none⟩) hz).trans c0; have e1 := (hb.cell (p := ⟨b2, 1, none⟩) hz).trans c1; have e2 := (hb.cell (p := ⟨b2, 2, none⟩) hz).trans c2; have HB4 := Lib.hid (HB3.out.trans (((Below.refl w3.heap.size w3).drew.trans hb).mono HB3.out.size)); have hz4 := Nat.lt_of_lt_of_le hz hb.size; have HP4 : Hid (ProgC w4 b t) := Lib.hid (HP.out.below HB4.out); clear hb)
        | ((with_reducible refine (HW.out _ _ (U_in _) HP4.out).mono ?_); rintro e w5 ⟨hu, ho, hp⟩; obtain ⟨u, rfl⟩ := hu; have g0 := ho.cell hne e0; have g1 := ho.cell hne e1; have g2 := ho.cell hne e2; have HE := Lib.hid ((Only.of_below (fun i => i = b) HB4.out).trans ho); have HP5 := Lib.hid hp; clear ho hp))
    go_wp2
    go_ret
    exact ⟨rfl, HE.out, HP5.out⟩

end Go.Proofs.YtohidopbggcejaaDoor.C4

namespace Go.Proofs.YtohidopbggcejaaDoor.C4
open Go.RowKit
set_option linter.unusedVariables false
set_option maxRecDepth 100000

theorem tells_soft (t : Cl) : Tells 72 #[progV t] (sI t.s) := ⟨fun _ => by kernel_rfl, fun w => softWord_any w t⟩
theorem tells_alarm (t : Cl) : Tells 75 #[timesV t] t.c := ⟨fun _ => by kernel_rfl, fun w => alarm_any w t⟩
theorem tells_time (t : Cl) : Tells 37 #[timesV t] t.n := ⟨fun _ => by kernel_rfl, fun w => time_any w t⟩
theorem puts_soft (b : Nat) (t : Cl) : Puts 73 #[.pointer (some ⟨b, 0, none⟩)] b t (fun v => ⟨bitB (V v) 0, t.c, t.n⟩) := ⟨fun _ _ => by kernel_rfl, fun v w hv h => setSoftWord_any w b t v h hv⟩
theorem puts_alarm (b : Nat) (t : Cl) : Puts 76 #[.pointer (some ⟨b, 1, none⟩)] b t (fun v => ⟨t.s, v, t.n⟩) := ⟨fun _ _ => by kernel_rfl, fun v w hv h => setAlarm_any w b t v h hv⟩
theorem puts_time (b : Nat) (t : Cl) : Puts 78 #[.pointer (some ⟨b, 1, none⟩)] b t (fun v => ⟨t.s, t.c, v⟩) := ⟨fun _ _ => by kernel_rfl, fun v w hv h => setTime_any w b t v h hv⟩
theorem sI_low (s : Bool) : sI s % 4294967296 = sI s := by cases s <;> rfl

theorem read_0 (w : World) (t : Cl) (hok : t.ok) (off n : Int) (hp : NoPlace off n) (ho : In64 off) :
    Calls Tryd.prog 61 #[progV t, .int .u64 off, .int .i64 n] w (ReadC w 0 false) := by
  have HP := Lib.hid hp
  have HO := Lib.hid ho
  have HB := Lib.hid ((Below.refl w.heap.size w).alloc (Nat.le_refl _) (.cells #[.bool t.s, .int .u64 t.c, .int .u64 t.n] 52))
  clear hp ho hok
  show Calls Tryd.prog 61 #[.agg #[.bool t.s, .int .u64 t.c, .int .u64 t.n], .int .u64 off, .int .i64 n] w _
  go_enter Tryd.func61, Tryd.ntmps61
  go_wp2_with fail
  refine (find_0 _ _ _ _ HP.out HO.out).mono ?_
  rintro e w2 ⟨rfl, hb⟩
  have HB2 := Lib.hid (HB.out.trans (hb.mono HB.out.size))
  clear HB hb
  simp only [noP]
  go_wp2
  go_ret2
  exact ⟨rfl, HB2.out.alloc HB2.out.size _⟩
theorem write_0 (w : World) (b : Nat) (t : Cl) (h : ProgC w b t) (off n v : Int) (hp : NoPlace off n) (ho : In64 off) :
    Calls Tryd.prog 45 #[.pointer (some ⟨b, 0, none⟩), .int .u64 off, .int .i64 n, .int .u64 v] w (WriteC w b false t) := by
  have HP := Lib.hid hp
  have HO := Lib.hid ho
  have HC := Lib.hid h
  clear hp ho h
  go_enter Tryd.func45, Tryd.ntmps45
  go_wp2_with fail
  refine (find_0 _ _ _ _ HP.out HO.out).mono ?_
  rintro e w2 ⟨rfl, hb⟩
  have HB2 := Lib.hid hb
  clear hb
  simp only [noP]
  go_wp2
  go_ret
  exact ⟨rfl, Only.of_below _ (HB2.out.alloc HB2.out.size _), HC.out.below (HB2.out.alloc HB2.out.size _)⟩
theorem write_nil (w : World) (off n v : Int) : Calls Tryd.prog 45 #[.pointer none, .int .u64 off, .int .i64 n, .int .u64 v] w fun e w' => e = .returned (.bool false) ∧ w = w' := by
  go_enter Tryd.func45, Tryd.ntmps45
  go_wp2
  go_ret
  exact ⟨rfl, rfl⟩

theorem read_1 (w : World) (t : Cl) (hok : t.ok) : Calls Tryd.prog 61 #[progV t, .int .u64 0, .int .i64 4] w (ReadC w (rdC t 1) true) := by
  have h := read_place w t hok 0 4 72 73 (fun _ => #[progV t]) (fun b => #[.pointer (some ⟨b, 0, none⟩)]) 0 (sI t.s) (sI_in _) (by decide) (fun w b hp => find_1 w b t hp) (fun _ => tells_soft t)
  rw [show U (fieldB (V (sI t.s)) 0 (8 * 4)) = rdC t 1 from (field_low (sI_in _)).trans (sI_low _)] at h
  exact h
theorem read_2 (w : World) (t : Cl) (hok : t.ok) : Calls Tryd.prog 61 #[progV t, .int .u64 16384, .int .i64 8] w (ReadC w (rdC t 2) true) := by
  have h := read_place w t hok 16384 8 75 76 (fun _ => #[timesV t]) (fun b => #[.pointer (some ⟨b, 1, none⟩)]) 0 t.c hok.1 (by decide) (fun w b hp => find_2 w b t hp) (fun _ => tells_alarm t)
  rw [show U (fieldB (V t.c) 0 (8 * 8)) = rdC t 2 from field_whole hok.1] at h
  exact h
theorem read_3 (w : World) (t : Cl) (hok : t.ok) : Calls Tryd.prog 61 #[progV t, .int .u64 16384, .int .i64 4] w (ReadC w (rdC t 3) true) := by
  have h := read_place w t hok 16384 4 75 76 (fun _ => #[timesV t]) (fun b => #[.pointer (some ⟨b, 1, none⟩)]) 0 t.c hok.1 (by decide) (fun w b hp => find_3 w b t hp) (fun _ => tells_alarm t)
  rw [show U (fieldB (V t.c) 0 (8 * 4)) = rdC t 3 from field_low hok.1] at h
  exact h
theorem read_4 (w : World) (t : Cl) (hok : t.ok) : Calls Tryd.prog 61 #[progV t, .int .u64 16388, .int .i64 4] w (ReadC w (rdC t 4) true) := by
  have h := read_place w t hok 16388 4 75 76 (fun _ => #[timesV t]) (fun b => #[.pointer (some ⟨b, 1, none⟩)]) 32 t.c hok.1 (by decide) (fun w b hp => find_4 w b t hp) (fun _ => tells_alarm t)
  rw [show U (fieldB (V t.c) 32 (8 * 4)) = rdC t 4 from field_high hok.1] at h
  exact h
theorem read_5 (w : World) (t : Cl) (hok : t.ok) : Calls Tryd.prog 61 #[progV t, .int .u64 49144, .int .i64 8] w (ReadC w (rdC t 5) true) := by
  have h := read_place w t hok 49144 8 37 78 (fun _ => #[timesV t]) (fun b => #[.pointer (some ⟨b, 1, none⟩)]) 0 t.n hok.2 (by decide) (fun w b hp => find_5 w b t hp) (fun _ => tells_time t)
  rw [show U (fieldB (V t.n) 0 (8 * 8)) = rdC t 5 from field_whole hok.2] at h
  exact h
theorem read_6 (w : World) (t : Cl) (hok : t.ok) : Calls Tryd.prog 61 #[progV t, .int .u64 49144, .int .i64 4] w (ReadC w (rdC t 6) true) := by
  have h := read_place w t hok 49144 4 37 78 (fun _ => #[timesV t]) (fun b => #[.pointer (some ⟨b, 1, none⟩)]) 0 t.n hok.2 (by decide) (fun w b hp => find_6 w b t hp) (fun _ => tells_time t)
  rw [show U (fieldB (V t.n) 0 (8 * 4)) = rdC t 6 from field_low hok.2] at h
  exact h
theorem read_7 (w : World) (t : Cl) (hok : t.ok) : Calls Tryd.prog 61 #[progV t, .int .u64 49148, .int .i64 4] w (ReadC w (rdC t 7) true) := by
  have h := read_place w t hok 49148 4 37 78 (fun _ => #[timesV t]) (fun b => #[.pointer (some ⟨b, 1, none⟩)]) 32 t.n hok.2 (by decide) (fun w b hp => find_7 w b t hp) (fun _ => tells_time t)
  rw [show U (fieldB (V t.n) 32 (8 * 4)) = rdC t 7 from field_high hok.2] at h
  exact h
theorem write_1 (w : World) (b : Nat) (t : Cl) (h : ProgC w b t) (v : Int) (hv : In64 v) : Calls Tryd.prog 45 #[.pointer (some ⟨b, 0, none⟩), .int .u64 0, .int .i64 4, .int .u64 v] w (WriteC w b true (wrC t v 1)) := by
  have k := write_place w b t h 0 4 v 72 73 #[progV t] #[.pointer (some ⟨b, 0, none⟩)] 0 (sI t.s) _ (sI_in _) hv (by decide) (fun w hp => find_1 w b t hp) (tells_soft t) (puts_soft b t)
  have e : (⟨bitB (V (U (putB (V (sI t.s)) 0 (8 * 4) (V v)))) 0, t.c, t.n⟩ : Cl) = wrC t v 1 := by
    have e1 := bit_put_low (x := sI t.s) (sI_in _) hv
    show (⟨bitB (V (U (putB (V (sI t.s)) 0 32 (V v)))) 0, t.c, t.n⟩ : Cl) = _
    rw [e1]; rfl
  rw [← e]
  exact k
theorem write_2 (w : World) (b : Nat) (t : Cl) (h : ProgC w b t) (v : Int) (hv : In64 v) : Calls Tryd.prog 45 #[.pointer (some ⟨b, 0, none⟩), .int .u64 16384, .int .i64 8, .int .u64 v] w (WriteC w b true (wrC t v 2)) := by
  have k := write_place w b t h 16384 8 v 75 76 #[timesV t] #[.pointer (some ⟨b, 1, none⟩)] 0 t.c _ h.2.1 hv (by decide) (fun w hp => find_2 w b t hp) (tells_alarm t) (puts_alarm b t)
  have e : (⟨t.s, U (putB (V t.c) 0 (8 * 8) (V v)), t.n⟩ : Cl) = wrC t v 2 := by
    have e1 := put_whole (x := t.c) hv
    show (⟨t.s, U (putB (V t.c) 0 64 (V v)), t.n⟩ : Cl) = _
    rw [e1]; rfl
  rw [← e]
  exact k
theorem write_3 (w : World) (b : Nat) (t : Cl) (h : ProgC w b t) (v : Int) (hv : In64 v) : Calls Tryd.prog 45 #[.pointer (some ⟨b, 0, none⟩), .int .u64 16384, .int .i64 4, .int .u64 v] w (WriteC w b true (wrC t v 3)) := by
  have k := write_place w b t h 16384 4 v 75 76 #[timesV t] #[.pointer (some ⟨b, 1, none⟩)] 0 t.c _ h.2.1 hv (by decide) (fun w hp => find_3 w b t hp) (tells_alarm t) (puts_alarm b t)
  have e : (⟨t.s, U (putB (V t.c) 0 (8 * 4) (V v)), t.n⟩ : Cl) = wrC t v 3 := by
    have e1 := put_low h.2.1 hv
    show (⟨t.s, U (putB (V t.c) 0 32 (V v)), t.n⟩ : Cl) = _
    rw [e1]; rfl
  rw [← e]
  exact k
theorem write_4 (w : World) (b : Nat) (t : Cl) (h : ProgC w b t) (v : Int) (hv : In64 v) : Calls Tryd.prog 45 #[.pointer (some ⟨b, 0, none⟩), .int .u64 16388, .int .i64 4, .int .u64 v] w (WriteC w b true (wrC t v 4)) := by
  have k := write_place w b t h 16388 4 v 75 76 #[timesV t] #[.pointer (some ⟨b, 1, none⟩)] 32 t.c _ h.2.1 hv (by decide) (fun w hp => find_4 w b t hp) (tells_alarm t) (puts_alarm b t)
  have e : (⟨t.s, U (putB (V t.c) 32 (8 * 4) (V v)), t.n⟩ : Cl) = wrC t v 4 := by
    have e1 := put_high h.2.1 hv
    show (⟨t.s, U (putB (V t.c) 32 32 (V v)), t.n⟩ : Cl) = _
    rw [e1]; rfl
  rw [← e]
  exact k
theorem write_5 (w : World) (b : Nat) (t : Cl) (h : ProgC w b t) (v : Int) (hv : In64 v) : Calls Tryd.prog 45 #[.pointer (some ⟨b, 0, none⟩), .int .u64 49144, .int .i64 8, .int .u64 v] w (WriteC w b true (wrC t v 5)) := by
  have k := write_place w b t h 49144 8 v 37 78 #[timesV t] #[.pointer (some ⟨b, 1, none⟩)] 0 t.n _ h.2.2 hv (by decide) (fun w hp => find_5 w b t hp) (tells_time t) (puts_time b t)
  have e : (⟨t.s, t.c, U (putB (V t.n) 0 (8 * 8) (V v))⟩ : Cl) = wrC t v 5 := by
    have e1 := put_whole (x := t.n) hv
    show (⟨t.s, t.c, U (putB (V t.n) 0 64 (V v))⟩ : Cl) = _
    rw [e1]; rfl
  rw [← e]
  exact k
theorem write_6 (w : World) (b : Nat) (t : Cl) (h : ProgC w b t) (v : Int) (hv : In64 v) : Calls Tryd.prog 45 #[.pointer (some ⟨b, 0, none⟩), .int .u64 49144, .int .i64 4, .int .u64 v] w (WriteC w b true (wrC t v 6)) := by
  have k := write_place w b t h 49144 4 v 37 78 #[timesV t] #[.pointer (some ⟨b, 1, none⟩)] 0 t.n _ h.2.2 hv (by decide) (fun w hp => find_6 w b t hp) (tells_time t) (puts_time b t)
  have e : (⟨t.s, t.c, U (putB (V t.n) 0 (8 * 4) (V v))⟩ : Cl) = wrC t v 6 := by
    have e1 := put_low h.2.2 hv
    show (⟨t.s, t.c, U (putB (V t.n) 0 32 (V v))⟩ : Cl) = _
    rw [e1]; rfl
  rw [← e]
  exact k
theorem write_7 (w : World) (b : Nat) (t : Cl) (h : ProgC w b t) (v : Int) (hv : In64 v) : Calls Tryd.prog 45 #[.pointer (some ⟨b, 0, none⟩), .int .u64 49148, .int .i64 4, .int .u64 v] w (WriteC w b true (wrC t v 7)) := by
  have k := write_place w b t h 49148 4 v 37 78 #[timesV t] #[.pointer (some ⟨b, 1, none⟩)] 32 t.n _ h.2.2 hv (by decide) (fun w hp => find_7 w b t hp) (tells_time t) (puts_time b t)
  have e : (⟨t.s, t.c, U (putB (V t.n) 32 (8 * 4) (V v))⟩ : Cl) = wrC t v 7 := by
    have e1 := put_high h.2.2 hv
    show (⟨t.s, t.c, U (putB (V t.n) 32 32 (V v))⟩ : Cl) = _
    rw [e1]; rfl
  rw [← e]
  exact k

theorem read_any (w : World) (t : Cl) (hok : t.ok) (off n : Int) (ho : In64 off) :
    Calls Tryd.prog 61 #[progV t, .int .u64 off, .int .i64 n] w (ReadC w (rdC t (kindC off n)) (okC off n)) := by
  unfold okC
  rcases kind_cases off n with ⟨rfl, rfl, hk⟩ | ⟨rfl, rfl, hk⟩ | ⟨rfl, rfl, hk⟩ | ⟨rfl, rfl, hk⟩ | ⟨rfl, rfl, hk⟩ | ⟨rfl, rfl, hk⟩ | ⟨rfl, rfl, hk⟩ | ⟨hk, h1, h2, h3⟩
  all_goals rw [hk]
  · exact read_1 w t hok
  · exact read_2 w t hok
  · exact read_3 w t hok
  · exact read_4 w t hok
  · exact read_5 w t hok
  · exact read_6 w t hok
  · exact read_7 w t hok
  · exact read_0 w t hok off n ⟨hk, h1, h2, h3⟩ ho
theorem write_any (w : World) (b : Nat) (t : Cl) (h : ProgC w b t) (off n v : Int) (ho : In64 off) (hv : In64 v) :
    Calls Tryd.prog 45 #[.pointer (some ⟨b, 0, none⟩), .int .u64 off, .int .i64 n, .int .u64 v] w (WriteC w b (okC off n) (wrC t v (kindC off n))) := by
  unfold okC
  rcases kind_cases off n with ⟨rfl, rfl, hk⟩ | ⟨rfl, rfl, hk⟩ | ⟨rfl, rfl, hk⟩ | ⟨rfl, rfl, hk⟩ | ⟨rfl, rfl, hk⟩ | ⟨rfl, rfl, hk⟩ | ⟨rfl, rfl, hk⟩ | ⟨hk, h1, h2, h3⟩
  all_goals rw [hk]
  · exact write_1 w b t h v hv
  · exact write_2 w b t h v hv
  · exact write_3 w b t h v hv
  · exact write_4 w b t h v hv
  · exact write_5 w b t h v hv
  · exact write_6 w b t h v hv
  · exact write_7 w b t h v hv
  · exact write_0 w b t h off n v ⟨hk, h1, h2, h3⟩ ho

theorem new_any (w : World) : Calls Tryd.prog 18 #[] w fun e w' => e = .returned (progV ⟨false, 18446744073709551615, 0⟩) ∧ Below w.heap.size w w' := by
  go_enter Tryd.func18, Tryd.ntmps18
  go_wp2
  exact bodyPost_ret (v := progV ⟨false, 18446744073709551615, 0⟩) (by simp [results, Tryd.results18, go_sem]; rfl) rfl ⟨rfl, (Below.refl _ _).alloc (Nat.le_refl _) _⟩

end Go.Proofs.YtohidopbggcejaaDoor.C4

namespace Go.Proofs.YtohidopbggcejaaDoor.C4.In
open Go.RowKit
set_option linter.unusedVariables false
set_option maxRecDepth 100000
variable {fr : Fr 1}

/-- The program's clint t stands one cell behind the beginning of block b. -/
def ProgC (fr : Fr 1) (w : World) (b : Nat) (t : Cl) : Prop := w.heap[b]? = some (.cells (fr.all #[.bool t.s, .int .u64 t.c, .int .u64 t.n]) fr.ty (0, 0)) ∧ t.ok
theorem ProgC.lt {w : World} {b : Nat} {t : Cl} (h : ProgC fr w b t) : b < w.heap.size := (Array.getElem?_eq_some_iff.1 h.1).1
theorem ProgC.keeps {w w' : World} {b : Nat} {t : Cl} {T : Nat → Prop} (h : ProgC fr w b t) (o : Only T w w') (hb : ¬ T b) : ProgC fr w' b t := ⟨o.keeps hb h.1, h.2⟩
theorem ProgC.below {w w' : World} {b : Nat} {t : Cl} (h : ProgC fr w b t) (o : Below w.heap.size w w') : ProgC fr w' b t := ⟨(o.block b h.lt).trans h.1, h.2⟩
theorem ProgC.cells {w : World} {b : Nat} {t : Cl} (h : ProgC fr w b t) : w.cell? ⟨b, 1, none⟩ = some (.bool t.s) ∧ w.cell? ⟨b, 2, none⟩ = some (.int .u64 t.c) ∧ w.cell? ⟨b, 3, none⟩ = some (.int .u64 t.n) := by
  refine ⟨?_, ?_, ?_⟩
  · rw [cell_of_row w b _ _ _ _ h.1]; exact fr.get _ 0 (by simp)
  · rw [cell_of_row w b _ _ _ _ h.1]; exact fr.get _ 1 (by simp)
  · rw [cell_of_row w b _ _ _ _ h.1]; exact fr.get _ 2 (by simp)
theorem ProgC.free {w : World} {b : Nat} {t : Cl} (h : ProgC fr w b t) (k : Nat) : w.frozen? ⟨b, k, none⟩ = false := frozen_of_row w b k _ _ h.1
theorem progC_set {w w' : World} {b k : Nat} {t t' : Cl} {v : Value} (h : ProgC fr w b t) (ho : ∃ n, w' = (w.drewN n).setCell ⟨b, 1 + k, none⟩ v) (hk : k < 3)
    (e : (#[.bool t.s, .int .u64 t.c, .int .u64 t.n] : Array Value).setIfInBounds k v = #[.bool t'.s, .int .u64 t'.c, .int .u64 t'.n]) (hok : t'.ok) : Only (fun i => i = b) w w' ∧ ProgC fr w' b t' := by
  obtain ⟨n, rfl⟩ := ho
  refine ⟨((Only.refl (fun i => i = b) w).drewN n).setCell (p := ⟨b, 1 + k, none⟩) (.inl rfl) v, ?_, hok⟩
  rw [heap_setCell_same (w.drewN n) b (1 + k) _ _ _ h.1, fr.set _ _ _ (by simpa using hk), e]

/-- What a call leaves that answers nothing. -/
def SetEndC (fr : Fr 1) (w : World) (b : Nat) (t' : Cl) (e : Ending) (w' : World) : Prop := (∃ u, e = .returned u) ∧ Only (fun i => i = b) w w' ∧ ProgC fr w' b t'

theorem setTime_any (w : World) (b : Nat) (t : Cl) (v : Int) (h : ProgC fr w b t) (hv : In64 v) :
    Calls Tryd.prog 78 #[.pointer (some ⟨b, 2, none⟩), .int .u64 v] w (SetEndC fr w b ⟨t.s, t.c, v⟩) := by
  obtain ⟨hc0, hc1, hc2⟩ := h.cells
  have f2 := h.free 3
  have H := Lib.hid h
  have HV := Lib.hid hv
  clear h hv
  go_enter Tryd.func78, Tryd.ntmps78
  go_wp2
  go_end0
  exact ⟨⟨_, rfl⟩, progC_set (k := 2) H.out ⟨0, rfl⟩ (by omega) rfl ⟨H.out.2.1, HV.out⟩⟩
theorem setAlarm_any (w : World) (b : Nat) (t : Cl) (v : Int) (h : ProgC fr w b t) (hv : In64 v) :
    Calls Tryd.prog 76 #[.pointer (some ⟨b, 2, none⟩), .int .u64 v] w (SetEndC fr w b ⟨t.s, v, t.n⟩) := by
  obtain ⟨hc0, hc1, hc2⟩ := h.cells
  have f1 := h.free 2
  have H := Lib.hid h
  have HV := Lib.hid hv
  clear h hv
  go_enter Tryd.func76, Tryd.ntmps76
  go_wp2
  go_end0
  exact ⟨⟨_, rfl⟩, progC_set (k := 1) H.out ⟨0, rfl⟩ (by omega) rfl ⟨HV.out, H.out.2.2⟩⟩
theorem setSoftWord_any (w : World) (b : Nat) (t : Cl) (v : Int) (h : ProgC fr w b t) (hv : In64 v) :
    Calls Tryd.prog 73 #[.pointer (some ⟨b, 1, none⟩), .int .u64 v] w (SetEndC fr w b ⟨bitB (V v) 0, t.c, t.n⟩) := by
  obtain ⟨hc0, hc1, hc2⟩ := h.cells
  have f0 := h.free 1
  have H := Lib.hid h
  have HV := Lib.hid hv
  have hv0 := hv.1
  clear h hv
  go_enter Tryd.func73, Tryd.ntmps73
  go_wp2_with (go_at_call 84; refine (bit64_any _ _ hv0 HV.out.2 _).mono ?_; rintro e w' ⟨rfl, rfl⟩)
  go_end0
  exact ⟨⟨_, rfl⟩, progC_set (k := 0) H.out ⟨0, rfl⟩ (by omega) rfl ⟨H.out.2.1, H.out.2.2⟩⟩

/-- The places as values. -/
def softP (b : Nat) (t : Cl) : Value := .agg #[.func (.func 72) #[progV t] #[], .func (.func 73) #[.pointer (some ⟨b, 1, none⟩)] #[], .int .i64 0]

def alarmP (b : Nat) (t : Cl) (lo : Int) : Value := .agg #[.func (.func 75) #[timesV t] #[], .func (.func 76) #[.pointer (some ⟨b, 2, none⟩)] #[], .int .i64 lo]

def timeP (b : Nat) (t : Cl) (lo : Int) : Value := .agg #[.func (.func 37) #[timesV t] #[], .func (.func 78) #[.pointer (some ⟨b, 2, none⟩)] #[], .int .i64 lo]

theorem find_1 (w : World) (b : Nat) (t : Cl) (h : ProgC fr w b t) :
    Calls Tryd.prog 62 #[.pointer (some ⟨b, 1, none⟩), .int .u64 0, .int .i64 4] w (FindEnd w (softP b t) true) := by
  obtain ⟨hc0, hc1, hc2⟩ := h.cells
  have a0 := fun o => cell_alloc hc0 o
  have a1 := fun o => cell_alloc hc1 o
  have a2 := fun o => cell_alloc hc2 o
  have hmf : ∀ (fn : Fn) (first cap : Array Value) (w : World), (Instr.makeFunc fn first cap).run Tryd.prog w = .ok (.func fn first cap) w := fun _ _ _ _ => rfl
  clear h
  go_enter Tryd.func62, Tryd.ntmps62
  go_wp2
  exact bodyPost_ret (v := .tuple #[softP b t, .bool true]) (by simp [results, Tryd.results62, go_sem]; rfl) rfl ⟨rfl, (Below.refl _ _).alloc (Nat.le_refl _) _⟩

theorem find_2 (w : World) (b : Nat) (t : Cl) (h : ProgC fr w b t) :
    Calls Tryd.prog 62 #[.pointer (some ⟨b, 1, none⟩), .int .u64 16384, .int .i64 8] w (FindEnd w (alarmP b t 0) true) := by
  obtain ⟨hc0, hc1, hc2⟩ := h.cells
  have a1 := fun o => cell_alloc hc1 o
  have a2 := fun o => cell_alloc hc2 o
  have hmf : ∀ (fn : Fn) (first cap : Array Value) (w : World), (Instr.makeFunc fn first cap).run Tryd.prog w = .ok (.func fn first cap) w := fun _ _ _ _ => rfl
  clear h
  go_enter Tryd.func62, Tryd.ntmps62
  go_wp2_with (go_at_call 74; refine (isOfTime_is _ _ true _ (by decide)).mono ?_; rintro e w' ⟨rfl, rfl⟩)
  have D : (w.alloc (.cells #[Value.nilFunc, Value.nilFunc, .int .i64 0] 101)).heap[w.heap.size]? = some (.cells #[Value.nilFunc, Value.nilFunc, .int .i64 0] 101 (0, 0)) := heap_alloc_new w _
  have HB := Lib.hid ((Below.refl w.heap.size w).alloc (Nat.le_refl _) (.cells #[Value.nilFunc, Value.nilFunc, .int .i64 0] 101))
  have b1 := a1 (.cells #[Value.nilFunc, Value.nilFunc, .int .i64 0] 101)
  have b2 := a2 (.cells #[Value.nilFunc, Value.nilFunc, .int .i64 0] 101)
  clear a1 a2 hc0 hc1 hc2
  generalize w.alloc (.cells #[Value.nilFunc, Value.nilFunc, .int .i64 0] 101) = w1 at *
  have HD := Lib.hid D
  clear D
  go_still_tail 13, (by kernel_rfl)
  still_call (firstBit_0 _)
  repeat still_step
  refine wpStill_nil ?_
  change wpList _ _ _ _ _ w1.drew
  refine wpList_store_row rfl 101 (.tmp 6) (.tmp 39) rfl w.heap.size (rowP (.func (.func 75) #[.agg #[.int .u64 t.c, .int .u64 t.n]] #[]) (.func (.func 76) #[.pointer (some ⟨b, 2, none⟩)] #[]) 0) rfl rfl 101 #[Value.nilFunc, Value.nilFunc, .int .i64 0] HD.out (by kernel_rfl) rfl (rowP_one _ _ _ _ _) ?_
  have c0 := cell_setRow_same w1.drew w.heap.size 0 _ (rowP (.func (.func 75) #[.agg #[.int .u64 t.c, .int .u64 t.n]] #[]) (.func (.func 76) #[.pointer (some ⟨b, 2, none⟩)] #[]) 0) _ _ HD.out
  have c1 := cell_setRow_same w1.drew w.heap.size 1 _ (rowP (.func (.func 75) #[.agg #[.int .u64 t.c, .int .u64 t.n]] #[]) (.func (.func 76) #[.pointer (some ⟨b, 2, none⟩)] #[]) 0) _ _ HD.out
  have c2 := cell_setRow_same w1.drew w.heap.size 2 _ (rowP (.func (.func 75) #[.agg #[.int .u64 t.c, .int .u64 t.n]] #[]) (.func (.func 76) #[.pointer (some ⟨b, 2, none⟩)] #[]) 0) _ _ HD.out
  have HB2 := Lib.hid (below_setRow (HB.out.trans ((Below.refl w.heap.size w1).drew)) (Nat.le_refl w.heap.size) (rowP (.func (.func 75) #[.agg #[.int .u64 t.c, .int .u64 t.n]] #[]) (.func (.func 76) #[.pointer (some ⟨b, 2, none⟩)] #[]) 0))
  generalize w1.drew.setRow w.heap.size (rowP (.func (.func 75) #[.agg #[.int .u64 t.c, .int .u64 t.n]] #[]) (.func (.func 76) #[.pointer (some ⟨b, 2, none⟩)] #[]) 0) = w2 at *
  simp only [rowP, List.getElem?_toArray, List.getElem?_cons_zero, List.getElem?_cons_succ] at c0 c1 c2
  go_wp2
  exact bodyPost_ret (v := .tuple #[alarmP b t 0, .bool true]) (by simp [results, Tryd.results62, go_sem, *]; rfl) rfl ⟨rfl, HB2.out⟩

theorem find_3 (w : World) (b : Nat) (t : Cl) (h : ProgC fr w b t) :
    Calls Tryd.prog 62 #[.pointer (some ⟨b, 1, none⟩), .int .u64 16384, .int .i64 4] w (FindEnd w (alarmP b t 0) true) := by
  obtain ⟨hc0, hc1, hc2⟩ := h.cells
  have a1 := fun o => cell_alloc hc1 o
  have a2 := fun o => cell_alloc hc2 o
  have hmf : ∀ (fn : Fn) (first cap : Array Value) (w : World), (Instr.makeFunc fn first cap).run Tryd.prog w = .ok (.func fn first cap) w := fun _ _ _ _ => rfl
  clear h
  go_enter Tryd.func62, Tryd.ntmps62
  go_wp2_with (go_at_call 74; refine (isOfTime_is _ _ true _ (by decide)).mono ?_; rintro e w' ⟨rfl, rfl⟩)
  have D : (w.alloc (.cells #[Value.nilFunc, Value.nilFunc, .int .i64 0] 101)).heap[w.heap.size]? = some (.cells #[Value.nilFunc, Value.nilFunc, .int .i64 0] 101 (0, 0)) := heap_alloc_new w _
  have HB := Lib.hid ((Below.refl w.heap.size w).alloc (Nat.le_refl _) (.cells #[Value.nilFunc, Value.nilFunc, .int .i64 0] 101))
  have b1 := a1 (.cells #[Value.nilFunc, Value.nilFunc, .int .i64 0] 101)
  have b2 := a2 (.cells #[Value.nilFunc, Value.nilFunc, .int .i64 0] 101)
  clear a1 a2 hc0 hc1 hc2
  generalize w.alloc (.cells #[Value.nilFunc, Value.nilFunc, .int .i64 0] 101) = w1 at *
  have HD := Lib.hid D
  clear D
  go_still_tail 13, (by kernel_rfl)
  still_call (firstBit_0 _)
  repeat still_step
  refine wpStill_nil ?_
  change wpList _ _ _ _ _ w1.drew
  refine wpList_store_row rfl 101 (.tmp 6) (.tmp 39) rfl w.heap.size (rowP (.func (.func 75) #[.agg #[.int .u64 t.c, .int .u64 t.n]] #[]) (.func (.func 76) #[.pointer (some ⟨b, 2, none⟩)] #[]) 0) rfl rfl 101 #[Value.nilFunc, Value.nilFunc, .int .i64 0] HD.out (by kernel_rfl) rfl (rowP_one _ _ _ _ _) ?_
  have c0 := cell_setRow_same w1.drew w.heap.size 0 _ (rowP (.func (.func 75) #[.agg #[.int .u64 t.c, .int .u64 t.n]] #[]) (.func (.func 76) #[.pointer (some ⟨b, 2, none⟩)] #[]) 0) _ _ HD.out
  have c1 := cell_setRow_same w1.drew w.heap.size 1 _ (rowP (.func (.func 75) #[.agg #[.int .u64 t.c, .int .u64 t.n]] #[]) (.func (.func 76) #[.pointer (some ⟨b, 2, none⟩)] #[]) 0) _ _ HD.out
  have c2 := cell_setRow_same w1.drew w.heap.size 2 _ (rowP (.func (.func 75) #[.agg #[.int .u64 t.c, .int .u64 t.n]] #[]) (.func (.func 76) #[.pointer (some ⟨b, 2, none⟩)] #[]) 0) _ _ HD.out
  have HB2 := Lib.hid (below_setRow (HB.out.trans ((Below.refl w.heap.size w1).drew)) (Nat.le_refl w.heap.size) (rowP (.func (.func 75) #[.agg #[.int .u64 t.c, .int .u64 t.n]] #[]) (.func (.func 76) #[.pointer (some ⟨b, 2, none⟩)] #[]) 0))
  generalize w1.drew.setRow w.heap.size (rowP (.func (.func 75) #[.agg #[.int .u64 t.c, .int .u64 t.n]] #[]) (.func (.func 76) #[.pointer (some ⟨b, 2, none⟩)] #[]) 0) = w2 at *
  simp only [rowP, List.getElem?_toArray, List.getElem?_cons_zero, List.getElem?_cons_succ] at c0 c1 c2
  go_wp2
  exact bodyPost_ret (v := .tuple #[alarmP b t 0, .bool true]) (by simp [results, Tryd.results62, go_sem, *]; rfl) rfl ⟨rfl, HB2.out⟩

theorem find_4 (w : World) (b : Nat) (t : Cl) (h : ProgC fr w b t) :
    Calls Tryd.prog 62 #[.pointer (some ⟨b, 1, none⟩), .int .u64 16388, .int .i64 4] w (FindEnd w (alarmP b t 32) true) := by
  obtain ⟨hc0, hc1, hc2⟩ := h.cells
  have a1 := fun o => cell_alloc hc1 o
  have a2 := fun o => cell_alloc hc2 o
  have hmf : ∀ (fn : Fn) (first cap : Array Value) (w : World), (Instr.makeFunc fn first cap).run Tryd.prog w = .ok (.func fn first cap) w := fun _ _ _ _ => rfl
  clear h
  go_enter Tryd.func62, Tryd.ntmps62
  go_wp2_with (go_at_call 74; refine (isOfTime_is _ _ true _ (by decide)).mono ?_; rintro e w' ⟨rfl, rfl⟩)
  have D : (w.alloc (.cells #[Value.nilFunc, Value.nilFunc, .int .i64 0] 101)).heap[w.heap.size]? = some (.cells #[Value.nilFunc, Value.nilFunc, .int .i64 0] 101 (0, 0)) := heap_alloc_new w _
  have HB := Lib.hid ((Below.refl w.heap.size w).alloc (Nat.le_refl _) (.cells #[Value.nilFunc, Value.nilFunc, .int .i64 0] 101))
  have b1 := a1 (.cells #[Value.nilFunc, Value.nilFunc, .int .i64 0] 101)
  have b2 := a2 (.cells #[Value.nilFunc, Value.nilFunc, .int .i64 0] 101)
  clear a1 a2 hc0 hc1 hc2
  generalize w.alloc (.cells #[Value.nilFunc, Value.nilFunc, .int .i64 0] 101) = w1 at *
  have HD := Lib.hid D
  clear D
  go_still_tail 13, (by kernel_rfl)
  still_call (firstBit_4 _)
  repeat still_step
  refine wpStill_nil ?_
  change wpList _ _ _ _ _ w1.drew
  refine wpList_store_row rfl 101 (.tmp 6) (.tmp 39) rfl w.heap.size (rowP (.func (.func 75) #[.agg #[.int .u64 t.c, .int .u64 t.n]] #[]) (.func (.func 76) #[.pointer (some ⟨b, 2, none⟩)] #[]) 32) rfl rfl 101 #[Value.nilFunc, Value.nilFunc, .int .i64 0] HD.out (by kernel_rfl) rfl (rowP_one _ _ _ _ _) ?_
  have c0 := cell_setRow_same w1.drew w.heap.size 0 _ (rowP (.func (.func 75) #[.agg #[.int .u64 t.c, .int .u64 t.n]] #[]) (.func (.func 76) #[.pointer (some ⟨b, 2, none⟩)] #[]) 32) _ _ HD.out
  have c1 := cell_setRow_same w1.drew w.heap.size 1 _ (rowP (.func (.func 75) #[.agg #[.int .u64 t.c, .int .u64 t.n]] #[]) (.func (.func 76) #[.pointer (some ⟨b, 2, none⟩)] #[]) 32) _ _ HD.out
  have c2 := cell_setRow_same w1.drew w.heap.size 2 _ (rowP (.func (.func 75) #[.agg #[.int .u64 t.c, .int .u64 t.n]] #[]) (.func (.func 76) #[.pointer (some ⟨b, 2, none⟩)] #[]) 32) _ _ HD.out
  have HB2 := Lib.hid (below_setRow (HB.out.trans ((Below.refl w.heap.size w1).drew)) (Nat.le_refl w.heap.size) (rowP (.func (.func 75) #[.agg #[.int .u64 t.c, .int .u64 t.n]] #[]) (.func (.func 76) #[.pointer (some ⟨b, 2, none⟩)] #[]) 32))
  generalize w1.drew.setRow w.heap.size (rowP (.func (.func 75) #[.agg #[.int .u64 t.c, .int .u64 t.n]] #[]) (.func (.func 76) #[.pointer (some ⟨b, 2, none⟩)] #[]) 32) = w2 at *
  simp only [rowP, List.getElem?_toArray, List.getElem?_cons_zero, List.getElem?_cons_succ] at c0 c1 c2
  go_wp2
  exact bodyPost_ret (v := .tuple #[alarmP b t 32, .bool true]) (by simp [results, Tryd.results62, go_sem, *]; rfl) rfl ⟨rfl, HB2.out⟩

theorem find_5 (w : World) (b : Nat) (t : Cl) (h : ProgC fr w b t) :
    Calls Tryd.prog 62 #[.pointer (some ⟨b, 1, none⟩), .int .u64 49144, .int .i64 8] w (FindEnd w (timeP b t 0) true) := by
  obtain ⟨hc0, hc1, hc2⟩ := h.cells
  have a1 := fun o => cell_alloc hc1 o
  have a2 := fun o => cell_alloc hc2 o
  have hmf : ∀ (fn : Fn) (first cap : Array Value) (w : World), (Instr.makeFunc fn first cap).run Tryd.prog w = .ok (.func fn first cap) w := fun _ _ _ _ => rfl
  clear h
  go_enter Tryd.func62, Tryd.ntmps62
  go_wp2_with fail
  refine (isOfTime_is _ _ false _ (by decide)).mono ?_
  rintro e w' ⟨rfl, rfl⟩
  go_wp2_with fail
  refine (isOfTime_is _ _ true _ (by decide)).mono ?_
  rintro e w' ⟨rfl, rfl⟩
  go_wp2_with fail
  have D : (w.alloc (.cells #[Value.nilFunc, Value.nilFunc, .int .i64 0] 101)).heap[w.heap.size]? = some (.cells #[Value.nilFunc, Value.nilFunc, .int .i64 0] 101 (0, 0)) := heap_alloc_new w _
  have HB := Lib.hid ((Below.refl w.heap.size w).alloc (Nat.le_refl _) (.cells #[Value.nilFunc, Value.nilFunc, .int .i64 0] 101))
  have b1 := a1 (.cells #[Value.nilFunc, Value.nilFunc, .int .i64 0] 101)
  have b2 := a2 (.cells #[Value.nilFunc, Value.nilFunc, .int .i64 0] 101)
  clear a1 a2 hc0 hc1 hc2
  generalize w.alloc (.cells #[Value.nilFunc, Value.nilFunc, .int .i64 0] 101) = w1 at *
  have HD := Lib.hid D
  clear D
  go_still_tail 13, (by kernel_rfl)
  still_call (firstBit_0 _)
  repeat still_step
  refine wpStill_nil ?_
  change wpList _ _ _ _ _ w1.drew
  refine wpList_store_row rfl 101 (.tmp 6) (.tmp 57) rfl w.heap.size (rowP (.func (.func 37) #[.agg #[.int .u64 t.c, .int .u64 t.n]] #[]) (.func (.func 78) #[.pointer (some ⟨b, 2, none⟩)] #[]) 0) rfl rfl 101 #[Value.nilFunc, Value.nilFunc, .int .i64 0] HD.out (by kernel_rfl) rfl (rowP_one _ _ _ _ _) ?_
  have c0 := cell_setRow_same w1.drew w.heap.size 0 _ (rowP (.func (.func 37) #[.agg #[.int .u64 t.c, .int .u64 t.n]] #[]) (.func (.func 78) #[.pointer (some ⟨b, 2, none⟩)] #[]) 0) _ _ HD.out
  have c1 := cell_setRow_same w1.drew w.heap.size 1 _ (rowP (.func (.func 37) #[.agg #[.int .u64 t.c, .int .u64 t.n]] #[]) (.func (.func 78) #[.pointer (some ⟨b, 2, none⟩)] #[]) 0) _ _ HD.out
  have c2 := cell_setRow_same w1.drew w.heap.size 2 _ (rowP (.func (.func 37) #[.agg #[.int .u64 t.c, .int .u64 t.n]] #[]) (.func (.func 78) #[.pointer (some ⟨b, 2, none⟩)] #[]) 0) _ _ HD.out
  have HB2 := Lib.hid (below_setRow (HB.out.trans ((Below.refl w.heap.size w1).drew)) (Nat.le_refl w.heap.size) (rowP (.func (.func 37) #[.agg #[.int .u64 t.c, .int .u64 t.n]] #[]) (.func (.func 78) #[.pointer (some ⟨b, 2, none⟩)] #[]) 0))
  generalize w1.drew.setRow w.heap.size (rowP (.func (.func 37) #[.agg #[.int .u64 t.c, .int .u64 t.n]] #[]) (.func (.func 78) #[.pointer (some ⟨b, 2, none⟩)] #[]) 0) = w2 at *
  simp only [rowP, List.getElem?_toArray, List.getElem?_cons_zero, List.getElem?_cons_succ] at c0 c1 c2
  go_wp2
  exact bodyPost_ret (v := .tuple #[timeP b t 0, .bool true]) (by simp [results, Tryd.results62, go_sem, *]; rfl) rfl ⟨rfl, HB2.out⟩

theorem find_6 (w : World) (b : Nat) (t : Cl) (h : ProgC fr w b t) :
    Calls Tryd.prog 62 #[.pointer (some ⟨b, 1, none⟩), .int .u64 49144, .int .i64 4] w (FindEnd w (timeP b t 0) true) := by
  obtain ⟨hc0, hc1, hc2⟩ := h.cells
  have a1 := fun o => cell_alloc hc1 o
  have a2 := fun o => cell_alloc hc2 o
  have hmf : ∀ (fn : Fn) (first cap : Array Value) (w : World), (Instr.makeFunc fn first cap).run Tryd.prog w = .ok (.func fn first cap) w := fun _ _ _ _ => rfl
  clear h
  go_enter Tryd.func62, Tryd.ntmps62
  go_wp2_with fail
  refine (isOfTime_is _ _ false _ (by decide)).mono ?_
  rintro e w' ⟨rfl, rfl⟩
  go_wp2_with fail
  refine (isOfTime_is _ _ true _ (by decide)).mono ?_
  rintro e w' ⟨rfl, rfl⟩
  go_wp2_with fail
  have D : (w.alloc (.cells #[Value.nilFunc, Value.nilFunc, .int .i64 0] 101)).heap[w.heap.size]? = some (.cells #[Value.nilFunc, Value.nilFunc, .int .i64 0] 101 (0, 0)) := heap_alloc_new w _
  have HB := Lib.hid ((Below.refl w.heap.size w).alloc (Nat.le_refl _) (.cells #[Value.nilFunc, Value.nilFunc, .int .i64 0] 101))
  have b1 := a1 (.cells #[Value.nilFunc, Value.nilFunc, .int .i64 0] 101)
  have b2 := a2 (.cells #[Value.nilFunc, Value.nilFunc, .int .i64 0] 101)
  clear a1 a2 hc0 hc1 hc2
  generalize w.alloc (.cells #[Value.nilFunc, Value.nilFunc, .int .i64 0] 101) = w1 at *
  have HD := Lib.hid D
  clear D
  go_still_tail 13, (by kernel_rfl)
  still_call (firstBit_0 _)
  repeat still_step
  refine wpStill_nil ?_
  change wpList _ _ _ _ _ w1.drew
  refine wpList_store_row rfl 101 (.tmp 6) (.tmp 57) rfl w.heap.size (rowP (.func (.func 37) #[.agg #[.int .u64 t.c, .int .u64 t.n]] #[]) (.func (.func 78) #[.pointer (some ⟨b, 2, none⟩)] #[]) 0) rfl rfl 101 #[Value.nilFunc, Value.nilFunc, .int .i64 0] HD.out (by kernel_rfl) rfl (rowP_one _ _ _ _ _) ?_
  have c0 := cell_setRow_same w1.drew w.heap.size 0 _ (rowP (.func (.func 37) #[.agg #[.int .u64 t.c, .int .u64 t.n]] #[]) (.func (.func 78) #[.pointer (some ⟨b, 2, none⟩)] #[]) 0) _ _ HD.out
  have c1 := cell_setRow_same w1.drew w.heap.size 1 _ (rowP (.func (.func 37) #[.agg #[.int .u64 t.c, .int .u64 t.n]] #[]) (.func (.func 78) #[.pointer (some ⟨b, 2, none⟩)] #[]) 0) _ _ HD.out
  have c2 := cell_setRow_same w1.drew w.heap.size 2 _ (rowP (.func (.func 37) #[.agg #[.int .u64 t.c, .int .u64 t.n]] #[]) (.func (.func 78) #[.pointer (some ⟨b, 2, none⟩)] #[]) 0) _ _ HD.out
  have HB2 := Lib.hid (below_setRow (HB.out.trans ((Below.refl w.heap.size w1).drew)) (Nat.le_refl w.heap.size) (rowP (.func (.func 37) #[.agg #[.int .u64 t.c, .int .u64 t.n]] #[]) (.func (.func 78) #[.pointer (some ⟨b, 2, none⟩)] #[]) 0))
  generalize w1.drew.setRow w.heap.size (rowP (.func (.func 37) #[.agg #[.int .u64 t.c, .int .u64 t.n]] #[]) (.func (.func 78) #[.pointer (some ⟨b, 2, none⟩)] #[]) 0) = w2 at *
  simp only [rowP, List.getElem?_toArray, List.getElem?_cons_zero, List.getElem?_cons_succ] at c0 c1 c2
  go_wp2
  exact bodyPost_ret (v := .tuple #[timeP b t 0, .bool true]) (by simp [results, Tryd.results62, go_sem, *]; rfl) rfl ⟨rfl, HB2.out⟩

theorem find_7 (w : World) (b : Nat) (t : Cl) (h : ProgC fr w b t) :
    Calls Tryd.prog 62 #[.pointer (some ⟨b, 1, none⟩), .int .u64 49148, .int .i64 4] w (FindEnd w (timeP b t 32) true) := by
  obtain ⟨hc0, hc1, hc2⟩ := h.cells
  have a1 := fun o => cell_alloc hc1 o
  have a2 := fun o => cell_alloc hc2 o
  have hmf : ∀ (fn : Fn) (first cap : Array Value) (w : World), (Instr.makeFunc fn first cap).run Tryd.prog w = .ok (.func fn first cap) w := fun _ _ _ _ => rfl
  clear h
  go_enter Tryd.func62, Tryd.ntmps62
  go_wp2_with fail
  refine (isOfTime_is _ _ false _ (by decide)).mono ?_
  rintro e w' ⟨rfl, rfl⟩
  go_wp2_with fail
  refine (isOfTime_is _ _ true _ (by decide)).mono ?_
  rintro e w' ⟨rfl, rfl⟩
  go_wp2_with fail
  have D : (w.alloc (.cells #[Value.nilFunc, Value.nilFunc, .int .i64 0] 101)).heap[w.heap.size]? = some (.cells #[Value.nilFunc, Value.nilFunc, .int .i64 0] 101 (0, 0)) := heap_alloc_new w _
  have HB := Lib.hid ((Below.refl w.heap.size w).alloc (Nat.le_refl _) (.cells #[Value.nilFunc, Value.nilFunc, .int .i64 0] 101))
  have b1 := a1 (.cells #[Value.nilFunc, Value.nilFunc, .int .i64 0] 101)
  have b2 := a2 (.cells #[Value.nilFunc, Value.nilFunc, .int .i64 0] 101)
  clear a1 a2 hc0 hc1 hc2
  generalize w.alloc (.cells #[Value.nilFunc, Value.nilFunc, .int .i64 0] 101) = w1 at *
  have HD := Lib.hid D
  clear D
  go_still_tail 13, (by kernel_rfl)
  still_call (firstBit_4 _)
  repeat still_step
  refine wpStill_nil ?_
  change wpList _ _ _ _ _ w1.drew
  refine wpList_store_row rfl 101 (.tmp 6) (.tmp 57) rfl w.heap.size (rowP (.func (.func 37) #[.agg #[.int .u64 t.c, .int .u64 t.n]] #[]) (.func (.func 78) #[.pointer (some ⟨b, 2, none⟩)] #[]) 32) rfl rfl 101 #[Value.nilFunc, Value.nilFunc, .int .i64 0] HD.out (by kernel_rfl) rfl (rowP_one _ _ _ _ _) ?_
  have c0 := cell_setRow_same w1.drew w.heap.size 0 _ (rowP (.func (.func 37) #[.agg #[.int .u64 t.c, .int .u64 t.n]] #[]) (.func (.func 78) #[.pointer (some ⟨b, 2, none⟩)] #[]) 32) _ _ HD.out
  have c1 := cell_setRow_same w1.drew w.heap.size 1 _ (rowP (.func (.func 37) #[.agg #[.int .u64 t.c, .int .u64 t.n]] #[]) (.func (.func 78) #[.pointer (some ⟨b, 2, none⟩)] #[]) 32) _ _ HD.out
  have c2 := cell_setRow_same w1.drew w.heap.size 2 _ (rowP (.func (.func 37) #[.agg #[.int .u64 t.c, .int .u64 t.n]] #[]) (.func (.func 78) #[.pointer (some ⟨b, 2, none⟩)] #[]) 32) _ _ HD.out
  have HB2 := Lib.hid (below_setRow (HB.out.trans ((Below.refl w.heap.size w1).drew)) (Nat.le_refl w.heap.size) (rowP (.func (.func 37) #[.agg #[.int .u64 t.c, .int .u64 t.n]] #[]) (.func (.func 78) #[.pointer (some ⟨b, 2, none⟩)] #[]) 32))
  generalize w1.drew.setRow w.heap.size (rowP (.func (.func 37) #[.agg #[.int .u64 t.c, .int .u64 t.n]] #[]) (.func (.func 78) #[.pointer (some ⟨b, 2, none⟩)] #[]) 32) = w2 at *
  simp only [rowP, List.getElem?_toArray, List.getElem?_cons_zero, List.getElem?_cons_succ] at c0 c1 c2
  go_wp2
  exact bodyPost_ret (v := .tuple #[timeP b t 32, .bool true]) (by simp [results, Tryd.results62, go_sem, *]; rfl) rfl ⟨rfl, HB2.out⟩

theorem find_0 (w : World) (b : Nat) (off n : Int) (hp : NoPlace off n) (ho : In64 off) :
    Calls Tryd.prog 62 #[.pointer (some ⟨b, 1, none⟩), .int .u64 off, .int .i64 n] w (FindEnd w noP false) := by
  obtain ⟨hk, h1, h2, h3⟩ := hp
  have T1 : Hid (tmB (IntKind.u64.wrap (off - 16384)) n = false) := by
    refine Lib.hid ?_
    unfold tmB In64 at *; rw [decide_eq_false_iff_not, IntKind.wrap_u64]; omega
  have T2 : Hid (tmB (IntKind.u64.wrap (off - 49144)) n = false) := by
    refine Lib.hid ?_
    unfold tmB In64 at *; rw [decide_eq_false_iff_not, IntKind.wrap_u64]; omega
  clear hk ho h2 h3
  by_cases o0 : off = 0
  · subst o0
    have e4 := ne_bool (show ¬ n = 4 by omega)
    clear h1
    go_enter Tryd.func62, Tryd.ntmps62
    go_wp2_with fail
    refine (isOfTime_is _ _ false _ T1.out).mono ?_
    rintro e w' ⟨rfl, rfl⟩
    go_wp2_with fail
    refine (isOfTime_is _ _ false _ T2.out).mono ?_
    rintro e w' ⟨rfl, rfl⟩
    go_wp2_with fail
    exact bodyPost_ret (v := .tuple #[noP, .bool false]) (by simp [results, Tryd.results62, go_sem]; rfl) rfl ⟨rfl, (Below.refl _ _).alloc (Nat.le_refl _) _⟩
  · have e0 := ne_bool o0
    clear h1 o0
    go_enter Tryd.func62, Tryd.ntmps62
    go_wp2_with fail
    refine (isOfTime_is _ _ false _ T1.out).mono ?_
    rintro e w' ⟨rfl, rfl⟩
    go_wp2_with fail
    refine (isOfTime_is _ _ false _ T2.out).mono ?_
    rintro e w' ⟨rfl, rfl⟩
    go_wp2_with fail
    exact bodyPost_ret (v := .tuple #[noP, .bool false]) (by simp [results, Tryd.results62, go_sem]; rfl) rfl ⟨rfl, (Below.refl _ _).alloc (Nat.le_refl _) _⟩

/-- What a place's writing leaves. -/
def Puts (fr : Fr 1) (g : FuncId) (y : Array Value) (b : Nat) (t : Cl) (T : Int → Cl) : Prop :=
  (∀ (v : Value) (w : World), (callFunc g (y.push v)).run Tryd.prog w = .ok (.enter g (y.push v)) w) ∧ ∀ (v : Int) (w : World), In64 v → ProgC fr w b t → Calls Tryd.prog g (y.push (.int .u64 v)) w (SetEndC fr w b (T v))

/-- What Write leaves. -/
def WriteC (fr : Fr 1) (w : World) (b : Nat) (r : Bool) (t' : Cl) (e : Ending) (w' : World) : Prop := e = .returned (.bool r) ∧ Only (fun i => i = b) w w' ∧ ProgC fr w' b t'

set_option maxHeartbeats 1000000 in
theorem write_place (w : World) (b : Nat) (t : Cl) (h : ProgC fr w b t) (off n v : Int) (f g : FuncId) (x y : Array Value) (lo X : Int) (T : Int → Cl) (hX : In64 X) (hv : In64 v) (hn : n = 4 ∨ n = 8)
    (hf : ∀ w, ProgC fr w b t → Calls Tryd.prog 62 #[.pointer (some ⟨b, 1, none⟩), .int .u64 off, .int .i64 n] w (FindEnd w (.agg #[.func (.func f) x #[], .func (.func g) y #[], .int .i64 lo]) true)) (hrd : Tells f x X) (hwr : Puts fr g y b t T) :
    Calls Tryd.prog 45 #[.pointer (some ⟨b, 1, none⟩), .int .u64 off, .int .i64 n, .int .u64 v] w (WriteC fr w b true (T (U (putB (V X) lo (8 * n) (V v))))) := by
  have HP := Lib.hid h
  have hbl := h.lt
  have HF := Lib.hid hf
  have HRD := Lib.hid hrd
  have HWR := Lib.hid hwr
  have HW : Hid (∀ (v : Int) (w : World), In64 v → ProgC fr w b t → Calls Tryd.prog g (y.push (.int .u64 v)) w (SetEndC fr w b (T v))) := Lib.hid hwr.2
  have HT : Hid (∀ w, Calls Tryd.prog f x w fun e w' => e = .returned (.int .u64 X) ∧ Below w.heap.size w w') := Lib.hid hrd.2
  have w32 : IntKind.i64.wrap 32 = 32 := rfl
  have w64 : IntKind.i64.wrap 64 = 64 := rfl
  have HX := Lib.hid hX
  have HV := Lib.hid hv
  clear h hf hrd hX hwr hv
  rcases hn with rfl | rfl
  all_goals
    go_enter Tryd.func45, Tryd.ntmps45
    go_wp2_with fail
    refine (HF.out _ HP.out).mono ?_
    rintro e w2 ⟨rfl, hb⟩
    have HB2 := Lib.hid hb
    clear hb HF
    go_wp2_with fail
    have D : (w2.alloc (.cells #[.func (.func f) x #[], .func (.func g) y #[], .int .i64 lo] 101)).heap[w2.heap.size]? = some (.cells #[.func (.func f) x #[], .func (.func g) y #[], .int .i64 lo] 101 (0, 0)) := heap_alloc_new w2 _
    have HB3 := Lib.hid (HB2.out.alloc HB2.out.size (.cells #[.func (.func f) x #[], .func (.func g) y #[], .int .i64 lo] 101))
    have hz : w2.heap.size < (w2.alloc (.cells #[.func (.func f) x #[], .func (.func g) y #[], .int .i64 lo] 101)).heap.size := by rw [World.size_alloc]; omega
    have hne : ¬ w2.heap.size = b := by have := HB2.out.size; omega
    generalize w2.alloc (.cells #[.func (.func f) x #[], .func (.func g) y #[], .int .i64 lo] 101) = w3 at *
    generalize w2.heap.size = b2 at *
    have c0 : w3.cell? ⟨b2, 0, none⟩ = some (.func (.func f) x #[]) := by rw [cell_of_row w3 b2 _ _ _ _ D]; rfl
    have c1 : w3.cell? ⟨b2, 1, none⟩ = some (.func (.func g) y #[]) := by rw [cell_of_row w3 b2 _ _ _ _ D]; rfl
    have c2 : w3.cell? ⟨b2, 2, none⟩ = some (.int .i64 lo) := by rw [cell_of_row w3 b2 _ _ _ _ D]; rfl
    have hcf := HRD.out.1
    have hcg := HWR.out.1
    clear D HB2
    go_region_held3 (fun w' => w'.cell? ⟨b2, 0, none⟩ = some (.func (.func f) x #[]) ∧ w'.cell? ⟨b2, 1, none⟩ = some (.func (.func g) y #[]) ∧ w'.cell? ⟨b2, 2, none⟩ = some (.int .i64 lo)) (go_keep)
      (first
        | (go_at_call 63; refine (put_any _ _ _ _ HX.out _).mono ?_; rintro e w5 ⟨rfl, rfl⟩)
        | ((with_reducible refine (HT.out _).mono ?_); rintro e w4 ⟨rfl, hb⟩; have e0 := (hb.cell (p := ⟨b2, 0, none⟩) hz).trans c0; have e1 := (hb.cell (p := ⟨b2, 1, none⟩) hz).trans c1; have e2 := (hb.cell (p := ⟨b2, 2, none⟩) hz).trans c2; have HB4 := Lib.hid (HB3.out.trans (((Below.refl w3.heap.size w3).drew.trans hb).mono HB3.out.size)); have hz4 := Nat.lt_of_lt_of_le hz hb.size; have HP4 : Hid (ProgC fr w4 b t) := Lib.hid (HP.out.below HB4.out); clear hb)
        | ((with_reducible refine (HW.out _ _ (U_in _) HP4.out).mono ?_); rintro e w5 ⟨hu, ho, hp⟩; obtain ⟨u, rfl⟩ := hu; have g0 := ho.cell hne e0; have g1 := ho.cell hne e1; have g2 := ho.cell hne e2; have HE := Lib.hid ((Only.of_below (fun i => i = b) HB4.out).trans ho); have HP5 := Lib.hid hp; clear ho hp))
    go_wp2
    go_ret
    exact ⟨rfl, HE.out, HP5.out⟩

theorem puts_soft (b : Nat) (t : Cl) : Puts fr 73 #[.pointer (some ⟨b, 1, none⟩)] b t (fun v => ⟨bitB (V v) 0, t.c, t.n⟩) := ⟨fun _ _ => by kernel_rfl, fun v w hv h => setSoftWord_any w b t v h hv⟩

theorem puts_alarm (b : Nat) (t : Cl) : Puts fr 76 #[.pointer (some ⟨b, 2, none⟩)] b t (fun v => ⟨t.s, v, t.n⟩) := ⟨fun _ _ => by kernel_rfl, fun v w hv h => setAlarm_any w b t v h hv⟩

theorem puts_time (b : Nat) (t : Cl) : Puts fr 78 #[.pointer (some ⟨b, 2, none⟩)] b t (fun v => ⟨t.s, t.c, v⟩) := ⟨fun _ _ => by kernel_rfl, fun v w hv h => setTime_any w b t v h hv⟩

theorem write_0 (w : World) (b : Nat) (t : Cl) (h : ProgC fr w b t) (off n v : Int) (hp : NoPlace off n) (ho : In64 off) :
    Calls Tryd.prog 45 #[.pointer (some ⟨b, 1, none⟩), .int .u64 off, .int .i64 n, .int .u64 v] w (WriteC fr w b false t) := by
  have HP := Lib.hid hp
  have HO := Lib.hid ho
  have HC := Lib.hid h
  clear hp ho h
  go_enter Tryd.func45, Tryd.ntmps45
  go_wp2_with fail
  refine (find_0 _ _ _ _ HP.out HO.out).mono ?_
  rintro e w2 ⟨rfl, hb⟩
  have HB2 := Lib.hid hb
  clear hb
  simp only [noP]
  go_wp2
  go_ret
  exact ⟨rfl, Only.of_below _ (HB2.out.alloc HB2.out.size _), HC.out.below (HB2.out.alloc HB2.out.size _)⟩

theorem write_1 (w : World) (b : Nat) (t : Cl) (h : ProgC fr w b t) (v : Int) (hv : In64 v) : Calls Tryd.prog 45 #[.pointer (some ⟨b, 1, none⟩), .int .u64 0, .int .i64 4, .int .u64 v] w (WriteC fr w b true (wrC t v 1)) := by
  have k := write_place w b t h 0 4 v 72 73 #[progV t] #[.pointer (some ⟨b, 1, none⟩)] 0 (sI t.s) _ (sI_in _) hv (by decide) (fun w hp => find_1 w b t hp) (tells_soft t) (puts_soft b t)
  have e : (⟨bitB (V (U (putB (V (sI t.s)) 0 (8 * 4) (V v)))) 0, t.c, t.n⟩ : Cl) = wrC t v 1 := by
    have e1 := bit_put_low (x := sI t.s) (sI_in _) hv
    show (⟨bitB (V (U (putB (V (sI t.s)) 0 32 (V v)))) 0, t.c, t.n⟩ : Cl) = _
    rw [e1]; rfl
  rw [← e]
  exact k

theorem write_2 (w : World) (b : Nat) (t : Cl) (h : ProgC fr w b t) (v : Int) (hv : In64 v) : Calls Tryd.prog 45 #[.pointer (some ⟨b, 1, none⟩), .int .u64 16384, .int .i64 8, .int .u64 v] w (WriteC fr w b true (wrC t v 2)) := by
  have k := write_place w b t h 16384 8 v 75 76 #[timesV t] #[.pointer (some ⟨b, 2, none⟩)] 0 t.c _ h.2.1 hv (by decide) (fun w hp => find_2 w b t hp) (tells_alarm t) (puts_alarm b t)
  have e : (⟨t.s, U (putB (V t.c) 0 (8 * 8) (V v)), t.n⟩ : Cl) = wrC t v 2 := by
    have e1 := put_whole (x := t.c) hv
    show (⟨t.s, U (putB (V t.c) 0 64 (V v)), t.n⟩ : Cl) = _
    rw [e1]; rfl
  rw [← e]
  exact k

theorem write_3 (w : World) (b : Nat) (t : Cl) (h : ProgC fr w b t) (v : Int) (hv : In64 v) : Calls Tryd.prog 45 #[.pointer (some ⟨b, 1, none⟩), .int .u64 16384, .int .i64 4, .int .u64 v] w (WriteC fr w b true (wrC t v 3)) := by
  have k := write_place w b t h 16384 4 v 75 76 #[timesV t] #[.pointer (some ⟨b, 2, none⟩)] 0 t.c _ h.2.1 hv (by decide) (fun w hp => find_3 w b t hp) (tells_alarm t) (puts_alarm b t)
  have e : (⟨t.s, U (putB (V t.c) 0 (8 * 4) (V v)), t.n⟩ : Cl) = wrC t v 3 := by
    have e1 := put_low h.2.1 hv
    show (⟨t.s, U (putB (V t.c) 0 32 (V v)), t.n⟩ : Cl) = _
    rw [e1]; rfl
  rw [← e]
  exact k

theorem write_4 (w : World) (b : Nat) (t : Cl) (h : ProgC fr w b t) (v : Int) (hv : In64 v) : Calls Tryd.prog 45 #[.pointer (some ⟨b, 1, none⟩), .int .u64 16388, .int .i64 4, .int .u64 v] w (WriteC fr w b true (wrC t v 4)) := by
  have k := write_place w b t h 16388 4 v 75 76 #[timesV t] #[.pointer (some ⟨b, 2, none⟩)] 32 t.c _ h.2.1 hv (by decide) (fun w hp => find_4 w b t hp) (tells_alarm t) (puts_alarm b t)
  have e : (⟨t.s, U (putB (V t.c) 32 (8 * 4) (V v)), t.n⟩ : Cl) = wrC t v 4 := by
    have e1 := put_high h.2.1 hv
    show (⟨t.s, U (putB (V t.c) 32 32 (V v)), t.n⟩ : Cl) = _
    rw [e1]; rfl
  rw [← e]
  exact k

theorem write_5 (w : World) (b : Nat) (t : Cl) (h : ProgC fr w b t) (v : Int) (hv : In64 v) : Calls Tryd.prog 45 #[.pointer (some ⟨b, 1, none⟩), .int .u64 49144, .int .i64 8, .int .u64 v] w (WriteC fr w b true (wrC t v 5)) := by
  have k := write_place w b t h 49144 8 v 37 78 #[timesV t] #[.pointer (some ⟨b, 2, none⟩)] 0 t.n _ h.2.2 hv (by decide) (fun w hp => find_5 w b t hp) (tells_time t) (puts_time b t)
  have e : (⟨t.s, t.c, U (putB (V t.n) 0 (8 * 8) (V v))⟩ : Cl) = wrC t v 5 := by
    have e1 := put_whole (x := t.n) hv
    show (⟨t.s, t.c, U (putB (V t.n) 0 64 (V v))⟩ : Cl) = _
    rw [e1]; rfl
  rw [← e]
  exact k

theorem write_6 (w : World) (b : Nat) (t : Cl) (h : ProgC fr w b t) (v : Int) (hv : In64 v) : Calls Tryd.prog 45 #[.pointer (some ⟨b, 1, none⟩), .int .u64 49144, .int .i64 4, .int .u64 v] w (WriteC fr w b true (wrC t v 6)) := by
  have k := write_place w b t h 49144 4 v 37 78 #[timesV t] #[.pointer (some ⟨b, 2, none⟩)] 0 t.n _ h.2.2 hv (by decide) (fun w hp => find_6 w b t hp) (tells_time t) (puts_time b t)
  have e : (⟨t.s, t.c, U (putB (V t.n) 0 (8 * 4) (V v))⟩ : Cl) = wrC t v 6 := by
    have e1 := put_low h.2.2 hv
    show (⟨t.s, t.c, U (putB (V t.n) 0 32 (V v))⟩ : Cl) = _
    rw [e1]; rfl
  rw [← e]
  exact k

theorem write_7 (w : World) (b : Nat) (t : Cl) (h : ProgC fr w b t) (v : Int) (hv : In64 v) : Calls Tryd.prog 45 #[.pointer (some ⟨b, 1, none⟩), .int .u64 49148, .int .i64 4, .int .u64 v] w (WriteC fr w b true (wrC t v 7)) := by
  have k := write_place w b t h 49148 4 v 37 78 #[timesV t] #[.pointer (some ⟨b, 2, none⟩)] 32 t.n _ h.2.2 hv (by decide) (fun w hp => find_7 w b t hp) (tells_time t) (puts_time b t)
  have e : (⟨t.s, t.c, U (putB (V t.n) 32 (8 * 4) (V v))⟩ : Cl) = wrC t v 7 := by
    have e1 := put_high h.2.2 hv
    show (⟨t.s, t.c, U (putB (V t.n) 32 32 (V v))⟩ : Cl) = _
    rw [e1]; rfl
  rw [← e]
  exact k

theorem write_any (w : World) (b : Nat) (t : Cl) (h : ProgC fr w b t) (off n v : Int) (ho : In64 off) (hv : In64 v) :
    Calls Tryd.prog 45 #[.pointer (some ⟨b, 1, none⟩), .int .u64 off, .int .i64 n, .int .u64 v] w (WriteC fr w b (okC off n) (wrC t v (kindC off n))) := by
  unfold okC
  rcases kind_cases off n with ⟨rfl, rfl, hk⟩ | ⟨rfl, rfl, hk⟩ | ⟨rfl, rfl, hk⟩ | ⟨rfl, rfl, hk⟩ | ⟨rfl, rfl, hk⟩ | ⟨rfl, rfl, hk⟩ | ⟨rfl, rfl, hk⟩ | ⟨hk, h1, h2, h3⟩
  all_goals rw [hk]
  · exact write_1 w b t h v hv
  · exact write_2 w b t h v hv
  · exact write_3 w b t h v hv
  · exact write_4 w b t h v hv
  · exact write_5 w b t h v hv
  · exact write_6 w b t h v hv
  · exact write_7 w b t h v hv
  · exact write_0 w b t h off n v ⟨hk, h1, h2, h3⟩ ho

end Go.Proofs.YtohidopbggcejaaDoor.C4.In
