/- Joined: PlA PlB PlC PlD PlE PlF PlG PlH PlI PlJ PlK PlM PlN PlP PlQ PlR PlS PlT PlU PlV PlW PlS7 PlTab -/
import Derived.Test.YtohidopbggcejaaDoorRows
import Derived.Test.YtohidopbggcejaaDoorMZ1
import Derived.WalkLawsBesides
import Derived.BigQuiet
import Derived.Deep.QuietTactic
import Derived.Lib.Hide
import Derived.IntWalk
import Derived.StillTailTactics
import Derived.Deep.RegionLaw
import Derived.Deep.RegionWith
import Derived.Deep.LoopGhost
import Derived.Deep.RegionHeld3
import Derived.ProofKit
import Derived.LaidMore
import Derived.OpenShut
import Derived.Stop.Joined
import Derived.MakeChecks
namespace Go.Proofs.YtohidopbggcejaaDoor.P5
open Go.RowKit
set_option linter.unusedVariables false
set_option maxRecDepth 100000

/-- A plic's state, by the source's number and the context's. -/
structure PS where
  prio : Nat → Int
  up : Nat → Bool
  pend : Nat → Bool
  busy : Nat → Bool
  on : Nat → Nat → Bool
  floor : Nat → Int

/-- The cells of a source. -/
def srcCell (t : PS) (s : Nat) : Nat → Value
  | 0 => .int .u64 (t.prio s)
  | 1 => .bool (t.up s)
  | 2 => .bool (t.pend s)
  | 3 => .bool (t.busy s)
  | 4 => .bool (t.on s 0)
  | _ => .bool (t.on s 1)

def cellR (t : PS) (i : Nat) : Value := if i < 192 then srcCell t (i / 6) (i % 6) else .int .u64 (t.floor (i - 192))

/-- The document's plic t stands in block b. -/
def RefP (w : World) (b : Nat) (t : PS) : Prop := w.heap[b]? = some (.cells (varr 194 (cellR t)) 0 (0, 0))

theorem RefP.lt {w : World} {b : Nat} {t : PS} (h : RefP w b t) : b < w.heap.size := (Array.getElem?_eq_some_iff.1 h).1

theorem RefP.below {w w' : World} {b : Nat} {t : PS} (h : RefP w b t) (o : Below w.heap.size w w') : RefP w' b t := (o.block b h.lt).trans h

theorem RefP.keeps {w w' : World} {b : Nat} {t : PS} {T : Nat → Prop} (h : RefP w b t) (o : Only T w w') (hb : ¬ T b) : RefP w' b t := o.keeps hb h

theorem cellR_src (t : PS) {s j : Nat} (hs : s < 32) (hj : j < 6) : cellR t (s * 6 + j) = srcCell t s j := by
  unfold cellR
  rw [if_pos (by omega), show (s * 6 + j) / 6 = s by omega, show (s * 6 + j) % 6 = j by omega]

theorem cellR_floor (t : PS) (c : Nat) : cellR t (192 + c) = .int .u64 (t.floor c) := by
  unfold cellR
  rw [if_neg (by omega), show 192 + c - 192 = c by omega]

theorem RefP.src {w : World} {b : Nat} {t : PS} (h : RefP w b t) {s j : Nat} (hs : s < 32) (hj : j < 6) : w.cell? ⟨b, s * 6 + j, none⟩ = some (srcCell t s j) := by
  rw [cell_of_row w b _ _ _ _ h, varr_get _ _ _ (by omega), cellR_src t hs hj]

theorem RefP.floor_ {w : World} {b : Nat} {t : PS} (h : RefP w b t) {c : Nat} (hc : c < 2) : w.cell? ⟨b, 192 + c, none⟩ = some (.int .u64 (t.floor c)) := by
  rw [cell_of_row w b _ _ _ _ h, varr_get _ _ _ (by omega), cellR_floor]

theorem RefP.free {w : World} {b : Nat} {t : PS} (h : RefP w b t) (k : Nat) : w.frozen? ⟨b, k, none⟩ = false := frozen_of_row w b k _ _ h

/-- One cell of a source turned. -/
theorem RefP.set {w : World} {b : Nat} {t t' : PS} (h : RefP w b t) {s j : Nat} (v : Value) (hs : s < 32) (hj : j < 6) (he : ∀ s' j', s' < 32 → j' < 6 → srcCell t' s' j' = if s' = s ∧ j' = j then v else srcCell t s' j') (hf : t'.floor = t.floor) :
    RefP (w.setCell ⟨b, s * 6 + j, none⟩ v) b t' := by
  unfold RefP
  rw [heap_setCell_same w b _ _ _ _ h, varr_set]
  have e : (varr 194 fun i => if i = s * 6 + j then v else cellR t i) = varr 194 (cellR t') := varr_congr fun i hi => by
    by_cases h1 : i < 192
    · have h2 : i = i / 6 * 6 + i % 6 := by omega
      have e1 : cellR t' i = srcCell t' (i / 6) (i % 6) := by unfold cellR; rw [if_pos h1]
      have e2 : cellR t i = srcCell t (i / 6) (i % 6) := by unfold cellR; rw [if_pos h1]
      rw [e1, e2, he _ _ (by omega) (by omega)]
      by_cases c : i = s * 6 + j
      · rw [if_pos c, if_pos ⟨by omega, by omega⟩]
      · rw [if_neg c, if_neg (by omega)]
    · rw [if_neg (by omega)]
      unfold cellR
      rw [if_neg h1, if_neg h1, hf]
  rw [e]

/-- One function turned at one place. -/
def upd {α : Type} (f : Nat → α) (k : Nat) (v : α) : Nat → α := fun i => if i = k then v else f i
theorem upd_same {α : Type} (f : Nat → α) (k : Nat) (v : α) : upd f k v k = v := by unfold upd; rw [if_pos rfl]
theorem upd_other {α : Type} (f : Nat → α) {k i : Nat} (v : α) (h : ¬ i = k) : upd f k v i = f i := by unfold upd; rw [if_neg h]

def isS (s : Int) : Bool := decide (1 ≤ s ∧ s ≤ 31)

/-- To look at a source. -/
def lookP (t : PS) (s : Nat) : PS := if t.up s && !t.busy s then { t with pend := upd t.pend s true } else t

def SetP (w : World) (b : Nat) (t' : PS) (e : Ending) (w' : World) : Prop := (∃ u, e = .returned u) ∧ Only (fun i => i = b) w w' ∧ RefP w' b t'

end Go.Proofs.YtohidopbggcejaaDoor.P5

namespace Go.Proofs.YtohidopbggcejaaDoor.P5
open Go.RowKit
set_option linter.unusedVariables false
set_option maxRecDepth 100000

theorem isS_nat {s : Int} (h : isS s = true) : ∃ k : Nat, s = (k : Int) ∧ 1 ≤ k ∧ k < 32 := by
  unfold isS at h; rw [decide_eq_true_eq] at h
  exact ⟨s.toNat, by omega, by omega, by omega⟩
/-- A line turned. -/
def upP (t : PS) (s : Nat) (u : Bool) : PS := { t with up := upd t.up s u }
/-- What Level leaves. -/
def levelP (t : PS) (s : Int) (u : Bool) : PS := if isS s = true then lookP (upP t s.toNat u) s.toNat else t
theorem RefP.upS {w : World} {b : Nat} {t : PS} (h : RefP w b t) {s : Nat} (u : Bool) (hs : s < 32) : RefP (w.setCell ⟨b, s * 6 + 1, none⟩ (.bool u)) b (upP t s u) :=
  h.set _ hs (by omega) (fun s' j' _ _ => by
    by_cases c : s' = s ∧ j' = 1
    · obtain ⟨rfl, rfl⟩ := c; rw [if_pos ⟨rfl, rfl⟩]; simp [srcCell, upP, upd_same]
    · rw [if_neg c]; match j' with
      | 0 => rfl
      | 1 => simp [srcCell, upP, upd_other _ _ (fun e : s' = s => c ⟨e, rfl⟩)]
      | 2 => rfl
      | 3 => rfl
      | 4 => rfl
      | _ + 5 => rfl) rfl
def RefPEnd (w : World) (b : Nat) (r : Value) (t' : PS) (e : Ending) (w' : World) : Prop := e = .returned r ∧ Only (fun i => i = b) w w' ∧ RefP w' b t'

end Go.Proofs.YtohidopbggcejaaDoor.P5

namespace Go.Proofs.YtohidopbggcejaaDoor.P5
open Go.RowKit
set_option linter.unusedVariables false
set_option maxRecDepth 100000

/-- Its value. -/
def refPV (t : PS) : Value := .agg (varr 194 (cellR t))

/-- What Up tells. -/
def upT (t : PS) (s : Int) : Bool := isS s && t.up s.toNat

/-- The best of the sources 31 down to 32 - n. -/
def bestTo (t : PS) (c : Nat) : Nat → Nat
  | 0 => 0
  | n + 1 => if t.pend (31 - n) && t.on (31 - n) c && decide (0 < t.prio (31 - n)) && (decide (bestTo t c n = 0) || decide (t.prio (bestTo t c n) ≤ t.prio (31 - n))) then 31 - n else bestTo t c n
theorem bestTo_le (t : PS) (c n : Nat) : bestTo t c n ≤ 31 := by
  induction n with
  | zero => exact Nat.zero_le _
  | succ n ih => simp only [bestTo]; split <;> omega
/-- A context's best. -/
def bestC (t : PS) (c : Int) : Nat := if c = 0 ∨ c = 1 then bestTo t c.toNat 31 else 0
theorem best_step {t : PS} {c i b : Nat} (hi : 1 ≤ i) (hi2 : i ≤ 31) (hb : b = bestTo t c (31 - i)) : bestTo t c (31 - (i - 1)) = if t.pend i && t.on i c && decide (0 < t.prio i) && (decide (b = 0) || decide (t.prio b ≤ t.prio i)) then i else b := by
  rw [show 31 - (i - 1) = 31 - i + 1 by omega]
  simp only [bestTo]
  rw [show 31 - (31 - i) = i by omega, ← hb]

end Go.Proofs.YtohidopbggcejaaDoor.P5

namespace Go.Proofs.YtohidopbggcejaaDoor.P5
open Go.RowKit
set_option linter.unusedVariables false
set_option maxRecDepth 100000

end Go.Proofs.YtohidopbggcejaaDoor.P5

namespace Go.Proofs.YtohidopbggcejaaDoor.P5
open Go.RowKit
set_option linter.unusedVariables false
set_option maxRecDepth 100000

/-- What Line tells. -/
def lineC (t : PS) (c : Int) : Bool := decide (0 < bestC t c) && decide (t.floor c.toNat < t.prio (bestC t c))

end Go.Proofs.YtohidopbggcejaaDoor.P5

namespace Go.Proofs.YtohidopbggcejaaDoor.P5
set_option linter.unusedVariables false
set_option maxRecDepth 100000

/-- What the loop has made of the bits 31 down to 32 - n. -/
def bitsN (f : Nat → Bool) : Nat → Int
  | 0 => 0
  | n + 1 => 2 * bitsN f n + if f (31 - n) then 1 else 0
theorem bitsN_bd (f : Nat → Bool) (n : Nat) : 0 ≤ bitsN f n ∧ bitsN f n < 2 ^ n := by
  induction n with
  | zero => simp [bitsN]
  | succ n ih =>
    have e : (2 : Int) ^ (n + 1) = 2 * 2 ^ n := by rw [Int.pow_succ]; omega
    simp only [bitsN]
    split <;> omega
theorem bitsN_even {f : Nat → Bool} {n : Nat} (h : f (31 - n) = false) : bitsN f (n + 1) = 2 * bitsN f n := by simp [bitsN, h]
theorem bitsN_odd {f : Nat → Bool} {n : Nat} (h : f (31 - n) = true) : bitsN f (n + 1) = 2 * bitsN f n + 1 := by simp [bitsN, h]
/-- The number of 32 bits. -/
def bits32 (f : Nat → Bool) : Int := bitsN f 32
theorem bits32_bd (f : Nat → Bool) : 0 ≤ bits32 f ∧ bits32 f < 4294967296 := bitsN_bd f 32
/-- A step down: what was made of n + k bits, without the last k. -/
theorem bitsN_div (f : Nat → Bool) (n k : Nat) : bitsN f (n + k) / 2 ^ k = bitsN f n := by
  induction k with
  | zero => simp
  | succ k ih =>
    have e : (2 : Int) ^ (k + 1) = 2 * 2 ^ k := by rw [Int.pow_succ]; omega
    rw [e, ← Int.ediv_ediv_of_nonneg (by omega : (0 : Int) ≤ 2)]
    have h : bitsN f (n + (k + 1)) / 2 = bitsN f (n + k) := by
      rw [← Nat.add_assoc]
      simp only [bitsN]
      split <;> omega
    rw [h, ih]
/-- Bit s of that number. -/
theorem bits32_bit (f : Nat → Bool) {s : Nat} (hs : s < 32) : (bits32 f / 2 ^ s % 2 == 1) = f s := by
  unfold bits32
  have h := bitsN_div f (32 - s) s
  rw [show 32 - s + s = 32 by omega] at h
  rw [h, show 32 - s = 31 - s + 1 by omega]
  cases hf : f s with
  | true => rw [bitsN_odd (by rw [show 31 - (31 - s) = s by omega]; exact hf), beq_iff_eq]; omega
  | false => rw [bitsN_even (by rw [show 31 - (31 - s) = s by omega]; exact hf), beq_eq_false_iff_ne]; omega
/-- Numbers of the same bits. -/
theorem bits32_inj {f g : Nat → Bool} (h : bits32 f = bits32 g) {s : Nat} (hs : s < 32) : f s = g s := by
  rw [← bits32_bit f hs, ← bits32_bit g hs, h]

end Go.Proofs.YtohidopbggcejaaDoor.P5

namespace Go.Proofs.YtohidopbggcejaaDoor.P5
open Go.RowKit
set_option linter.unusedVariables false
set_option maxRecDepth 100000

/-- What a reading tells that turns nothing. -/
def TellsP (w : World) (x : Int) (r : Bool) (e : Ending) (w' : World) : Prop := e = .returned (.tuple #[.int .u64 x, .bool r]) ∧ w = w'

end Go.Proofs.YtohidopbggcejaaDoor.P5

namespace Go.Proofs.YtohidopbggcejaaDoor.P5
open Go.RowKit
set_option linter.unusedVariables false
set_option maxRecDepth 100000

end Go.Proofs.YtohidopbggcejaaDoor.P5

namespace Go.Proofs.YtohidopbggcejaaDoor.P5
open Go.RowKit
set_option linter.unusedVariables false
set_option maxRecDepth 100000

/-- No place of a plic: what the walk asks of the tests. -/
structure NoPlic (off : Int) : Prop where
  prio : ¬ (off < 128 ∧ off % 4 = 0)
  pend : ¬ off = 4096
  on0 : ¬ off = 8192
  on1 : ¬ off = 8320
  fl0 : ¬ off = 2097152
  fl1 : ¬ off = 2101248
  cl0 : ¬ off = 2097156
  cl1 : ¬ off = 2101252

theorem neB {a b : Int} (h : ¬ a = b) : (a == b) = false := by simpa using h

end Go.Proofs.YtohidopbggcejaaDoor.P5

namespace Go.Proofs.YtohidopbggcejaaDoor.P5
open Go.RowKit
set_option linter.unusedVariables false
set_option maxRecDepth 100000

end Go.Proofs.YtohidopbggcejaaDoor.P5

namespace Go.Proofs.YtohidopbggcejaaDoor.P5
open Go.RowKit
set_option linter.unusedVariables false
set_option maxRecDepth 100000

def unpendP (t : PS) (s : Nat) : PS := { t with pend := upd t.pend s false }
def claimP (t : PS) (s : Nat) : PS := { unpendP t s with busy := upd t.busy s true }
theorem RefP.unpend {w : World} {b : Nat} {t : PS} (h : RefP w b t) {s : Nat} (hs : s < 32) : RefP (w.setCell ⟨b, s * 6 + 2, none⟩ (.bool false)) b (unpendP t s) :=
  h.set _ hs (by omega) (fun s' j' _ _ => by
    by_cases c : s' = s ∧ j' = 2
    · obtain ⟨rfl, rfl⟩ := c; rw [if_pos ⟨rfl, rfl⟩]; simp [srcCell, unpendP, upd_same]
    · rw [if_neg c]; match j' with
      | 0 => rfl
      | 1 => rfl
      | 2 => simp [srcCell, unpendP, upd_other _ _ (fun e : s' = s => c ⟨e, rfl⟩)]
      | 3 => rfl
      | 4 => rfl
      | _ + 5 => rfl) rfl
theorem RefP.claim {w : World} {b : Nat} {t : PS} {s : Nat} (h : RefP w b (unpendP t s)) (hs : s < 32) : RefP (w.setCell ⟨b, s * 6 + 3, none⟩ (.bool true)) b (claimP t s) :=
  h.set _ hs (by omega) (fun s' j' _ _ => by
    by_cases c : s' = s ∧ j' = 3
    · obtain ⟨rfl, rfl⟩ := c; rw [if_pos ⟨rfl, rfl⟩]; simp [srcCell, claimP, upd_same]
    · rw [if_neg c]; match j' with
      | 0 => rfl
      | 1 => rfl
      | 2 => rfl
      | 3 => simp [srcCell, claimP, unpendP, upd_other _ _ (fun e : s' = s => c ⟨e, rfl⟩)]
      | 4 => rfl
      | _ + 5 => rfl) rfl
/-- What a claim leaves. -/
def claimed (t : PS) (k : Nat) : PS := if k = 0 then t else claimP t k
theorem bestC_le (t : PS) (c : Int) : bestC t c ≤ 31 := by unfold bestC; split; exact bestTo_le _ _ _; omega

end Go.Proofs.YtohidopbggcejaaDoor.P5

namespace Go.Proofs.YtohidopbggcejaaDoor.P5
open Go.RowKit
set_option linter.unusedVariables false
set_option maxRecDepth 100000

def V32 (x : Int) : BitVec 32 := BitVec.ofInt 32 x
theorem V32_toNat {x : Int} (h0 : 0 ≤ x) (h1 : x < 4294967296) : ((V32 x).toNat : Int) = x := by
  unfold V32; rw [BitVec.toNat_ofInt]; omega
theorem V32_mod (x : Int) : ((V32 x).toNat : Int) = x % 4294967296 := by
  unfold V32; rw [BitVec.toNat_ofInt]; omega
theorem V32_bit {x : Int} (h0 : 0 ≤ x) (h1 : x < 4294967296) (s : Nat) : (V32 x).getLsbD s = (x / 2 ^ s % 2 == 1) := by
  have e := V32_toNat h0 h1
  rw [BitVec.getLsbD, Nat.testBit_eq_decide_div_mod_eq]
  have h : x / 2 ^ s % 2 = (((V32 x).toNat / 2 ^ s % 2 : Nat) : Int) := by
    rw [Int.natCast_emod, Int.natCast_ediv, e]; norm_cast
  rw [h, Bool.eq_iff_iff, decide_eq_true_eq, beq_iff_eq]; omega
theorem bits32_V (f : Nat → Bool) {s : Nat} (hs : s < 32) : (V32 (bits32 f)).getLsbD s = f s := by
  rw [V32_bit (bits32_bd f).1 (bits32_bd f).2, bits32_bit f hs]
theorem bits32_of (b : BitVec 32) {f : Nat → Bool} (h : ∀ s, s < 32 → b.getLsbD s = f s) : (b.toNat : Int) = bits32 f := by
  have e : b = V32 (bits32 f) := BitVec.eq_of_getLsbD_eq fun i hi => by rw [h i hi, bits32_V f hi]
  rw [e, V32_toNat (bits32_bd f).1 (bits32_bd f).2]
theorem bits32_congr {f g : Nat → Bool} (h : ∀ s, s < 32 → f s = g s) : bits32 f = bits32 g := by
  rw [← bits32_of (V32 (bits32 f)) (f := g) fun s hs => by rw [bits32_V f hs, h s hs], V32_toNat (bits32_bd f).1 (bits32_bd f).2]
theorem wrap32_nat (b : BitVec 32) : IntKind.u32.wrap (b.toNat : Int) = b.toNat := by
  have := b.isLt
  rw [IntKind.wrap_u32]; omega
theorem or32 (x y : Int) : bits .or .u32 x y = ((V32 x ||| V32 y).toNat : Int) := by
  show IntKind.u32.wrap ((V32 x ||| V32 y).toNat : Int) = _
  exact wrap32_nat _
theorem and32 (x y : Int) : bits .and .u32 x y = ((V32 x &&& V32 y).toNat : Int) := by
  show IntKind.u32.wrap ((V32 x &&& V32 y).toNat : Int) = _
  exact wrap32_nat _
theorem andNot32 (x y : Int) : bits .andNot .u32 x y = ((V32 x &&& ~~~ V32 y).toNat : Int) := by
  show IntKind.u32.wrap ((V32 x &&& ~~~ V32 y).toNat : Int) = _
  exact wrap32_nat _
theorem pow32 {k : Nat} (hk : k < 32) (s : Nat) (hs : s < 32) : (V32 (2 ^ k)).getLsbD s = decide (s = k) := by
  have h : (2 : Int) ^ k = ((2 ^ k : Nat) : Int) := by norm_cast
  unfold V32
  rw [h, BitVec.ofInt_natCast, BitVec.getLsbD, BitVec.toNat_ofNat, Nat.mod_eq_of_lt (Nat.pow_lt_pow_right (by omega) hk), Nat.testBit_two_pow]
  exact decide_eq_decide.2 ⟨fun e => e.symm, fun e => e.symm⟩
/-- A bit set, a bit taken away. -/
theorem set32 (f : Nat → Bool) {k : Nat} (hk : k < 32) : bits .or .u32 (bits32 f) (2 ^ k) = bits32 (upd f k true) := by
  rw [or32]
  refine bits32_of _ fun s hs => ?_
  rw [BitVec.getLsbD_or, bits32_V f hs, pow32 hk s hs]
  unfold upd
  by_cases e : s = k
  · rw [if_pos e, decide_eq_true e, Bool.or_true]
  · rw [if_neg e, decide_eq_false e, Bool.or_false]
theorem clr32 (f : Nat → Bool) {k : Nat} (hk : k < 32) : bits .andNot .u32 (bits32 f) (2 ^ k) = bits32 (upd f k false) := by
  rw [andNot32]
  refine bits32_of _ fun s hs => ?_
  rw [BitVec.getLsbD_and, BitVec.getLsbD_not, bits32_V f hs, pow32 hk s hs, decide_eq_true hs, Bool.true_and]
  unfold upd
  by_cases e : s = k
  · rw [if_pos e, decide_eq_true e, Bool.not_true, Bool.and_false]
  · rw [if_neg e, decide_eq_false e, Bool.not_false, Bool.and_true]
theorem both32 (f g : Nat → Bool) : bits .and .u32 (bits32 f) (bits32 g) = bits32 (fun s => f s && g s) := by
  rw [and32]
  exact bits32_of _ fun s hs => by rw [BitVec.getLsbD_and, bits32_V f hs, bits32_V g hs]
/-- Bit s of a number. -/
def vbit (v : Int) (s : Nat) : Bool := v / 2 ^ s % 2 == 1
theorem low32 {v : Int} (h : 0 ≤ v) : v % 4294967296 = bits32 (vbit v) := by
  rw [← V32_mod]
  refine bits32_of _ fun s hs => ?_
  have h1 := Int.emod_nonneg v (show (4294967296 : Int) ≠ 0 by decide)
  have h2 := Int.emod_lt_of_pos v (show (0 : Int) < 4294967296 by decide)
  have e : V32 v = V32 (v % 4294967296) := BitVec.eq_of_toNat_eq (by have := V32_mod v; have k := V32_mod (v % 4294967296); omega)
  rw [e, V32_bit h1 h2]
  unfold vbit
  have hd : v % 4294967296 / 2 ^ s % 2 = v / 2 ^ s % 2 := by
    have hp : (4294967296 : Int) = 2 ^ s * (2 * 2 ^ (31 - s)) := by
      rw [show (2 : Int) * 2 ^ (31 - s) = 2 ^ (32 - s) by rw [show 32 - s = 31 - s + 1 by omega, Int.pow_succ, Int.mul_comm], ← Int.pow_add, show s + (32 - s) = 32 by omega]; rfl
    have hv : v = v % 4294967296 + 2 ^ s * (2 * (2 ^ (31 - s) * (v / 4294967296))) := by
      have h3 := Int.emod_add_mul_ediv v 4294967296
      have h4 : 4294967296 * (v / 4294967296) = 2 ^ s * (2 * (2 ^ (31 - s) * (v / 4294967296))) := by
        conv => lhs; lhs; rw [hp]
        rw [Int.mul_assoc, Int.mul_assoc]
      omega
    have hk : v / 2 ^ s = v % 4294967296 / 2 ^ s + 2 * (2 ^ (31 - s) * (v / 4294967296)) := by
      have h0 : (2 : Int) ^ s ≠ 0 := Int.pow_ne_zero (by decide)
      have := Int.add_mul_ediv_left (v % 4294967296) (2 * (2 ^ (31 - s) * (v / 4294967296))) h0
      rw [← this, ← hv]
    rw [hk]; omega
  rw [hd]
theorem vbit_bits32 (f : Nat → Bool) {s : Nat} (hs : s < 32) : vbit (bits32 f) s = f s := bits32_bit f hs
/-- What may be enabled by a number: not the source 0. -/
def onBits (v : Int) (s : Nat) : Bool := decide (0 < s) && vbit v s
theorem not1_32 {v : Int} (h : 0 ≤ v) : bits .andNot .u32 (v % 4294967296) 1 = bits32 (onBits v) := by
  rw [low32 h, show (1 : Int) = 2 ^ 0 by rfl, clr32 _ (by omega)]
  refine bits32_congr fun s hs => ?_
  unfold upd onBits
  by_cases e : s = 0
  · rw [if_pos e, decide_eq_false (by omega), Bool.false_and]
  · rw [if_neg e, decide_eq_true (by omega), Bool.true_and]
theorem bit32_is (f : Nat → Bool) {s : Nat} (hs : s < 32) : bitB (V (bits32 f)) s = f s := by
  have hb := bits32_bd f
  have h := bit_reckon (x := bits32 f) (i := (s : Int)) (k := 32) (by omega) hb.1 (by exact hb.2) (by omega)
  rw [← h, show min (s : Int).toNat 32 = s by omega, bits32_bit f hs]
theorem bit32_out (f : Nat → Bool) {i : Int} (h : ¬ (0 ≤ i ∧ i < 32)) : bitB (V (bits32 f)) i = false := by
  have hb := bits32_bd f
  by_cases h0 : 0 ≤ i
  · have k := bit_reckon (x := bits32 f) (i := i) (k := 32) (by omega) hb.1 (by exact hb.2) h0
    rw [← k, show min i.toNat 32 = 32 by omega, Int.ediv_eq_zero_of_lt hb.1 (by exact hb.2)]; rfl
  · exact bit_neg (by omega)
/-- The lowest three bits. -/
theorem low3 {v : Int} (h : In64 v) : U (fieldB (V v) 0 3) = v % 8 := by
  have h1 := Int.emod_nonneg v (show (8 : Int) ≠ 0 by decide)
  have h2 := Int.emod_lt_of_pos v (show (0 : Int) < 8 by decide)
  have e : fieldB (V v) 0 3 = V (v % 8) := ext64 fun i hi => by
    rw [field_bit _ _ (by decide), decide_eq_true hi, Bool.true_and, show i + (0 : Int).toNat = i by simp]
    have k := h.1
    rw [bit_div, bit_div]
    have e1 := toNat_V h
    have e2 := toNat_V (x := v % 8) (by unfold In64; omega)
    by_cases c : (i : Int) < 3
    · rw [decide_eq_true c, Bool.true_and]
      congr 1
      have hm : (V (v % 8)).toNat = (V v).toNat % 8 := by omega
      rw [hm]
      have : i = 0 ∨ i = 1 ∨ i = 2 := by omega
      rcases this with rfl | rfl | rfl <;> (apply propext; simp only [Nat.pow_zero, Nat.pow_one, Nat.reducePow]; omega)
    · rw [decide_eq_false c, Bool.false_and]
      symm
      rw [decide_eq_false_iff_not]
      have hlt : (V (v % 8)).toNat < 2 ^ 3 := by omega
      rw [Nat.div_eq_of_lt (Nat.lt_of_lt_of_le hlt (Nat.pow_le_pow_right (by omega) (by omega)))]
      omega
  rw [e, U_V (by unfold In64; omega)]

/-! ### the best -/
def candP (t : PS) (c i : Nat) : Bool := t.pend i && t.on i c && decide (0 < t.prio i)
/-- b is the best of the sources from lo to hi. -/
structure BestIn (t : PS) (c lo hi b : Nat) : Prop where
  nil : b = 0 → ∀ i, lo ≤ i → i ≤ hi → candP t c i = false
  is : b ≠ 0 → lo ≤ b ∧ b ≤ hi ∧ candP t c b = true ∧ ∀ i, lo ≤ i → i ≤ hi → candP t c i = true → t.prio i < t.prio b ∨ (t.prio i = t.prio b ∧ b ≤ i)
theorem BestIn.uniq {t : PS} {c lo hi a b : Nat} (ha : BestIn t c lo hi a) (hb : BestIn t c lo hi b) : a = b := by
  by_cases a0 : a = 0
  · by_cases b0 : b = 0
    · omega
    · obtain ⟨h1, h2, h3, _⟩ := hb.is b0
      rw [ha.nil a0 b h1 h2] at h3; cases h3
  · obtain ⟨h1, h2, h3, h4⟩ := ha.is a0
    by_cases b0 : b = 0
    · rw [hb.nil b0 a h1 h2] at h3; cases h3
    · obtain ⟨k1, k2, k3, k4⟩ := hb.is b0
      have x := h4 b k1 k2 k3
      have y := k4 a h1 h2 h3
      omega
theorem bestTo_best (t : PS) (c n : Nat) (hn : n ≤ 31) : BestIn t c (32 - n) 31 (bestTo t c n) := by
  induction n with
  | zero => exact ⟨fun _ i h1 h2 => by omega, fun h => absurd rfl h⟩
  | succ n ih =>
    have H := ih (by omega)
    simp only [bestTo]
    generalize bestTo t c n = b at *
    by_cases hc : candP t c (31 - n) = true
    · have hp : 0 < t.prio (31 - n) := by unfold candP at hc; simp at hc; exact hc.2
      have e : (t.pend (31 - n) && t.on (31 - n) c && decide (0 < t.prio (31 - n))) = true := hc
      rw [e, Bool.true_and]
      by_cases hb : b = 0
      · rw [decide_eq_true hb, Bool.true_or, if_pos rfl]
        refine ⟨fun h => by omega, fun _ => ⟨by omega, by omega, hc, fun i h1 h2 h3 => ?_⟩⟩
        by_cases ei : i = 31 - n
        · subst ei; exact .inr ⟨rfl, Nat.le_refl _⟩
        · rw [H.nil hb i (by omega) h2] at h3; cases h3
      · obtain ⟨h1, h2, h3, h4⟩ := H.is hb
        rw [decide_eq_false hb, Bool.false_or]
        by_cases hle : t.prio b ≤ t.prio (31 - n)
        · rw [decide_eq_true hle, if_pos rfl]
          refine ⟨fun h => by omega, fun _ => ⟨by omega, by omega, hc, fun i k1 k2 k3 => ?_⟩⟩
          by_cases ei : i = 31 - n
          · subst ei; exact .inr ⟨rfl, Nat.le_refl _⟩
          · have := h4 i (by omega) k2 k3
            omega
        · rw [decide_eq_false hle, if_neg (by simp)]
          refine ⟨fun h => absurd h hb, fun _ => ⟨by omega, h2, h3, fun i k1 k2 k3 => ?_⟩⟩
          by_cases ei : i = 31 - n
          · subst ei; exact .inl (by omega)
          · exact h4 i (by omega) k2 k3
    · have e : (t.pend (31 - n) && t.on (31 - n) c && decide (0 < t.prio (31 - n))) = false := by simpa [candP] using hc
      rw [e, Bool.false_and, if_neg (by simp)]
      have hcf : candP t c (31 - n) = false := e
      refine ⟨fun h i k1 k2 => ?_, fun h => ?_⟩
      · by_cases ei : i = 31 - n
        · subst ei; exact hcf
        · exact H.nil h i (by omega) k2
      · obtain ⟨h1, h2, h3, h4⟩ := H.is h
        refine ⟨by omega, h2, h3, fun i k1 k2 k3 => ?_⟩
        by_cases ei : i = 31 - n
        · subst ei; rw [hcf] at k3; cases k3
        · exact h4 i (by omega) k2 k3
/-- The best of the sources 1 to n, as it is sought from below. -/
def bestUp (t : PS) (c : Nat) : Nat → Nat
  | 0 => 0
  | n + 1 => if t.pend (n + 1) && t.on (n + 1) c && decide (t.prio (bestUp t c n) < t.prio (n + 1)) then n + 1 else bestUp t c n
theorem bestUp_le (t : PS) (c n : Nat) : bestUp t c n ≤ n := by
  induction n with
  | zero => exact Nat.le_refl _
  | succ n ih => simp only [bestUp]; split <;> omega
theorem bestUp_best (t : PS) (c n : Nat) (h0 : t.prio 0 = 0) : BestIn t c 1 n (bestUp t c n) := by
  induction n with
  | zero => exact ⟨fun _ i h1 h2 => by omega, fun h => absurd rfl h⟩
  | succ n H =>
    simp only [bestUp]
    have hle := bestUp_le t c n
    generalize bestUp t c n = b at *
    by_cases hb : b = 0
    · rw [hb, h0]
      by_cases hc : candP t c (n + 1) = true
      · have e : (t.pend (n + 1) && t.on (n + 1) c && decide (0 < t.prio (n + 1))) = true := hc
        rw [e, if_pos rfl]
        refine ⟨fun h => by omega, fun _ => ⟨by omega, Nat.le_refl _, hc, fun i h1 h2 h3 => ?_⟩⟩
        by_cases ei : i = n + 1
        · subst ei; exact .inr ⟨rfl, Nat.le_refl _⟩
        · rw [H.nil hb i h1 (by omega)] at h3; cases h3
      · have e : (t.pend (n + 1) && t.on (n + 1) c && decide (0 < t.prio (n + 1))) = false := by simpa [candP] using hc
        rw [e, if_neg (by simp)]
        refine ⟨fun _ i h1 h2 => ?_, fun h => absurd rfl h⟩
        by_cases ei : i = n + 1
        · subst ei; exact e
        · exact H.nil hb i h1 (by omega)
    · obtain ⟨h1, h2, h3, h4⟩ := H.is hb
      have hpb : 0 < t.prio b := by unfold candP at h3; simp at h3; exact h3.2
      by_cases hc : (t.pend (n + 1) && t.on (n + 1) c && decide (t.prio b < t.prio (n + 1))) = true
      · rw [if_pos hc]
        simp at hc
        obtain ⟨⟨hc1, hc2⟩, hc3⟩ := hc
        refine ⟨fun h => by omega, fun _ => ⟨by omega, Nat.le_refl _, by unfold candP; rw [hc1, hc2, decide_eq_true (by omega)]; rfl, fun i k1 k2 k3 => ?_⟩⟩
        by_cases ei : i = n + 1
        · subst ei; exact .inr ⟨rfl, Nat.le_refl _⟩
        · have := h4 i k1 (by omega) k3
          omega
      · rw [if_neg hc]
        refine ⟨fun h => absurd h hb, fun _ => ⟨h1, by omega, h3, fun i k1 k2 k3 => ?_⟩⟩
        by_cases ei : i = n + 1
        · subst ei
          unfold candP at k3; simp at k3 hc
          have := hc k3.1.1 k3.1.2
          omega
        · exact h4 i k1 (by omega) k3
theorem bestUp_is (t : PS) (c : Nat) (h0 : t.prio 0 = 0) : bestUp t c 31 = bestTo t c 31 := (bestUp_best t c 31 h0).uniq (bestTo_best t c 31 (by omega))
theorem bestUp_step (t : PS) {c n b : Nat} (hb : b = bestUp t c n) : bestUp t c (n + 1) = if t.pend (n + 1) && t.on (n + 1) c && decide (t.prio b < t.prio (n + 1)) then n + 1 else b := by
  simp only [bestUp]; rw [← hb]

end Go.Proofs.YtohidopbggcejaaDoor.P5

namespace Go.Proofs.YtohidopbggcejaaDoor.P5
open Go.RowKit
set_option linter.unusedVariables false
set_option maxRecDepth 100000

def prioT (t : PS) (s : Nat) (v : Int) : PS := { t with prio := upd t.prio s v }
def floorT (t : PS) (c : Nat) (v : Int) : PS := { t with floor := upd t.floor c v }
def onT (t : PS) (c : Nat) (f : Nat → Bool) : PS := { t with on := fun s c' => if c' = c then f s else t.on s c' }
def idleP (t : PS) (x : Nat) : PS := { t with busy := upd t.busy x false }
def mayB (t : PS) (c x : Nat) : Bool := decide (1 ≤ x) && decide (x ≤ 31) && t.on x c && t.busy x
/-- What a completion leaves. -/
def doneT (t : PS) (c x : Nat) : PS := if mayB t c x = true then lookP (idleP t x) x else t
/-- What the loop over the enabled ones has done. -/
def onK (t : PS) (c : Nat) (v : Int) (k : Nat) : PS := { t with on := fun s c' => if c' = c ∧ s < k then onBits v s else t.on s c' }
theorem RefP.congr {w : World} {b : Nat} {t t' : PS} (h : RefP w b t) (hs : ∀ s j, s < 32 → j < 6 → srcCell t s j = srcCell t' s j) (hf : ∀ c, c < 2 → t.floor c = t'.floor c) : RefP w b t' := by
  unfold RefP at *
  have e : varr 194 (cellR t) = varr 194 (cellR t') := varr_congr fun i hi => by
    unfold cellR
    by_cases h1 : i < 192
    · rw [if_pos h1, if_pos h1]; exact hs _ _ (by omega) (by omega)
    · rw [if_neg h1, if_neg h1, hf _ (by omega)]
  rw [← e]; exact h
theorem RefP.prioS {w : World} {b : Nat} {t : PS} (h : RefP w b t) {s : Nat} (v : Int) (hs : s < 32) : RefP (w.setCell ⟨b, s * 6, none⟩ (.int .u64 v)) b (prioT t s v) :=
  h.set (s := s) (j := 0) _ hs (by omega) (fun s' j' _ _ => by
    by_cases c : s' = s ∧ j' = 0
    · obtain ⟨rfl, rfl⟩ := c; rw [if_pos ⟨rfl, rfl⟩]; simp [srcCell, prioT, upd_same]
    · rw [if_neg c]; match j' with
      | 0 => simp [srcCell, prioT, upd_other _ _ (fun e : s' = s => c ⟨e, rfl⟩)]
      | 1 => rfl
      | 2 => rfl
      | 3 => rfl
      | 4 => rfl
      | _ + 5 => rfl) rfl
theorem RefP.idleS {w : World} {b : Nat} {t : PS} (h : RefP w b t) {s : Nat} (hs : s < 32) : RefP (w.setCell ⟨b, s * 6 + 3, none⟩ (.bool false)) b (idleP t s) :=
  h.set (s := s) (j := 3) _ hs (by omega) (fun s' j' _ _ => by
    by_cases c : s' = s ∧ j' = 3
    · obtain ⟨rfl, rfl⟩ := c; rw [if_pos ⟨rfl, rfl⟩]; simp [srcCell, idleP, upd_same]
    · rw [if_neg c]; match j' with
      | 0 => rfl
      | 1 => rfl
      | 2 => rfl
      | 3 => simp [srcCell, idleP, upd_other _ _ (fun e : s' = s => c ⟨e, rfl⟩)]
      | 4 => rfl
      | _ + 5 => rfl) rfl
theorem floorT_at (t : PS) (c : Nat) (v : Int) (i : Nat) : (floorT t c v).floor i = if i = c then v else t.floor i := rfl
theorem RefP.floorS {w : World} {b : Nat} {t : PS} (h : RefP w b t) {c : Nat} (v : Int) (hc : c < 2) : RefP (w.setCell ⟨b, 192 + c, none⟩ (.int .u64 v)) b (floorT t c v) := by
  unfold RefP
  rw [heap_setCell_same w b _ _ _ _ h, varr_set]
  have e : (varr 194 fun i => if i = 192 + c then .int .u64 v else cellR t i) = varr 194 (cellR (floorT t c v)) := varr_congr fun i hi => by
    unfold cellR
    by_cases h1 : i < 192
    · rw [if_neg (by omega), if_pos h1, if_pos h1]; rfl
    · rw [if_neg h1, if_neg h1]
      by_cases e : i = 192 + c
      · rw [if_pos e, floorT_at, if_pos (by omega)]
      · rw [if_neg e, floorT_at, if_neg (by omega)]
  rw [e]
theorem RefP.on0S {w : World} {b : Nat} {t : PS} {v : Int} {k : Nat} (h : RefP w b (onK t 0 v k)) (hk : k < 32) : RefP (w.setCell ⟨b, k * 6 + 4, none⟩ (.bool (onBits v k))) b (onK t 0 v (k + 1)) :=
  h.set (s := k) (j := 4) _ hk (by omega) (fun s' j' _ _ => by
    by_cases c : s' = k ∧ j' = 4
    · obtain ⟨rfl, rfl⟩ := c; rw [if_pos ⟨rfl, rfl⟩]; simp [srcCell, onK]
    · rw [if_neg c]; match j' with
      | 0 => rfl
      | 1 => rfl
      | 2 => rfl
      | 3 => rfl
      | 4 => (have n : ¬ s' = k := fun e => c ⟨e, rfl⟩); simp only [srcCell, onK, true_and]; congr 1; by_cases e : s' < k; rw [if_pos e, if_pos (by omega)]; rw [if_neg e, if_neg (by omega)]
      | _ + 5 => simp [srcCell, onK]) rfl
theorem RefP.on1S {w : World} {b : Nat} {t : PS} {v : Int} {k : Nat} (h : RefP w b (onK t 1 v k)) (hk : k < 32) : RefP (w.setCell ⟨b, k * 6 + 5, none⟩ (.bool (onBits v k))) b (onK t 1 v (k + 1)) :=
  h.set (s := k) (j := 5) _ hk (by omega) (fun s' j' _ hj => by
    by_cases c : s' = k ∧ j' = 5
    · obtain ⟨rfl, rfl⟩ := c; rw [if_pos ⟨rfl, rfl⟩]; simp [srcCell, onK]
    · rw [if_neg c]; match j' with
      | 0 => rfl
      | 1 => rfl
      | 2 => rfl
      | 3 => rfl
      | 4 => simp [srcCell, onK]
      | 5 => (have n : ¬ s' = k := fun e => c ⟨e, rfl⟩); simp only [srcCell, onK, true_and]; congr 1; by_cases e : s' < k; rw [if_pos e, if_pos (by omega)]; rw [if_neg e, if_neg (by omega)]
      | _ + 6 => omega) rfl
theorem RefP.onAll {w : World} {b : Nat} {t : PS} {c : Nat} {v : Int} (h : RefP w b (onK t c v 32)) : RefP w b (onT t c (onBits v)) :=
  h.congr (fun s j hs _ => by
    match j with
    | 0 => rfl
    | 1 => rfl
    | 2 => rfl
    | 3 => rfl
    | 4 => simp [srcCell, onK, onT, hs]
    | _ + 5 => simp [srcCell, onK, onT, hs]) (fun _ _ => rfl)
theorem RefP.onNone {w : World} {b : Nat} {t : PS} (c : Nat) (v : Int) (h : RefP w b t) : RefP w b (onK t c v 0) :=
  h.congr (fun s j hs _ => by
    match j with
    | 0 => rfl
    | 1 => rfl
    | 2 => rfl
    | 3 => rfl
    | 4 => simp [srcCell, onK]
    | _ + 5 => simp [srcCell, onK]) (fun _ _ => rfl)

end Go.Proofs.YtohidopbggcejaaDoor.P5

namespace Go.Proofs.YtohidopbggcejaaDoor.P5
open Go.RowKit
set_option linter.unusedVariables false
set_option maxRecDepth 100000

/-- What is always so of a plic. -/
structure PS.ok (t : PS) : Prop where
  prio0 : t.prio 0 = 0
  on0 : ∀ c, t.on 0 c = false
  pend0 : t.pend 0 = false
  up0 : t.up 0 = false
  pr : ∀ s, 0 ≤ t.prio s ∧ t.prio s < 8
  fl : ∀ c, 0 ≤ t.floor c ∧ t.floor c < 8
def cellQ (t : PS) (i : Nat) : Value :=
  if i = 0 then .int .u32 (bits32 t.up) else if i = 1 then .int .u32 (bits32 t.pend) else if i = 2 then .int .u32 (bits32 t.busy)
  else if i < 35 then .int .u8 (t.prio (i - 3)) else if i < 37 then .int .u32 (bits32 fun s => t.on s (i - 35)) else .int .u8 (t.floor (i - 37))
/-- The program's plic t stands in block b. -/
def ProgP (w : World) (b : Nat) (t : PS) : Prop := w.heap[b]? = some (.cells (varr 39 (cellQ t)) 59 (0, 0)) ∧ t.ok
theorem ProgP.lt {w : World} {b : Nat} {t : PS} (h : ProgP w b t) : b < w.heap.size := (Array.getElem?_eq_some_iff.1 h.1).1
theorem ProgP.below {w w' : World} {b : Nat} {t : PS} (h : ProgP w b t) (o : Below w.heap.size w w') : ProgP w' b t := ⟨(o.block b h.lt).trans h.1, h.2⟩
theorem ProgP.keeps {w w' : World} {b : Nat} {t : PS} {T : Nat → Prop} (h : ProgP w b t) (o : Only T w w') (hb : ¬ T b) : ProgP w' b t := ⟨o.keeps hb h.1, h.2⟩
theorem ProgP.free {w : World} {b : Nat} {t : PS} (h : ProgP w b t) (k : Nat) : w.frozen? ⟨b, k, none⟩ = false := frozen_of_row w b k _ _ h.1
theorem ProgP.cell {w : World} {b : Nat} {t : PS} (h : ProgP w b t) {i : Nat} (hi : i < 39) {v : Value} (hv : cellQ t i = v) : w.cell? ⟨b, i, none⟩ = some v := by
  rw [cell_of_row w b _ _ _ _ h.1, varr_get _ _ _ hi, hv]
theorem cellQ_prio (t : PS) {s : Nat} (hs : s < 32) : cellQ t (3 + s) = .int .u8 (t.prio s) := by
  unfold cellQ
  rw [if_neg (by omega), if_neg (by omega), if_neg (by omega), if_pos (by omega), show 3 + s - 3 = s by omega]
theorem cellQ_on (t : PS) {c : Nat} (hc : c < 2) : cellQ t (35 + c) = .int .u32 (bits32 fun s => t.on s c) := by
  unfold cellQ
  rw [if_neg (by omega), if_neg (by omega), if_neg (by omega), if_neg (by omega), if_pos (by omega), show 35 + c - 35 = c by omega]
theorem cellQ_floor (t : PS) {c : Nat} (hc : c < 2) : cellQ t (37 + c) = .int .u8 (t.floor c) := by
  unfold cellQ
  rw [if_neg (by omega), if_neg (by omega), if_neg (by omega), if_neg (by omega), if_neg (by omega), show 37 + c - 37 = c by omega]
theorem ProgP.up_ {w : World} {b : Nat} {t : PS} (h : ProgP w b t) : w.cell? ⟨b, 0, none⟩ = some (.int .u32 (bits32 t.up)) := h.cell (by omega) rfl
theorem ProgP.pend_ {w : World} {b : Nat} {t : PS} (h : ProgP w b t) : w.cell? ⟨b, 1, none⟩ = some (.int .u32 (bits32 t.pend)) := h.cell (by omega) rfl
theorem ProgP.busy_ {w : World} {b : Nat} {t : PS} (h : ProgP w b t) : w.cell? ⟨b, 2, none⟩ = some (.int .u32 (bits32 t.busy)) := h.cell (by omega) rfl
theorem ProgP.prio_ {w : World} {b : Nat} {t : PS} (h : ProgP w b t) {s : Nat} (hs : s < 32) : w.cell? ⟨b, 3 + s, none⟩ = some (.int .u8 (t.prio s)) := h.cell (by omega) (cellQ_prio t hs)
theorem ProgP.on_ {w : World} {b : Nat} {t : PS} (h : ProgP w b t) {c : Nat} (hc : c < 2) : w.cell? ⟨b, 35 + c, none⟩ = some (.int .u32 (bits32 fun s => t.on s c)) := h.cell (by omega) (cellQ_on t hc)
theorem ProgP.floor_ {w : World} {b : Nat} {t : PS} (h : ProgP w b t) {c : Nat} (hc : c < 2) : w.cell? ⟨b, 37 + c, none⟩ = some (.int .u8 (t.floor c)) := h.cell (by omega) (cellQ_floor t hc)
/-- One cell turned. -/
theorem ProgP.set {w : World} {b : Nat} {t t' : PS} (h : ProgP w b t) {k : Nat} (v : Value) (ok : t'.ok) (he : ∀ i, i < 39 → cellQ t' i = if i = k then v else cellQ t i) : ProgP (w.setCell ⟨b, k, none⟩ v) b t' := by
  refine ⟨?_, ok⟩
  rw [heap_setCell_same w b _ _ _ _ h.1, varr_set]
  rw [show (varr 39 fun i => if i = k then v else cellQ t i) = varr 39 (cellQ t') from varr_congr fun i hi => (he i hi).symm]
theorem cells_eq {t t' : PS} {k : Nat} {v : Value} (h0 : Value.int .u32 (bits32 t'.up) = if 0 = k then v else .int .u32 (bits32 t.up)) (h1 : Value.int .u32 (bits32 t'.pend) = if 1 = k then v else .int .u32 (bits32 t.pend))
    (h2 : Value.int .u32 (bits32 t'.busy) = if 2 = k then v else .int .u32 (bits32 t.busy)) (hp : ∀ s, s < 32 → Value.int .u8 (t'.prio s) = if 3 + s = k then v else .int .u8 (t.prio s))
    (ho : ∀ c, c < 2 → Value.int .u32 (bits32 fun s => t'.on s c) = if 35 + c = k then v else .int .u32 (bits32 fun s => t.on s c)) (hf : ∀ c, c < 2 → Value.int .u8 (t'.floor c) = if 37 + c = k then v else .int .u8 (t.floor c)) :
    ∀ i, i < 39 → cellQ t' i = if i = k then v else cellQ t i := by
  intro i hi
  have hc : i = 0 ∨ i = 1 ∨ i = 2 ∨ (∃ s, s < 32 ∧ i = 3 + s) ∨ (∃ c, c < 2 ∧ i = 35 + c) ∨ ∃ c, c < 2 ∧ i = 37 + c := by
    by_cases i0 : i < 3
    · omega
    · by_cases i1 : i < 35
      · exact .inr (.inr (.inr (.inl ⟨i - 3, by omega, by omega⟩)))
      · by_cases i2 : i < 37
        · exact .inr (.inr (.inr (.inr (.inl ⟨i - 35, by omega, by omega⟩))))
        · exact .inr (.inr (.inr (.inr (.inr ⟨i - 37, by omega, by omega⟩))))
  rcases hc with rfl | rfl | rfl | ⟨s, hs, rfl⟩ | ⟨c, hc, rfl⟩ | ⟨c, hc, rfl⟩
  · exact h0
  · exact h1
  · exact h2
  · rw [cellQ_prio t' hs, cellQ_prio t hs]; exact hp s hs
  · rw [cellQ_on t' hc, cellQ_on t hc]; exact ho c hc
  · rw [cellQ_floor t' hc, cellQ_floor t hc]; exact hf c hc
theorem ProgP.setUp {w : World} {b : Nat} {t : PS} (h : ProgP w b t) {s : Nat} (hs : 1 ≤ s) (u : Bool) : ProgP (w.setCell ⟨b, 0, none⟩ (.int .u32 (bits32 (upd t.up s u)))) b (upP t s u) :=
  h.set _ ⟨h.2.prio0, h.2.on0, h.2.pend0, (upd_other t.up u (show ¬ 0 = s by omega)).trans h.2.up0, h.2.pr, h.2.fl⟩ (cells_eq rfl rfl rfl (fun s _ => (if_neg (by omega)).symm) (fun c _ => (if_neg (by omega)).symm) (fun c _ => (if_neg (by omega)).symm))
theorem ProgP.setPend {w : World} {b : Nat} {t : PS} (h : ProgP w b t) (f : Nat → Bool) (h0 : f 0 = false) : ProgP (w.setCell ⟨b, 1, none⟩ (.int .u32 (bits32 f))) b { t with pend := f } :=
  h.set _ ⟨h.2.prio0, h.2.on0, h0, h.2.up0, h.2.pr, h.2.fl⟩ (cells_eq rfl rfl rfl (fun s _ => (if_neg (by omega)).symm) (fun c _ => (if_neg (by omega)).symm) (fun c _ => (if_neg (by omega)).symm))
theorem ProgP.setBusy {w : World} {b : Nat} {t : PS} (h : ProgP w b t) (f : Nat → Bool) : ProgP (w.setCell ⟨b, 2, none⟩ (.int .u32 (bits32 f))) b { t with busy := f } :=
  h.set _ ⟨h.2.prio0, h.2.on0, h.2.pend0, h.2.up0, h.2.pr, h.2.fl⟩ (cells_eq rfl rfl rfl (fun s _ => (if_neg (by omega)).symm) (fun c _ => (if_neg (by omega)).symm) (fun c _ => (if_neg (by omega)).symm))
theorem ok_prio {t : PS} (h : t.ok) {s : Nat} (hs : 1 ≤ s) {v : Int} (h0 : 0 ≤ v) (h8 : v < 8) : (prioT t s v).ok :=
  ⟨(upd_other t.prio v (show ¬ 0 = s by omega)).trans h.prio0, h.on0, h.pend0, h.up0, fun i => by
    show 0 ≤ upd t.prio s v i ∧ upd t.prio s v i < 8
    unfold upd; split
    · exact ⟨h0, h8⟩
    · exact h.pr i, h.fl⟩
theorem ok_floor {t : PS} (h : t.ok) (c : Nat) {v : Int} (h0 : 0 ≤ v) (h8 : v < 8) : (floorT t c v).ok :=
  ⟨h.prio0, h.on0, h.pend0, h.up0, h.pr, fun i => by
    rw [floorT_at]; split
    · exact ⟨h0, h8⟩
    · exact h.fl i⟩
theorem ok_on {t : PS} (h : t.ok) (c : Nat) {f : Nat → Bool} (h0 : f 0 = false) : (onT t c f).ok :=
  ⟨h.prio0, fun i => by show (if i = c then f 0 else t.on 0 i) = false; split; exact h0; exact h.on0 i, h.pend0, h.up0, h.pr, h.fl⟩
theorem ProgP.setPrio {w : World} {b : Nat} {t : PS} (h : ProgP w b t) {s : Nat} (hs : 1 ≤ s) (hs2 : s < 32) {v : Int} (h0 : 0 ≤ v) (h8 : v < 8) : ProgP (w.setCell ⟨b, 3 + s, none⟩ (.int .u8 v)) b (prioT t s v) :=
  h.set _ (ok_prio h.2 hs h0 h8) (cells_eq (if_neg (by omega)).symm (if_neg (by omega)).symm (if_neg (by omega)).symm (fun i _ => by
    show Value.int .u8 (upd t.prio s v i) = _
    unfold upd
    by_cases e : i = s
    · rw [if_pos e, if_pos (by omega)]
    · rw [if_neg e, if_neg (by omega)]) (fun c _ => (if_neg (by omega)).symm) (fun c _ => (if_neg (by omega)).symm))
theorem ProgP.setFloor {w : World} {b : Nat} {t : PS} (h : ProgP w b t) {c : Nat} (hc : c < 2) {v : Int} (h0 : 0 ≤ v) (h8 : v < 8) : ProgP (w.setCell ⟨b, 37 + c, none⟩ (.int .u8 v)) b (floorT t c v) :=
  h.set _ (ok_floor h.2 c h0 h8) (cells_eq (if_neg (by omega)).symm (if_neg (by omega)).symm (if_neg (by omega)).symm (fun i _ => (if_neg (by omega)).symm) (fun i _ => (if_neg (by omega)).symm) (fun i _ => by
    rw [floorT_at]
    by_cases e : i = c
    · rw [if_pos e, if_pos (by omega)]
    · rw [if_neg e, if_neg (by omega)]))
theorem ProgP.setOn {w : World} {b : Nat} {t : PS} (h : ProgP w b t) {c : Nat} (hc : c < 2) (f : Nat → Bool) (h0 : f 0 = false) : ProgP (w.setCell ⟨b, 35 + c, none⟩ (.int .u32 (bits32 f))) b (onT t c f) :=
  h.set _ (ok_on h.2 c h0) (cells_eq (if_neg (by omega)).symm (if_neg (by omega)).symm (if_neg (by omega)).symm (fun i _ => (if_neg (by omega)).symm) (fun i _ => by
    show Value.int .u32 (bits32 fun s => if i = c then f s else t.on s i) = _
    by_cases e : i = c
    · rw [if_pos (show 35 + i = 35 + c by omega)]; congr 1; exact bits32_congr fun s _ => if_pos e
    · rw [if_neg (by omega)]; congr 1; exact bits32_congr fun s _ => if_neg e) (fun i _ => (if_neg (by omega)).symm))

/-! ### small calls -/
theorem isSource_any (s : Int) (w : World) : Calls Tryd.prog 81 #[.int .i64 s] w fun e w' => e = .returned (.bool (isS s)) ∧ w = w' := by
  by_cases h1 : 1 ≤ s
  · by_cases h2 : s < 32
    · have HE : Hid (true = isS s) := Lib.hid (by unfold isS; rw [decide_eq_true ⟨h1, by omega⟩])
      go_enter Tryd.func81, Tryd.ntmps81
      go_wp2
      go_ret
      exact ⟨by rw [← HE.out]; rfl, rfl⟩
    · have HE : Hid (false = isS s) := Lib.hid (by unfold isS; symm; rw [decide_eq_false_iff_not]; omega)
      go_enter Tryd.func81, Tryd.ntmps81
      go_wp2
      go_ret
      exact ⟨by rw [← HE.out]; rfl, rfl⟩
  · have HE : Hid (false = isS s) := Lib.hid (by unfold isS; symm; rw [decide_eq_false_iff_not]; omega)
    go_enter Tryd.func81, Tryd.ntmps81
    go_wp2
    go_ret
    exact ⟨by rw [← HE.out]; rfl, rfl⟩
def isC (c : Int) : Bool := decide (c = 0 ∨ c = 1)
theorem isContext_any (c : Int) (w : World) : Calls Tryd.prog 52 #[.int .i64 c] w fun e w' => e = .returned (.bool (isC c)) ∧ w = w' := by
  by_cases h1 : 0 ≤ c
  · by_cases h2 : c < 2
    · have HE : Hid (true = isC c) := Lib.hid (by unfold isC; rw [decide_eq_true (by omega)])
      go_enter Tryd.func52, Tryd.ntmps52
      go_wp2
      go_ret
      exact ⟨by rw [← HE.out]; rfl, rfl⟩
    · have HE : Hid (false = isC c) := Lib.hid (by unfold isC; symm; rw [decide_eq_false_iff_not]; omega)
      go_enter Tryd.func52, Tryd.ntmps52
      go_wp2
      go_ret
      exact ⟨by rw [← HE.out]; rfl, rfl⟩
  · have HE : Hid (false = isC c) := Lib.hid (by unfold isC; symm; rw [decide_eq_false_iff_not]; omega)
    go_enter Tryd.func52, Tryd.ntmps52
    go_wp2
    go_ret
    exact ⟨by rw [← HE.out]; rfl, rfl⟩
theorem bitQ (f : Nat → Bool) (s : Nat) (hs : s < 32) (u : Bool) (hu : f s = u) (w : World) : Calls Tryd.prog 54 #[.int .u32 (bits32 f), .int .i64 s] w fun e w' => e = .returned (.bool u) ∧ w = w' := by
  subst hu
  have h := bit32_any (bits32 f) (s : Int) (bits32_bd f).1 (bits32_bd f).2 w
  rw [bit32_is f hs] at h
  exact h
theorem bitQ_out (f : Nat → Bool) (i : Int) (hi : ¬ (0 ≤ i ∧ i < 32)) (w : World) : Calls Tryd.prog 54 #[.int .u32 (bits32 f), .int .i64 i] w fun e w' => e = .returned (.bool false) ∧ w = w' := by
  have h := bit32_any (bits32 f) i (bits32_bd f).1 (bits32_bd f).2 w
  rw [bit32_out f hi] at h
  exact h
theorem one_shl {k : Nat} (hk : k < 32) : IntKind.u32.wrap (2 ^ k) = 2 ^ k := by
  have h1 := two_pow_le (show k ≤ 31 by omega)
  have h2 : (0 : Int) < 2 ^ k := Int.pow_pos (by decide)
  rw [IntKind.wrap_u32]; omega
def SetQ (w : World) (b : Nat) (t' : PS) (e : Ending) (w' : World) : Prop := (∃ u, e = .returned u) ∧ Only (fun i => i = b) w w' ∧ ProgP w' b t'

end Go.Proofs.YtohidopbggcejaaDoor.P5

namespace Go.Proofs.YtohidopbggcejaaDoor.P5
open Go.RowKit
set_option linter.unusedVariables false
set_option maxRecDepth 100000

theorem below_drewN {B : Nat} {a w : World} (h : Below B a w) (n : Nat) : Below B a (w.drewN n) := ⟨h.os, h.tape, h.output, h.size, h.block⟩
theorem upd0 {f : Nat → Bool} {s : Nat} (h0 : f 0 = false) (hs : 1 ≤ s) (u : Bool) : upd f s u 0 = false := (upd_other f u (show ¬ 0 = s by omega)).trans h0
set_option maxHeartbeats 1000000 in
theorem look_any (w : World) (b : Nat) (t : PS) (h : ProgP w b t) (s : Nat) (h1 : 1 ≤ s) (hs : s < 32) :
    Calls Tryd.prog 82 #[.pointer (some ⟨b, 0, none⟩), .int .i64 s] w (SetQ w b (lookP t s)) := by
  have c0 := h.up_
  have c1 := h.pend_
  have c2 := h.busy_
  have f1 := h.free 1
  have H := Lib.hid h
  have HN : Hid (ProgP (w.drew.setCell ⟨b, 1, none⟩ (.int .u32 (bits32 (upd t.pend s true)))) b { t with pend := upd t.pend s true }) := Lib.hid (ProgP.setPend (w := w.drew) ⟨h.1, h.2⟩ _ (upd0 h.2.pend0 h1 true))
  have HO : Hid (Only (fun i => i = b) w (w.drew.setCell ⟨b, 1, none⟩ (.int .u32 (bits32 (upd t.pend s true))))) := Lib.hid (Only.setCell ((Only.refl (fun i => i = b) w).drewN 1) (p := ⟨b, 1, none⟩) (.inl rfl) _)
  have H1 := Lib.hid (one_shl hs)
  have H2 := Lib.hid (set32 t.pend hs)
  clear h
  generalize hu : t.up s = u at *
  generalize hb : t.busy s = v at *
  have HU := Lib.hid hu
  have HB := Lib.hid hb
  have HL : Hid (lookP t s = if u && !v then { t with pend := upd t.pend s true } else t) := Lib.hid (by unfold lookP; rw [hu, hb])
  clear hu hb
  cases u with
  | false =>
    have HE : Hid (lookP t s = t) := Lib.hid (by rw [HL.out]; rfl)
    rw [HE.out]
    go_enter Tryd.func82, Tryd.ntmps82
    go_wp2_with fail
    (with_reducible refine (bitQ t.up s hs _ HU.out _).mono ?_)
    rintro e w' ⟨rfl, rfl⟩
    go_wp2
    go_end0
    exact ⟨⟨_, rfl⟩, Only.refl _ _, H.out⟩
  | true =>
  cases v with
  | true =>
    have HE : Hid (lookP t s = t) := Lib.hid (by rw [HL.out]; rfl)
    rw [HE.out]
    go_enter Tryd.func82, Tryd.ntmps82
    go_wp2_with fail
    (with_reducible refine (bitQ t.up s hs _ HU.out _).mono ?_)
    rintro e w' ⟨rfl, rfl⟩
    go_wp2_with fail
    (with_reducible refine (bitQ t.busy s hs _ HB.out _).mono ?_)
    rintro e w' ⟨rfl, rfl⟩
    go_wp2
    go_end0
    exact ⟨⟨_, rfl⟩, Only.refl _ _, H.out⟩
  | false =>
    have HE : Hid (lookP t s = { t with pend := upd t.pend s true }) := Lib.hid (by rw [HL.out]; rfl)
    rw [HE.out]
    go_enter Tryd.func82, Tryd.ntmps82
    go_wp2_with fail
    (with_reducible refine (bitQ t.up s hs _ HU.out _).mono ?_)
    rintro e w' ⟨rfl, rfl⟩
    go_wp2_with fail
    (with_reducible refine (bitQ t.busy s hs _ HB.out _).mono ?_)
    rintro e w' ⟨rfl, rfl⟩
    go_wp2_with fail
    go_still_tail 9, (by kernel_rfl)
    change wpList _ _ _ _ _ w.drew
    have d1 : w.drew.frozen? ⟨b, 1, none⟩ = false := f1
    have e1 := H1.out
    have e2 := H2.out
    go_wp2
    go_end0
    exact ⟨⟨_, rfl⟩, HO.out, HN.out⟩

/-- Its value. -/
def progPV (t : PS) : Value := .agg (varr 39 (cellQ t))
theorem progP_boxed (w : World) {t : PS} (ok : t.ok) : ProgP (w.alloc (.cells (varr 39 (cellQ t)) 59)) w.heap.size t := ⟨heap_alloc_new w _, ok⟩
theorem up_any (w : World) (t : PS) (ok : t.ok) (s : Int) : Calls Tryd.prog 38 #[progPV t, .int .i64 s] w fun e w' => e = .returned (.bool (upT t s)) ∧ Below w.heap.size w w' := by
  have HP := Lib.hid (progP_boxed w ok)
  have HB := Lib.hid ((Below.refl w.heap.size w).alloc (Nat.le_refl _) (.cells (varr 39 (cellQ t)) 59))
  show Calls Tryd.prog 38 #[.agg (varr 39 (cellQ t)), .int .i64 s] w _
  generalize varr 39 (cellQ t) = row at *
  by_cases hs : 0 ≤ s ∧ s < 32
  · obtain ⟨k, rfl⟩ : ∃ k : Nat, s = k := ⟨s.toNat, by omega⟩
    have hk : k < 32 := by omega
    have HE : Hid (upT t (k : Int) = t.up k) := Lib.hid (by
      unfold upT isS
      by_cases k0 : k = 0
      · subst k0; rw [ok.up0]; rfl
      · rw [decide_eq_true (by omega)]; simp)
    rw [HE.out]
    clear hs
    have c0 := HP.out.up_
    go_enter Tryd.func38, Tryd.ntmps38
    go_wp2_with fail
    (with_reducible refine (bitQ t.up k hk _ rfl _).mono ?_)
    rintro e w' ⟨rfl, rfl⟩
    go_wp2
    go_ret
    exact ⟨rfl, HB.out⟩
  · have HE : Hid (upT t s = false) := Lib.hid (by unfold upT isS; rw [decide_eq_false (by omega)]; rfl)
    rw [HE.out]
    have HS := Lib.hid hs
    clear hs
    have c0 := HP.out.up_
    go_enter Tryd.func38, Tryd.ntmps38
    go_wp2_with fail
    (with_reducible refine (bitQ_out t.up s HS.out _).mono ?_)
    rintro e w' ⟨rfl, rfl⟩
    go_wp2
    go_ret
    exact ⟨rfl, HB.out⟩

def ProgEnd (w : World) (b : Nat) (r : Value) (t' : PS) (e : Ending) (w' : World) : Prop := e = .returned r ∧ Only (fun i => i = b) w w' ∧ ProgP w' b t'
theorem level_none (w : World) (s : Int) (u : Bool) : Calls Tryd.prog 69 #[.pointer none, .int .i64 s, .bool u] w fun e w' => e = .returned (.bool false) ∧ w = w' := by
  go_enter Tryd.func69, Tryd.ntmps69
  go_wp2
  go_ret
  exact ⟨rfl, rfl⟩
set_option maxHeartbeats 1000000 in
theorem level_any (w : World) (b : Nat) (t : PS) (s : Int) (u : Bool) (h : ProgP w b t) :
    Calls Tryd.prog 69 #[.pointer (some ⟨b, 0, none⟩), .int .i64 s, .bool u] w (ProgEnd w b (.bool (isS s)) (levelP t s u)) := by
  cases hs : isS s with
  | false =>
    have HE : Hid (ProgEnd w b (.bool false) (levelP t s u) (.returned (.bool false)) w) := by
      refine Lib.hid ⟨rfl, Only.refl _ _, ?_⟩
      unfold levelP; rw [hs, if_neg (by simp)]; exact h
    have HS := Lib.hid hs
    clear h hs
    go_enter Tryd.func69, Tryd.ntmps69
    go_wp2_with fail
    (with_reducible refine (isSource_any _ _).mono ?_)
    rintro e w' ⟨rfl, rfl⟩
    rw [HS.out]
    go_wp2
    go_ret
    exact HE.out
  | true =>
    obtain ⟨k, rfl, hk1, hk2⟩ := isS_nat hs
    have HS := Lib.hid hs
    have HL : Hid (levelP t (k : Int) u = lookP (upP t k u) k) := by
      refine Lib.hid ?_
      unfold levelP; rw [hs, if_pos rfl]; rfl
    have c0 := h.up_
    have f0 := h.free 0
    have HN : Hid (ProgP (w.drew.setCell ⟨b, 0, none⟩ (.int .u32 (bits32 (upd t.up k u)))) b (upP t k u)) := Lib.hid (ProgP.setUp (w := w.drew) ⟨h.1, h.2⟩ hk1 u)
    have HO : Hid (Only (fun i => i = b) w (w.drew.setCell ⟨b, 0, none⟩ (.int .u32 (bits32 (upd t.up k u))))) := Lib.hid (Only.setCell ((Only.refl (fun i => i = b) w).drewN 1) (p := ⟨b, 0, none⟩) (.inl rfl) _)
    have H1 := Lib.hid (one_shl hk2)
    have H2 := Lib.hid (set32 t.up hk2)
    have H3 := Lib.hid (clr32 t.up hk2)
    clear h hs
    rw [HL.out]
    cases u <;>
    · go_enter Tryd.func69, Tryd.ntmps69
      go_wp2_with fail
      (with_reducible refine (isSource_any _ _).mono ?_)
      rintro e w' ⟨rfl, rfl⟩
      rw [HS.out]
      go_wp2_with fail
      go_still_tail 9, (by kernel_rfl)
      change wpList _ _ _ _ _ w.drew
      have d1 : w.drew.frozen? ⟨b, 0, none⟩ = false := f0
      have d0 : w.drew.cell? ⟨b, 0, none⟩ = some (.int .u32 (bits32 t.up)) := c0
      generalize w.drew = wd at *
      have e1 := H1.out
      have e2 := H2.out
      have e3 := H3.out
      go_wp2_with fail
      clear e1 e2 e3
      (with_reducible refine (look_any _ b _ HN.out k hk1 hk2).mono ?_)
      rintro e w' ⟨hu, ho, hp⟩
      obtain ⟨v, rfl⟩ := hu
      have HO2 := Lib.hid (HO.out.trans ho)
      have HP := Lib.hid hp
      clear ho hp
      go_wp2
      go_ret
      exact ⟨rfl, HO2.out, HP.out⟩

theorem setPriority_no (w : World) (b : Nat) (i v : Int) (hi : isS i = false) : Calls Tryd.prog 66 #[.pointer (some ⟨b, 0, none⟩), .int .i64 i, .int .u64 v] w fun e w' => (∃ u, e = .returned u) ∧ w = w' := by
  have HI := Lib.hid hi
  clear hi
  go_enter Tryd.func66, Tryd.ntmps66
  go_wp2_with fail
  (with_reducible refine (isSource_any _ _).mono ?_)
  rintro e w' ⟨rfl, rfl⟩
  rw [HI.out]
  go_wp2
  go_end0
  exact ⟨⟨_, rfl⟩, rfl⟩
theorem wrap_u8 {x : Int} (h0 : 0 ≤ x) (h1 : x < 8) : IntKind.u8.wrap x = x := by rw [IntKind.wrap_u8]; omega
set_option maxHeartbeats 1000000 in
theorem setPriority_yes (w : World) (b : Nat) (t : PS) (h : ProgP w b t) (k : Nat) (h1 : 1 ≤ k) (h2 : k < 32) (v : Int) (hv : In64 v) :
    Calls Tryd.prog 66 #[.pointer (some ⟨b, 0, none⟩), .int .i64 k, .int .u64 v] w (SetQ w b (prioT t k (v % 8))) := by
  have HI : Hid (isS (k : Int) = true) := Lib.hid (by unfold isS; rw [decide_eq_true (by omega)])
  have HV := Lib.hid hv
  have h8 := low3 hv
  have hr1 := Int.emod_nonneg v (show (8 : Int) ≠ 0 by decide)
  have hr2 := Int.emod_lt_of_pos v (show (0 : Int) < 8 by decide)
  have HN : Hid (∀ n, ProgP ((w.drewN n).setCell ⟨b, 3 + k, none⟩ (.int .u8 (v % 8))) b (prioT t k (v % 8))) := Lib.hid fun n => ProgP.setPrio (w := w.drewN n) ⟨h.1, h.2⟩ h1 h2 hr1 hr2
  have HO : Hid (∀ n, Only (fun i => i = b) w ((w.drewN n).setCell ⟨b, 3 + k, none⟩ (.int .u8 (v % 8)))) := Lib.hid fun n => Only.setCell ((Only.refl (fun i => i = b) w).drewN n) (p := ⟨b, 3 + k, none⟩) (.inl rfl) _
  have H8 := Lib.hid (wrap_u8 hr1 hr2)
  have ff := h.free (3 + k)
  have cc := h.prio_ h2
  have i1 : (k : Int) < 32 := by omega
  have HL := Lib.hid h8
  clear h hv h8 hr1 hr2
  go_enter Tryd.func66, Tryd.ntmps66
  go_wp2_with fail
  (with_reducible refine (isSource_any _ _).mono ?_)
  rintro e w' ⟨rfl, rfl⟩
  rw [HI.out]
  go_wp2_with fail
  go_region_with (go_at_call 67; refine (field_any _ _ _ HV.out _).mono ?_; rintro e w' ⟨rfl, q, rfl⟩; rw [HL.out]; have e8 := H8.out; have f8 : (w.drew.drewN q).frozen? ⟨b, 3 + k, none⟩ = false := ff; have g8 : (w.drew.drewN q).cell? ⟨b, 3 + k, none⟩ = some (.int .u8 (t.prio k)) := cc)
  go_end0
  exact ⟨⟨_, rfl⟩, HO.out _, HN.out _⟩

set_option maxHeartbeats 1000000 in
theorem complete_any (w : World) (b : Nat) (t : PS) (h : ProgP w b t) (c : Nat) (hc : c < 2) (x : Nat) :
    Calls Tryd.prog 68 #[.pointer (some ⟨b, 0, none⟩), .int .i64 c, .int .i64 x] w (SetQ w b (doneT t c x)) := by
  have con := h.on_ hc
  have cbu := h.busy_
  have fbu := h.free 2
  have H := Lib.hid h
  have i1 : (c : Int) < 2 := by omega
  have hand := both32 (fun s => t.on s c) t.busy
  by_cases hx : x < 32
  · obtain ⟨u, hu⟩ : ∃ u, (t.on x c && t.busy x) = u := ⟨_, rfl⟩
    have HU := Lib.hid hu
    cases u with
    | false =>
      have HE : Hid (doneT t c x = t) := Lib.hid (by
        unfold doneT mayB
        rw [if_neg]
        rw [Bool.and_assoc, hu]; simp)
      rw [HE.out]
      clear hu h
      go_enter Tryd.func68, Tryd.ntmps68
      go_wp2_with fail
      go_quiet ((go_at_call 54; exact Calls.quiet_of_same ((bitQ (fun s => t.on s c && t.busy s) x hx false HU.out _).mono fun e w' h => ⟨h.1, h.2.symm⟩)))
      go_wp2
      go_end0
      exact ⟨⟨_, rfl⟩, (Only.refl _ _).drewN _, H.out⟩
    | true =>
      have hx1 : 1 ≤ x := by
        rcases Nat.eq_zero_or_pos x with rfl | h0
        · rw [h.2.on0] at hu; cases hu
        · exact h0
      have HE : Hid (doneT t c x = lookP (idleP t x) x) := Lib.hid (by
        unfold doneT mayB
        rw [Bool.and_assoc, hu, if_pos]
        simp; omega)
      rw [HE.out]
      have H1 := Lib.hid (one_shl hx)
      have H2 := Lib.hid (clr32 t.busy hx)
      clear hu h
      go_enter Tryd.func68, Tryd.ntmps68
      go_wp2_with fail
      go_quiet ((go_at_call 54; exact Calls.quiet_of_same ((bitQ (fun s => t.on s c && t.busy s) x hx true HU.out _).mono fun e w' h => ⟨h.1, h.2.symm⟩)))
      have dbu : (w.drewN nq).cell? ⟨b, 2, none⟩ = some (.int .u32 (bits32 t.busy)) := cbu
      have dfu : (w.drewN nq).frozen? ⟨b, 2, none⟩ = false := fbu
      have HQ : Hid (ProgP (w.drewN nq) b t) := Lib.hid H.out
      have HW : Hid (Only (fun i => i = b) w (w.drewN nq)) := Lib.hid ((Only.refl _ _).drewN nq)
      generalize w.drewN nq = wq at *
      go_wp2_with fail
      go_still_tail 9, (by kernel_rfl)
      have HN : Hid (ProgP (wq.drew.setCell ⟨b, 2, none⟩ (.int .u32 (bits32 (upd t.busy x false)))) b (idleP t x)) := Lib.hid (ProgP.setBusy (w := wq.drew) HQ.out _)
      have HO : Hid (Only (fun i => i = b) w (wq.drew.setCell ⟨b, 2, none⟩ (.int .u32 (bits32 (upd t.busy x false))))) := Lib.hid (Only.setCell (HW.out.drewN 1) (p := ⟨b, 2, none⟩) (.inl rfl) _)
      change wpList _ _ _ _ _ wq.drew
      have d1 : wq.drew.frozen? ⟨b, 2, none⟩ = false := dfu
      have d0 : wq.drew.cell? ⟨b, 2, none⟩ = some (.int .u32 (bits32 t.busy)) := dbu
      generalize wq.drew = wd at *
      have e1 := H1.out
      have e2 := H2.out
      clear hand
      go_wp2_with fail
      clear e1 e2
      (with_reducible refine (look_any _ b _ HN.out x hx1 hx).mono ?_)
      rintro e w' ⟨hu, ho, hp⟩
      obtain ⟨v, rfl⟩ := hu
      have HO2 := Lib.hid (HO.out.trans ho)
      have HP := Lib.hid hp
      clear ho hp
      go_wp2
      go_end0
      exact ⟨⟨_, rfl⟩, HO2.out, HP.out⟩
  · have HE : Hid (doneT t c x = t) := Lib.hid (by
      unfold doneT mayB
      rw [decide_eq_false (show ¬ x ≤ 31 by omega), if_neg (by simp)])
    rw [HE.out]
    have HX : Hid (¬ (0 ≤ (x : Int) ∧ (x : Int) < 32)) := Lib.hid (by omega)
    clear h
    go_enter Tryd.func68, Tryd.ntmps68
    go_wp2_with fail
    go_quiet ((go_at_call 54; exact Calls.quiet_of_same ((bitQ_out (fun s => t.on s c && t.busy s) x HX.out _).mono fun e w' h => ⟨h.1, h.2.symm⟩)))
    go_wp2
    go_end0
    exact ⟨⟨_, rfl⟩, (Only.refl _ _).drewN _, H.out⟩

end Go.Proofs.YtohidopbggcejaaDoor.P5

namespace Go.Proofs.YtohidopbggcejaaDoor.P5
open Go.RowKit
set_option linter.unusedVariables false
set_option maxRecDepth 100000

theorem pair_0 (x y : Value) (w : World) : (Instr.index 56 (.agg #[x, y]) (.int .i64 0)).run Tryd.prog w = .ok x w := by kernel_rfl
theorem pair_1 (x y : Value) (w : World) : (Instr.index 56 (.agg #[x, y]) (.int .i64 1)).run Tryd.prog w = .ok y w := by kernel_rfl

set_option maxRecDepth 100000 in
set_option maxHeartbeats 4000000 in
theorem best_0 (w : World) (t : PS) (ok : t.ok) : Calls Tryd.prog 53 #[progPV t, .int .i64 0] w fun e w' => e = .returned (.int .i64 (bestUp t 0 31)) ∧ Below w.heap.size w w' := by
  have HP := Lib.hid (progP_boxed w ok)
  have HB := Lib.hid ((Below.refl w.heap.size w).alloc (Nat.le_refl _) (.cells (varr 39 (cellQ t)) 59))
  have HC : Hid (isC 0 = true) := Lib.hid (by decide)
  show Calls Tryd.prog 53 #[.agg (varr 39 (cellQ t)), .int .i64 0] w _
  generalize varr 39 (cellQ t) = row at *
  go_enter Tryd.func53, Tryd.ntmps53
  go_wp2
  go_step3
  go_wp2_with fail
  (with_reducible refine (isContext_any _ _).mono ?_)
  rintro e w' ⟨rfl, rfl⟩
  rw [HC.out]
  go_wp2
  go_step3
  go_wp2
  generalize w.alloc (.cells row 59) = w1 at *
  go_loopg [5, 6] 31 (fun g bb ii wr => ∃ j b : Nat, j + g = 31 ∧ ii = .int .i64 ((j : Int) + 1) ∧ bb = .int .i64 b ∧ b ≤ 31 ∧ Hid (b = bestUp t 0 j) ∧ ProgP wr w.heap.size t ∧ Below w.heap.size w wr)
  case atStart => exact ⟨0, 0, by omega, rfl, rfl, by omega, Lib.hid rfl, HP.out, HB.out⟩
  case round =>
    obtain ⟨j, b, hj, rfl, rfl, hb31, HBE, hR, hbr⟩ := hrel
    have HR := Lib.hid hR
    have HBR := Lib.hid hbr
    clear hbr
    cases gk with
    | zero =>
      obtain rfl : j = 31 := by omega
      have HE := Lib.hid HBE.out
      clear hR
      go_wp2
      try rw [Exit.noGoto_ret]
      go_ret
      exact ⟨by rw [HE.out]; rfl, HBR.out⟩
    | succ g =>
      have hj2 : j + 1 < 32 := by omega
      have i1 : (j : Int) + 1 < 32 := by omega
      have i0 : (0 : Int) ≤ (j : Int) + 1 := by omega
      have ib : (b : Int) < 32 := by omega
      have hwj : IntKind.i64.wrap ((j : Int) + 1 + 1) = (j : Int) + 1 + 1 := IntWalk.i64_in _ (by omega)
      have kp : wr.cell? ⟨w.heap.size, 1, none⟩ = some (.int .u32 (bits32 t.pend)) := hR.pend_
      have ko : wr.cell? ⟨w.heap.size, 35, none⟩ = some (.int .u32 (bits32 fun s => t.on s 0)) := hR.on_ (c := 0) (by omega)
      have HN := Lib.hid (bestUp_step t HBE.out)
      have END : Hid (∀ (b2 : Nat) (w2 : World), Below wr.heap.size wr w2 → bestUp t 0 (j + 1) = b2 → b2 ≤ 31 → ∃ i b : Nat, i + g = 31 ∧ Value.int .i64 ((j : Int) + 1 + 1) = .int .i64 ((i : Int) + 1) ∧ Value.int .i64 (b2 : Int) = .int .i64 b ∧ b ≤ 31 ∧ Hid (b = bestUp t 0 i) ∧ ProgP w2 w.heap.size t ∧ Below w.heap.size w w2) :=
        Lib.hid fun b2 w2 hb2 h1 h2 => ⟨j + 1, b2, by omega, by go_num, rfl, h2, Lib.hid h1.symm, HR.out.below hb2, HBR.out.trans (hb2.mono HBR.out.size)⟩
      obtain ⟨p, hp⟩ : ∃ p, t.pend (j + 1) = p := ⟨_, rfl⟩
      obtain ⟨q, hq⟩ : ∃ q, t.on (j + 1) 0 = q := ⟨_, rfl⟩
      have HN2 := HN.out
      rw [hp, hq] at HN2
      replace HN := Lib.hid HN2
      have HB0 : Hid (∀ w, Calls Tryd.prog 54 #[.int .u32 (bits32 t.pend), .int .i64 ((j : Int) + 1)] w fun e w' => e = .returned (.bool p) ∧ w = w') := Lib.hid fun w => by
        have h := bitQ t.pend (j + 1) hj2 p hp w
        rw [show ((j + 1 : Nat) : Int) = (j : Int) + 1 by omega] at h
        exact h
      have HB1 : Hid (∀ w, Calls Tryd.prog 54 #[.int .u32 (bits32 fun s => t.on s 0), .int .i64 ((j : Int) + 1)] w fun e w' => e = .returned (.bool q) ∧ w = w') := Lib.hid fun w => by
        have h := bitQ (fun s => t.on s 0) (j + 1) hj2 q hq w
        rw [show ((j + 1 : Nat) : Int) = (j : Int) + 1 by omega] at h
        exact h
      clear hp hq HN2 hR
      go_wp2_with fail
      go_quiet (fail)
      have HW : Hid (Below wr.heap.size wr (wr.drewN nq)) := Lib.hid (below_drewN (Below.refl _ _) nq)
      generalize wr.drewN nq = wq at *
      clear kp ko
      go_wp2
      go_loopg [23] 2 (fun g2 i wy => ∃ k : Nat, k + g2 = 2 ∧ i = .int .i64 k ∧ Hid ((1 ≤ k → p = true) ∧ (2 ≤ k → q = true)) ∧ wq = wy)
      case atStart => exact ⟨0, by omega, rfl, Lib.hid ⟨fun h => by omega, fun h => by omega⟩, rfl⟩
      case round =>
        obtain ⟨k, hk, rfl, HK, rfl⟩ := hrel
        have hkk : k = 0 ∨ k = 1 ∨ k = 2 := by omega
        rcases hkk with rfl | rfl | rfl
        · have P0 := pair_0
          obtain ⟨gk, rfl⟩ : ∃ x, gk = x + 1 := ⟨1, by omega⟩
          cases p with
          | false =>
            have HNE : Hid (bestUp t 0 (j + 1) = b) := Lib.hid (by rw [HN.out]; simp)
            clear HK
            go_wp2_with fail
            clear P0
            (with_reducible refine (HB0.out _).mono ?_)
            rintro e w' ⟨rfl, rfl⟩
            go_wp2
            go_roundg g
            case measure => omega
            case rel => exact END.out b _ HW.out HNE.out hb31
          | true =>
            clear HK
            go_wp2_with fail
            clear P0
            (with_reducible refine (HB0.out _).mono ?_)
            rintro e w' ⟨rfl, rfl⟩
            go_wp2
            go_roundg gk
            case measure => omega
            case rel => exact ⟨1, by omega, rfl, Lib.hid ⟨fun _ => by simp, fun h => by omega⟩, rfl⟩
        · have P1 := pair_1
          obtain ⟨gk, rfl⟩ : ∃ x, gk = x + 1 := ⟨0, by omega⟩
          obtain rfl : p = true := HK.out.1 (by omega)
          cases q with
          | false =>
            have HNE : Hid (bestUp t 0 (j + 1) = b) := Lib.hid (by rw [HN.out]; simp)
            clear HK
            go_wp2_with fail
            clear P1
            (with_reducible refine (HB1.out _).mono ?_)
            rintro e w' ⟨rfl, rfl⟩
            go_wp2
            go_roundg g
            case measure => omega
            case rel => exact END.out b _ HW.out HNE.out hb31
          | true =>
            clear HK
            go_wp2_with fail
            clear P1
            (with_reducible refine (HB1.out _).mono ?_)
            rintro e w' ⟨rfl, rfl⟩
            go_wp2
            go_roundg gk
            case measure => omega
            case rel => exact ⟨2, by omega, rfl, Lib.hid ⟨fun _ => by simp, fun _ => by simp⟩, rfl⟩
        · obtain rfl : p = true := HK.out.1 (by omega)
          obtain rfl : q = true := HK.out.2 (by omega)
          obtain rfl : gk = 0 := by omega
          have hR2 := HR.out.below HW.out
          have k1 : wq.cell? ⟨w.heap.size, 3 + (j + 1), none⟩ = some (.int .u8 (t.prio (j + 1))) := hR2.prio_ (by omega)
          have kb : wq.cell? ⟨w.heap.size, 3 + b, none⟩ = some (.int .u8 (t.prio b)) := hR2.prio_ (by omega)
          have HW2 : Hid (∀ n, Below wr.heap.size wr (wq.drewN n)) := Lib.hid fun n => below_drewN HW.out n
          obtain ⟨x, hx⟩ : ∃ x, t.prio (j + 1) = x := ⟨_, rfl⟩
          obtain ⟨y, hy⟩ : ∃ y, t.prio b = y := ⟨_, rfl⟩
          have HN2 := HN.out
          rw [hx, hy] at HN2
          replace HN := Lib.hid HN2
          rw [hx] at k1
          rw [hy] at kb
          clear hx hy HN2 HK hR2
          by_cases hyx : y < x
          · have HNE : Hid (bestUp t 0 (j + 1) = j + 1) := Lib.hid (by rw [HN.out, decide_eq_true hyx]; simp)
            go_wp2_with fail
            go_quiet (fail)
            go_wp2
            go_roundg g
            case measure => omega
            case rel => exact END.out (j + 1) _ (HW2.out _) HNE.out (by omega)
          · have hyd : decide (y < x) = false := decide_eq_false hyx
            have HNE : Hid (bestUp t 0 (j + 1) = b) := Lib.hid (by rw [HN.out, hyd]; simp)
            clear hyx
            go_wp2_with fail
            go_quiet (fail)
            go_wp2
            go_roundg g
            case measure => omega
            case rel => exact END.out b _ (HW2.out _) HNE.out hb31

set_option maxRecDepth 100000 in
set_option maxHeartbeats 4000000 in
theorem best_1 (w : World) (t : PS) (ok : t.ok) : Calls Tryd.prog 53 #[progPV t, .int .i64 1] w fun e w' => e = .returned (.int .i64 (bestUp t 1 31)) ∧ Below w.heap.size w w' := by
  have HP := Lib.hid (progP_boxed w ok)
  have HB := Lib.hid ((Below.refl w.heap.size w).alloc (Nat.le_refl _) (.cells (varr 39 (cellQ t)) 59))
  have HC : Hid (isC 1 = true) := Lib.hid (by decide)
  show Calls Tryd.prog 53 #[.agg (varr 39 (cellQ t)), .int .i64 1] w _
  generalize varr 39 (cellQ t) = row at *
  go_enter Tryd.func53, Tryd.ntmps53
  go_wp2
  go_step3
  go_wp2_with fail
  (with_reducible refine (isContext_any _ _).mono ?_)
  rintro e w' ⟨rfl, rfl⟩
  rw [HC.out]
  go_wp2
  go_step3
  go_wp2
  generalize w.alloc (.cells row 59) = w1 at *
  go_loopg [5, 6] 31 (fun g bb ii wr => ∃ j b : Nat, j + g = 31 ∧ ii = .int .i64 ((j : Int) + 1) ∧ bb = .int .i64 b ∧ b ≤ 31 ∧ Hid (b = bestUp t 1 j) ∧ ProgP wr w.heap.size t ∧ Below w.heap.size w wr)
  case atStart => exact ⟨0, 0, by omega, rfl, rfl, by omega, Lib.hid rfl, HP.out, HB.out⟩
  case round =>
    obtain ⟨j, b, hj, rfl, rfl, hb31, HBE, hR, hbr⟩ := hrel
    have HR := Lib.hid hR
    have HBR := Lib.hid hbr
    clear hbr
    cases gk with
    | zero =>
      obtain rfl : j = 31 := by omega
      have HE := Lib.hid HBE.out
      clear hR
      go_wp2
      try rw [Exit.noGoto_ret]
      go_ret
      exact ⟨by rw [HE.out]; rfl, HBR.out⟩
    | succ g =>
      have hj2 : j + 1 < 32 := by omega
      have i1 : (j : Int) + 1 < 32 := by omega
      have i0 : (0 : Int) ≤ (j : Int) + 1 := by omega
      have ib : (b : Int) < 32 := by omega
      have hwj : IntKind.i64.wrap ((j : Int) + 1 + 1) = (j : Int) + 1 + 1 := IntWalk.i64_in _ (by omega)
      have kp : wr.cell? ⟨w.heap.size, 1, none⟩ = some (.int .u32 (bits32 t.pend)) := hR.pend_
      have ko : wr.cell? ⟨w.heap.size, 35 + 1, none⟩ = some (.int .u32 (bits32 fun s => t.on s 1)) := hR.on_ (c := 1) (by omega)
      have HN := Lib.hid (bestUp_step t HBE.out)
      have END : Hid (∀ (b2 : Nat) (w2 : World), Below wr.heap.size wr w2 → bestUp t 1 (j + 1) = b2 → b2 ≤ 31 → ∃ i b : Nat, i + g = 31 ∧ Value.int .i64 ((j : Int) + 1 + 1) = .int .i64 ((i : Int) + 1) ∧ Value.int .i64 (b2 : Int) = .int .i64 b ∧ b ≤ 31 ∧ Hid (b = bestUp t 1 i) ∧ ProgP w2 w.heap.size t ∧ Below w.heap.size w w2) :=
        Lib.hid fun b2 w2 hb2 h1 h2 => ⟨j + 1, b2, by omega, by go_num, rfl, h2, Lib.hid h1.symm, HR.out.below hb2, HBR.out.trans (hb2.mono HBR.out.size)⟩
      obtain ⟨p, hp⟩ : ∃ p, t.pend (j + 1) = p := ⟨_, rfl⟩
      obtain ⟨q, hq⟩ : ∃ q, t.on (j + 1) 1 = q := ⟨_, rfl⟩
      have HN2 := HN.out
      rw [hp, hq] at HN2
      replace HN := Lib.hid HN2
      have HB0 : Hid (∀ w, Calls Tryd.prog 54 #[.int .u32 (bits32 t.pend), .int .i64 ((j : Int) + 1)] w fun e w' => e = .returned (.bool p) ∧ w = w') := Lib.hid fun w => by
        have h := bitQ t.pend (j + 1) hj2 p hp w
        rw [show ((j + 1 : Nat) : Int) = (j : Int) + 1 by omega] at h
        exact h
      have HB1 : Hid (∀ w, Calls Tryd.prog 54 #[.int .u32 (bits32 fun s => t.on s 1), .int .i64 ((j : Int) + 1)] w fun e w' => e = .returned (.bool q) ∧ w = w') := Lib.hid fun w => by
        have h := bitQ (fun s => t.on s 1) (j + 1) hj2 q hq w
        rw [show ((j + 1 : Nat) : Int) = (j : Int) + 1 by omega] at h
        exact h
      clear hp hq HN2 hR
      go_wp2_with fail
      go_quiet (fail)
      have HW : Hid (Below wr.heap.size wr (wr.drewN nq)) := Lib.hid (below_drewN (Below.refl _ _) nq)
      generalize wr.drewN nq = wq at *
      clear kp ko
      go_wp2
      go_loopg [23] 2 (fun g2 i wy => ∃ k : Nat, k + g2 = 2 ∧ i = .int .i64 k ∧ Hid ((1 ≤ k → p = true) ∧ (2 ≤ k → q = true)) ∧ wq = wy)
      case atStart => exact ⟨0, by omega, rfl, Lib.hid ⟨fun h => by omega, fun h => by omega⟩, rfl⟩
      case round =>
        obtain ⟨k, hk, rfl, HK, rfl⟩ := hrel
        have hkk : k = 0 ∨ k = 1 ∨ k = 2 := by omega
        rcases hkk with rfl | rfl | rfl
        · have P0 := pair_0
          obtain ⟨gk, rfl⟩ : ∃ x, gk = x + 1 := ⟨1, by omega⟩
          cases p with
          | false =>
            have HNE : Hid (bestUp t 1 (j + 1) = b) := Lib.hid (by rw [HN.out]; simp)
            clear HK
            go_wp2_with fail
            clear P0
            (with_reducible refine (HB0.out _).mono ?_)
            rintro e w' ⟨rfl, rfl⟩
            go_wp2
            go_roundg g
            case measure => omega
            case rel => exact END.out b _ HW.out HNE.out hb31
          | true =>
            clear HK
            go_wp2_with fail
            clear P0
            (with_reducible refine (HB0.out _).mono ?_)
            rintro e w' ⟨rfl, rfl⟩
            go_wp2
            go_roundg gk
            case measure => omega
            case rel => exact ⟨1, by omega, rfl, Lib.hid ⟨fun _ => by simp, fun h => by omega⟩, rfl⟩
        · have P1 := pair_1
          obtain ⟨gk, rfl⟩ : ∃ x, gk = x + 1 := ⟨0, by omega⟩
          obtain rfl : p = true := HK.out.1 (by omega)
          cases q with
          | false =>
            have HNE : Hid (bestUp t 1 (j + 1) = b) := Lib.hid (by rw [HN.out]; simp)
            clear HK
            go_wp2_with fail
            clear P1
            (with_reducible refine (HB1.out _).mono ?_)
            rintro e w' ⟨rfl, rfl⟩
            go_wp2
            go_roundg g
            case measure => omega
            case rel => exact END.out b _ HW.out HNE.out hb31
          | true =>
            clear HK
            go_wp2_with fail
            clear P1
            (with_reducible refine (HB1.out _).mono ?_)
            rintro e w' ⟨rfl, rfl⟩
            go_wp2
            go_roundg gk
            case measure => omega
            case rel => exact ⟨2, by omega, rfl, Lib.hid ⟨fun _ => by simp, fun _ => by simp⟩, rfl⟩
        · obtain rfl : p = true := HK.out.1 (by omega)
          obtain rfl : q = true := HK.out.2 (by omega)
          obtain rfl : gk = 0 := by omega
          have hR2 := HR.out.below HW.out
          have k1 : wq.cell? ⟨w.heap.size, 3 + (j + 1), none⟩ = some (.int .u8 (t.prio (j + 1))) := hR2.prio_ (by omega)
          have kb : wq.cell? ⟨w.heap.size, 3 + b, none⟩ = some (.int .u8 (t.prio b)) := hR2.prio_ (by omega)
          have HW2 : Hid (∀ n, Below wr.heap.size wr (wq.drewN n)) := Lib.hid fun n => below_drewN HW.out n
          obtain ⟨x, hx⟩ : ∃ x, t.prio (j + 1) = x := ⟨_, rfl⟩
          obtain ⟨y, hy⟩ : ∃ y, t.prio b = y := ⟨_, rfl⟩
          have HN2 := HN.out
          rw [hx, hy] at HN2
          replace HN := Lib.hid HN2
          rw [hx] at k1
          rw [hy] at kb
          clear hx hy HN2 HK hR2
          by_cases hyx : y < x
          · have HNE : Hid (bestUp t 1 (j + 1) = j + 1) := Lib.hid (by rw [HN.out, decide_eq_true hyx]; simp)
            go_wp2_with fail
            go_quiet (fail)
            go_wp2
            go_roundg g
            case measure => omega
            case rel => exact END.out (j + 1) _ (HW2.out _) HNE.out (by omega)
          · have hyd : decide (y < x) = false := decide_eq_false hyx
            have HNE : Hid (bestUp t 1 (j + 1) = b) := Lib.hid (by rw [HN.out, hyd]; simp)
            clear hyx
            go_wp2_with fail
            go_quiet (fail)
            go_wp2
            go_roundg g
            case measure => omega
            case rel => exact END.out b _ (HW2.out _) HNE.out hb31

end Go.Proofs.YtohidopbggcejaaDoor.P5

namespace Go.Proofs.YtohidopbggcejaaDoor.P5
open Go.RowKit
set_option linter.unusedVariables false
set_option maxRecDepth 100000

theorem isC_no {c : Int} (h0 : ¬ c = 0) (h1 : ¬ c = 1) : isC c = false := by unfold isC; rw [decide_eq_false_iff_not]; omega
theorem best_none (w : World) (t : PS) (c : Int) (hc : isC c = false) : Calls Tryd.prog 53 #[progPV t, .int .i64 c] w fun e w' => e = .returned (.int .i64 0) ∧ Below w.heap.size w w' := by
  have HC := Lib.hid hc
  clear hc
  show Calls Tryd.prog 53 #[.agg (varr 39 (cellQ t)), .int .i64 c] w _
  generalize varr 39 (cellQ t) = row at *
  go_enter Tryd.func53, Tryd.ntmps53
  go_wp2
  go_step3
  go_wp2_with fail
  (with_reducible refine (isContext_any _ _).mono ?_)
  rintro e w' ⟨rfl, rfl⟩
  rw [HC.out]
  go_wp2
  try rw [Exit.noGoto_ret]
  go_ret
  exact ⟨rfl, (Below.refl _ _).alloc (Nat.le_refl _) _⟩
theorem best_any (w : World) (t : PS) (ok : t.ok) (c : Int) : Calls Tryd.prog 53 #[progPV t, .int .i64 c] w fun e w' => e = .returned (.int .i64 (bestC t c)) ∧ Below w.heap.size w w' := by
  by_cases h0 : c = 0
  · subst h0
    have h := best_0 w t ok
    rw [bestUp_is t 0 ok.prio0] at h; exact h
  by_cases h1 : c = 1
  · subst h1
    have h := best_1 w t ok
    rw [bestUp_is t 1 ok.prio0] at h; exact h
  have e : bestC t c = 0 := by unfold bestC; rw [if_neg (by omega)]
  rw [e]; exact best_none w t c (isC_no h0 h1)
theorem size_progP : (Tryd.prog.info? 59).map (·.size) = some 39 := by kernel_rfl
/-- Whether a context's line is up. -/
def lineT (t : PS) (c : Int) : Bool := isC c && lineC t c
theorem line_no (w : World) (t : PS) (c : Int) (hc : isC c = false) : Calls Tryd.prog 36 #[progPV t, .int .i64 c] w fun e w' => e = .returned (.bool (lineT t c)) ∧ Below w.heap.size w w' := by
  have HC := Lib.hid hc
  have HE : Hid (lineT t c = false) := Lib.hid (by unfold lineT; rw [hc]; rfl)
  clear hc
  rw [HE.out]
  show Calls Tryd.prog 36 #[.agg (varr 39 (cellQ t)), .int .i64 c] w _
  generalize varr 39 (cellQ t) = row at *
  go_enter Tryd.func36, Tryd.ntmps36
  go_wp2_with fail
  have HB := Lib.hid ((Below.refl w.heap.size w).alloc (Nat.le_refl _) (.cells row 59))
  generalize w.alloc (.cells row 59) = w1 at *
  go_quiet ((go_at_call 52; exact Calls.quiet_of_same ((isContext_any _ _).mono fun e w' h => ⟨h.1.trans (by rw [HC.out]), h.2.symm⟩)))
  go_wp2
  go_ret
  exact ⟨rfl, below_drewN HB.out _⟩
theorem run_progRow {w : World} {b : Nat} {row : Array Value} (h : w.heap[b]? = some (.cells row 59 (0, 0))) (hs : row.size = 39) : (loadVar 59 ⟨b, 0, none⟩).run Tryd.prog w = .ok (.agg row) w :=
  run_loadVar_row w b 59 59 row (0, 0) _ h Tryd.underlying59 rfl (size_progP.trans (by rw [hs]))
theorem bestC_0 (t : PS) (c : Nat) (hc : c < 2) (h0 : t.prio 0 = 0) : lineC t c = decide (t.floor c < t.prio (bestC t c)) ∨ ¬ (0 ≤ t.floor c) := by
  by_cases hf : 0 ≤ t.floor c
  · left
    unfold lineC
    by_cases hb : bestC t c = 0
    · rw [hb, h0, decide_eq_false (by omega), Bool.false_and, decide_eq_false (by omega)]
    · rw [decide_eq_true (by omega), Bool.true_and]; rfl
  · exact .inr hf
set_option maxHeartbeats 2000000 in
theorem line_0 (w : World) (t : PS) (ok : t.ok) : Calls Tryd.prog 36 #[progPV t, .int .i64 0] w fun e w' => e = .returned (.bool (lineT t 0)) ∧ Below w.heap.size w w' := by
  have HC : Hid (isC 0 = true) := Lib.hid (by decide)
  have HE : Hid (lineT t 0 = decide (t.floor 0 < t.prio (bestC t 0))) := Lib.hid (by
    unfold lineT; rw [HC.out, Bool.true_and]; rcases bestC_0 t 0 (by omega) ok.prio0 with h | h; exact h; exact absurd (ok.fl 0).1 h)
  rw [HE.out]
  have hle := bestC_le t 0
  have hbest := fun w' => best_any w' t ok 0
  have HP := Lib.hid (progP_boxed w ok)
  have HB := Lib.hid ((Below.refl w.heap.size w).alloc (Nat.le_refl _) (.cells (varr 39 (cellQ t)) 59))
  have hrow : (w.alloc (.cells (varr 39 (cellQ t)) 59)).heap[w.heap.size]? = some (.cells (varr 39 (cellQ t)) 59 (0, 0)) := heap_alloc_new w _
  have hsz : (varr 39 (cellQ t)).size = 39 := varr_size _ _
  unfold progPV at hbest
  show Calls Tryd.prog 36 #[.agg (varr 39 (cellQ t)), .int .i64 0] w _
  have HROW := Lib.hid hrow
  have HSZ := Lib.hid hsz
  clear hrow hsz
  generalize varr 39 (cellQ t) = row at *
  generalize bestC t 0 = k at *
  have HBEST := Lib.hid hbest
  have ik : (k : Int) < 32 := by omega
  clear hbest
  go_enter Tryd.func36, Tryd.ntmps36
  go_wp2_with fail
  have hw1 : w.heap.size < (w.alloc (.cells row 59)).heap.size := by rw [World.size_alloc]; omega
  generalize w.alloc (.cells row 59) = w1 at *
  have HF : Hid (∀ wx, Below w1.heap.size w1 wx → wx.cell? ⟨w.heap.size, 37, none⟩ = some (.int .u8 (t.floor 0))) := Lib.hid fun wx hx => (HP.out.below hx).floor_ (c := 0) (by omega)
  have HK : Hid (∀ wx, Below w1.heap.size w1 wx → wx.cell? ⟨w.heap.size, 3 + k, none⟩ = some (.int .u8 (t.prio k))) := Lib.hid fun wx hx => (HP.out.below hx).prio_ (by omega)
  refine wp_region_held_drew (S := fun wx => Below w1.heap.size w1 wx) (by kernel_rfl) (Below.refl _ _).drew (fun hHeld0 => ?_)
  have HS := Lib.hid hHeld0
  clear hHeld0
  refine takeD (i := 0) (some 5) (v := ?_) rfl rfl (by kernel_rfl) (by kernel_rfl) (by kernel_rfl) (fun _ _ _ h => h) (by rfl) HS.out ?_ ?_
  rotate_left
  · intro wx hSx
    clear hSx
    go_simp
    try (with_reducible rfl)
  simp only [Act.put, List.setIfInBounds_toArray, List.set_cons_zero, List.set_cons_succ]
  refine wpAnyH_ready (rs := [1]) (by kernel_rfl) (by simp) ?_
  refine AllReadyH.cons rfl (fun K hK => ?_) AllReadyH.nil
  go_simp
  (with_reducible refine (isContext_any _ _).mono ?_)
  rintro e w' ⟨rfl, rfl⟩
  rw [HC.out]
  go_simp
  refine hK.out _ _ ?_ (fun hHeld => ?_)
  · exact HS.out
  clear hHeld hK K
  try simp only [Act.put, List.setIfInBounds_toArray, List.set_cons_zero, List.set_cons_succ]
  refine takeD (i := 2) (some 7) (v := ?_) rfl rfl (by kernel_rfl) (by kernel_rfl) (by kernel_rfl) (fun _ _ _ h => h) (by rfl) HS.out ?_ ?_
  rotate_left
  · intro wx hSx
    clear hSx
    go_simp
    try (with_reducible rfl)
  simp only [Act.put, List.setIfInBounds_toArray, List.set_cons_zero, List.set_cons_succ]
  refine takeD (i := 3) (some 8) (v := ?_) rfl rfl (by kernel_rfl) (by kernel_rfl) (by kernel_rfl) (fun _ _ _ h => h) (by rfl) HS.out ?_ ?_
  rotate_left
  · intro wx hSx
    exact (by refine yield_row _ (.tmp 2) ?_ w.heap.size ?_ (run_progRow ((hSx.block _ hw1).trans HROW.out) HSZ.out) <;> rfl)
  simp only [Act.put, List.setIfInBounds_toArray, List.set_cons_zero, List.set_cons_succ]
  refine takeD (i := 4) (some 9) (v := ?_) rfl rfl (by kernel_rfl) (by kernel_rfl) (by kernel_rfl) (fun _ _ _ h => h) (by rfl) HS.out ?_ ?_
  rotate_left
  · intro wx hSx
    clear hSx
    go_simp
    try (with_reducible rfl)
  simp only [Act.put, List.setIfInBounds_toArray, List.set_cons_zero, List.set_cons_succ]
  refine takeD (i := 6) (some 11) (v := ?_) rfl rfl (by kernel_rfl) (by kernel_rfl) (by kernel_rfl) (fun _ _ _ h => h) (by rfl) HS.out ?_ ?_
  rotate_left
  · intro wx hSx
    clear hSx
    go_simp
    try (with_reducible rfl)
  simp only [Act.put, List.setIfInBounds_toArray, List.set_cons_zero, List.set_cons_succ]
  refine takeD (i := 9) (some 14) (v := ?_) rfl rfl (by kernel_rfl) (by kernel_rfl) (by kernel_rfl) (fun _ _ _ h => h) (by rfl) HS.out ?_ ?_
  rotate_left
  · intro wx hSx
    clear hSx
    go_simp
    try (with_reducible rfl)
  simp only [Act.put, List.setIfInBounds_toArray, List.set_cons_zero, List.set_cons_succ]
  refine takeD (i := 10) (some 15) (v := ?_) rfl rfl (by kernel_rfl) (by kernel_rfl) (by kernel_rfl) (fun _ _ _ h => h) (by rfl) HS.out ?_ ?_
  rotate_left
  · intro wx hSx
    clear hSx
    go_simp
    try (with_reducible rfl)
  simp only [Act.put, List.setIfInBounds_toArray, List.set_cons_zero, List.set_cons_succ]
  refine takeD (i := 11) (some 16) (v := ?_) rfl rfl (by kernel_rfl) (by kernel_rfl) (by kernel_rfl) (fun _ _ _ h => h) (by rfl) HS.out ?_ ?_
  rotate_left
  · intro wx hSx
    clear hSx
    go_simp
    try (with_reducible rfl)
  simp only [Act.put, List.setIfInBounds_toArray, List.set_cons_zero, List.set_cons_succ]
  refine takeD (i := 12) (some 17) (v := ?_) rfl rfl (by kernel_rfl) (by kernel_rfl) (by kernel_rfl) (fun _ _ _ h => h) (by rfl) HS.out ?_ ?_
  rotate_left
  · intro wx hSx
    have g1 := HF.out wx hSx
    clear hSx
    go_simp
    try (with_reducible rfl)
  simp only [Act.put, List.setIfInBounds_toArray, List.set_cons_zero, List.set_cons_succ]
  refine wpAnyH_ready (rs := [5]) (by kernel_rfl) (by simp) ?_
  refine AllReadyH.cons rfl (fun K hK => ?_) AllReadyH.nil
  go_simp
  (with_reducible refine (HBEST.out _).mono ?_)
  rintro e w4 ⟨rfl, hb⟩
  have HS4 : Hid (Below w1.heap.size w1 w4) := Lib.hid (HS.out.trans (hb.mono HS.out.size))
  clear hb
  go_simp
  refine hK.out _ _ ?_ (fun hHeld => ?_)
  · exact HS4.out
  clear hHeld hK K
  try simp only [Act.put, List.setIfInBounds_toArray, List.set_cons_zero, List.set_cons_succ]
  replace HS := HS4
  refine takeD (i := 7) (some 12) (v := ?_) rfl rfl (by kernel_rfl) (by kernel_rfl) (by kernel_rfl) (fun _ _ _ h => h) (by rfl) HS.out ?_ ?_
  rotate_left
  · intro wx hSx
    clear hSx
    go_simp
    try (with_reducible rfl)
  simp only [Act.put, List.setIfInBounds_toArray, List.set_cons_zero, List.set_cons_succ]
  refine takeD (i := 8) (some 13) (v := ?_) rfl rfl (by kernel_rfl) (by kernel_rfl) (by kernel_rfl) (fun _ _ _ h => h) (by rfl) HS.out ?_ ?_
  rotate_left
  · intro wx hSx
    have g1 := HK.out wx hSx
    clear hSx
    go_simp
    try (with_reducible rfl)
  simp only [Act.put, List.setIfInBounds_toArray, List.set_cons_zero, List.set_cons_succ]
  refine takeD (i := 13) (some 18) (v := ?_) rfl rfl (by kernel_rfl) (by kernel_rfl) (by kernel_rfl) (fun _ _ _ h => h) (by rfl) HS.out ?_ ?_
  rotate_left
  · intro wx hSx
    clear hSx
    go_simp
    try (with_reducible rfl)
  simp only [Act.put, List.setIfInBounds_toArray, List.set_cons_zero, List.set_cons_succ]
  refine takeD (i := 14) (some 19) (v := ?_) rfl rfl (by kernel_rfl) (by kernel_rfl) (by kernel_rfl) (fun _ _ _ h => h) (by rfl) HS.out ?_ ?_
  rotate_left
  · intro wx hSx
    clear hSx
    go_simp
    try (with_reducible rfl)
  simp only [Act.put, List.setIfInBounds_toArray, List.set_cons_zero, List.set_cons_succ]
  refine takeD (i := 15) (some 4) (v := ?_) rfl rfl (by kernel_rfl) (by kernel_rfl) (by kernel_rfl) (fun _ _ _ h => h) (by rfl) HS.out ?_ ?_
  rotate_left
  · intro wx hSx
    clear hSx
    go_simp
    try (with_reducible rfl)
  simp only [Act.put, List.setIfInBounds_toArray, List.set_cons_zero, List.set_cons_succ]
  refine wpAnyH_done (by kernel_rfl) ?_ _
  go_wp2
  go_ret
  exact ⟨rfl, HB.out.trans (HS.out.mono HB.out.size)⟩

set_option maxHeartbeats 2000000 in
theorem line_1 (w : World) (t : PS) (ok : t.ok) : Calls Tryd.prog 36 #[progPV t, .int .i64 1] w fun e w' => e = .returned (.bool (lineT t 1)) ∧ Below w.heap.size w w' := by
  have HC : Hid (isC 1 = true) := Lib.hid (by decide)
  have HE : Hid (lineT t 1 = decide (t.floor 1 < t.prio (bestC t 1))) := Lib.hid (by
    unfold lineT; rw [HC.out, Bool.true_and]; rcases bestC_0 t 1 (by omega) ok.prio0 with h | h; exact h; exact absurd (ok.fl 1).1 h)
  rw [HE.out]
  have hle := bestC_le t 1
  have hbest := fun w' => best_any w' t ok 1
  have HP := Lib.hid (progP_boxed w ok)
  have HB := Lib.hid ((Below.refl w.heap.size w).alloc (Nat.le_refl _) (.cells (varr 39 (cellQ t)) 59))
  have hrow : (w.alloc (.cells (varr 39 (cellQ t)) 59)).heap[w.heap.size]? = some (.cells (varr 39 (cellQ t)) 59 (0, 0)) := heap_alloc_new w _
  have hsz : (varr 39 (cellQ t)).size = 39 := varr_size _ _
  unfold progPV at hbest
  show Calls Tryd.prog 36 #[.agg (varr 39 (cellQ t)), .int .i64 1] w _
  have HROW := Lib.hid hrow
  have HSZ := Lib.hid hsz
  clear hrow hsz
  generalize varr 39 (cellQ t) = row at *
  generalize bestC t 1 = k at *
  have HBEST := Lib.hid hbest
  have ik : (k : Int) < 32 := by omega
  clear hbest
  go_enter Tryd.func36, Tryd.ntmps36
  go_wp2_with fail
  have hw1 : w.heap.size < (w.alloc (.cells row 59)).heap.size := by rw [World.size_alloc]; omega
  generalize w.alloc (.cells row 59) = w1 at *
  have HF : Hid (∀ wx, Below w1.heap.size w1 wx → wx.cell? ⟨w.heap.size, 37 + 1, none⟩ = some (.int .u8 (t.floor 1))) := Lib.hid fun wx hx => (HP.out.below hx).floor_ (c := 1) (by omega)
  have HK : Hid (∀ wx, Below w1.heap.size w1 wx → wx.cell? ⟨w.heap.size, 3 + k, none⟩ = some (.int .u8 (t.prio k))) := Lib.hid fun wx hx => (HP.out.below hx).prio_ (by omega)
  refine wp_region_held_drew (S := fun wx => Below w1.heap.size w1 wx) (by kernel_rfl) (Below.refl _ _).drew (fun hHeld0 => ?_)
  have HS := Lib.hid hHeld0
  clear hHeld0
  refine takeD (i := 0) (some 5) (v := ?_) rfl rfl (by kernel_rfl) (by kernel_rfl) (by kernel_rfl) (fun _ _ _ h => h) (by rfl) HS.out ?_ ?_
  rotate_left
  · intro wx hSx
    clear hSx
    go_simp
    try (with_reducible rfl)
  simp only [Act.put, List.setIfInBounds_toArray, List.set_cons_zero, List.set_cons_succ]
  refine wpAnyH_ready (rs := [1]) (by kernel_rfl) (by simp) ?_
  refine AllReadyH.cons rfl (fun K hK => ?_) AllReadyH.nil
  go_simp
  (with_reducible refine (isContext_any _ _).mono ?_)
  rintro e w' ⟨rfl, rfl⟩
  rw [HC.out]
  go_simp
  refine hK.out _ _ ?_ (fun hHeld => ?_)
  · exact HS.out
  clear hHeld hK K
  try simp only [Act.put, List.setIfInBounds_toArray, List.set_cons_zero, List.set_cons_succ]
  refine takeD (i := 2) (some 7) (v := ?_) rfl rfl (by kernel_rfl) (by kernel_rfl) (by kernel_rfl) (fun _ _ _ h => h) (by rfl) HS.out ?_ ?_
  rotate_left
  · intro wx hSx
    clear hSx
    go_simp
    try (with_reducible rfl)
  simp only [Act.put, List.setIfInBounds_toArray, List.set_cons_zero, List.set_cons_succ]
  refine takeD (i := 3) (some 8) (v := ?_) rfl rfl (by kernel_rfl) (by kernel_rfl) (by kernel_rfl) (fun _ _ _ h => h) (by rfl) HS.out ?_ ?_
  rotate_left
  · intro wx hSx
    exact (by refine yield_row _ (.tmp 2) ?_ w.heap.size ?_ (run_progRow ((hSx.block _ hw1).trans HROW.out) HSZ.out) <;> rfl)
  simp only [Act.put, List.setIfInBounds_toArray, List.set_cons_zero, List.set_cons_succ]
  refine takeD (i := 4) (some 9) (v := ?_) rfl rfl (by kernel_rfl) (by kernel_rfl) (by kernel_rfl) (fun _ _ _ h => h) (by rfl) HS.out ?_ ?_
  rotate_left
  · intro wx hSx
    clear hSx
    go_simp
    try (with_reducible rfl)
  simp only [Act.put, List.setIfInBounds_toArray, List.set_cons_zero, List.set_cons_succ]
  refine takeD (i := 6) (some 11) (v := ?_) rfl rfl (by kernel_rfl) (by kernel_rfl) (by kernel_rfl) (fun _ _ _ h => h) (by rfl) HS.out ?_ ?_
  rotate_left
  · intro wx hSx
    clear hSx
    go_simp
    try (with_reducible rfl)
  simp only [Act.put, List.setIfInBounds_toArray, List.set_cons_zero, List.set_cons_succ]
  refine takeD (i := 9) (some 14) (v := ?_) rfl rfl (by kernel_rfl) (by kernel_rfl) (by kernel_rfl) (fun _ _ _ h => h) (by rfl) HS.out ?_ ?_
  rotate_left
  · intro wx hSx
    clear hSx
    go_simp
    try (with_reducible rfl)
  simp only [Act.put, List.setIfInBounds_toArray, List.set_cons_zero, List.set_cons_succ]
  refine takeD (i := 10) (some 15) (v := ?_) rfl rfl (by kernel_rfl) (by kernel_rfl) (by kernel_rfl) (fun _ _ _ h => h) (by rfl) HS.out ?_ ?_
  rotate_left
  · intro wx hSx
    clear hSx
    go_simp
    try (with_reducible rfl)
  simp only [Act.put, List.setIfInBounds_toArray, List.set_cons_zero, List.set_cons_succ]
  refine takeD (i := 11) (some 16) (v := ?_) rfl rfl (by kernel_rfl) (by kernel_rfl) (by kernel_rfl) (fun _ _ _ h => h) (by rfl) HS.out ?_ ?_
  rotate_left
  · intro wx hSx
    clear hSx
    go_simp
    try (with_reducible rfl)
  simp only [Act.put, List.setIfInBounds_toArray, List.set_cons_zero, List.set_cons_succ]
  refine takeD (i := 12) (some 17) (v := ?_) rfl rfl (by kernel_rfl) (by kernel_rfl) (by kernel_rfl) (fun _ _ _ h => h) (by rfl) HS.out ?_ ?_
  rotate_left
  · intro wx hSx
    have g1 := HF.out wx hSx
    clear hSx
    go_simp
    try (with_reducible rfl)
  simp only [Act.put, List.setIfInBounds_toArray, List.set_cons_zero, List.set_cons_succ]
  refine wpAnyH_ready (rs := [5]) (by kernel_rfl) (by simp) ?_
  refine AllReadyH.cons rfl (fun K hK => ?_) AllReadyH.nil
  go_simp
  (with_reducible refine (HBEST.out _).mono ?_)
  rintro e w4 ⟨rfl, hb⟩
  have HS4 : Hid (Below w1.heap.size w1 w4) := Lib.hid (HS.out.trans (hb.mono HS.out.size))
  clear hb
  go_simp
  refine hK.out _ _ ?_ (fun hHeld => ?_)
  · exact HS4.out
  clear hHeld hK K
  try simp only [Act.put, List.setIfInBounds_toArray, List.set_cons_zero, List.set_cons_succ]
  replace HS := HS4
  refine takeD (i := 7) (some 12) (v := ?_) rfl rfl (by kernel_rfl) (by kernel_rfl) (by kernel_rfl) (fun _ _ _ h => h) (by rfl) HS.out ?_ ?_
  rotate_left
  · intro wx hSx
    clear hSx
    go_simp
    try (with_reducible rfl)
  simp only [Act.put, List.setIfInBounds_toArray, List.set_cons_zero, List.set_cons_succ]
  refine takeD (i := 8) (some 13) (v := ?_) rfl rfl (by kernel_rfl) (by kernel_rfl) (by kernel_rfl) (fun _ _ _ h => h) (by rfl) HS.out ?_ ?_
  rotate_left
  · intro wx hSx
    have g1 := HK.out wx hSx
    clear hSx
    go_simp
    try (with_reducible rfl)
  simp only [Act.put, List.setIfInBounds_toArray, List.set_cons_zero, List.set_cons_succ]
  refine takeD (i := 13) (some 18) (v := ?_) rfl rfl (by kernel_rfl) (by kernel_rfl) (by kernel_rfl) (fun _ _ _ h => h) (by rfl) HS.out ?_ ?_
  rotate_left
  · intro wx hSx
    clear hSx
    go_simp
    try (with_reducible rfl)
  simp only [Act.put, List.setIfInBounds_toArray, List.set_cons_zero, List.set_cons_succ]
  refine takeD (i := 14) (some 19) (v := ?_) rfl rfl (by kernel_rfl) (by kernel_rfl) (by kernel_rfl) (fun _ _ _ h => h) (by rfl) HS.out ?_ ?_
  rotate_left
  · intro wx hSx
    clear hSx
    go_simp
    try (with_reducible rfl)
  simp only [Act.put, List.setIfInBounds_toArray, List.set_cons_zero, List.set_cons_succ]
  refine takeD (i := 15) (some 4) (v := ?_) rfl rfl (by kernel_rfl) (by kernel_rfl) (by kernel_rfl) (fun _ _ _ h => h) (by rfl) HS.out ?_ ?_
  rotate_left
  · intro wx hSx
    clear hSx
    go_simp
    try (with_reducible rfl)
  simp only [Act.put, List.setIfInBounds_toArray, List.set_cons_zero, List.set_cons_succ]
  refine wpAnyH_done (by kernel_rfl) ?_ _
  go_wp2
  go_ret
  exact ⟨rfl, HB.out.trans (HS.out.mono HB.out.size)⟩

theorem line_any (w : World) (t : PS) (ok : t.ok) (c : Int) : Calls Tryd.prog 36 #[progPV t, .int .i64 c] w fun e w' => e = .returned (.bool (lineT t c)) ∧ Below w.heap.size w w' := by
  by_cases h0 : c = 0
  · subst h0; exact line_0 w t ok
  by_cases h1 : c = 1
  · subst h1; exact line_1 w t ok
  exact line_no w t c (isC_no h0 h1)

end Go.Proofs.YtohidopbggcejaaDoor.P5

namespace Go.Proofs.YtohidopbggcejaaDoor.P5
open Go.RowKit
set_option linter.unusedVariables false
set_option maxRecDepth 100000

/-- A plic at first. -/
def p0 : PS := ⟨fun _ => 0, fun _ => false, fun _ => false, fun _ => false, fun _ _ => false, fun _ => 0⟩
theorem p0_ok : p0.ok := ⟨rfl, fun _ => rfl, rfl, rfl, fun _ => by show (0 : Int) ≤ 0 ∧ (0 : Int) < 8; omega, fun _ => by show (0 : Int) ≤ 0 ∧ (0 : Int) < 8; omega⟩
def zerosQ : Array Value := #[.int .u32 0, .int .u32 0, .int .u32 0, .int .u8 0, .int .u8 0, .int .u8 0, .int .u8 0, .int .u8 0, .int .u8 0, .int .u8 0, .int .u8 0, .int .u8 0, .int .u8 0, .int .u8 0, .int .u8 0, .int .u8 0, .int .u8 0, .int .u8 0, .int .u8 0, .int .u8 0, .int .u8 0, .int .u8 0, .int .u8 0, .int .u8 0, .int .u8 0, .int .u8 0, .int .u8 0, .int .u8 0, .int .u8 0, .int .u8 0, .int .u8 0, .int .u8 0, .int .u8 0, .int .u8 0, .int .u8 0, .int .u32 0, .int .u32 0, .int .u8 0, .int .u8 0]
theorem zerosQ_def : (#[.int .u32 0, .int .u32 0, .int .u32 0, .int .u8 0, .int .u8 0, .int .u8 0, .int .u8 0, .int .u8 0, .int .u8 0, .int .u8 0, .int .u8 0, .int .u8 0, .int .u8 0, .int .u8 0, .int .u8 0, .int .u8 0, .int .u8 0, .int .u8 0, .int .u8 0, .int .u8 0, .int .u8 0, .int .u8 0, .int .u8 0, .int .u8 0, .int .u8 0, .int .u8 0, .int .u8 0, .int .u8 0, .int .u8 0, .int .u8 0, .int .u8 0, .int .u8 0, .int .u8 0, .int .u8 0, .int .u8 0, .int .u32 0, .int .u32 0, .int .u8 0, .int .u8 0] : Array Value) = zerosQ := rfl
theorem zerosQ_one : zerosQ.all (·.oneCell') = true := by unfold zerosQ; simp [Value.oneCell']
theorem varr_p0 : varr 39 (cellQ p0) = zerosQ := by kernel_rfl
set_option maxRecDepth 100000 in
theorem new_any (w : World) : Calls Tryd.prog 19 #[] w fun e w' => e = .returned (progPV p0) ∧ Below w.heap.size w w' := by
  unfold progPV
  rw [varr_p0]
  go_enter Tryd.func19, Tryd.ntmps19
  go_wp2_with (refine wpList_store_row rfl _ _ _ rfl w.heap.size _ rfl rfl 59 _ (heap_alloc_new w _) size_progP rfl zerosQ_one ?_)
  simp only [zerosQ_def]
  have h1 := setRow_heap (w.alloc (.cells zerosQ 59)) w.heap.size _ zerosQ 59 (0, 0) (heap_alloc_new w _)
  have hb : Below w.heap.size w ((w.alloc (.cells zerosQ 59)).setRow w.heap.size zerosQ) := below_setRow ((Below.refl _ _).alloc (Nat.le_refl _) _) (Nat.le_refl _) _
  refine bodyPost_ret (v := .agg zerosQ) (results_cell_row (show Tryd.f19.results = #[.cell 0 59] by kernel_rfl) _ _ w.heap.size 59 _ _ _ rfl h1 Tryd.underlying59 rfl size_progP) rfl ⟨rfl, hb⟩
set_option maxHeartbeats 2000000 in
theorem claim_any (w : World) (b : Nat) (t : PS) (h : ProgP w b t) (c : Int) (k : Nat) (hk : bestC t c = k) :
    Calls Tryd.prog 65 #[.pointer (some ⟨b, 0, none⟩), .int .i64 c] w (ProgEnd w b (.int .i64 k) (claimed t k)) := by
  have hle := bestC_le t c
  have hbest := fun w' => best_any w' t h.2 c
  rw [hk] at hbest
  unfold progPV at hbest
  have HBEST := Lib.hid hbest
  have HROW : Hid (w.heap[b]? = some (.cells (varr 39 (cellQ t)) 59 (0, 0))) := Lib.hid h.1
  have HSZ : Hid ((varr 39 (cellQ t)).size = 39) := Lib.hid (varr_size _ _)
  have H := Lib.hid h
  rw [hk] at hle
  clear h hk hbest
  generalize varr 39 (cellQ t) = row at *
  go_enter Tryd.func65, Tryd.ntmps65
  go_wp2_with (refine wpList_load_row rfl _ _ rfl b rfl 59 _ _ _ HROW.out Tryd.underlying59 rfl ?_ ?_; · exact size_progP.trans (by rw [HSZ.out]))
  refine (HBEST.out _).mono ?_
  rintro e w2 ⟨rfl, hb⟩
  have HB2 := Lib.hid hb
  have HP := Lib.hid (H.out.below hb)
  clear hb HROW HSZ HBEST H
  by_cases k0 : k = 0
  · subst k0
    have HC : Hid (claimed t 0 = t) := Lib.hid (by unfold claimed; rw [if_pos rfl])
    rw [HC.out]
    go_wp2
    go_ret
    exact ⟨rfl, Only.of_below _ HB2.out, HP.out⟩
  · have hk : (0 : Int) < (k : Int) := by omega
    have hk1 : 1 ≤ k := by omega
    have hk32 : k < 32 := by omega
    have HC : Hid (claimed t k = claimP t k) := Lib.hid (by unfold claimed; rw [if_neg k0])
    rw [HC.out]
    have c1 := HP.out.pend_
    have f1 := HP.out.free 1
    have H1 := Lib.hid (one_shl hk32)
    have H2 := Lib.hid (clr32 t.pend hk32)
    have H3 := Lib.hid (set32 t.busy hk32)
    clear k0
    go_wp2_with fail
    go_still_tail 9, (by kernel_rfl)
    change wpList _ _ _ _ _ w2.drew
    have HPD : Hid (ProgP w2.drew b t) := Lib.hid HP.out
    have HBD : Hid (Below w.heap.size w w2.drew) := Lib.hid HB2.out.drew
    have d0 : w2.drew.cell? ⟨b, 1, none⟩ = some (.int .u32 (bits32 t.pend)) := c1
    have d1 : w2.drew.frozen? ⟨b, 1, none⟩ = false := f1
    clear c1 f1
    generalize w2.drew = w3 at *
    have HN : Hid (ProgP (w3.setCell ⟨b, 1, none⟩ (.int .u32 (bits32 (upd t.pend k false)))) b (unpendP t k)) := Lib.hid (HPD.out.setPend _ (upd0 HPD.out.2.pend0 hk1 false))
    have HO : Hid (Only (fun i => i = b) w (w3.setCell ⟨b, 1, none⟩ (.int .u32 (bits32 (upd t.pend k false))))) := Lib.hid ((Only.of_below (fun i => i = b) HBD.out).setCell (p := ⟨b, 1, none⟩) (.inl rfl) _)
    have e1 := H1.out
    have e2 := H2.out
    go_wp2_with fail
    clear e1 e2 d0 d1
    generalize w3.setCell ⟨b, 1, none⟩ (.int .u32 (bits32 (upd t.pend k false))) = w4 at *
    have d2 : w4.cell? ⟨b, 2, none⟩ = some (.int .u32 (bits32 t.busy)) := HN.out.busy_
    have f2 := HN.out.free 2
    go_still_tail 9, (by kernel_rfl)
    change wpList _ _ _ _ _ w4.drew
    have HND : Hid (ProgP w4.drew b (unpendP t k)) := Lib.hid HN.out
    have HOD : Hid (Only (fun i => i = b) w w4.drew) := Lib.hid (HO.out.drewN 1)
    have g2 : w4.drew.cell? ⟨b, 2, none⟩ = some (.int .u32 (bits32 t.busy)) := d2
    have g3 : w4.drew.frozen? ⟨b, 2, none⟩ = false := f2
    clear d2 f2
    generalize w4.drew = w5 at *
    have HN2 : Hid (ProgP (w5.setCell ⟨b, 2, none⟩ (.int .u32 (bits32 (upd t.busy k true)))) b (claimP t k)) := Lib.hid (HND.out.setBusy (upd t.busy k true))
    have HO2 : Hid (Only (fun i => i = b) w (w5.setCell ⟨b, 2, none⟩ (.int .u32 (bits32 (upd t.busy k true))))) := Lib.hid (HOD.out.setCell (p := ⟨b, 2, none⟩) (.inl rfl) _)
    have e1 := H1.out
    have e3 := H3.out
    go_wp2
    go_ret
    exact ⟨rfl, HO2.out, by first | exact HN2.out | (rw [HC.out]; exact HN2.out)⟩

end Go.Proofs.YtohidopbggcejaaDoor.P5

namespace Go.Proofs.YtohidopbggcejaaDoor.P5
open Go.RowKit
set_option linter.unusedVariables false
set_option maxRecDepth 100000

def tabQ : Array Value := #[.int .i64 0, .int .u64 0, .int .u64 4, .int .u64 32, .int .i64 1, .int .u64 4096, .int .u64 4, .int .u64 1, .int .i64 2, .int .u64 8192, .int .u64 128, .int .u64 2, .int .i64 3, .int .u64 2097152, .int .u64 4096, .int .u64 2, .int .i64 4, .int .u64 2097156, .int .u64 4096, .int .u64 2]
/-- The program's table stands in memory. -/
def Tab (w : World) : Prop := ∃ t fr, w.heap[1]? = some (.cells tabQ t fr)
theorem Tab.lt {w : World} (h : Tab w) : 1 < w.heap.size := by obtain ⟨t, fr, h⟩ := h; exact (Array.getElem?_eq_some_iff.1 h).1
theorem Tab.below {w w' : World} (h : Tab w) (o : Below w.heap.size w w') : Tab w' := by
  have hl := h.lt
  obtain ⟨t, fr, h⟩ := h; exact ⟨t, fr, (o.block _ hl).trans h⟩
theorem Tab.keeps {w w' : World} {T : Nat → Prop} (h : Tab w) (o : Only T w w') (hT : ¬ T 1) : Tab w' := by obtain ⟨t, fr, h⟩ := h; exact ⟨t, fr, o.keeps hT h⟩
theorem size_tab : (Tryd.prog.info? 120).map (·.size) = some tabQ.size := by kernel_rfl
theorem tab_0 (w : World) : (Instr.index 120 (.agg tabQ) (.int .i64 0)).run Tryd.prog w = .ok (.agg #[.int .i64 0, .int .u64 0, .int .u64 4, .int .u64 32]) w := by kernel_rfl
theorem tab_1 (w : World) : (Instr.index 120 (.agg tabQ) (.int .i64 1)).run Tryd.prog w = .ok (.agg #[.int .i64 1, .int .u64 4096, .int .u64 4, .int .u64 1]) w := by kernel_rfl
theorem tab_2 (w : World) : (Instr.index 120 (.agg tabQ) (.int .i64 2)).run Tryd.prog w = .ok (.agg #[.int .i64 2, .int .u64 8192, .int .u64 128, .int .u64 2]) w := by kernel_rfl
theorem tab_3 (w : World) : (Instr.index 120 (.agg tabQ) (.int .i64 3)).run Tryd.prog w = .ok (.agg #[.int .i64 3, .int .u64 2097152, .int .u64 4096, .int .u64 2]) w := by kernel_rfl
theorem tab_4 (w : World) : (Instr.index 120 (.agg tabQ) (.int .i64 4)).run Tryd.prog w = .ok (.agg #[.int .i64 4, .int .u64 2097156, .int .u64 4096, .int .u64 2]) w := by kernel_rfl
/-- What find answers. -/
def FindP (w : World) (r : Int × Int × Bool) (e : Ending) (w' : World) : Prop := e = .returned (.tuple #[.int .i64 r.1, .int .i64 r.2.1, .bool r.2.2]) ∧ Below w.heap.size w w'
theorem find_len (w : World) (off n : Int) (hn : ¬ n = 4) : Calls Tryd.prog 64 #[.int .u64 off, .int .i64 n] w (FindP w (0, 0, false)) := by
  have e4 : (n != 4) = true := by simpa using hn
  clear hn
  go_enter Tryd.func64, Tryd.ntmps64
  go_wp2
  go_ret3
  exact ⟨rfl, Below.refl _ _⟩
def dvQ (off A : Int) : Int := (off - A) % 18446744073709551616
def hitQ (off A S C : Int) : Bool := (dvQ off A % S == 0) && decide (dvQ off A / S < C)
def findQ (off : Int) : Int × Int × Bool :=
  if hitQ off 0 4 32 = true then (0, dvQ off 0 / 4, true) else if hitQ off 4096 4 1 = true then (1, dvQ off 4096 / 4, true) else if hitQ off 8192 128 2 = true then (2, dvQ off 8192 / 128, true)
  else if hitQ off 2097152 4096 2 = true then (3, dvQ off 2097152 / 4096, true) else if hitQ off 2097156 4096 2 = true then (4, dvQ off 2097156 / 4096, true) else (0, 0, false)
def missTo (off : Int) (k : Nat) : Prop :=
  (1 ≤ k → hitQ off 0 4 32 = false) ∧ (2 ≤ k → hitQ off 4096 4 1 = false) ∧ (3 ≤ k → hitQ off 8192 128 2 = false) ∧ (4 ≤ k → hitQ off 2097152 4096 2 = false) ∧ (5 ≤ k → hitQ off 2097156 4096 2 = false)
theorem dv_in (off A : Int) : 0 ≤ dvQ off A ∧ dvQ off A < 18446744073709551616 := by unfold dvQ; omega
theorem dv_wrap (off A : Int) : IntKind.u64.wrap (off - A) = dvQ off A := by rw [IntKind.wrap_u64]; rfl
theorem dv_wrap0 (off : Int) : IntKind.u64.wrap off = dvQ off 0 := by rw [IntKind.wrap_u64]; unfold dvQ; rw [Int.sub_zero]
theorem div_wrap {d S : Int} (h0 : 0 ≤ d) (h1 : d < 18446744073709551616) (hS : 1 ≤ S) : IntKind.u64.wrap (d.tdiv S) = d / S := by
  have k0 : 0 ≤ d / S := Int.ediv_nonneg h0 (by omega)
  have k1 : d / S ≤ d := Int.ediv_le_self _ h0
  rw [Int.tdiv_eq_ediv_of_nonneg h0, IntKind.wrap_u64]; omega
set_option maxRecDepth 100000 in
set_option maxHeartbeats 8000000 in
theorem find_any (w : World) (off : Int) (ht : Tab w) : Calls Tryd.prog 64 #[.int .u64 off, .int .i64 4] w (FindP w (findQ off)) := by
  obtain ⟨tt, fr, hrow⟩ := ht
  have HROW := Lib.hid hrow
  clear hrow
  go_enter Tryd.func64, Tryd.ntmps64
  go_wp2_with (refine wpList_load_row rfl _ _ rfl 1 rfl _ _ _ _ HROW.out Tryd.underlying120 rfl size_tab ?_)
  go_loopw [13] (fun i wr => ∃ k : Nat, k ≤ 5 ∧ i = .int .i64 k ∧ Hid (missTo off k) ∧ Below w.heap.size w wr) (fun i wr => (5 - intOf i).toNat)
  case atStart => exact ⟨0, by omega, rfl, Lib.hid ⟨fun h => by omega, fun h => by omega, fun h => by omega, fun h => by omega, fun h => by omega⟩, Below.refl _ _⟩
  case round =>
    obtain ⟨k, hk, rfl, HM, hbr⟩ := hrel
    have HBR := Lib.hid hbr
    clear hbr
    have hkk : k = 0 ∨ k = 1 ∨ k = 2 ∨ k = 3 ∨ k = 4 ∨ k = 5 := by omega
    rcases hkk with rfl | rfl | rfl | rfl | rfl | rfl

    · have P := tab_0
      go_wp2_with fail
      clear P
      have hd := dv_in off 0
      rw [dv_wrap0]
      obtain ⟨d, hdd⟩ : ∃ d, dvQ off 0 = d := ⟨_, rfl⟩
      rw [hdd] at hd ⊢
      have HDV := Lib.hid hdd
      clear hdd
      have hd0 := hd.1
      have hm : d.tmod 4 = d % 4 := Int.tmod_eq_emod_of_nonneg hd0
      have hq : IntKind.u64.wrap (d.tdiv 4) = d / 4 := div_wrap hd0 hd.2 (by omega)
      have H0 := heap_alloc_new wr (.cells #[.int .i64 0, .int .u64 0, .int .u64 4, .int .u64 32] 119)
      have HB2 := Lib.hid (HBR.out.alloc HBR.out.size (.cells #[.int .i64 0, .int .u64 0, .int .u64 4, .int .u64 32] 119))
      generalize wr.alloc (.cells #[.int .i64 0, .int .u64 0, .int .u64 4, .int .u64 32] 119) = wa at *
      have c0 : wa.cell? ⟨wr.heap.size, 0, none⟩ = some (.int .i64 0) := by rw [cell_of_row wa _ _ _ _ _ H0]; rfl
      have c1 : wa.cell? ⟨wr.heap.size, 2, none⟩ = some (.int .u64 4) := by rw [cell_of_row wa _ _ _ _ _ H0]; rfl
      have c2 : wa.cell? ⟨wr.heap.size, 3, none⟩ = some (.int .u64 32) := by rw [cell_of_row wa _ _ _ _ _ H0]; rfl
      clear H0 hd
      by_cases h1 : d % 4 = 0
      · have e1 : (d % 4 == 0) = true := by rw [beq_iff_eq]; exact h1
        by_cases h2 : d / 4 < 32
        · have e2 : decide (d / 4 < 32) = true := decide_eq_true h2
          have hn0 : 0 ≤ d / 4 := Int.ediv_nonneg hd0 (by omega)
          have hw : IntKind.i64.wrap (d / 4) = d / 4 := IntWalk.i64_in _ (by omega)
          have HR : Hid (findQ off = (0, d / 4, true)) := Lib.hid (by
            unfold findQ; rw [if_pos (by unfold hitQ; rw [HDV.out, e1, e2]; rfl), HDV.out])
          clear h1 h2
          go_quiet (fail)
          go_wp2_with fail
          go_quiet (fail)
          go_wp2
          go_ret3
          exact ⟨by rw [HR.out]; rfl, HB2.out.os, HB2.out.tape, HB2.out.output, HB2.out.size, HB2.out.block⟩
        · have e2 : decide (d / 4 < 32) = false := decide_eq_false h2
          have HH : Hid (hitQ off 0 4 32 = false) := Lib.hid (by unfold hitQ; rw [HDV.out, e2, Bool.and_false])
          clear h1 h2
          go_quiet (fail)
          go_wp2
          exact ⟨⟨1, by omega, rfl, Lib.hid ⟨fun _ => HH.out, fun h => by omega, fun h => by omega, fun h => by omega, fun h => by omega⟩, HB2.out.os, HB2.out.tape, HB2.out.output, HB2.out.size, HB2.out.block⟩, by simp [intOf]⟩
      · have e1 : (d % 4 == 0) = false := by rw [beq_eq_false_iff_ne]; exact h1
        have HH : Hid (hitQ off 0 4 32 = false) := Lib.hid (by unfold hitQ; rw [HDV.out, e1, Bool.false_and])
        clear h1
        go_quiet (fail)
        go_wp2
        exact ⟨⟨1, by omega, rfl, Lib.hid ⟨fun _ => HH.out, fun h => by omega, fun h => by omega, fun h => by omega, fun h => by omega⟩, HB2.out.os, HB2.out.tape, HB2.out.output, HB2.out.size, HB2.out.block⟩, by simp [intOf]⟩

    · have P := tab_1
      go_wp2_with fail
      clear P
      have hd := dv_in off 4096
      rw [dv_wrap]
      obtain ⟨d, hdd⟩ : ∃ d, dvQ off 4096 = d := ⟨_, rfl⟩
      rw [hdd] at hd ⊢
      have HDV := Lib.hid hdd
      clear hdd
      have hd0 := hd.1
      have hm : d.tmod 4 = d % 4 := Int.tmod_eq_emod_of_nonneg hd0
      have hq : IntKind.u64.wrap (d.tdiv 4) = d / 4 := div_wrap hd0 hd.2 (by omega)
      have H0 := heap_alloc_new wr (.cells #[.int .i64 1, .int .u64 4096, .int .u64 4, .int .u64 1] 119)
      have HB2 := Lib.hid (HBR.out.alloc HBR.out.size (.cells #[.int .i64 1, .int .u64 4096, .int .u64 4, .int .u64 1] 119))
      generalize wr.alloc (.cells #[.int .i64 1, .int .u64 4096, .int .u64 4, .int .u64 1] 119) = wa at *
      have c0 : wa.cell? ⟨wr.heap.size, 0, none⟩ = some (.int .i64 1) := by rw [cell_of_row wa _ _ _ _ _ H0]; rfl
      have c1 : wa.cell? ⟨wr.heap.size, 2, none⟩ = some (.int .u64 4) := by rw [cell_of_row wa _ _ _ _ _ H0]; rfl
      have c2 : wa.cell? ⟨wr.heap.size, 3, none⟩ = some (.int .u64 1) := by rw [cell_of_row wa _ _ _ _ _ H0]; rfl
      clear H0 hd
      by_cases h1 : d % 4 = 0
      · have e1 : (d % 4 == 0) = true := by rw [beq_iff_eq]; exact h1
        by_cases h2 : d / 4 < 1
        · have e2 : decide (d / 4 < 1) = true := decide_eq_true h2
          have hn0 : 0 ≤ d / 4 := Int.ediv_nonneg hd0 (by omega)
          have hw : IntKind.i64.wrap (d / 4) = d / 4 := IntWalk.i64_in _ (by omega)
          have HR : Hid (findQ off = (1, d / 4, true)) := Lib.hid (by
            unfold findQ; rw [if_neg (by rw [HM.out.1 (by omega)]; simp)]; rw [if_pos (by unfold hitQ; rw [HDV.out, e1, e2]; rfl), HDV.out])
          clear h1 h2
          go_quiet (fail)
          go_wp2_with fail
          go_quiet (fail)
          go_wp2
          go_ret3
          exact ⟨by rw [HR.out]; rfl, HB2.out.os, HB2.out.tape, HB2.out.output, HB2.out.size, HB2.out.block⟩
        · have e2 : decide (d / 4 < 1) = false := decide_eq_false h2
          have HH : Hid (hitQ off 4096 4 1 = false) := Lib.hid (by unfold hitQ; rw [HDV.out, e2, Bool.and_false])
          clear h1 h2
          go_quiet (fail)
          go_wp2
          exact ⟨⟨2, by omega, rfl, Lib.hid ⟨fun _ => HM.out.1 (by omega), fun _ => HH.out, fun h => by omega, fun h => by omega, fun h => by omega⟩, HB2.out.os, HB2.out.tape, HB2.out.output, HB2.out.size, HB2.out.block⟩, by simp [intOf]⟩
      · have e1 : (d % 4 == 0) = false := by rw [beq_eq_false_iff_ne]; exact h1
        have HH : Hid (hitQ off 4096 4 1 = false) := Lib.hid (by unfold hitQ; rw [HDV.out, e1, Bool.false_and])
        clear h1
        go_quiet (fail)
        go_wp2
        exact ⟨⟨2, by omega, rfl, Lib.hid ⟨fun _ => HM.out.1 (by omega), fun _ => HH.out, fun h => by omega, fun h => by omega, fun h => by omega⟩, HB2.out.os, HB2.out.tape, HB2.out.output, HB2.out.size, HB2.out.block⟩, by simp [intOf]⟩

    · have P := tab_2
      go_wp2_with fail
      clear P
      have hd := dv_in off 8192
      rw [dv_wrap]
      obtain ⟨d, hdd⟩ : ∃ d, dvQ off 8192 = d := ⟨_, rfl⟩
      rw [hdd] at hd ⊢
      have HDV := Lib.hid hdd
      clear hdd
      have hd0 := hd.1
      have hm : d.tmod 128 = d % 128 := Int.tmod_eq_emod_of_nonneg hd0
      have hq : IntKind.u64.wrap (d.tdiv 128) = d / 128 := div_wrap hd0 hd.2 (by omega)
      have H0 := heap_alloc_new wr (.cells #[.int .i64 2, .int .u64 8192, .int .u64 128, .int .u64 2] 119)
      have HB2 := Lib.hid (HBR.out.alloc HBR.out.size (.cells #[.int .i64 2, .int .u64 8192, .int .u64 128, .int .u64 2] 119))
      generalize wr.alloc (.cells #[.int .i64 2, .int .u64 8192, .int .u64 128, .int .u64 2] 119) = wa at *
      have c0 : wa.cell? ⟨wr.heap.size, 0, none⟩ = some (.int .i64 2) := by rw [cell_of_row wa _ _ _ _ _ H0]; rfl
      have c1 : wa.cell? ⟨wr.heap.size, 2, none⟩ = some (.int .u64 128) := by rw [cell_of_row wa _ _ _ _ _ H0]; rfl
      have c2 : wa.cell? ⟨wr.heap.size, 3, none⟩ = some (.int .u64 2) := by rw [cell_of_row wa _ _ _ _ _ H0]; rfl
      clear H0 hd
      by_cases h1 : d % 128 = 0
      · have e1 : (d % 128 == 0) = true := by rw [beq_iff_eq]; exact h1
        by_cases h2 : d / 128 < 2
        · have e2 : decide (d / 128 < 2) = true := decide_eq_true h2
          have hn0 : 0 ≤ d / 128 := Int.ediv_nonneg hd0 (by omega)
          have hw : IntKind.i64.wrap (d / 128) = d / 128 := IntWalk.i64_in _ (by omega)
          have HR : Hid (findQ off = (2, d / 128, true)) := Lib.hid (by
            unfold findQ; rw [if_neg (by rw [HM.out.1 (by omega)]; simp)]; rw [if_neg (by rw [HM.out.2.1 (by omega)]; simp)]; rw [if_pos (by unfold hitQ; rw [HDV.out, e1, e2]; rfl), HDV.out])
          clear h1 h2
          go_quiet (fail)
          go_wp2_with fail
          go_quiet (fail)
          go_wp2
          go_ret3
          exact ⟨by rw [HR.out]; rfl, HB2.out.os, HB2.out.tape, HB2.out.output, HB2.out.size, HB2.out.block⟩
        · have e2 : decide (d / 128 < 2) = false := decide_eq_false h2
          have HH : Hid (hitQ off 8192 128 2 = false) := Lib.hid (by unfold hitQ; rw [HDV.out, e2, Bool.and_false])
          clear h1 h2
          go_quiet (fail)
          go_wp2
          exact ⟨⟨3, by omega, rfl, Lib.hid ⟨fun _ => HM.out.1 (by omega), fun _ => HM.out.2.1 (by omega), fun _ => HH.out, fun h => by omega, fun h => by omega⟩, HB2.out.os, HB2.out.tape, HB2.out.output, HB2.out.size, HB2.out.block⟩, by simp [intOf]⟩
      · have e1 : (d % 128 == 0) = false := by rw [beq_eq_false_iff_ne]; exact h1
        have HH : Hid (hitQ off 8192 128 2 = false) := Lib.hid (by unfold hitQ; rw [HDV.out, e1, Bool.false_and])
        clear h1
        go_quiet (fail)
        go_wp2
        exact ⟨⟨3, by omega, rfl, Lib.hid ⟨fun _ => HM.out.1 (by omega), fun _ => HM.out.2.1 (by omega), fun _ => HH.out, fun h => by omega, fun h => by omega⟩, HB2.out.os, HB2.out.tape, HB2.out.output, HB2.out.size, HB2.out.block⟩, by simp [intOf]⟩

    · have P := tab_3
      go_wp2_with fail
      clear P
      have hd := dv_in off 2097152
      rw [dv_wrap]
      obtain ⟨d, hdd⟩ : ∃ d, dvQ off 2097152 = d := ⟨_, rfl⟩
      rw [hdd] at hd ⊢
      have HDV := Lib.hid hdd
      clear hdd
      have hd0 := hd.1
      have hm : d.tmod 4096 = d % 4096 := Int.tmod_eq_emod_of_nonneg hd0
      have hq : IntKind.u64.wrap (d.tdiv 4096) = d / 4096 := div_wrap hd0 hd.2 (by omega)
      have H0 := heap_alloc_new wr (.cells #[.int .i64 3, .int .u64 2097152, .int .u64 4096, .int .u64 2] 119)
      have HB2 := Lib.hid (HBR.out.alloc HBR.out.size (.cells #[.int .i64 3, .int .u64 2097152, .int .u64 4096, .int .u64 2] 119))
      generalize wr.alloc (.cells #[.int .i64 3, .int .u64 2097152, .int .u64 4096, .int .u64 2] 119) = wa at *
      have c0 : wa.cell? ⟨wr.heap.size, 0, none⟩ = some (.int .i64 3) := by rw [cell_of_row wa _ _ _ _ _ H0]; rfl
      have c1 : wa.cell? ⟨wr.heap.size, 2, none⟩ = some (.int .u64 4096) := by rw [cell_of_row wa _ _ _ _ _ H0]; rfl
      have c2 : wa.cell? ⟨wr.heap.size, 3, none⟩ = some (.int .u64 2) := by rw [cell_of_row wa _ _ _ _ _ H0]; rfl
      clear H0 hd
      by_cases h1 : d % 4096 = 0
      · have e1 : (d % 4096 == 0) = true := by rw [beq_iff_eq]; exact h1
        by_cases h2 : d / 4096 < 2
        · have e2 : decide (d / 4096 < 2) = true := decide_eq_true h2
          have hn0 : 0 ≤ d / 4096 := Int.ediv_nonneg hd0 (by omega)
          have hw : IntKind.i64.wrap (d / 4096) = d / 4096 := IntWalk.i64_in _ (by omega)
          have HR : Hid (findQ off = (3, d / 4096, true)) := Lib.hid (by
            unfold findQ; rw [if_neg (by rw [HM.out.1 (by omega)]; simp)]; rw [if_neg (by rw [HM.out.2.1 (by omega)]; simp)]; rw [if_neg (by rw [HM.out.2.2.1 (by omega)]; simp)]; rw [if_pos (by unfold hitQ; rw [HDV.out, e1, e2]; rfl), HDV.out])
          clear h1 h2
          go_quiet (fail)
          go_wp2_with fail
          go_quiet (fail)
          go_wp2
          go_ret3
          exact ⟨by rw [HR.out]; rfl, HB2.out.os, HB2.out.tape, HB2.out.output, HB2.out.size, HB2.out.block⟩
        · have e2 : decide (d / 4096 < 2) = false := decide_eq_false h2
          have HH : Hid (hitQ off 2097152 4096 2 = false) := Lib.hid (by unfold hitQ; rw [HDV.out, e2, Bool.and_false])
          clear h1 h2
          go_quiet (fail)
          go_wp2
          exact ⟨⟨4, by omega, rfl, Lib.hid ⟨fun _ => HM.out.1 (by omega), fun _ => HM.out.2.1 (by omega), fun _ => HM.out.2.2.1 (by omega), fun _ => HH.out, fun h => by omega⟩, HB2.out.os, HB2.out.tape, HB2.out.output, HB2.out.size, HB2.out.block⟩, by simp [intOf]⟩
      · have e1 : (d % 4096 == 0) = false := by rw [beq_eq_false_iff_ne]; exact h1
        have HH : Hid (hitQ off 2097152 4096 2 = false) := Lib.hid (by unfold hitQ; rw [HDV.out, e1, Bool.false_and])
        clear h1
        go_quiet (fail)
        go_wp2
        exact ⟨⟨4, by omega, rfl, Lib.hid ⟨fun _ => HM.out.1 (by omega), fun _ => HM.out.2.1 (by omega), fun _ => HM.out.2.2.1 (by omega), fun _ => HH.out, fun h => by omega⟩, HB2.out.os, HB2.out.tape, HB2.out.output, HB2.out.size, HB2.out.block⟩, by simp [intOf]⟩

    · have P := tab_4
      go_wp2_with fail
      clear P
      have hd := dv_in off 2097156
      rw [dv_wrap]
      obtain ⟨d, hdd⟩ : ∃ d, dvQ off 2097156 = d := ⟨_, rfl⟩
      rw [hdd] at hd ⊢
      have HDV := Lib.hid hdd
      clear hdd
      have hd0 := hd.1
      have hm : d.tmod 4096 = d % 4096 := Int.tmod_eq_emod_of_nonneg hd0
      have hq : IntKind.u64.wrap (d.tdiv 4096) = d / 4096 := div_wrap hd0 hd.2 (by omega)
      have H0 := heap_alloc_new wr (.cells #[.int .i64 4, .int .u64 2097156, .int .u64 4096, .int .u64 2] 119)
      have HB2 := Lib.hid (HBR.out.alloc HBR.out.size (.cells #[.int .i64 4, .int .u64 2097156, .int .u64 4096, .int .u64 2] 119))
      generalize wr.alloc (.cells #[.int .i64 4, .int .u64 2097156, .int .u64 4096, .int .u64 2] 119) = wa at *
      have c0 : wa.cell? ⟨wr.heap.size, 0, none⟩ = some (.int .i64 4) := by rw [cell_of_row wa _ _ _ _ _ H0]; rfl
      have c1 : wa.cell? ⟨wr.heap.size, 2, none⟩ = some (.int .u64 4096) := by rw [cell_of_row wa _ _ _ _ _ H0]; rfl
      have c2 : wa.cell? ⟨wr.heap.size, 3, none⟩ = some (.int .u64 2) := by rw [cell_of_row wa _ _ _ _ _ H0]; rfl
      clear H0 hd
      by_cases h1 : d % 4096 = 0
      · have e1 : (d % 4096 == 0) = true := by rw [beq_iff_eq]; exact h1
        by_cases h2 : d / 4096 < 2
        · have e2 : decide (d / 4096 < 2) = true := decide_eq_true h2
          have hn0 : 0 ≤ d / 4096 := Int.ediv_nonneg hd0 (by omega)
          have hw : IntKind.i64.wrap (d / 4096) = d / 4096 := IntWalk.i64_in _ (by omega)
          have HR : Hid (findQ off = (4, d / 4096, true)) := Lib.hid (by
            unfold findQ; rw [if_neg (by rw [HM.out.1 (by omega)]; simp)]; rw [if_neg (by rw [HM.out.2.1 (by omega)]; simp)]; rw [if_neg (by rw [HM.out.2.2.1 (by omega)]; simp)]; rw [if_neg (by rw [HM.out.2.2.2.1 (by omega)]; simp)]; rw [if_pos (by unfold hitQ; rw [HDV.out, e1, e2]; rfl), HDV.out])
          clear h1 h2
          go_quiet (fail)
          go_wp2_with fail
          go_quiet (fail)
          go_wp2
          go_ret3
          exact ⟨by rw [HR.out]; rfl, HB2.out.os, HB2.out.tape, HB2.out.output, HB2.out.size, HB2.out.block⟩
        · have e2 : decide (d / 4096 < 2) = false := decide_eq_false h2
          have HH : Hid (hitQ off 2097156 4096 2 = false) := Lib.hid (by unfold hitQ; rw [HDV.out, e2, Bool.and_false])
          clear h1 h2
          go_quiet (fail)
          go_wp2
          exact ⟨⟨5, by omega, rfl, Lib.hid ⟨fun _ => HM.out.1 (by omega), fun _ => HM.out.2.1 (by omega), fun _ => HM.out.2.2.1 (by omega), fun _ => HM.out.2.2.2.1 (by omega), fun _ => HH.out⟩, HB2.out.os, HB2.out.tape, HB2.out.output, HB2.out.size, HB2.out.block⟩, by simp [intOf]⟩
      · have e1 : (d % 4096 == 0) = false := by rw [beq_eq_false_iff_ne]; exact h1
        have HH : Hid (hitQ off 2097156 4096 2 = false) := Lib.hid (by unfold hitQ; rw [HDV.out, e1, Bool.false_and])
        clear h1
        go_quiet (fail)
        go_wp2
        exact ⟨⟨5, by omega, rfl, Lib.hid ⟨fun _ => HM.out.1 (by omega), fun _ => HM.out.2.1 (by omega), fun _ => HM.out.2.2.1 (by omega), fun _ => HM.out.2.2.2.1 (by omega), fun _ => HH.out⟩, HB2.out.os, HB2.out.tape, HB2.out.output, HB2.out.size, HB2.out.block⟩, by simp [intOf]⟩

    · have HR : Hid (findQ off = (0, 0, false)) := Lib.hid (by
        unfold findQ
        rw [HM.out.1 (by omega), HM.out.2.1 (by omega), HM.out.2.2.1 (by omega), HM.out.2.2.2.1 (by omega), HM.out.2.2.2.2 (by omega)]; rfl)
      go_wp2
      go_ret3
      exact ⟨by rw [HR.out]; rfl, HBR.out⟩

end Go.Proofs.YtohidopbggcejaaDoor.P5

namespace Go.Proofs.YtohidopbggcejaaDoor.P5
open Go.RowKit
set_option linter.unusedVariables false
set_option maxRecDepth 100000

/-- What stands at an offset (0 a priority, 1 what is pending, 2 enabled, 3 a threshold, 4 claims, 5 nothing), and of which number. -/
def plcK (off n : Int) : Nat × Nat :=
  if n = 4 then (if off < 128 ∧ off % 4 = 0 then (0, (off / 4).toNat) else if off = 4096 then (1, 0) else if off = 8192 then (2, 0) else if off = 8320 then (2, 1) else if off = 2097152 then (3, 0) else if off = 2101248 then (3, 1)
    else if off = 2097156 then (4, 0) else if off = 2101252 then (4, 1) else (5, 0)) else (5, 0)
theorem plc_cases (off n : Int) (h0 : 0 ≤ off) :
    (n = 4 ∧ ∃ k : Nat, k < 32 ∧ off = 4 * (k : Int) ∧ plcK off n = (0, k)) ∨ (n = 4 ∧ off = 4096 ∧ plcK off n = (1, 0)) ∨ (n = 4 ∧ off = 8192 ∧ plcK off n = (2, 0)) ∨ (n = 4 ∧ off = 8320 ∧ plcK off n = (2, 1)) ∨
    (n = 4 ∧ off = 2097152 ∧ plcK off n = (3, 0)) ∨ (n = 4 ∧ off = 2101248 ∧ plcK off n = (3, 1)) ∨ (n = 4 ∧ off = 2097156 ∧ plcK off n = (4, 0)) ∨ (n = 4 ∧ off = 2101252 ∧ plcK off n = (4, 1)) ∨
    (n = 4 ∧ NoPlic off ∧ plcK off n = (5, 0)) ∨ (¬ n = 4 ∧ plcK off n = (5, 0)) := by
  by_cases hn : n = 4
  · subst hn
    by_cases h1 : off < 128 ∧ off % 4 = 0
    · refine .inl ⟨rfl, (off / 4).toNat, by omega, by omega, ?_⟩
      unfold plcK; rw [if_pos rfl, if_pos h1]
    by_cases h2 : off = 4096
    · subst h2; exact .inr (.inl ⟨rfl, rfl, by decide⟩)
    by_cases h3 : off = 8192
    · subst h3; exact .inr (.inr (.inl ⟨rfl, rfl, by decide⟩))
    by_cases h4 : off = 8320
    · subst h4; exact .inr (.inr (.inr (.inl ⟨rfl, rfl, by decide⟩)))
    by_cases h5 : off = 2097152
    · subst h5; exact .inr (.inr (.inr (.inr (.inl ⟨rfl, rfl, by decide⟩))))
    by_cases h6 : off = 2101248
    · subst h6; exact .inr (.inr (.inr (.inr (.inr (.inl ⟨rfl, rfl, by decide⟩)))))
    by_cases h7 : off = 2097156
    · subst h7; exact .inr (.inr (.inr (.inr (.inr (.inr (.inl ⟨rfl, rfl, by decide⟩))))))
    by_cases h8 : off = 2101252
    · subst h8; exact .inr (.inr (.inr (.inr (.inr (.inr (.inr (.inl ⟨rfl, rfl, by decide⟩)))))))
    refine .inr (.inr (.inr (.inr (.inr (.inr (.inr (.inr (.inl ⟨rfl, ⟨h1, h2, h3, h4, h5, h6, h7, h8⟩, ?_⟩))))))))
    unfold plcK
    rw [if_pos rfl, if_neg h1, if_neg h2, if_neg h3, if_neg h4, if_neg h5, if_neg h6, if_neg h7, if_neg h8]
  · refine .inr (.inr (.inr (.inr (.inr (.inr (.inr (.inr (.inr ⟨hn, ?_⟩))))))))
    unfold plcK; rw [if_neg hn]
theorem findQ_prio {k : Nat} (hk : k < 32) : findQ (4 * (k : Int)) = (0, (k : Int), true) := by
  have hd : dvQ (4 * (k : Int)) 0 = 4 * (k : Int) := by unfold dvQ; omega
  unfold findQ
  rw [if_pos (by unfold hitQ; rw [hd, show (4 * (k : Int) % 4 == 0) = true by rw [beq_iff_eq]; omega, decide_eq_true (by omega)]; rfl), hd, show 4 * (k : Int) / 4 = (k : Int) by omega]
theorem hit_no {off A S C : Int} (h : ¬ (dvQ off A % S = 0 ∧ dvQ off A / S < C)) : hitQ off A S C = false := by
  unfold hitQ
  by_cases h1 : dvQ off A % S = 0
  · rw [decide_eq_false (fun h2 => h ⟨h1, h2⟩), Bool.and_false]
  · rw [show (dvQ off A % S == 0) = false by rw [beq_eq_false_iff_ne]; exact h1, Bool.false_and]
theorem findQ_no {off : Int} (hn : NoPlic off) (ho : In64 off) : findQ off = (0, 0, false) := by
  obtain ⟨h1, h2, h3, h4, h5, h6, h7, h8⟩ := hn
  unfold In64 at ho
  unfold findQ
  rw [hit_no (S := 4) (C := 32) (by unfold dvQ; omega), hit_no (A := 4096) (by unfold dvQ; omega), hit_no (A := 8192) (by unfold dvQ; omega), hit_no (A := 2097152) (by unfold dvQ; omega), hit_no (A := 2097156) (by unfold dvQ; omega)]
  rfl
/-- What a reading tells, what it leaves; what a writing leaves. -/
def rdX (t : PS) (p : Nat × Nat) : Int := match p.1 with
  | 0 => t.prio p.2
  | 1 => bits32 t.pend
  | 2 => bits32 fun s => t.on s p.2
  | 3 => t.floor p.2
  | 4 => bestC t p.2
  | _ => 0
def rdT (t : PS) (p : Nat × Nat) : PS := match p.1 with
  | 4 => claimed t (bestC t p.2)
  | _ => t
def okP (p : Nat × Nat) : Bool := decide (p.1 < 5)
def wrT (t : PS) (p : Nat × Nat) (v : Int) : PS := match p.1 with
  | 0 => if p.2 = 0 then t else prioT t p.2 (v % 8)
  | 2 => onT t p.2 (onBits v)
  | 3 => floorT t p.2 (v % 8)
  | 4 => doneT t p.2 (v % 4294967296).toNat
  | _ => t
theorem find_is (w : World) (off : Int) (ht : Tab w) (a i : Int) (ok : Bool) (h : findQ off = (a, i, ok)) : Calls Tryd.prog 64 #[.int .u64 off, .int .i64 4] w fun e w' => e = .returned (.tuple #[.int .i64 a, .int .i64 i, .bool ok]) ∧ Below w.heap.size w w' := by
  have k := find_any w off ht
  rw [h] at k; exact k
theorem read_none (w : World) (off n : Int) : Calls Tryd.prog 46 #[.pointer none, .int .u64 off, .int .i64 n] w fun e w' => e = .returned (.tuple #[.int .u64 0, .bool false]) ∧ w = w' := by
  go_enter Tryd.func46, Tryd.ntmps46
  go_wp2
  go_ret2
  exact ⟨rfl, rfl⟩
theorem read_len (w : World) (b : Nat) (t : PS) (h : ProgP w b t) (off n : Int) (hn : ¬ n = 4) : Calls Tryd.prog 46 #[.pointer (some ⟨b, 0, none⟩), .int .u64 off, .int .i64 n] w (ProgEnd w b (.tuple #[.int .u64 0, .bool false]) t) := by
  have HN := Lib.hid hn
  have H := Lib.hid h
  clear hn h
  go_enter Tryd.func46, Tryd.ntmps46
  go_wp2_with fail
  refine (find_len _ off n HN.out).mono ?_
  rintro e w2 ⟨rfl, hb⟩
  have HB := Lib.hid hb
  clear hb
  go_wp2
  go_ret2
  exact ⟨rfl, Only.of_below _ HB.out, H.out.below HB.out⟩
theorem read_no (w : World) (b : Nat) (t : PS) (h : ProgP w b t) (ht : Tab w) (off : Int) (hn : NoPlic off) (ho : In64 off) : Calls Tryd.prog 46 #[.pointer (some ⟨b, 0, none⟩), .int .u64 off, .int .i64 4] w (ProgEnd w b (.tuple #[.int .u64 0, .bool false]) t) := by
  have HF := Lib.hid (find_is w off ht _ _ _ (findQ_no hn ho))
  have H := Lib.hid h
  clear hn h ho ht
  go_enter Tryd.func46, Tryd.ntmps46
  go_wp2_with fail
  (with_reducible refine (HF.out).mono ?_)
  rintro e w2 ⟨rfl, hb⟩
  have HB := Lib.hid hb
  clear hb
  go_wp2
  go_ret2
  exact ⟨rfl, Only.of_below _ HB.out, H.out.below HB.out⟩
theorem wrap_u64s {x : Int} (h0 : 0 ≤ x) (h1 : x < 4294967296) : IntKind.u64.wrap x = x := by rw [IntKind.wrap_u64]; omega
theorem read_prio (w : World) (b : Nat) (t : PS) (h : ProgP w b t) (ht : Tab w) (k : Nat) (hk : k < 32) (off : Int) (ho : off = 4 * (k : Int)) : Calls Tryd.prog 46 #[.pointer (some ⟨b, 0, none⟩), .int .u64 off, .int .i64 4] w (ProgEnd w b (.tuple #[.int .u64 (t.prio k), .bool true]) t) := by
  have HF := Lib.hid (find_is w off ht 0 (k : Int) true (by rw [ho]; exact findQ_prio hk))
  have H := Lib.hid h
  have hw := wrap_u64s (h.2.pr k).1 (by have := (h.2.pr k).2; omega)
  have i1 : (k : Int) < 32 := by omega
  clear h ht ho
  go_enter Tryd.func46, Tryd.ntmps46
  go_wp2_with fail
  (with_reducible refine (HF.out).mono ?_)
  rintro e w2 ⟨rfl, hb⟩
  have HB := Lib.hid hb
  have c0 := (H.out.below hb).prio_ hk
  clear hb
  go_wp2
  go_ret2
  exact ⟨rfl, Only.of_below _ HB.out, H.out.below HB.out⟩
theorem read_pend (w : World) (b : Nat) (t : PS) (h : ProgP w b t) (ht : Tab w) : Calls Tryd.prog 46 #[.pointer (some ⟨b, 0, none⟩), .int .u64 4096, .int .i64 4] w (ProgEnd w b (.tuple #[.int .u64 (bits32 t.pend), .bool true]) t) := by
  have HF := Lib.hid (find_is w 4096 ht 1 0 true (by decide))
  have H := Lib.hid h
  have hw := wrap_u64s (bits32_bd t.pend).1 (bits32_bd t.pend).2
  clear h ht
  go_enter Tryd.func46, Tryd.ntmps46
  go_wp2_with fail
  (with_reducible refine (HF.out).mono ?_)
  rintro e w2 ⟨rfl, hb⟩
  have HB := Lib.hid hb
  have c0 := (H.out.below hb).pend_
  clear hb
  go_wp2
  go_ret2
  exact ⟨rfl, Only.of_below _ HB.out, H.out.below HB.out⟩
theorem read_on (w : World) (b : Nat) (t : PS) (h : ProgP w b t) (ht : Tab w) (c : Nat) (hc : c < 2) (off : Int) (hf : findQ off = (2, (c : Int), true)) : Calls Tryd.prog 46 #[.pointer (some ⟨b, 0, none⟩), .int .u64 off, .int .i64 4] w (ProgEnd w b (.tuple #[.int .u64 (bits32 fun s => t.on s c), .bool true]) t) := by
  have HF := Lib.hid (find_is w off ht _ _ _ hf)
  have H := Lib.hid h
  have hw := wrap_u64s (bits32_bd fun s => t.on s c).1 (bits32_bd fun s => t.on s c).2
  have i1 : (c : Int) < 2 := by omega
  clear h ht hf
  go_enter Tryd.func46, Tryd.ntmps46
  go_wp2_with fail
  (with_reducible refine (HF.out).mono ?_)
  rintro e w2 ⟨rfl, hb⟩
  have HB := Lib.hid hb
  have c0 := (H.out.below hb).on_ hc
  clear hb
  go_wp2
  go_ret2
  exact ⟨rfl, Only.of_below _ HB.out, H.out.below HB.out⟩
theorem read_floor (w : World) (b : Nat) (t : PS) (h : ProgP w b t) (ht : Tab w) (c : Nat) (hc : c < 2) (off : Int) (hf : findQ off = (3, (c : Int), true)) : Calls Tryd.prog 46 #[.pointer (some ⟨b, 0, none⟩), .int .u64 off, .int .i64 4] w (ProgEnd w b (.tuple #[.int .u64 (t.floor c), .bool true]) t) := by
  have HF := Lib.hid (find_is w off ht _ _ _ hf)
  have H := Lib.hid h
  have hw := wrap_u64s (h.2.fl c).1 (by have := (h.2.fl c).2; omega)
  have i1 : (c : Int) < 2 := by omega
  clear h ht hf
  go_enter Tryd.func46, Tryd.ntmps46
  go_wp2_with fail
  (with_reducible refine (HF.out).mono ?_)
  rintro e w2 ⟨rfl, hb⟩
  have HB := Lib.hid hb
  have c0 := (H.out.below hb).floor_ hc
  clear hb
  go_wp2
  go_ret2
  exact ⟨rfl, Only.of_below _ HB.out, H.out.below HB.out⟩
theorem read_claim (w : World) (b : Nat) (t : PS) (h : ProgP w b t) (ht : Tab w) (c : Nat) (hc : c < 2) (off : Int) (hf : findQ off = (4, (c : Int), true)) : Calls Tryd.prog 46 #[.pointer (some ⟨b, 0, none⟩), .int .u64 off, .int .i64 4] w (ProgEnd w b (.tuple #[.int .u64 (bestC t c), .bool true]) (claimed t (bestC t c))) := by
  have HF := Lib.hid (find_is w off ht _ _ _ hf)
  have H := Lib.hid h
  have hle := bestC_le t c
  have HCL : Hid (∀ w2, ProgP w2 b t → Calls Tryd.prog 65 #[.pointer (some ⟨b, 0, none⟩), .int .i64 c] w2 (ProgEnd w2 b (.int .i64 (bestC t c)) (claimed t (bestC t c)))) := Lib.hid fun w2 h2 => claim_any w2 b t h2 c _ rfl
  generalize bestC t (c : Int) = k at *
  have hw : IntKind.u64.wrap (k : Int) = k := wrap_u64s (by omega) (by omega)
  clear h ht hf
  go_enter Tryd.func46, Tryd.ntmps46
  go_wp2_with fail
  (with_reducible refine (HF.out).mono ?_)
  rintro e w2 ⟨rfl, hb⟩
  have HB := Lib.hid hb
  clear hb
  go_wp2_with fail
  (with_reducible refine (HCL.out _ (H.out.below HB.out)).mono ?_)
  rintro e w3 ⟨rfl, ho, hp⟩
  have HO := Lib.hid ((Only.of_below _ HB.out).trans ho)
  have HP := Lib.hid hp
  clear ho hp
  go_wp2
  go_ret2
  exact ⟨rfl, HO.out, HP.out⟩
theorem read_any (w : World) (b : Nat) (t : PS) (h : ProgP w b t) (ht : Tab w) (off n : Int) (ho : In64 off) :
    Calls Tryd.prog 46 #[.pointer (some ⟨b, 0, none⟩), .int .u64 off, .int .i64 n] w (ProgEnd w b (.tuple #[.int .u64 (rdX t (plcK off n)), .bool (okP (plcK off n))]) (rdT t (plcK off n))) := by
  rcases plc_cases off n ho.1 with ⟨rfl, k, hk, hk4, hp⟩ | ⟨rfl, rfl, hp⟩ | ⟨rfl, rfl, hp⟩ | ⟨rfl, rfl, hp⟩ | ⟨rfl, rfl, hp⟩ | ⟨rfl, rfl, hp⟩ | ⟨rfl, rfl, hp⟩ | ⟨rfl, rfl, hp⟩ | ⟨rfl, hn, hp⟩ | ⟨hn, hp⟩
  all_goals rw [hp]
  · exact read_prio w b t h ht k hk off hk4
  · exact read_pend w b t h ht
  · exact read_on w b t h ht 0 (by omega) _ (by decide)
  · exact read_on w b t h ht 1 (by omega) _ (by decide)
  · exact read_floor w b t h ht 0 (by omega) _ (by decide)
  · exact read_floor w b t h ht 1 (by omega) _ (by decide)
  · exact read_claim w b t h ht 0 (by omega) _ (by decide)
  · exact read_claim w b t h ht 1 (by omega) _ (by decide)
  · exact read_no w b t h ht off hn ho
  · exact read_len w b t h off n hn

end Go.Proofs.YtohidopbggcejaaDoor.P5

namespace Go.Proofs.YtohidopbggcejaaDoor.P5
open Go.RowKit
set_option linter.unusedVariables false
set_option maxRecDepth 100000

theorem write_none (w : World) (off n v : Int) : Calls Tryd.prog 47 #[.pointer none, .int .u64 off, .int .i64 n, .int .u64 v] w fun e w' => e = .returned (.bool false) ∧ w = w' := by
  go_enter Tryd.func47, Tryd.ntmps47
  go_wp2
  go_ret
  exact ⟨rfl, rfl⟩
theorem write_len (w : World) (b : Nat) (t : PS) (h : ProgP w b t) (off n v : Int) (hn : ¬ n = 4) : Calls Tryd.prog 47 #[.pointer (some ⟨b, 0, none⟩), .int .u64 off, .int .i64 n, .int .u64 v] w (ProgEnd w b (.bool false) t) := by
  have HN := Lib.hid hn
  have H := Lib.hid h
  clear hn h
  go_enter Tryd.func47, Tryd.ntmps47
  go_wp2_with fail
  refine (find_len _ off n HN.out).mono ?_
  rintro e w2 ⟨rfl, hb⟩
  have HB := Lib.hid hb
  clear hb
  go_wp2
  go_ret
  exact ⟨rfl, Only.of_below _ HB.out, H.out.below HB.out⟩
theorem write_no (w : World) (b : Nat) (t : PS) (h : ProgP w b t) (ht : Tab w) (off v : Int) (hn : NoPlic off) (ho : In64 off) : Calls Tryd.prog 47 #[.pointer (some ⟨b, 0, none⟩), .int .u64 off, .int .i64 4, .int .u64 v] w (ProgEnd w b (.bool false) t) := by
  have HF := Lib.hid (find_is w off ht _ _ _ (findQ_no hn ho))
  have H := Lib.hid h
  clear hn h ho ht
  go_enter Tryd.func47, Tryd.ntmps47
  go_wp2_with fail
  (with_reducible refine (HF.out).mono ?_)
  rintro e w2 ⟨rfl, hb⟩
  have HB := Lib.hid hb
  clear hb
  go_wp2
  go_ret
  exact ⟨rfl, Only.of_below _ HB.out, H.out.below HB.out⟩
theorem write_pend (w : World) (b : Nat) (t : PS) (h : ProgP w b t) (ht : Tab w) (v : Int) : Calls Tryd.prog 47 #[.pointer (some ⟨b, 0, none⟩), .int .u64 4096, .int .i64 4, .int .u64 v] w (ProgEnd w b (.bool true) t) := by
  have HF := Lib.hid (find_is w 4096 ht 1 0 true (by decide))
  have H := Lib.hid h
  clear h ht
  go_enter Tryd.func47, Tryd.ntmps47
  go_wp2_with fail
  (with_reducible refine (HF.out).mono ?_)
  rintro e w2 ⟨rfl, hb⟩
  have HB := Lib.hid hb
  clear hb
  go_wp2
  go_ret
  exact ⟨rfl, Only.of_below _ HB.out, H.out.below HB.out⟩
theorem write_prio0 (w : World) (b : Nat) (t : PS) (h : ProgP w b t) (ht : Tab w) (v : Int) : Calls Tryd.prog 47 #[.pointer (some ⟨b, 0, none⟩), .int .u64 0, .int .i64 4, .int .u64 v] w (ProgEnd w b (.bool true) t) := by
  have HF := Lib.hid (find_is w 0 ht 0 0 true (by decide))
  have H := Lib.hid h
  clear h ht
  go_enter Tryd.func47, Tryd.ntmps47
  go_wp2_with fail
  (with_reducible refine (HF.out).mono ?_)
  rintro e w2 ⟨rfl, hb⟩
  have HB := Lib.hid hb
  clear hb
  go_wp2_with fail
  (with_reducible refine (setPriority_no _ _ _ _ (by decide)).mono ?_)
  rintro e w3 ⟨hu, rfl⟩
  obtain ⟨u, rfl⟩ := hu
  go_wp2
  go_ret
  exact ⟨rfl, Only.of_below _ HB.out, H.out.below HB.out⟩
theorem write_prio (w : World) (b : Nat) (t : PS) (h : ProgP w b t) (ht : Tab w) (k : Nat) (hk1 : 1 ≤ k) (hk : k < 32) (off v : Int) (ho : off = 4 * (k : Int)) (hv : In64 v) : Calls Tryd.prog 47 #[.pointer (some ⟨b, 0, none⟩), .int .u64 off, .int .i64 4, .int .u64 v] w (ProgEnd w b (.bool true) (prioT t k (v % 8))) := by
  have HF := Lib.hid (find_is w off ht 0 (k : Int) true (by rw [ho]; exact findQ_prio hk))
  have H := Lib.hid h
  have HV := Lib.hid hv
  clear h ht ho hv
  go_enter Tryd.func47, Tryd.ntmps47
  go_wp2_with fail
  (with_reducible refine (HF.out).mono ?_)
  rintro e w2 ⟨rfl, hb⟩
  have HB := Lib.hid hb
  have HP := Lib.hid (H.out.below hb)
  clear hb
  go_wp2_with fail
  (with_reducible refine (setPriority_yes _ b t HP.out k hk1 hk v HV.out).mono ?_)
  rintro e w3 ⟨hu, ho, hp⟩
  obtain ⟨u, rfl⟩ := hu
  have HO := Lib.hid ((Only.of_below _ HB.out).trans ho)
  have HP3 := Lib.hid hp
  clear ho hp
  go_wp2
  go_ret
  exact ⟨rfl, HO.out, HP3.out⟩
theorem write_on (w : World) (b : Nat) (t : PS) (h : ProgP w b t) (ht : Tab w) (c : Nat) (hc : c < 2) (off v : Int) (hf : findQ off = (2, (c : Int), true)) (hv : In64 v) : Calls Tryd.prog 47 #[.pointer (some ⟨b, 0, none⟩), .int .u64 off, .int .i64 4, .int .u64 v] w (ProgEnd w b (.bool true) (onT t c (onBits v))) := by
  have HF := Lib.hid (find_is w off ht _ _ _ hf)
  have H := Lib.hid h
  have hw : IntKind.u32.wrap v = v % 4294967296 := by rw [IntKind.wrap_u32]
  have hn1 := not1_32 hv.1
  have H1 := Lib.hid hw
  have H2 := Lib.hid hn1
  have i1 : (c : Int) < 2 := by omega
  clear h ht hf hv hw hn1
  go_enter Tryd.func47, Tryd.ntmps47
  go_wp2_with fail
  (with_reducible refine (HF.out).mono ?_)
  rintro e w2 ⟨rfl, hb⟩
  have HB := Lib.hid hb
  have HP := H.out.below hb
  have c0 := HP.on_ hc
  have f0 := HP.free (35 + c)
  have HP2 := Lib.hid (HP.setOn hc (onBits v) (by unfold onBits; rfl))
  have HO : Hid (Only (fun i => i = b) w (w2.setCell ⟨b, 35 + c, none⟩ (.int .u32 (bits32 (onBits v))))) := Lib.hid ((Only.of_below (fun i => i = b) HB.out).setCell (p := ⟨b, 35 + c, none⟩) (.inl rfl) _)
  have e1 := H1.out
  have e2 := H2.out
  clear hb HP
  go_wp2
  go_ret
  exact ⟨rfl, HO.out, HP2.out⟩
set_option maxHeartbeats 1000000 in
theorem write_floor (w : World) (b : Nat) (t : PS) (h : ProgP w b t) (ht : Tab w) (c : Nat) (hc : c < 2) (off v : Int) (hf : findQ off = (3, (c : Int), true)) (hv : In64 v) : Calls Tryd.prog 47 #[.pointer (some ⟨b, 0, none⟩), .int .u64 off, .int .i64 4, .int .u64 v] w (ProgEnd w b (.bool true) (floorT t c (v % 8))) := by
  have HF := Lib.hid (find_is w off ht _ _ _ hf)
  have H := Lib.hid h
  have HV := Lib.hid hv
  have HL := Lib.hid (low3 hv)
  have hr1 := Int.emod_nonneg v (show (8 : Int) ≠ 0 by decide)
  have hr2 := Int.emod_lt_of_pos v (show (0 : Int) < 8 by decide)
  have H8 := Lib.hid (wrap_u8 hr1 hr2)
  have HR : Hid (0 ≤ v % 8 ∧ v % 8 < 8) := Lib.hid ⟨hr1, hr2⟩
  have i1 : (c : Int) < 2 := by omega
  clear h ht hf hv hr1 hr2
  go_enter Tryd.func47, Tryd.ntmps47
  go_wp2_with fail
  (with_reducible refine (HF.out).mono ?_)
  rintro e w2 ⟨rfl, hb⟩
  have HB := Lib.hid hb
  have HP := H.out.below hb
  have cc := HP.floor_ hc
  have ff := HP.free (37 + c)
  have HN : Hid (∀ n, ProgP ((w2.drewN n).setCell ⟨b, 37 + c, none⟩ (.int .u8 (v % 8))) b (floorT t c (v % 8))) := Lib.hid fun n => ProgP.setFloor (w := w2.drewN n) ⟨HP.1, HP.2⟩ hc HR.out.1 HR.out.2
  have HO : Hid (∀ n, Only (fun i => i = b) w ((w2.drewN n).setCell ⟨b, 37 + c, none⟩ (.int .u8 (v % 8)))) := Lib.hid fun n => Only.setCell ((Only.of_below (fun i => i = b) HB.out).drewN n) (p := ⟨b, 37 + c, none⟩) (.inl rfl) _
  clear hb HP
  go_wp2_with fail
  go_region_with (go_at_call 67; refine (field_any _ _ _ HV.out _).mono ?_; rintro e w' ⟨rfl, q, rfl⟩; rw [HL.out]; have e8 := H8.out; have f8 : (w2.drew.drewN q).frozen? ⟨b, 37 + c, none⟩ = false := ff; have g8 : (w2.drew.drewN q).cell? ⟨b, 37 + c, none⟩ = some (.int .u8 (t.floor c)) := cc)
  go_wp2
  go_ret
  exact ⟨rfl, HO.out _, HN.out _⟩
theorem write_done (w : World) (b : Nat) (t : PS) (h : ProgP w b t) (ht : Tab w) (c : Nat) (hc : c < 2) (off v : Int) (hf : findQ off = (4, (c : Int), true)) (hv : In64 v) : Calls Tryd.prog 47 #[.pointer (some ⟨b, 0, none⟩), .int .u64 off, .int .i64 4, .int .u64 v] w (ProgEnd w b (.bool true) (doneT t c (v % 4294967296).toNat)) := by
  have HF := Lib.hid (find_is w off ht _ _ _ hf)
  have H := Lib.hid h
  have hx1 := Int.emod_nonneg v (show (4294967296 : Int) ≠ 0 by decide)
  have hx2 := Int.emod_lt_of_pos v (show (0 : Int) < 4294967296 by decide)
  obtain ⟨x, hx⟩ : ∃ x : Nat, (v % 4294967296).toNat = x := ⟨_, rfl⟩
  have hvx : IntKind.u32.wrap v = (x : Int) := by rw [IntKind.wrap_u32]; omega
  have hwx : IntKind.i64.wrap (x : Int) = x := IntWalk.i64_in _ (by omega)
  rw [hx]
  clear h ht hf hv hx hx1 hx2
  go_enter Tryd.func47, Tryd.ntmps47
  go_wp2_with fail
  (with_reducible refine (HF.out).mono ?_)
  rintro e w2 ⟨rfl, hb⟩
  have HB := Lib.hid hb
  have HP := Lib.hid (H.out.below hb)
  clear hb
  go_wp2_with fail
  (with_reducible refine (complete_any _ b t HP.out c hc x).mono ?_)
  rintro e w3 ⟨hu, ho, hp⟩
  obtain ⟨u, rfl⟩ := hu
  have HO := Lib.hid ((Only.of_below _ HB.out).trans ho)
  have HP3 := Lib.hid hp
  clear ho hp
  go_wp2
  go_ret
  exact ⟨rfl, HO.out, HP3.out⟩
theorem write_any (w : World) (b : Nat) (t : PS) (h : ProgP w b t) (ht : Tab w) (off n v : Int) (ho : In64 off) (hv : In64 v) :
    Calls Tryd.prog 47 #[.pointer (some ⟨b, 0, none⟩), .int .u64 off, .int .i64 n, .int .u64 v] w (ProgEnd w b (.bool (okP (plcK off n))) (wrT t (plcK off n) v)) := by
  rcases plc_cases off n ho.1 with ⟨rfl, k, hk, hk4, hp⟩ | ⟨rfl, rfl, hp⟩ | ⟨rfl, rfl, hp⟩ | ⟨rfl, rfl, hp⟩ | ⟨rfl, rfl, hp⟩ | ⟨rfl, rfl, hp⟩ | ⟨rfl, rfl, hp⟩ | ⟨rfl, rfl, hp⟩ | ⟨rfl, hn, hp⟩ | ⟨hn, hp⟩
  all_goals rw [hp]
  · by_cases k0 : k = 0
    · subst k0
      obtain rfl : off = 0 := by omega
      exact write_prio0 w b t h ht v
    · rw [show wrT t (0, k) v = prioT t k (v % 8) from if_neg k0]
      exact write_prio w b t h ht k (by omega) hk off v hk4 hv
  · exact write_pend w b t h ht v
  · exact write_on w b t h ht 0 (by omega) _ v (by decide) hv
  · exact write_on w b t h ht 1 (by omega) _ v (by decide) hv
  · exact write_floor w b t h ht 0 (by omega) _ v (by decide) hv
  · exact write_floor w b t h ht 1 (by omega) _ v (by decide) hv
  · exact write_done w b t h ht 0 (by omega) _ v (by decide) hv
  · exact write_done w b t h ht 1 (by omega) _ v (by decide) hv
  · exact write_no w b t h ht off v hn ho
  · exact write_len w b t h off n v hn

end Go.Proofs.YtohidopbggcejaaDoor.P5

namespace Go.Proofs.YtohidopbggcejaaDoor.P5.In
open Go.RowKit
set_option linter.unusedVariables false
set_option maxRecDepth 100000
variable {fr : Fr 4}

/-- The program's plic t stands four cells behind the beginning of block b. -/
def ProgP (fr : Fr 4) (w : World) (b : Nat) (t : PS) : Prop := w.heap[b]? = some (.cells (fr.all (varr 39 (cellQ t))) fr.ty (0, 0)) ∧ t.ok
theorem ProgP.lt {w : World} {b : Nat} {t : PS} (h : ProgP fr w b t) : b < w.heap.size := (Array.getElem?_eq_some_iff.1 h.1).1
theorem ProgP.below {w w' : World} {b : Nat} {t : PS} (h : ProgP fr w b t) (o : Below w.heap.size w w') : ProgP fr w' b t := ⟨(o.block b h.lt).trans h.1, h.2⟩
theorem ProgP.keeps {w w' : World} {b : Nat} {t : PS} {T : Nat → Prop} (h : ProgP fr w b t) (o : Only T w w') (hb : ¬ T b) : ProgP fr w' b t := ⟨o.keeps hb h.1, h.2⟩
theorem ProgP.free {w : World} {b : Nat} {t : PS} (h : ProgP fr w b t) (k : Nat) : w.frozen? ⟨b, k, none⟩ = false := frozen_of_row w b k _ _ h.1
theorem ProgP.cell {w : World} {b : Nat} {t : PS} (h : ProgP fr w b t) {i a : Nat} (hi : i < 39) (ha : a = 4 + i) {v : Value} (hv : cellQ t i = v) : w.cell? ⟨b, a, none⟩ = some v := by
  subst ha
  rw [cell_of_row w b _ _ _ _ h.1, fr.get _ _ (by rw [varr_size]; exact hi), varr_get _ _ _ hi, hv]
theorem ProgP.up_ {w : World} {b : Nat} {t : PS} (h : ProgP fr w b t) : w.cell? ⟨b, 4, none⟩ = some (.int .u32 (bits32 t.up)) := h.cell (i := 0) (by omega) (by omega) rfl
theorem ProgP.pend_ {w : World} {b : Nat} {t : PS} (h : ProgP fr w b t) : w.cell? ⟨b, 5, none⟩ = some (.int .u32 (bits32 t.pend)) := h.cell (i := 1) (by omega) (by omega) rfl
theorem ProgP.busy_ {w : World} {b : Nat} {t : PS} (h : ProgP fr w b t) : w.cell? ⟨b, 6, none⟩ = some (.int .u32 (bits32 t.busy)) := h.cell (i := 2) (by omega) (by omega) rfl
theorem ProgP.prio_ {w : World} {b : Nat} {t : PS} (h : ProgP fr w b t) {s : Nat} (hs : s < 32) : w.cell? ⟨b, 7 + s, none⟩ = some (.int .u8 (t.prio s)) := h.cell (i := 3 + s) (by omega) (by omega) (cellQ_prio t hs)
theorem ProgP.on_ {w : World} {b : Nat} {t : PS} (h : ProgP fr w b t) {c : Nat} (hc : c < 2) : w.cell? ⟨b, 39 + c, none⟩ = some (.int .u32 (bits32 fun s => t.on s c)) := h.cell (i := 35 + c) (by omega) (by omega) (cellQ_on t hc)
theorem ProgP.floor_ {w : World} {b : Nat} {t : PS} (h : ProgP fr w b t) {c : Nat} (hc : c < 2) : w.cell? ⟨b, 41 + c, none⟩ = some (.int .u8 (t.floor c)) := h.cell (i := 37 + c) (by omega) (by omega) (cellQ_floor t hc)
theorem ProgP.set {w : World} {b : Nat} {t t' : PS} (h : ProgP fr w b t) {k : Nat} (a : Nat) (ha : a = 4 + k) (hk : k < 39) (v : Value) (ok : t'.ok) (he : ∀ i, i < 39 → cellQ t' i = if i = k then v else cellQ t i) : ProgP fr (w.setCell ⟨b, a, none⟩ v) b t' := by
  refine ⟨?_, ok⟩
  subst ha
  rw [heap_setCell_same w b _ _ _ _ h.1, fr.set _ _ _ (by rw [varr_size]; exact hk), varr_set]
  rw [show (varr 39 fun i => if i = k then v else cellQ t i) = varr 39 (cellQ t') from varr_congr fun i hi => (he i hi).symm]
theorem ProgP.setUp {w : World} {b : Nat} {t : PS} (h : ProgP fr w b t) {s : Nat} (hs : 1 ≤ s) (u : Bool) : ProgP fr (w.setCell ⟨b, 4, none⟩ (.int .u32 (bits32 (upd t.up s u)))) b (upP t s u) :=
  h.set (k := 0) 4 (by omega) (by omega) _ ⟨h.2.prio0, h.2.on0, h.2.pend0, (upd_other t.up u (show ¬ 0 = s by omega)).trans h.2.up0, h.2.pr, h.2.fl⟩ (cells_eq rfl rfl rfl (fun s _ => (if_neg (by omega)).symm) (fun c _ => (if_neg (by omega)).symm) (fun c _ => (if_neg (by omega)).symm))
theorem ProgP.setPend {w : World} {b : Nat} {t : PS} (h : ProgP fr w b t) (f : Nat → Bool) (h0 : f 0 = false) : ProgP fr (w.setCell ⟨b, 5, none⟩ (.int .u32 (bits32 f))) b { t with pend := f } :=
  h.set (k := 1) 5 (by omega) (by omega) _ ⟨h.2.prio0, h.2.on0, h0, h.2.up0, h.2.pr, h.2.fl⟩ (cells_eq rfl rfl rfl (fun s _ => (if_neg (by omega)).symm) (fun c _ => (if_neg (by omega)).symm) (fun c _ => (if_neg (by omega)).symm))
theorem ProgP.setBusy {w : World} {b : Nat} {t : PS} (h : ProgP fr w b t) (f : Nat → Bool) : ProgP fr (w.setCell ⟨b, 6, none⟩ (.int .u32 (bits32 f))) b { t with busy := f } :=
  h.set (k := 2) 6 (by omega) (by omega) _ ⟨h.2.prio0, h.2.on0, h.2.pend0, h.2.up0, h.2.pr, h.2.fl⟩ (cells_eq rfl rfl rfl (fun s _ => (if_neg (by omega)).symm) (fun c _ => (if_neg (by omega)).symm) (fun c _ => (if_neg (by omega)).symm))
theorem ProgP.setPrio {w : World} {b : Nat} {t : PS} (h : ProgP fr w b t) {s : Nat} (hs : 1 ≤ s) (hs2 : s < 32) {v : Int} (h0 : 0 ≤ v) (h8 : v < 8) : ProgP fr (w.setCell ⟨b, 7 + s, none⟩ (.int .u8 v)) b (prioT t s v) :=
  h.set (k := 3 + s) _ (by omega) (by omega) _ (ok_prio h.2 hs h0 h8) (cells_eq (if_neg (by omega)).symm (if_neg (by omega)).symm (if_neg (by omega)).symm (fun i _ => by
    show Value.int .u8 (upd t.prio s v i) = _
    unfold upd
    by_cases e : i = s
    · rw [if_pos e, if_pos (by omega)]
    · rw [if_neg e, if_neg (by omega)]) (fun c _ => (if_neg (by omega)).symm) (fun c _ => (if_neg (by omega)).symm))
theorem ProgP.setFloor {w : World} {b : Nat} {t : PS} (h : ProgP fr w b t) {c : Nat} (hc : c < 2) {v : Int} (h0 : 0 ≤ v) (h8 : v < 8) : ProgP fr (w.setCell ⟨b, 41 + c, none⟩ (.int .u8 v)) b (floorT t c v) :=
  h.set (k := 37 + c) _ (by omega) (by omega) _ (ok_floor h.2 c h0 h8) (cells_eq (if_neg (by omega)).symm (if_neg (by omega)).symm (if_neg (by omega)).symm (fun i _ => (if_neg (by omega)).symm) (fun i _ => (if_neg (by omega)).symm) (fun i _ => by
    rw [floorT_at]
    by_cases e : i = c
    · rw [if_pos e, if_pos (by omega)]
    · rw [if_neg e, if_neg (by omega)]))
theorem ProgP.setOn {w : World} {b : Nat} {t : PS} (h : ProgP fr w b t) {c : Nat} (hc : c < 2) (f : Nat → Bool) (h0 : f 0 = false) : ProgP fr (w.setCell ⟨b, 39 + c, none⟩ (.int .u32 (bits32 f))) b (onT t c f) :=
  h.set (k := 35 + c) _ (by omega) (by omega) _ (ok_on h.2 c h0) (cells_eq (if_neg (by omega)).symm (if_neg (by omega)).symm (if_neg (by omega)).symm (fun i _ => (if_neg (by omega)).symm) (fun i _ => by
    show Value.int .u32 (bits32 fun s => if i = c then f s else t.on s i) = _
    by_cases e : i = c
    · rw [if_pos (show 35 + i = 35 + c by omega)]; congr 1; exact bits32_congr fun s _ => if_pos e
    · rw [if_neg (by omega)]; congr 1; exact bits32_congr fun s _ => if_neg e) (fun i _ => (if_neg (by omega)).symm))

def SetQ (fr : Fr 4) (w : World) (b : Nat) (t' : PS) (e : Ending) (w' : World) : Prop := (∃ u, e = .returned u) ∧ Only (fun i => i = b) w w' ∧ ProgP fr w' b t'
set_option maxHeartbeats 1000000 in
theorem look_any (w : World) (b : Nat) (t : PS) (h : ProgP fr w b t) (s : Nat) (h1 : 1 ≤ s) (hs : s < 32) :
    Calls Tryd.prog 82 #[.pointer (some ⟨b, 4, none⟩), .int .i64 s] w (SetQ fr w b (lookP t s)) := by
  have c0 := h.up_
  have c1 := h.pend_
  have c2 := h.busy_
  have f1 := h.free 5
  have H := Lib.hid h
  have HN : Hid (ProgP fr (w.drew.setCell ⟨b, 5, none⟩ (.int .u32 (bits32 (upd t.pend s true)))) b { t with pend := upd t.pend s true }) := Lib.hid (ProgP.setPend (w := w.drew) ⟨h.1, h.2⟩ _ (upd0 h.2.pend0 h1 true))
  have HO : Hid (Only (fun i => i = b) w (w.drew.setCell ⟨b, 5, none⟩ (.int .u32 (bits32 (upd t.pend s true))))) := Lib.hid (Only.setCell ((Only.refl (fun i => i = b) w).drewN 1) (p := ⟨b, 5, none⟩) (.inl rfl) _)
  have H1 := Lib.hid (one_shl hs)
  have H2 := Lib.hid (set32 t.pend hs)
  clear h
  generalize hu : t.up s = u at *
  generalize hb : t.busy s = v at *
  have HU := Lib.hid hu
  have HB := Lib.hid hb
  have HL : Hid (lookP t s = if u && !v then { t with pend := upd t.pend s true } else t) := Lib.hid (by unfold lookP; rw [hu, hb])
  clear hu hb
  cases u with
  | false =>
    have HE : Hid (lookP t s = t) := Lib.hid (by rw [HL.out]; rfl)
    rw [HE.out]
    go_enter Tryd.func82, Tryd.ntmps82
    go_wp2_with fail
    (with_reducible refine (bitQ t.up s hs _ HU.out _).mono ?_)
    rintro e w' ⟨rfl, rfl⟩
    go_wp2
    go_end0
    exact ⟨⟨_, rfl⟩, Only.refl _ _, H.out⟩
  | true =>
  cases v with
  | true =>
    have HE : Hid (lookP t s = t) := Lib.hid (by rw [HL.out]; rfl)
    rw [HE.out]
    go_enter Tryd.func82, Tryd.ntmps82
    go_wp2_with fail
    (with_reducible refine (bitQ t.up s hs _ HU.out _).mono ?_)
    rintro e w' ⟨rfl, rfl⟩
    go_wp2_with fail
    (with_reducible refine (bitQ t.busy s hs _ HB.out _).mono ?_)
    rintro e w' ⟨rfl, rfl⟩
    go_wp2
    go_end0
    exact ⟨⟨_, rfl⟩, Only.refl _ _, H.out⟩
  | false =>
    have HE : Hid (lookP t s = { t with pend := upd t.pend s true }) := Lib.hid (by rw [HL.out]; rfl)
    rw [HE.out]
    go_enter Tryd.func82, Tryd.ntmps82
    go_wp2_with fail
    (with_reducible refine (bitQ t.up s hs _ HU.out _).mono ?_)
    rintro e w' ⟨rfl, rfl⟩
    go_wp2_with fail
    (with_reducible refine (bitQ t.busy s hs _ HB.out _).mono ?_)
    rintro e w' ⟨rfl, rfl⟩
    go_wp2_with fail
    go_still_tail 9, (by kernel_rfl)
    change wpList _ _ _ _ _ w.drew
    have d1 : w.drew.frozen? ⟨b, 5, none⟩ = false := f1
    have e1 := H1.out
    have e2 := H2.out
    go_wp2
    go_end0
    exact ⟨⟨_, rfl⟩, HO.out, HN.out⟩
def ProgEnd (fr : Fr 4) (w : World) (b : Nat) (r : Value) (t' : PS) (e : Ending) (w' : World) : Prop := e = .returned r ∧ Only (fun i => i = b) w w' ∧ ProgP fr w' b t'
set_option maxHeartbeats 1000000 in
theorem level_any (w : World) (b : Nat) (t : PS) (s : Int) (u : Bool) (h : ProgP fr w b t) :
    Calls Tryd.prog 69 #[.pointer (some ⟨b, 4, none⟩), .int .i64 s, .bool u] w (ProgEnd fr w b (.bool (isS s)) (levelP t s u)) := by
  cases hs : isS s with
  | false =>
    have HE : Hid (ProgEnd fr w b (.bool false) (levelP t s u) (.returned (.bool false)) w) := by
      refine Lib.hid ⟨rfl, Only.refl _ _, ?_⟩
      unfold levelP; rw [hs, if_neg (by simp)]; exact h
    have HS := Lib.hid hs
    clear h hs
    go_enter Tryd.func69, Tryd.ntmps69
    go_wp2_with fail
    (with_reducible refine (isSource_any _ _).mono ?_)
    rintro e w' ⟨rfl, rfl⟩
    rw [HS.out]
    go_wp2
    go_ret
    exact HE.out
  | true =>
    obtain ⟨k, rfl, hk1, hk2⟩ := isS_nat hs
    have HS := Lib.hid hs
    have HL : Hid (levelP t (k : Int) u = lookP (upP t k u) k) := by
      refine Lib.hid ?_
      unfold levelP; rw [hs, if_pos rfl]; rfl
    have c0 := h.up_
    have f0 := h.free 4
    have HN : Hid (ProgP fr (w.drew.setCell ⟨b, 4, none⟩ (.int .u32 (bits32 (upd t.up k u)))) b (upP t k u)) := Lib.hid (ProgP.setUp (w := w.drew) ⟨h.1, h.2⟩ hk1 u)
    have HO : Hid (Only (fun i => i = b) w (w.drew.setCell ⟨b, 4, none⟩ (.int .u32 (bits32 (upd t.up k u))))) := Lib.hid (Only.setCell ((Only.refl (fun i => i = b) w).drewN 1) (p := ⟨b, 4, none⟩) (.inl rfl) _)
    have H1 := Lib.hid (one_shl hk2)
    have H2 := Lib.hid (set32 t.up hk2)
    have H3 := Lib.hid (clr32 t.up hk2)
    clear h hs
    rw [HL.out]
    cases u <;>
    · go_enter Tryd.func69, Tryd.ntmps69
      go_wp2_with fail
      (with_reducible refine (isSource_any _ _).mono ?_)
      rintro e w' ⟨rfl, rfl⟩
      rw [HS.out]
      go_wp2_with fail
      go_still_tail 9, (by kernel_rfl)
      change wpList _ _ _ _ _ w.drew
      have d1 : w.drew.frozen? ⟨b, 4, none⟩ = false := f0
      have d0 : w.drew.cell? ⟨b, 4, none⟩ = some (.int .u32 (bits32 t.up)) := c0
      generalize w.drew = wd at *
      have e1 := H1.out
      have e2 := H2.out
      have e3 := H3.out
      go_wp2_with fail
      clear e1 e2 e3
      (with_reducible refine (look_any _ b _ HN.out k hk1 hk2).mono ?_)
      rintro e w' ⟨hu, ho, hp⟩
      obtain ⟨v, rfl⟩ := hu
      have HO2 := Lib.hid (HO.out.trans ho)
      have HP := Lib.hid hp
      clear ho hp
      go_wp2
      go_ret
      exact ⟨rfl, HO2.out, HP.out⟩
theorem setPriority_no (w : World) (b : Nat) (i v : Int) (hi : isS i = false) : Calls Tryd.prog 66 #[.pointer (some ⟨b, 4, none⟩), .int .i64 i, .int .u64 v] w fun e w' => (∃ u, e = .returned u) ∧ w = w' := by
  have HI := Lib.hid hi
  clear hi
  go_enter Tryd.func66, Tryd.ntmps66
  go_wp2_with fail
  (with_reducible refine (isSource_any _ _).mono ?_)
  rintro e w' ⟨rfl, rfl⟩
  rw [HI.out]
  go_wp2
  go_end0
  exact ⟨⟨_, rfl⟩, rfl⟩
set_option maxHeartbeats 1000000 in
theorem setPriority_yes (w : World) (b : Nat) (t : PS) (h : ProgP fr w b t) (k : Nat) (h1 : 1 ≤ k) (h2 : k < 32) (v : Int) (hv : In64 v) :
    Calls Tryd.prog 66 #[.pointer (some ⟨b, 4, none⟩), .int .i64 k, .int .u64 v] w (SetQ fr w b (prioT t k (v % 8))) := by
  have HI : Hid (isS (k : Int) = true) := Lib.hid (by unfold isS; rw [decide_eq_true (by omega)])
  have HV := Lib.hid hv
  have h8 := low3 hv
  have hr1 := Int.emod_nonneg v (show (8 : Int) ≠ 0 by decide)
  have hr2 := Int.emod_lt_of_pos v (show (0 : Int) < 8 by decide)
  have HN : Hid (∀ n, ProgP fr ((w.drewN n).setCell ⟨b, 7 + k, none⟩ (.int .u8 (v % 8))) b (prioT t k (v % 8))) := Lib.hid fun n => ProgP.setPrio (w := w.drewN n) ⟨h.1, h.2⟩ h1 h2 hr1 hr2
  have HO : Hid (∀ n, Only (fun i => i = b) w ((w.drewN n).setCell ⟨b, 7 + k, none⟩ (.int .u8 (v % 8)))) := Lib.hid fun n => Only.setCell ((Only.refl (fun i => i = b) w).drewN n) (p := ⟨b, 7 + k, none⟩) (.inl rfl) _
  have H8 := Lib.hid (wrap_u8 hr1 hr2)
  have ff := h.free (7 + k)
  have cc := h.prio_ h2
  have i1 : (k : Int) < 32 := by omega
  have HL := Lib.hid h8
  clear h hv h8 hr1 hr2
  go_enter Tryd.func66, Tryd.ntmps66
  go_wp2_with fail
  (with_reducible refine (isSource_any _ _).mono ?_)
  rintro e w' ⟨rfl, rfl⟩
  rw [HI.out]
  go_wp2_with fail
  go_region_with (go_at_call 67; refine (field_any _ _ _ HV.out _).mono ?_; rintro e w' ⟨rfl, q, rfl⟩; rw [HL.out]; have e8 := H8.out; have f8 : (w.drew.drewN q).frozen? ⟨b, 7 + k, none⟩ = false := ff; have g8 : (w.drew.drewN q).cell? ⟨b, 7 + k, none⟩ = some (.int .u8 (t.prio k)) := cc)
  go_end0
  exact ⟨⟨_, rfl⟩, HO.out _, HN.out _⟩
set_option maxHeartbeats 1000000 in
theorem complete_any (w : World) (b : Nat) (t : PS) (h : ProgP fr w b t) (c : Nat) (hc : c < 2) (x : Nat) :
    Calls Tryd.prog 68 #[.pointer (some ⟨b, 4, none⟩), .int .i64 c, .int .i64 x] w (SetQ fr w b (doneT t c x)) := by
  have con := h.on_ hc
  have cbu := h.busy_
  have fbu := h.free 6
  have H := Lib.hid h
  have i1 : (c : Int) < 2 := by omega
  have hand := both32 (fun s => t.on s c) t.busy
  by_cases hx : x < 32
  · obtain ⟨u, hu⟩ : ∃ u, (t.on x c && t.busy x) = u := ⟨_, rfl⟩
    have HU := Lib.hid hu
    cases u with
    | false =>
      have HE : Hid (doneT t c x = t) := Lib.hid (by
        unfold doneT mayB
        rw [if_neg]
        rw [Bool.and_assoc, hu]; simp)
      rw [HE.out]
      clear hu h
      go_enter Tryd.func68, Tryd.ntmps68
      go_wp2_with fail
      go_quiet ((go_at_call 54; exact Calls.quiet_of_same ((bitQ (fun s => t.on s c && t.busy s) x hx false HU.out _).mono fun e w' h => ⟨h.1, h.2.symm⟩)))
      go_wp2
      go_end0
      exact ⟨⟨_, rfl⟩, (Only.refl _ _).drewN _, H.out⟩
    | true =>
      have hx1 : 1 ≤ x := by
        rcases Nat.eq_zero_or_pos x with rfl | h0
        · rw [h.2.on0] at hu; cases hu
        · exact h0
      have HE : Hid (doneT t c x = lookP (idleP t x) x) := Lib.hid (by
        unfold doneT mayB
        rw [Bool.and_assoc, hu, if_pos]
        simp; omega)
      rw [HE.out]
      have H1 := Lib.hid (one_shl hx)
      have H2 := Lib.hid (clr32 t.busy hx)
      clear hu h
      go_enter Tryd.func68, Tryd.ntmps68
      go_wp2_with fail
      go_quiet ((go_at_call 54; exact Calls.quiet_of_same ((bitQ (fun s => t.on s c && t.busy s) x hx true HU.out _).mono fun e w' h => ⟨h.1, h.2.symm⟩)))
      have dbu : (w.drewN nq).cell? ⟨b, 6, none⟩ = some (.int .u32 (bits32 t.busy)) := cbu
      have dfu : (w.drewN nq).frozen? ⟨b, 6, none⟩ = false := fbu
      have HQ : Hid (ProgP fr (w.drewN nq) b t) := Lib.hid H.out
      have HW : Hid (Only (fun i => i = b) w (w.drewN nq)) := Lib.hid ((Only.refl _ _).drewN nq)
      generalize w.drewN nq = wq at *
      go_wp2_with fail
      go_still_tail 9, (by kernel_rfl)
      have HN : Hid (ProgP fr (wq.drew.setCell ⟨b, 6, none⟩ (.int .u32 (bits32 (upd t.busy x false)))) b (idleP t x)) := Lib.hid (ProgP.setBusy (w := wq.drew) HQ.out _)
      have HO : Hid (Only (fun i => i = b) w (wq.drew.setCell ⟨b, 6, none⟩ (.int .u32 (bits32 (upd t.busy x false))))) := Lib.hid (Only.setCell (HW.out.drewN 1) (p := ⟨b, 6, none⟩) (.inl rfl) _)
      change wpList _ _ _ _ _ wq.drew
      have d1 : wq.drew.frozen? ⟨b, 6, none⟩ = false := dfu
      have d0 : wq.drew.cell? ⟨b, 6, none⟩ = some (.int .u32 (bits32 t.busy)) := dbu
      generalize wq.drew = wd at *
      have e1 := H1.out
      have e2 := H2.out
      clear hand
      go_wp2_with fail
      clear e1 e2
      (with_reducible refine (look_any _ b _ HN.out x hx1 hx).mono ?_)
      rintro e w' ⟨hu, ho, hp⟩
      obtain ⟨v, rfl⟩ := hu
      have HO2 := Lib.hid (HO.out.trans ho)
      have HP := Lib.hid hp
      clear ho hp
      go_wp2
      go_end0
      exact ⟨⟨_, rfl⟩, HO2.out, HP.out⟩
  · have HE : Hid (doneT t c x = t) := Lib.hid (by
      unfold doneT mayB
      rw [decide_eq_false (show ¬ x ≤ 31 by omega), if_neg (by simp)])
    rw [HE.out]
    have HX : Hid (¬ (0 ≤ (x : Int) ∧ (x : Int) < 32)) := Lib.hid (by omega)
    clear h
    go_enter Tryd.func68, Tryd.ntmps68
    go_wp2_with fail
    go_quiet ((go_at_call 54; exact Calls.quiet_of_same ((bitQ_out (fun s => t.on s c && t.busy s) x HX.out _).mono fun e w' h => ⟨h.1, h.2.symm⟩)))
    go_wp2
    go_end0
    exact ⟨⟨_, rfl⟩, (Only.refl _ _).drewN _, H.out⟩
set_option maxHeartbeats 2000000 in
theorem claim_any (w : World) (b : Nat) (t : PS) (h : ProgP fr w b t) (c : Int) (k : Nat) (hk : bestC t c = k) :
    Calls Tryd.prog 65 #[.pointer (some ⟨b, 4, none⟩), .int .i64 c] w (ProgEnd fr w b (.int .i64 k) (claimed t k)) := by
  have hle := bestC_le t c
  have hbest := fun w' => best_any w' t h.2 c
  rw [hk] at hbest
  unfold progPV at hbest
  have HBEST := Lib.hid hbest
  have HROW : Hid (w.rangeAt b 4 (varr 39 (cellQ t)).toList) := Lib.hid (fr.range h.1)
  have HSZ : Hid ((varr 39 (cellQ t)).size = 39) := Lib.hid (varr_size _ _)
  have H := Lib.hid h
  rw [hk] at hle
  clear h hk hbest
  generalize varr 39 (cellQ t) = row at *
  go_enter Tryd.func65, Tryd.ntmps65
  go_wp2_with (refine wpList_load_fr rfl _ _ rfl b 4 rfl _ _ HROW.out Tryd.underlying59 rfl ?_ ?_; · exact size_progP.trans (by rw [HSZ.out]))
  refine (HBEST.out _).mono ?_
  rintro e w2 ⟨rfl, hb⟩
  have HB2 := Lib.hid hb
  have HP := Lib.hid (H.out.below hb)
  clear hb HROW HSZ HBEST H
  by_cases k0 : k = 0
  · subst k0
    have HC : Hid (claimed t 0 = t) := Lib.hid (by unfold claimed; rw [if_pos rfl])
    rw [HC.out]
    go_wp2
    go_ret
    exact ⟨rfl, Only.of_below _ HB2.out, HP.out⟩
  · have hk : (0 : Int) < (k : Int) := by omega
    have hk1 : 1 ≤ k := by omega
    have hk32 : k < 32 := by omega
    have HC : Hid (claimed t k = claimP t k) := Lib.hid (by unfold claimed; rw [if_neg k0])
    rw [HC.out]
    have c1 := HP.out.pend_
    have f1 := HP.out.free 5
    have H1 := Lib.hid (one_shl hk32)
    have H2 := Lib.hid (clr32 t.pend hk32)
    have H3 := Lib.hid (set32 t.busy hk32)
    clear k0
    go_wp2_with fail
    go_still_tail 9, (by kernel_rfl)
    change wpList _ _ _ _ _ w2.drew
    have HPD : Hid (ProgP fr w2.drew b t) := Lib.hid HP.out
    have HBD : Hid (Below w.heap.size w w2.drew) := Lib.hid HB2.out.drew
    have d0 : w2.drew.cell? ⟨b, 5, none⟩ = some (.int .u32 (bits32 t.pend)) := c1
    have d1 : w2.drew.frozen? ⟨b, 5, none⟩ = false := f1
    clear c1 f1
    generalize w2.drew = w3 at *
    have HN : Hid (ProgP fr (w3.setCell ⟨b, 5, none⟩ (.int .u32 (bits32 (upd t.pend k false)))) b (unpendP t k)) := Lib.hid (HPD.out.setPend _ (upd0 HPD.out.2.pend0 hk1 false))
    have HO : Hid (Only (fun i => i = b) w (w3.setCell ⟨b, 5, none⟩ (.int .u32 (bits32 (upd t.pend k false))))) := Lib.hid ((Only.of_below (fun i => i = b) HBD.out).setCell (p := ⟨b, 5, none⟩) (.inl rfl) _)
    have e1 := H1.out
    have e2 := H2.out
    go_wp2_with fail
    clear e1 e2 d0 d1
    generalize w3.setCell ⟨b, 5, none⟩ (.int .u32 (bits32 (upd t.pend k false))) = w4 at *
    have d2 : w4.cell? ⟨b, 6, none⟩ = some (.int .u32 (bits32 t.busy)) := HN.out.busy_
    have f2 := HN.out.free 6
    go_still_tail 9, (by kernel_rfl)
    change wpList _ _ _ _ _ w4.drew
    have HND : Hid (ProgP fr w4.drew b (unpendP t k)) := Lib.hid HN.out
    have HOD : Hid (Only (fun i => i = b) w w4.drew) := Lib.hid (HO.out.drewN 1)
    have g2 : w4.drew.cell? ⟨b, 6, none⟩ = some (.int .u32 (bits32 t.busy)) := d2
    have g3 : w4.drew.frozen? ⟨b, 6, none⟩ = false := f2
    clear d2 f2
    generalize w4.drew = w5 at *
    have HN2 : Hid (ProgP fr (w5.setCell ⟨b, 6, none⟩ (.int .u32 (bits32 (upd t.busy k true)))) b (claimP t k)) := Lib.hid (HND.out.setBusy (upd t.busy k true))
    have HO2 : Hid (Only (fun i => i = b) w (w5.setCell ⟨b, 6, none⟩ (.int .u32 (bits32 (upd t.busy k true))))) := Lib.hid (HOD.out.setCell (p := ⟨b, 6, none⟩) (.inl rfl) _)
    have e1 := H1.out
    have e3 := H3.out
    go_wp2
    go_ret
    exact ⟨rfl, HO2.out, by rw [HC.out]; exact HN2.out⟩
theorem read_len (w : World) (b : Nat) (t : PS) (h : ProgP fr w b t) (off n : Int) (hn : ¬ n = 4) : Calls Tryd.prog 46 #[.pointer (some ⟨b, 4, none⟩), .int .u64 off, .int .i64 n] w (ProgEnd fr w b (.tuple #[.int .u64 0, .bool false]) t) := by
  have HN := Lib.hid hn
  have H := Lib.hid h
  clear hn h
  go_enter Tryd.func46, Tryd.ntmps46
  go_wp2_with fail
  refine (find_len _ off n HN.out).mono ?_
  rintro e w2 ⟨rfl, hb⟩
  have HB := Lib.hid hb
  clear hb
  go_wp2
  go_ret2
  exact ⟨rfl, Only.of_below _ HB.out, H.out.below HB.out⟩
theorem read_no (w : World) (b : Nat) (t : PS) (h : ProgP fr w b t) (ht : Tab w) (off : Int) (hn : NoPlic off) (ho : In64 off) : Calls Tryd.prog 46 #[.pointer (some ⟨b, 4, none⟩), .int .u64 off, .int .i64 4] w (ProgEnd fr w b (.tuple #[.int .u64 0, .bool false]) t) := by
  have HF := Lib.hid (find_is w off ht _ _ _ (findQ_no hn ho))
  have H := Lib.hid h
  clear hn h ho ht
  go_enter Tryd.func46, Tryd.ntmps46
  go_wp2_with fail
  (with_reducible refine (HF.out).mono ?_)
  rintro e w2 ⟨rfl, hb⟩
  have HB := Lib.hid hb
  clear hb
  go_wp2
  go_ret2
  exact ⟨rfl, Only.of_below _ HB.out, H.out.below HB.out⟩
theorem read_prio (w : World) (b : Nat) (t : PS) (h : ProgP fr w b t) (ht : Tab w) (k : Nat) (hk : k < 32) (off : Int) (ho : off = 4 * (k : Int)) : Calls Tryd.prog 46 #[.pointer (some ⟨b, 4, none⟩), .int .u64 off, .int .i64 4] w (ProgEnd fr w b (.tuple #[.int .u64 (t.prio k), .bool true]) t) := by
  have HF := Lib.hid (find_is w off ht 0 (k : Int) true (by rw [ho]; exact findQ_prio hk))
  have H := Lib.hid h
  have hw := wrap_u64s (h.2.pr k).1 (by have := (h.2.pr k).2; omega)
  have i1 : (k : Int) < 32 := by omega
  clear h ht ho
  go_enter Tryd.func46, Tryd.ntmps46
  go_wp2_with fail
  (with_reducible refine (HF.out).mono ?_)
  rintro e w2 ⟨rfl, hb⟩
  have HB := Lib.hid hb
  have c0 := (H.out.below hb).prio_ hk
  clear hb
  go_wp2
  go_ret2
  exact ⟨rfl, Only.of_below _ HB.out, H.out.below HB.out⟩
theorem read_pend (w : World) (b : Nat) (t : PS) (h : ProgP fr w b t) (ht : Tab w) : Calls Tryd.prog 46 #[.pointer (some ⟨b, 4, none⟩), .int .u64 4096, .int .i64 4] w (ProgEnd fr w b (.tuple #[.int .u64 (bits32 t.pend), .bool true]) t) := by
  have HF := Lib.hid (find_is w 4096 ht 1 0 true (by decide))
  have H := Lib.hid h
  have hw := wrap_u64s (bits32_bd t.pend).1 (bits32_bd t.pend).2
  clear h ht
  go_enter Tryd.func46, Tryd.ntmps46
  go_wp2_with fail
  (with_reducible refine (HF.out).mono ?_)
  rintro e w2 ⟨rfl, hb⟩
  have HB := Lib.hid hb
  have c0 := (H.out.below hb).pend_
  clear hb
  go_wp2
  go_ret2
  exact ⟨rfl, Only.of_below _ HB.out, H.out.below HB.out⟩
theorem read_on (w : World) (b : Nat) (t : PS) (h : ProgP fr w b t) (ht : Tab w) (c : Nat) (hc : c < 2) (off : Int) (hf : findQ off = (2, (c : Int), true)) : Calls Tryd.prog 46 #[.pointer (some ⟨b, 4, none⟩), .int .u64 off, .int .i64 4] w (ProgEnd fr w b (.tuple #[.int .u64 (bits32 fun s => t.on s c), .bool true]) t) := by
  have HF := Lib.hid (find_is w off ht _ _ _ hf)
  have H := Lib.hid h
  have hw := wrap_u64s (bits32_bd fun s => t.on s c).1 (bits32_bd fun s => t.on s c).2
  have i1 : (c : Int) < 2 := by omega
  clear h ht hf
  go_enter Tryd.func46, Tryd.ntmps46
  go_wp2_with fail
  (with_reducible refine (HF.out).mono ?_)
  rintro e w2 ⟨rfl, hb⟩
  have HB := Lib.hid hb
  have c0 := (H.out.below hb).on_ hc
  clear hb
  go_wp2
  go_ret2
  exact ⟨rfl, Only.of_below _ HB.out, H.out.below HB.out⟩
theorem read_floor (w : World) (b : Nat) (t : PS) (h : ProgP fr w b t) (ht : Tab w) (c : Nat) (hc : c < 2) (off : Int) (hf : findQ off = (3, (c : Int), true)) : Calls Tryd.prog 46 #[.pointer (some ⟨b, 4, none⟩), .int .u64 off, .int .i64 4] w (ProgEnd fr w b (.tuple #[.int .u64 (t.floor c), .bool true]) t) := by
  have HF := Lib.hid (find_is w off ht _ _ _ hf)
  have H := Lib.hid h
  have hw := wrap_u64s (h.2.fl c).1 (by have := (h.2.fl c).2; omega)
  have i1 : (c : Int) < 2 := by omega
  clear h ht hf
  go_enter Tryd.func46, Tryd.ntmps46
  go_wp2_with fail
  (with_reducible refine (HF.out).mono ?_)
  rintro e w2 ⟨rfl, hb⟩
  have HB := Lib.hid hb
  have c0 := (H.out.below hb).floor_ hc
  clear hb
  go_wp2
  go_ret2
  exact ⟨rfl, Only.of_below _ HB.out, H.out.below HB.out⟩
theorem read_claim (w : World) (b : Nat) (t : PS) (h : ProgP fr w b t) (ht : Tab w) (c : Nat) (hc : c < 2) (off : Int) (hf : findQ off = (4, (c : Int), true)) : Calls Tryd.prog 46 #[.pointer (some ⟨b, 4, none⟩), .int .u64 off, .int .i64 4] w (ProgEnd fr w b (.tuple #[.int .u64 (bestC t c), .bool true]) (claimed t (bestC t c))) := by
  have HF := Lib.hid (find_is w off ht _ _ _ hf)
  have H := Lib.hid h
  have hle := bestC_le t c
  have HCL : Hid (∀ w2, ProgP fr w2 b t → Calls Tryd.prog 65 #[.pointer (some ⟨b, 4, none⟩), .int .i64 c] w2 (ProgEnd fr w2 b (.int .i64 (bestC t c)) (claimed t (bestC t c)))) := Lib.hid fun w2 h2 => claim_any w2 b t h2 c _ rfl
  generalize bestC t (c : Int) = k at *
  have hw : IntKind.u64.wrap (k : Int) = k := wrap_u64s (by omega) (by omega)
  clear h ht hf
  go_enter Tryd.func46, Tryd.ntmps46
  go_wp2_with fail
  (with_reducible refine (HF.out).mono ?_)
  rintro e w2 ⟨rfl, hb⟩
  have HB := Lib.hid hb
  clear hb
  go_wp2_with fail
  (with_reducible refine (HCL.out _ (H.out.below HB.out)).mono ?_)
  rintro e w3 ⟨rfl, ho, hp⟩
  have HO := Lib.hid ((Only.of_below _ HB.out).trans ho)
  have HP := Lib.hid hp
  clear ho hp
  go_wp2
  go_ret2
  exact ⟨rfl, HO.out, HP.out⟩
theorem read_any (w : World) (b : Nat) (t : PS) (h : ProgP fr w b t) (ht : Tab w) (off n : Int) (ho : In64 off) :
    Calls Tryd.prog 46 #[.pointer (some ⟨b, 4, none⟩), .int .u64 off, .int .i64 n] w (ProgEnd fr w b (.tuple #[.int .u64 (rdX t (plcK off n)), .bool (okP (plcK off n))]) (rdT t (plcK off n))) := by
  rcases plc_cases off n ho.1 with ⟨rfl, k, hk, hk4, hp⟩ | ⟨rfl, rfl, hp⟩ | ⟨rfl, rfl, hp⟩ | ⟨rfl, rfl, hp⟩ | ⟨rfl, rfl, hp⟩ | ⟨rfl, rfl, hp⟩ | ⟨rfl, rfl, hp⟩ | ⟨rfl, rfl, hp⟩ | ⟨rfl, hn, hp⟩ | ⟨hn, hp⟩
  all_goals rw [hp]
  · exact read_prio w b t h ht k hk off hk4
  · exact read_pend w b t h ht
  · exact read_on w b t h ht 0 (by omega) _ (by decide)
  · exact read_on w b t h ht 1 (by omega) _ (by decide)
  · exact read_floor w b t h ht 0 (by omega) _ (by decide)
  · exact read_floor w b t h ht 1 (by omega) _ (by decide)
  · exact read_claim w b t h ht 0 (by omega) _ (by decide)
  · exact read_claim w b t h ht 1 (by omega) _ (by decide)
  · exact read_no w b t h ht off hn ho
  · exact read_len w b t h off n hn
theorem write_len (w : World) (b : Nat) (t : PS) (h : ProgP fr w b t) (off n v : Int) (hn : ¬ n = 4) : Calls Tryd.prog 47 #[.pointer (some ⟨b, 4, none⟩), .int .u64 off, .int .i64 n, .int .u64 v] w (ProgEnd fr w b (.bool false) t) := by
  have HN := Lib.hid hn
  have H := Lib.hid h
  clear hn h
  go_enter Tryd.func47, Tryd.ntmps47
  go_wp2_with fail
  refine (find_len _ off n HN.out).mono ?_
  rintro e w2 ⟨rfl, hb⟩
  have HB := Lib.hid hb
  clear hb
  go_wp2
  go_ret
  exact ⟨rfl, Only.of_below _ HB.out, H.out.below HB.out⟩
theorem write_no (w : World) (b : Nat) (t : PS) (h : ProgP fr w b t) (ht : Tab w) (off v : Int) (hn : NoPlic off) (ho : In64 off) : Calls Tryd.prog 47 #[.pointer (some ⟨b, 4, none⟩), .int .u64 off, .int .i64 4, .int .u64 v] w (ProgEnd fr w b (.bool false) t) := by
  have HF := Lib.hid (find_is w off ht _ _ _ (findQ_no hn ho))
  have H := Lib.hid h
  clear hn h ho ht
  go_enter Tryd.func47, Tryd.ntmps47
  go_wp2_with fail
  (with_reducible refine (HF.out).mono ?_)
  rintro e w2 ⟨rfl, hb⟩
  have HB := Lib.hid hb
  clear hb
  go_wp2
  go_ret
  exact ⟨rfl, Only.of_below _ HB.out, H.out.below HB.out⟩
theorem write_pend (w : World) (b : Nat) (t : PS) (h : ProgP fr w b t) (ht : Tab w) (v : Int) : Calls Tryd.prog 47 #[.pointer (some ⟨b, 4, none⟩), .int .u64 4096, .int .i64 4, .int .u64 v] w (ProgEnd fr w b (.bool true) t) := by
  have HF := Lib.hid (find_is w 4096 ht 1 0 true (by decide))
  have H := Lib.hid h
  clear h ht
  go_enter Tryd.func47, Tryd.ntmps47
  go_wp2_with fail
  (with_reducible refine (HF.out).mono ?_)
  rintro e w2 ⟨rfl, hb⟩
  have HB := Lib.hid hb
  clear hb
  go_wp2
  go_ret
  exact ⟨rfl, Only.of_below _ HB.out, H.out.below HB.out⟩
theorem write_prio0 (w : World) (b : Nat) (t : PS) (h : ProgP fr w b t) (ht : Tab w) (v : Int) : Calls Tryd.prog 47 #[.pointer (some ⟨b, 4, none⟩), .int .u64 0, .int .i64 4, .int .u64 v] w (ProgEnd fr w b (.bool true) t) := by
  have HF := Lib.hid (find_is w 0 ht 0 0 true (by decide))
  have H := Lib.hid h
  clear h ht
  go_enter Tryd.func47, Tryd.ntmps47
  go_wp2_with fail
  (with_reducible refine (HF.out).mono ?_)
  rintro e w2 ⟨rfl, hb⟩
  have HB := Lib.hid hb
  clear hb
  go_wp2_with fail
  (with_reducible refine (setPriority_no _ _ _ _ (by decide)).mono ?_)
  rintro e w3 ⟨hu, rfl⟩
  obtain ⟨u, rfl⟩ := hu
  go_wp2
  go_ret
  exact ⟨rfl, Only.of_below _ HB.out, H.out.below HB.out⟩
theorem write_prio (w : World) (b : Nat) (t : PS) (h : ProgP fr w b t) (ht : Tab w) (k : Nat) (hk1 : 1 ≤ k) (hk : k < 32) (off v : Int) (ho : off = 4 * (k : Int)) (hv : In64 v) : Calls Tryd.prog 47 #[.pointer (some ⟨b, 4, none⟩), .int .u64 off, .int .i64 4, .int .u64 v] w (ProgEnd fr w b (.bool true) (prioT t k (v % 8))) := by
  have HF := Lib.hid (find_is w off ht 0 (k : Int) true (by rw [ho]; exact findQ_prio hk))
  have H := Lib.hid h
  have HV := Lib.hid hv
  clear h ht ho hv
  go_enter Tryd.func47, Tryd.ntmps47
  go_wp2_with fail
  (with_reducible refine (HF.out).mono ?_)
  rintro e w2 ⟨rfl, hb⟩
  have HB := Lib.hid hb
  have HP := Lib.hid (H.out.below hb)
  clear hb
  go_wp2_with fail
  (with_reducible refine (setPriority_yes _ b t HP.out k hk1 hk v HV.out).mono ?_)
  rintro e w3 ⟨hu, ho, hp⟩
  obtain ⟨u, rfl⟩ := hu
  have HO := Lib.hid ((Only.of_below _ HB.out).trans ho)
  have HP3 := Lib.hid hp
  clear ho hp
  go_wp2
  go_ret
  exact ⟨rfl, HO.out, HP3.out⟩
theorem write_on (w : World) (b : Nat) (t : PS) (h : ProgP fr w b t) (ht : Tab w) (c : Nat) (hc : c < 2) (off v : Int) (hf : findQ off = (2, (c : Int), true)) (hv : In64 v) : Calls Tryd.prog 47 #[.pointer (some ⟨b, 4, none⟩), .int .u64 off, .int .i64 4, .int .u64 v] w (ProgEnd fr w b (.bool true) (onT t c (onBits v))) := by
  have HF := Lib.hid (find_is w off ht _ _ _ hf)
  have H := Lib.hid h
  have hw : IntKind.u32.wrap v = v % 4294967296 := by rw [IntKind.wrap_u32]
  have hn1 := not1_32 hv.1
  have H1 := Lib.hid hw
  have H2 := Lib.hid hn1
  have i1 : (c : Int) < 2 := by omega
  clear h ht hf hv hw hn1
  go_enter Tryd.func47, Tryd.ntmps47
  go_wp2_with fail
  (with_reducible refine (HF.out).mono ?_)
  rintro e w2 ⟨rfl, hb⟩
  have HB := Lib.hid hb
  have HP := H.out.below hb
  have c0 := HP.on_ hc
  have f0 := HP.free (39 + c)
  have HP2 := Lib.hid (HP.setOn hc (onBits v) (by unfold onBits; rfl))
  have HO : Hid (Only (fun i => i = b) w (w2.setCell ⟨b, 39 + c, none⟩ (.int .u32 (bits32 (onBits v))))) := Lib.hid ((Only.of_below (fun i => i = b) HB.out).setCell (p := ⟨b, 39 + c, none⟩) (.inl rfl) _)
  have e1 := H1.out
  have e2 := H2.out
  clear hb HP
  go_wp2
  go_ret
  exact ⟨rfl, HO.out, HP2.out⟩
set_option maxHeartbeats 1000000 in
theorem write_floor (w : World) (b : Nat) (t : PS) (h : ProgP fr w b t) (ht : Tab w) (c : Nat) (hc : c < 2) (off v : Int) (hf : findQ off = (3, (c : Int), true)) (hv : In64 v) : Calls Tryd.prog 47 #[.pointer (some ⟨b, 4, none⟩), .int .u64 off, .int .i64 4, .int .u64 v] w (ProgEnd fr w b (.bool true) (floorT t c (v % 8))) := by
  have HF := Lib.hid (find_is w off ht _ _ _ hf)
  have H := Lib.hid h
  have HV := Lib.hid hv
  have HL := Lib.hid (low3 hv)
  have hr1 := Int.emod_nonneg v (show (8 : Int) ≠ 0 by decide)
  have hr2 := Int.emod_lt_of_pos v (show (0 : Int) < 8 by decide)
  have H8 := Lib.hid (wrap_u8 hr1 hr2)
  have HR : Hid (0 ≤ v % 8 ∧ v % 8 < 8) := Lib.hid ⟨hr1, hr2⟩
  have i1 : (c : Int) < 2 := by omega
  clear h ht hf hv hr1 hr2
  go_enter Tryd.func47, Tryd.ntmps47
  go_wp2_with fail
  (with_reducible refine (HF.out).mono ?_)
  rintro e w2 ⟨rfl, hb⟩
  have HB := Lib.hid hb
  have HP := H.out.below hb
  have cc := HP.floor_ hc
  have ff := HP.free (41 + c)
  have HN : Hid (∀ n, ProgP fr ((w2.drewN n).setCell ⟨b, 41 + c, none⟩ (.int .u8 (v % 8))) b (floorT t c (v % 8))) := Lib.hid fun n => ProgP.setFloor (w := w2.drewN n) ⟨HP.1, HP.2⟩ hc HR.out.1 HR.out.2
  have HO : Hid (∀ n, Only (fun i => i = b) w ((w2.drewN n).setCell ⟨b, 41 + c, none⟩ (.int .u8 (v % 8)))) := Lib.hid fun n => Only.setCell ((Only.of_below (fun i => i = b) HB.out).drewN n) (p := ⟨b, 41 + c, none⟩) (.inl rfl) _
  clear hb HP
  go_wp2_with fail
  go_region_with (go_at_call 67; refine (field_any _ _ _ HV.out _).mono ?_; rintro e w' ⟨rfl, q, rfl⟩; rw [HL.out]; have e8 := H8.out; have f8 : (w2.drew.drewN q).frozen? ⟨b, 41 + c, none⟩ = false := ff; have g8 : (w2.drew.drewN q).cell? ⟨b, 41 + c, none⟩ = some (.int .u8 (t.floor c)) := cc)
  go_wp2
  go_ret
  exact ⟨rfl, HO.out _, HN.out _⟩
theorem write_done (w : World) (b : Nat) (t : PS) (h : ProgP fr w b t) (ht : Tab w) (c : Nat) (hc : c < 2) (off v : Int) (hf : findQ off = (4, (c : Int), true)) (hv : In64 v) : Calls Tryd.prog 47 #[.pointer (some ⟨b, 4, none⟩), .int .u64 off, .int .i64 4, .int .u64 v] w (ProgEnd fr w b (.bool true) (doneT t c (v % 4294967296).toNat)) := by
  have HF := Lib.hid (find_is w off ht _ _ _ hf)
  have H := Lib.hid h
  have hx1 := Int.emod_nonneg v (show (4294967296 : Int) ≠ 0 by decide)
  have hx2 := Int.emod_lt_of_pos v (show (0 : Int) < 4294967296 by decide)
  obtain ⟨x, hx⟩ : ∃ x : Nat, (v % 4294967296).toNat = x := ⟨_, rfl⟩
  have hvx : IntKind.u32.wrap v = (x : Int) := by rw [IntKind.wrap_u32]; omega
  have hwx : IntKind.i64.wrap (x : Int) = x := IntWalk.i64_in _ (by omega)
  rw [hx]
  clear h ht hf hv hx hx1 hx2
  go_enter Tryd.func47, Tryd.ntmps47
  go_wp2_with fail
  (with_reducible refine (HF.out).mono ?_)
  rintro e w2 ⟨rfl, hb⟩
  have HB := Lib.hid hb
  have HP := Lib.hid (H.out.below hb)
  clear hb
  go_wp2_with fail
  (with_reducible refine (complete_any _ b t HP.out c hc x).mono ?_)
  rintro e w3 ⟨hu, ho, hp⟩
  obtain ⟨u, rfl⟩ := hu
  have HO := Lib.hid ((Only.of_below _ HB.out).trans ho)
  have HP3 := Lib.hid hp
  clear ho hp
  go_wp2
  go_ret
  exact ⟨rfl, HO.out, HP3.out⟩
theorem write_any (w : World) (b : Nat) (t : PS) (h : ProgP fr w b t) (ht : Tab w) (off n v : Int) (ho : In64 off) (hv : In64 v) :
    Calls Tryd.prog 47 #[.pointer (some ⟨b, 4, none⟩), .int .u64 off, .int .i64 n, .int .u64 v] w (ProgEnd fr w b (.bool (okP (plcK off n))) (wrT t (plcK off n) v)) := by
  rcases plc_cases off n ho.1 with ⟨rfl, k, hk, hk4, hp⟩ | ⟨rfl, rfl, hp⟩ | ⟨rfl, rfl, hp⟩ | ⟨rfl, rfl, hp⟩ | ⟨rfl, rfl, hp⟩ | ⟨rfl, rfl, hp⟩ | ⟨rfl, rfl, hp⟩ | ⟨rfl, rfl, hp⟩ | ⟨rfl, hn, hp⟩ | ⟨hn, hp⟩
  all_goals rw [hp]
  · by_cases k0 : k = 0
    · subst k0
      obtain rfl : off = 0 := by omega
      exact write_prio0 w b t h ht v
    · rw [show wrT t (0, k) v = prioT t k (v % 8) from if_neg k0]
      exact write_prio w b t h ht k (by omega) hk off v hk4 hv
  · exact write_pend w b t h ht v
  · exact write_on w b t h ht 0 (by omega) _ v (by decide) hv
  · exact write_on w b t h ht 1 (by omega) _ v (by decide) hv
  · exact write_floor w b t h ht 0 (by omega) _ v (by decide) hv
  · exact write_floor w b t h ht 1 (by omega) _ v (by decide) hv
  · exact write_done w b t h ht 0 (by omega) _ v (by decide) hv
  · exact write_done w b t h ht 1 (by omega) _ v (by decide) hv
  · exact write_no w b t h ht off v hn ho
  · exact write_len w b t h off n v hn

end Go.Proofs.YtohidopbggcejaaDoor.P5.In

namespace Go.Proofs.YtohidopbggcejaaDoor.P5
open Go.ChangeShapes Go.WideShapes Go.ChangeAt Go.RowKit
set_option linter.unusedVariables false
set_option maxRecDepth 100000

/-- The one listed variable. -/
abbrev laidT : List (String × DataW Unit) := [("mezzanine/plic.groups", Rows.laid_mezzanine_plic_groups)]
theorem gGroups : Tryd.prog.globalNamed "mezzanine/plic.groups" = some 1 := by kernel_rfl
theorem tGroups : (Tryd.prog.globals[1]?).map (·.type) = some 120 := by kernel_rfl
theorem door_met (os : Os) (args : Array Value) : laidMetH Tryd.prog laidT ((World.doorLaid Tryd.prog 400 os).forCall (fun _ _ => 0) ⟨#[], args, []⟩).memory :=
  laidMetH_of_parts3 (fuel := 8) (laidMet_of_run' 8 (by kernel_rfl) (by kernel_rfl)) (by kernel_rfl) (by kernel_rfl)

section
variable {H : Type} {enc : TypeId × Value → H} {w : World} {base : Nat} {spare : Nat → Bool} {held : Bool}
/-- A row of the table, read as its four numbers, has these cells. -/
theorem group_cells {n : Nat} {cs : List Value} {x : DataW H × List MemPlace} {a b c d : Int}
    (h : DataW.trod enc Tryd.prog w base spare held n 119 cs = some x) (hx : x.1 = .agg [.lit (.int .i64 a), .lit (.int .u64 b), .lit (.int .u64 c), .lit (.int .u64 d)]) :
    cs = [.int .i64 a, .int .u64 b, .int .u64 c, .int .u64 d] := by
  obtain ⟨xs, m, _, rfl, hl, hlen, hf⟩ := DataW.trod_struct Tryd.underlying119 h
  have hC : Tryd.prog.cellsOf 119 = 4 := by kernel_rfl
  rw [hC] at hl
  match cs, hl with
  | [v0, v1, v2, v3], _ =>
    have t0 := hf 0 _ rfl
    have t1 := hf 1 _ rfl
    have t2 := hf 2 _ rfl
    have t3 := hf 3 _ rfl
    match xs, hlen with
    | [x0, x1, x2, x3], _ =>
      obtain ⟨n0, e0, y0, _⟩ := DataW.trod_int Tryd.underlying105 (show DataW.trod enc Tryd.prog w base spare held m 105 [v0] = some x0 from t0)
      obtain ⟨n1, e1, y1, _⟩ := DataW.trod_int Tryd.underlying28 (show DataW.trod enc Tryd.prog w base spare held m 28 [v1] = some x1 from t1)
      obtain ⟨n2, e2, y2, _⟩ := DataW.trod_int Tryd.underlying28 (show DataW.trod enc Tryd.prog w base spare held m 28 [v2] = some x2 from t2)
      obtain ⟨n3, e3, y3, _⟩ := DataW.trod_int Tryd.underlying28 (show DataW.trod enc Tryd.prog w base spare held m 28 [v3] = some x3 from t3)
      simp at e0 e1 e2 e3
      subst e0 e1 e2 e3 y0 y1 y2 y3
      simp at hx
      obtain ⟨rfl, rfl, rfl, rfl⟩ := hx
      rfl
end
theorem list20 {l a b c d e : List Value} (hl : l.length = 20) (h0 : l.take 4 = a) (h1 : (l.drop 4).take 4 = b) (h2 : (l.drop 8).take 4 = c) (h3 : (l.drop 12).take 4 = d) (h4 : (l.drop 16).take 4 = e) : l = a ++ b ++ c ++ d ++ e := by
  subst h0 h1 h2 h3 h4
  match l, hl with
  | [_, _, _, _, _, _, _, _, _, _, _, _, _, _, _, _, _, _, _, _], _ => rfl
/-- What the condition gives. -/
theorem tab_of_laid {W : World} (h : laidMetH Tryd.prog laidT W) : Tab W := by
  rw [MakeChecks.laidMetH_plain _ _ _ (by kernel_rfl)] at h
  obtain ⟨ps, ⟨g0, t0, cs0, f0, p0, q0, hg0, ht0, hv0, hd0, _⟩, _, _⟩ := h
  obtain rfl := Option.some.inj (gGroups.symm.trans hg0)
  obtain rfl := Option.some.inj (tGroups.symm.trans ht0)
  obtain ⟨xs, m, _, hx, hl, hn, hel⟩ := DataW.trod_array Tryd.underlying120 hd0
  have c68 : Tryd.prog.cellsOf 119 = 4 := by kernel_rfl
  have c69 : Tryd.prog.cellsOf 120 = 20 := by kernel_rfl
  rw [c69] at hl
  rw [c68] at hel
  simp only [Prod.mk.injEq] at hx
  match xs, hn with
  | [x0, x1, x2, x3, x4], _ =>
    have hx1 := hx.1
    unfold Rows.laid_mezzanine_plic_groups at hx1
    simp only [List.map_cons, List.map_nil, DataW.agg.injEq, List.cons.injEq] at hx1
    obtain ⟨e0, e1, e2, e3, e4, _⟩ := hx1
    have k0 := group_cells (hel 0 (by decide)) e0.symm
    have k1 := group_cells (hel 1 (by decide)) e1.symm
    have k2 := group_cells (hel 2 (by decide)) e2.symm
    have k3 := group_cells (hel 3 (by decide)) e3.symm
    have k4 := group_cells (hel 4 (by decide)) e4.symm
    have hcs := list20 hl k0 k1 k2 k3 k4
    simp only [World.var?, gGroups, Option.bind_some] at hv0
    split at hv0
    · rename_i c t fr hb
      have hc := Option.some.inj hv0
      have hq : cs0 = tabQ := Array.ext' (by rw [hcs]; rfl)
      exact ⟨t, fr, by rw [hb, hc, hq]⟩
    · cases hv0

end Go.Proofs.YtohidopbggcejaaDoor.P5
