/- Joined: Only Arr Fr Bv Bits ClA OfBits ClRef ClRef2 ClP ClFind ClFind2 ClWrite ClProg ClS PlA PlB PlC PlE PlF PlI PlK PlM PlN PlP PlQ PlR TakeD Drive PlS PlT -/
import Derived.WalkKit
import Derived.ProofKit
import Derived.WalkSmall
import Derived.Below
import Derived.Laws.Rows
import Derived.Laws.Tables
import Derived.Deep.MidRow
import Derived.Test.YtbcnkhfpogglmaaGreatDoorRows
import Derived.WalkLawsBesides
import Derived.BigQuiet
import Derived.Deep.QuietTactic
import Derived.Lib.Hide
import Derived.StillTailTactics
import Derived.Deep.RegionHeld3
import Derived.Laws.EntriesVeiled
import Derived.Laws.CopyOwn
import Derived.Deep.RegionWith
import Derived.Deep.RegionLaw
import Derived.Deep.LoopGhost
namespace Go.Proofs.YtbcnkhfpogglmaaGreatDoor
open Go.RowKit
set_option linter.unusedVariables false
set_option maxRecDepth 100000

/-- Of the blocks that were there only those of S may have turned. -/
structure Only (S : Nat → Prop) (w w' : World) : Prop where
  os : w'.os = w.os
  tape : w'.tape = w.tape
  output : w'.output = w.output
  size : w.heap.size ≤ w'.heap.size
  block : ∀ k, k < w.heap.size → ¬ S k → w'.heap[k]? = w.heap[k]?

theorem Only.refl (S : Nat → Prop) (w : World) : Only S w w := ⟨rfl, rfl, rfl, Nat.le_refl _, fun _ _ _ => rfl⟩
/-- Two steps: what the second one turns is S's, or new since the first. -/
theorem Only.step {S T : Nat → Prop} {a b c : World} (h : Only S a b) (k : Only T b c) (hT : ∀ i, T i → S i ∨ a.heap.size ≤ i) : Only S a c :=
  ⟨k.os.trans h.os, k.tape.trans h.tape, k.output.trans h.output, Nat.le_trans h.size k.size, fun i hi hs =>
    (k.block i (Nat.lt_of_lt_of_le hi h.size) (fun ht => by rcases hT i ht with h1 | h1; exact hs h1; omega)).trans (h.block i hi hs)⟩
theorem Only.trans {S : Nat → Prop} {a b c : World} (h : Only S a b) (k : Only S b c) : Only S a c := h.step k fun _ hi => .inl hi
theorem Only.mono {S T : Nat → Prop} {a b : World} (h : Only S a b) (hT : ∀ i, S i → T i ∨ a.heap.size ≤ i) : Only T a b := (Only.refl T a).step h hT
theorem Only.of_below {w w' : World} (S : Nat → Prop) (h : Below w.heap.size w w') : Only S w w' := ⟨h.os, h.tape, h.output, h.size, fun k hk _ => h.block k hk⟩
theorem Only.below {S : Nat → Prop} {w w' : World} {B : Nat} (h : Only S w w') (hS : ∀ k, S k → B ≤ k) (hB : B ≤ w.heap.size) : Below B w w' :=
  ⟨h.os, h.tape, h.output, h.size, fun k hk => h.block k (by omega) (fun hs => by have := hS k hs; omega)⟩
theorem Only.thenBelow {S : Nat → Prop} {a b c : World} (h : Only S a b) (k : Below b.heap.size b c) : Only S a c := h.trans (Only.of_below S k)
/-- A chain that began below: what an object's call turns is new since the chain began. -/
theorem Below.thenOnly {S : Nat → Prop} {a b c : World} {B : Nat} (h : Below B a b) (k : Only S b c) (hS : ∀ i, S i → B ≤ i) (hB : B ≤ b.heap.size) : Below B a c := h.trans (k.below hS hB)
theorem Only.drewN {S : Nat → Prop} {a w : World} (h : Only S a w) (n : Nat) : Only S a (w.drewN n) := ⟨h.os, h.tape, h.output, h.size, h.block⟩
theorem Only.alloc {S : Nat → Prop} {a w : World} (h : Only S a w) (o : Obj) : Only S a (w.alloc o) := h.thenBelow ((Below.refl _ _).alloc (Nat.le_refl _) o)
theorem Only.setCell {S : Nat → Prop} {a w : World} (h : Only S a w) {p : Addr} (hp : S p.block ∨ a.heap.size ≤ p.block) (u : Value) : Only S a (w.setCell p u) :=
  h.step (T := fun i => i = p.block) ⟨rfl, rfl, rfl, by simp [World.setCell], fun k _ hk => Below.heap_setCell _ _ _ _ hk⟩ (by rintro i rfl; exact hp)
theorem Only.setRow {S : Nat → Prop} {a w : World} (h : Only S a w) {g : Nat} (hg : S g ∨ a.heap.size ≤ g) (cs : Array Value) : Only S a (w.setRow g cs) :=
  h.step (T := fun i => i = g) ⟨rfl, rfl, rfl, by rw [size_setRow]; exact Nat.le_refl _, fun k _ hk => Go.setRow_other w g k cs hk⟩ (by rintro i rfl; exact hg)
theorem Only.grown {S : Nat → Prop} {a w w' : World} {row : Option Nat} (h : Only S a w) (hg : w.grownBy w' row) (hr : ∀ k, row = some k → S k ∨ a.heap.size ≤ k) : Only S a w' :=
  h.step (T := fun i => row = some i) ⟨hg.os, hg.tape, hg.output, hg.size, fun k hk hn => hg.block k hk (fun e => hn e.symm)⟩ hr

/-- What stands in a block that is none of S's stands there still. -/
theorem Only.keeps {S : Nat → Prop} {w w' : World} (h : Only S w w') {g : Nat} {o : Obj} (hs : ¬ S g) (hg : w.heap[g]? = some o) : w'.heap[g]? = some o :=
  (h.block g (Array.getElem?_eq_some_iff.1 hg).1 hs).trans hg

/-- The cells from the beginning of block g on read as vs. -/
def Lays (w : World) (g : Nat) (vs : List Value) : Prop := ∃ cur t fr, w.heap[g]? = some (.cells cur t fr) ∧ cur.toList.take vs.length = vs
theorem Lays.lt {w : World} {g : Nat} {vs : List Value} (h : Lays w g vs) : g < w.heap.size := by
  obtain ⟨cur, t, fr, h, _⟩ := h; exact (Array.getElem?_eq_some_iff.1 h).1
theorem Lays.keeps {S : Nat → Prop} {w w' : World} {g : Nat} {vs : List Value} (h : Lays w g vs) (k : Only S w w') (hs : ¬ S g) : Lays w' g vs := by
  obtain ⟨cur, t, fr, h1, h2⟩ := h; exact ⟨cur, t, fr, k.keeps hs h1, h2⟩
theorem Lays.cell {w : World} {g : Nat} {vs : List Value} (h : Lays w g vs) {i : Nat} {v : Value} (hi : vs[i]? = some v) : w.cell? ⟨g, i, none⟩ = some v := by
  obtain ⟨cur, t, fr, h1, h2⟩ := h
  rw [cell_of_row w g i cur t fr h1]
  have hl : i < vs.length := (List.getElem?_eq_some_iff.1 hi).1
  have e : (cur.toList.take vs.length)[i]? = some v := by rw [h2]; exact hi
  rw [List.getElem?_take, if_pos hl] at e
  rw [← e]; simp
theorem Lays.own {base : Nat} {e : TypeId} {size : Nat} {w : World} {v : Value} {n : Nat} {vs : List Value} (h : w.ownsRow base e size v n vs) :
    (v = .slice none 0 0 ∧ n = 0 ∧ vs = []) ∨ ∃ g cap, v = .slice (some ⟨g, 0, none⟩) n cap ∧ base ≤ g ∧ Lays w g vs := by
  have hl := h.1
  rcases h.2 with ⟨hv, h0⟩ | ⟨g, cap, cur, hv, hg, hh, hn, _, hc, ht⟩
  · subst h0; exact .inl ⟨hv, rfl, List.eq_nil_of_length_eq_zero (by simpa using hl)⟩
  · exact .inr ⟨g, cap, hv, hg, cur, e, (0, 0), hh, by rw [hl]; exact ht⟩

end Go.Proofs.YtbcnkhfpogglmaaGreatDoor

namespace Go.Proofs.YtbcnkhfpogglmaaGreatDoor
open Go.RowKit
set_option linter.unusedVariables false
set_option maxRecDepth 100000

/-- The array of n cells whose cell i is f i. -/
def varr (n : Nat) (f : Nat → Value) : Array Value := ((List.range n).map f).toArray
/-- The array of n bools. -/
def barr (n : Nat) (f : Nat → Bool) : Array Value := varr n fun i => .bool (f i)

theorem varr_size (n : Nat) (f : Nat → Value) : (varr n f).size = n := by unfold varr; simp
theorem varr_get (n : Nat) (f : Nat → Value) (j : Nat) (h : j < n) : (varr n f)[j]? = some (f j) := by unfold varr; simp [h]
theorem varr_congr {n : Nat} {f g : Nat → Value} (h : ∀ i, i < n → f i = g i) : varr n f = varr n g := by
  unfold varr; congr 1; exact List.map_congr_left fun i hi => h i (List.mem_range.1 hi)
theorem varr_set (n : Nat) (f : Nat → Value) (k : Nat) (v : Value) : (varr n f).setIfInBounds k v = varr n fun j => if j = k then v else f j := by
  apply Array.ext
  · simp [varr]
  · intro i h1 h2
    simp [varr]
    by_cases e : k = i
    · simp [e]
    · simp [e, show ¬ i = k from fun h => e h.symm]
theorem varr_one {n : Nat} {f : Nat → Value} (h : ∀ i, (f i).oneCell' = true) : (varr n f).all (·.oneCell') = true := by
  unfold varr; simp [h]
theorem barr_congr {n : Nat} {f g : Nat → Bool} (h : ∀ i, i < n → f i = g i) : barr n f = barr n g := varr_congr fun i hi => by rw [h i hi]
theorem barr_set (n : Nat) (f : Nat → Bool) (k : Nat) (b : Bool) : (barr n f).setIfInBounds k (.bool b) = barr n fun j => if j = k then b else f j := by
  unfold barr; rw [varr_set]
  exact varr_congr fun i _ => by by_cases e : i = k <;> simp [e]

/-- Block g of the world holds that array, and may be written. -/
def HoldsB (w : World) (g : Nat) (t : TypeId) (n : Nat) (f : Nat → Bool) : Prop := w.heap[g]? = some (.cells (barr n f) t (0, 0))

theorem HoldsB.cell {w : World} {g : Nat} {t : TypeId} {n : Nat} {f : Nat → Bool} (h : HoldsB w g t n f) {j : Nat} (hj : j < n) : w.cell? ⟨g, j, none⟩ = some (.bool (f j)) := by
  rw [cell_of_row w g j _ t _ h]; exact varr_get n _ j hj
theorem HoldsB.frozen {w : World} {g : Nat} {t : TypeId} {n : Nat} {f : Nat → Bool} (h : HoldsB w g t n f) (j : Nat) : w.frozen? ⟨g, j, none⟩ = false := frozen_of_row w g j _ t h
theorem HoldsB.set {w : World} {g : Nat} {t : TypeId} {n : Nat} {f : Nat → Bool} (h : HoldsB w g t n f) (k : Nat) (b : Bool) : HoldsB (w.setCell ⟨g, k, none⟩ (.bool b)) g t n fun j => if j = k then b else f j := by
  unfold HoldsB; rw [heap_setCell_same w g k _ t _ h, barr_set]
theorem HoldsB.congr {w : World} {g : Nat} {t : TypeId} {n : Nat} {f k : Nat → Bool} (h : HoldsB w g t n f) (e : ∀ i, i < n → f i = k i) : HoldsB w g t n k := by
  unfold HoldsB at *; rw [h, barr_congr e]
theorem HoldsB.below {w w' : World} {B g : Nat} {t : TypeId} {n : Nat} {f : Nat → Bool} (h : HoldsB w g t n f) (hb : Below B w w') (hg : g < B) : HoldsB w' g t n f := by
  unfold HoldsB at *; rw [hb.block g hg]; exact h
theorem HoldsB.drewN {w : World} {g : Nat} {t : TypeId} {n : Nat} {f : Nat → Bool} (h : HoldsB w g t n f) (k : Nat) : HoldsB (w.drewN k) g t n f := h
theorem HoldsB.lt {w : World} {g : Nat} {t : TypeId} {n : Nat} {f : Nat → Bool} (h : HoldsB w g t n f) : g < w.heap.size := (Array.getElem?_eq_some_iff.1 h).1
theorem HoldsB.setRow {w : World} {g : Nat} {t : TypeId} {n : Nat} {f : Nat → Bool} (h : HoldsB w g t n f) (k : Nat → Bool) : HoldsB (w.setRow g (barr n k)) g t n k := setRow_heap w g _ _ t _ h
theorem HoldsB.alloc {w : World} {g : Nat} {t : TypeId} {n : Nat} {f : Nat → Bool} (h : HoldsB w g t n f) (o : Obj) : HoldsB (w.alloc o) g t n f := (Below.heap_alloc w o g h.lt).trans h
theorem HoldsB.setRow_other {w : World} {g g' : Nat} {t : TypeId} {n : Nat} {f : Nat → Bool} (h : HoldsB w g t n f) (hg : g ≠ g') (cs : Array Value) : HoldsB (w.setRow g' cs) g t n f := (Go.setRow_other w g' g cs hg).trans h
/-- A new block of noughts, written whole. -/
theorem HoldsB.laid (w : World) (t : TypeId) (n : Nat) (z f : Nat → Bool) : HoldsB ((w.alloc (.cells (barr n z) t)).setRow w.heap.size (barr n f)) w.heap.size t n f :=
  HoldsB.setRow (f := z) (heap_alloc_new w _) f
theorem HoldsB.new (w : World) (t : TypeId) (n : Nat) (f : Nat → Bool) : HoldsB (w.alloc (.cells (barr n f) t)) w.heap.size t n f := heap_alloc_new w _
theorem below_setRow {B : Nat} {a w : World} (h : Below B a w) {g : Nat} (hg : B ≤ g) (cs : Array Value) : Below B a (w.setRow g cs) :=
  h.trans ⟨rfl, rfl, rfl, by simp, fun k hk => setRow_other w g k cs (by omega)⟩

end Go.Proofs.YtbcnkhfpogglmaaGreatDoor

namespace Go.Proofs.YtbcnkhfpogglmaaGreatDoor
open Go.RowKit
set_option linter.unusedVariables false
set_option maxRecDepth 100000

/-- What lies ahead of a struct in its block, and behind it; the block's type. -/
structure Fr (n : Nat) where
  pre : Array Value
  post : Array Value
  ty : TypeId
  hp : pre.size = n
/-- The whole block. -/
def Fr.all {n : Nat} (f : Fr n) (row : Array Value) : Array Value := f.pre ++ row ++ f.post
theorem Fr.get {n : Nat} (f : Fr n) (row : Array Value) (i : Nat) (h : i < row.size) : (f.all row)[n + i]? = row[i]? := by
  unfold Fr.all
  rw [Array.append_assoc, Array.getElem?_append_right (by rw [f.hp]; omega), f.hp, show n + i - n = i by omega, Array.getElem?_append_left h]
theorem Fr.set {n : Nat} (f : Fr n) (row : Array Value) (i : Nat) (v : Value) (h : i < row.size) : (f.all row).setIfInBounds (n + i) v = f.all (row.setIfInBounds i v) := by
  unfold Fr.all
  rw [Array.append_assoc, Array.append_assoc, Array.setIfInBounds_append_right (by rw [f.hp]; omega), f.hp, show n + i - n = i by omega, Array.setIfInBounds_append_left h]
theorem Fr.size {n : Nat} (f : Fr n) (row : Array Value) : (f.all row).size = n + row.size + f.post.size := by
  unfold Fr.all; rw [Array.size_append, Array.size_append, f.hp]
/-- The struct's cells, as a range. -/
theorem Fr.range {n : Nat} (f : Fr n) {w : World} {b : Nat} {row : Array Value} {x : Nat × Nat} (h : w.heap[b]? = some (.cells (f.all row) f.ty x)) : w.rangeAt b n row.toList := by
  intro j v hj
  have hl : j < row.size := by have := (List.getElem?_eq_some_iff.1 hj).1; simpa using this
  rw [cell_of_row w b _ _ _ _ h, f.get row j hl]
  simpa using hj
theorem run_load_fr {P : Program} (w : World) (b o : Nat) (ty : TypeId) (row : Array Value) (d : TypeDesc) (hc : w.rangeAt b o row.toList)
    (hu : P.underlying ty = some d) (hd : d.isRow = true) (hi : (P.info? ty).map (·.size) = some row.size) : (loadVar ty ⟨b, o, none⟩).run P w = .ok (.agg row) w := by
  have h := run_loadVar_mid (P := P) w b o ty row.toList d hc hu hd (by rw [hi]; simp)
  simpa using h
/-- A load of a whole struct out of a greater block. -/
theorem wpList_load_fr {P : Program} {ops : Array Oper} {rest : List Oper} {op : Oper} {a : Act} {w : World} {Q : Exit → Act → World → Prop} (hgd : op.guard = none) (ty : TypeId) (x : Operand) (ho : op.op = .load ty x)
    (b o : Nat) (hx : a.eval x = .pointer (some ⟨b, o, none⟩)) (row : Array Value) (d : TypeDesc) (hc : w.rangeAt b o row.toList)
    (hu : P.underlying ty = some d) (hd : d.isRow = true) (hi : (P.info? ty).map (·.size) = some row.size)
    (h : wpList P ops Q rest (a.put op.dst (.agg row)) w) : wpList P ops Q (op :: rest) a w :=
  wpList_load_mid hgd ty x ho b o hx row.toList d hc hu hd (by rw [hi]; simp) (by simpa using h)

end Go.Proofs.YtbcnkhfpogglmaaGreatDoor

namespace Go.Proofs.YtbcnkhfpogglmaaGreatDoor
open Go.RowKit
set_option linter.unusedVariables false
set_option maxRecDepth 100000

/-- The number of a bit vector, and the bit vector of a number. -/
def U (b : BitVec 64) : Int := (b.toNat : Int)
def V (x : Int) : BitVec 64 := BitVec.ofInt 64 x
/-- A number that a word can hold. -/
def In64 (x : Int) : Prop := 0 ≤ x ∧ x < 18446744073709551616

theorem U_in (b : BitVec 64) : In64 (U b) := by
  have := b.isLt; unfold In64 U; omega
theorem V_U (b : BitVec 64) : V (U b) = b := by
  unfold V U; rw [BitVec.ofInt_natCast]; simp
theorem U_V {x : Int} (h : In64 x) : U (V x) = x := by
  unfold In64 at h; unfold U V; rw [BitVec.toNat_ofInt]; omega
theorem U_mod (x : Int) : U (V x) = x % 18446744073709551616 := by
  unfold U V; rw [BitVec.toNat_ofInt]; omega
theorem toNat_V {x : Int} (h : In64 x) : ((V x).toNat : Int) = x := U_V h
theorem of_wf {x : Int} (h : (Lit.int .u64 x).wf = true) : In64 x := by
  have h2 := h
  simp [Lit.wf, IntKind.min, IntKind.max, IntKind.signed, IntKind.bits] at h2
  unfold In64; omega
/-- A signed number that a word can hold. -/
def In63 (x : Int) : Prop := -9223372036854775808 ≤ x ∧ x < 9223372036854775808
theorem of_wf63 {x : Int} (h : (Lit.int .i64 x).wf = true) : In63 x := by
  have h2 := h
  simp [Lit.wf, IntKind.min, IntKind.max, IntKind.signed, IntKind.bits] at h2
  unfold In63; omega

theorem wrap_eq (x : Int) : IntKind.u64.wrap x = U (V x) := by
  rw [U_mod, IntKind.wrap_u64]
theorem V_wrap (x : Int) : V (IntKind.u64.wrap x) = V x := by rw [wrap_eq, V_U]

theorem bits_and (x y : Int) : bits .and .u64 x y = U (V x &&& V y) := by
  show IntKind.u64.wrap ((V x &&& V y).toNat : Int) = _
  exact (wrap_eq _).trans (by rw [show ((V x &&& V y).toNat : Int) = U (V x &&& V y) from rfl, V_U])
theorem bits_or (x y : Int) : bits .or .u64 x y = U (V x ||| V y) := by
  show IntKind.u64.wrap ((V x ||| V y).toNat : Int) = _
  exact (wrap_eq _).trans (by rw [show ((V x ||| V y).toNat : Int) = U (V x ||| V y) from rfl, V_U])
theorem bits_andNot (x y : Int) : bits .andNot .u64 x y = U (V x &&& ~~~ V y) := by
  show IntKind.u64.wrap ((V x &&& ~~~ V y).toNat : Int) = _
  exact (wrap_eq _).trans (by rw [show ((V x &&& ~~~ V y).toNat : Int) = U (V x &&& ~~~ V y) from rfl, V_U])

theorem V_add (x y : Int) : V (x + y) = V x + V y := by unfold V; rw [BitVec.ofInt_add]
theorem V_mul (x y : Int) : V (x * y) = V x * V y := by unfold V; rw [BitVec.ofInt_mul]
theorem V_neg (x : Int) : V (-x) = - V x := by unfold V; rw [BitVec.ofInt_neg]
theorem V_sub (x y : Int) : V (x - y) = V x - V y := by
  rw [Int.sub_eq_add_neg, V_add, V_neg, BitVec.sub_eq_add_neg]
theorem V_pow (k : Nat) : V (2 ^ k) = BitVec.twoPow 64 k := by
  apply BitVec.eq_of_toNat_eq
  have h : (2 : Int) ^ k = ((2 ^ k : Nat) : Int) := by norm_cast
  unfold V; rw [h, BitVec.ofInt_natCast, BitVec.toNat_ofNat, BitVec.toNat_twoPow]

theorem wrap_shl (x : Int) (k : Nat) : IntKind.u64.wrap (x * 2 ^ k) = U (V x <<< k) := by
  rw [wrap_eq, V_mul, V_pow, BitVec.mul_twoPow_eq_shiftLeft]
theorem shr_eq {x : Int} (h : In64 x) (k : Nat) : x / 2 ^ k = U (V x >>> k) := by
  have e := toNat_V h
  unfold U
  rw [BitVec.toNat_ushiftRight, Nat.shiftRight_eq_div_pow, Int.natCast_ediv, e]
  norm_cast

/-- The number read with its sign. -/
def S (b : BitVec 64) : Int := b.toInt
/-! ### words by their bits -/
def ofF (f : Nat → Bool) : BitVec 64 := (BitVec.ofBoolListLE ((List.range 64).map f)).cast (by simp)
theorem bit_ofF (f : Nat → Bool) (i : Nat) : (ofF f).getLsbD i = (decide (i < 64) && f i) := by
  unfold ofF
  rw [BitVec.getLsbD_cast, BitVec.getLsbD_ofBoolListLE]
  by_cases h : i < 64
  · simp [h, List.getD]
  · simp [h, List.getD]
theorem ext64 {a b : BitVec 64} (h : ∀ i, i < 64 → a.getLsbD i = b.getLsbD i) : a = b := BitVec.eq_of_getLsbD_eq fun i hi => h i hi
theorem V_one : V 1 = 1#64 := rfl
/-- Bit k of a word, by division. -/
theorem bit_div (b : BitVec 64) (k : Nat) : b.getLsbD k = decide (b.toNat / 2 ^ k % 2 = 1) := by
  rw [BitVec.getLsbD, Nat.testBit_eq_decide_div_mod_eq]

theorem two_pow_le {a b : Nat} (h : a ≤ b) : (2 : Int) ^ a ≤ 2 ^ b := by exact_mod_cast Nat.pow_le_pow_right (by omega) h

end Go.Proofs.YtbcnkhfpogglmaaGreatDoor

namespace Go.Proofs.YtbcnkhfpogglmaaGreatDoor
open Go.RowKit
set_option linter.unusedVariables false
set_option maxRecDepth 100000

/-- P1.1: the word whose bits below n are 1. -/
def maskB (n : Int) : BitVec 64 := ofF fun i => decide ((i : Int) < n)
/-- P1.1: the piece from lo on, of n bits. -/
def fieldB (w : BitVec 64) (lo n : Int) : BitVec 64 :=
  if 0 ≤ lo ∧ lo < 64 then ofF fun i => decide ((i : Int) < n) && w.getLsbD (i + lo.toNat) else 0#64
/-- P1.1: w with v in the place of that piece. -/
def putB (w : BitVec 64) (lo n : Int) (v : BitVec 64) : BitVec 64 :=
  if 0 ≤ lo ∧ lo < 64 then ofF fun i => if lo.toNat ≤ i ∧ (i : Int) - lo < n then v.getLsbD (i - lo.toNat) else w.getLsbD i else w
/-- P1.2: w's bits below n, drawn out. -/
def sextB (w : BitVec 64) (n : Int) : BitVec 64 :=
  if n < 1 then 0#64 else ofF fun i => if (i : Int) < n then w.getLsbD i else w.getLsbD (n.toNat - 1)
/-- P1.2: whether w is its lowest n bits, drawn out. -/
def canonB (w : BitVec 64) (n : Int) : Bool := decide (1 ≤ n) && decide (sextB w n = w)

theorem mask_bit (n : Int) (i : Nat) : (maskB n).getLsbD i = (decide (i < 64) && decide ((i : Int) < n)) := bit_ofF _ _
theorem field_bit {lo : Int} (w : BitVec 64) (n : Int) (h : 0 ≤ lo ∧ lo < 64) (i : Nat) : (fieldB w lo n).getLsbD i = (decide (i < 64) && (decide ((i : Int) < n) && w.getLsbD (i + lo.toNat))) := by
  unfold fieldB; rw [if_pos h]; exact bit_ofF _ _
theorem put_bit {lo : Int} (w : BitVec 64) (n : Int) (v : BitVec 64) (h : 0 ≤ lo ∧ lo < 64) (i : Nat) :
    (putB w lo n v).getLsbD i = (decide (i < 64) && if lo.toNat ≤ i ∧ (i : Int) - lo < n then v.getLsbD (i - lo.toNat) else w.getLsbD i) := by
  unfold putB; rw [if_pos h]; exact bit_ofF _ _
/-! ### what the program reckons -/
theorem mask_lo {n : Int} (h : n < 1) : (0 : Int) = U (maskB n) := by
  have e : maskB n = 0#64 := ext64 fun i hi => by
    rw [mask_bit, decide_eq_false (show ¬ (i : Int) < n by omega)]; simp
  rw [e]; rfl
theorem mask_hi {n : Int} (h : 64 ≤ n) : (18446744073709551615 : Int) = U (maskB n) := by
  have e : maskB n = BitVec.allOnes 64 := ext64 fun i hi => by
    rw [mask_bit, decide_eq_true (show (i : Int) < n by omega), BitVec.getLsbD_allOnes]; simp
  rw [e]; rfl
theorem mask_mid {n : Int} (h1 : 1 ≤ n) (h2 : n < 64) : IntKind.u64.wrap (IntKind.u64.wrap (2 ^ n.toNat) - 1) = U (maskB n) := by
  rw [wrap_eq, V_sub, V_wrap, V_pow, V_one]
  congr 1
  refine ext64 fun i hi => ?_
  rw [mask_bit, decide_eq_true hi, Bool.true_and]
  have e : BitVec.twoPow 64 n.toNat - 1#64 = BitVec.ofNat 64 (2 ^ n.toNat - 1) := by
    apply BitVec.eq_of_toNat_eq
    have hp : 2 ^ n.toNat < 2 ^ 64 := Nat.pow_lt_pow_right (by omega) (by omega)
    have hq : 0 < 2 ^ n.toNat := Nat.pow_pos (by omega)
    rw [BitVec.toNat_sub, BitVec.toNat_twoPow, BitVec.toNat_ofNat, BitVec.toNat_ofNat, Nat.mod_eq_of_lt hp]
    omega
  rw [e, BitVec.getLsbD_ofNat, Nat.testBit_two_pow_sub_one, decide_eq_true hi, Bool.true_and]
  congr 1
  apply propext; omega

theorem field_out {w : BitVec 64} {lo n : Int} (h : ¬ (0 ≤ lo ∧ lo < 64)) : (0 : Int) = U (fieldB w lo n) := by
  unfold fieldB; rw [if_neg h]; rfl
theorem field_in {w : BitVec 64} {lo n : Int} (h : 0 ≤ lo ∧ lo < 64) : w >>> lo.toNat &&& maskB n = fieldB w lo n :=
  ext64 fun i hi => by
    rw [BitVec.getLsbD_and, BitVec.getLsbD_ushiftRight, field_bit w n h, mask_bit, Nat.add_comm, Bool.and_comm, Bool.and_assoc]
theorem put_out {w v : BitVec 64} {lo n : Int} (h : ¬ (0 ≤ lo ∧ lo < 64)) : putB w lo n v = w := by
  unfold putB; rw [if_neg h]
theorem put_in {w v : BitVec 64} {lo n : Int} (h : 0 ≤ lo ∧ lo < 64) : w &&& ~~~ (maskB n <<< lo.toNat) ||| v <<< lo.toNat &&& maskB n <<< lo.toNat = putB w lo n v :=
  ext64 fun i hi => by
    rw [BitVec.getLsbD_or, BitVec.getLsbD_and, BitVec.getLsbD_and, BitVec.getLsbD_not, BitVec.getLsbD_shiftLeft, BitVec.getLsbD_shiftLeft, put_bit w n v h, mask_bit]
    by_cases a : lo.toNat ≤ i
    · have e : ((i - lo.toNat : Nat) : Int) = (i : Int) - lo := by omega
      rw [e]
      by_cases b : (i : Int) - lo < n
      · simp [hi, a, b, show i - lo.toNat < 64 by omega, show ¬ i < lo.toNat by omega]
      · simp [hi, a, b]
    · simp [hi, a, show i < lo.toNat by omega]

/-- P1.3: the least multiple that is not below a. -/
def upZ (a s : Int) : Int × Bool :=
  if s = 0 then (0, false) else if a % s = 0 then (a, true) else if a + (s - a % s) < 18446744073709551616 then (a + (s - a % s), true) else (0, false)
/-- P1.4: one bit. -/
def bitB (w : BitVec 64) (i : Int) : Bool := decide (0 ≤ i) && w.getLsbD i.toNat

theorem and_one_u8 {y : Int} (h : 0 ≤ y) : bits .and .u8 y 1 = y % 2 := by
  obtain ⟨n, rfl⟩ := Int.eq_ofNat_of_zero_le h
  show IntKind.u8.wrap ((BitVec.ofInt 8 (n : Int) &&& 1#8).toNat : Int) = _
  rw [BitVec.toNat_and, BitVec.ofInt_natCast, BitVec.toNat_ofNat, show (1#8).toNat = 1 from rfl, Nat.and_one_is_mod]
  simp [IntKind.wrap, IntKind.bits, IntKind.signed]; omega
theorem and_one_u32 {y : Int} (h : 0 ≤ y) : bits .and .u32 y 1 = y % 2 := by
  obtain ⟨n, rfl⟩ := Int.eq_ofNat_of_zero_le h
  show IntKind.u32.wrap ((BitVec.ofInt 32 (n : Int) &&& 1#32).toNat : Int) = _
  rw [BitVec.toNat_and, BitVec.ofInt_natCast, BitVec.toNat_ofNat, show (1#32).toNat = 1 from rfl, Nat.and_one_is_mod]
  simp [IntKind.wrap, IntKind.bits, IntKind.signed]; omega
theorem and_one_u64 {y : Int} (h : 0 ≤ y) : bits .and .u64 y 1 = y % 2 := by
  obtain ⟨n, rfl⟩ := Int.eq_ofNat_of_zero_le h
  show IntKind.u64.wrap ((BitVec.ofInt 64 (n : Int) &&& 1#64).toNat : Int) = _
  rw [BitVec.toNat_and, BitVec.ofInt_natCast, BitVec.toNat_ofNat, show (1#64).toNat = 1 from rfl, Nat.and_one_is_mod]
  simp [IntKind.wrap, IntKind.bits, IntKind.signed]; omega

/-- Bit i of a number below 2^k, shifted down by no more than k. -/
theorem bit_reckon {x i : Int} {k : Nat} (hk : k ≤ 64) (h0 : 0 ≤ x) (h1 : x < 2 ^ k) (hi : 0 ≤ i) : (x / 2 ^ min i.toNat k % 2 == 1) = bitB (V x) i := by
  obtain ⟨n, rfl⟩ := Int.eq_ofNat_of_zero_le h0
  have hn : n < 2 ^ k := by norm_cast at h1
  have hV : (V (n : Int)).toNat = n := by
    unfold V; rw [BitVec.ofInt_natCast, BitVec.toNat_ofNat]
    exact Nat.mod_eq_of_lt (Nat.lt_of_lt_of_le hn (Nat.pow_le_pow_right (by omega) hk))
  unfold bitB
  rw [decide_eq_true hi, Bool.true_and, bit_div, hV]
  have e : (n : Int) / 2 ^ min i.toNat k % 2 = ((n / 2 ^ min i.toNat k % 2 : Nat) : Int) := by norm_cast
  rw [e]
  by_cases h : i.toNat ≤ k
  · rw [Nat.min_eq_left h]
    generalize n / 2 ^ i.toNat % 2 = q
    rw [Bool.eq_iff_iff, beq_iff_eq, decide_eq_true_eq]; omega
  · have z1 : n / 2 ^ k = 0 := Nat.div_eq_of_lt hn
    have z2 : n / 2 ^ i.toNat = 0 := Nat.div_eq_of_lt (Nat.lt_of_lt_of_le hn (Nat.pow_le_pow_right (by omega) (by omega)))
    rw [Nat.min_eq_right (by omega), z1, z2]; rfl
theorem bit_neg {b : BitVec 64} {i : Int} (hi : i < 0) : bitB b i = false := by
  unfold bitB; rw [decide_eq_false (show ¬ 0 ≤ i by omega), Bool.false_and]

end Go.Proofs.YtbcnkhfpogglmaaGreatDoor

namespace Go.Proofs.YtbcnkhfpogglmaaGreatDoor.C4
open Go.RowKit
set_option linter.unusedVariables false
set_option maxRecDepth 100000

/-- A clint's state: its software word, the time to compare with, the time. -/
structure Cl where
  s : Bool
  c : Int
  n : Int
/-- Both times are words. -/
def Cl.ok (t : Cl) : Prop := In64 t.c ∧ In64 t.n
/-- The software word as a number. -/
def sI (b : Bool) : Int := if b then 1 else 0
theorem sI_in (b : Bool) : In64 (sI b) := by cases b <;> (unfold In64 sI; simp)
/-- The numbers of the places: 0 is none. -/
def kindC (off n : Int) : Nat :=
  if off = 0 ∧ n = 4 then 1 else if off = 16384 ∧ n = 8 then 2 else if off = 16384 ∧ n = 4 then 3 else if off = 16388 ∧ n = 4 then 4
  else if off = 49144 ∧ n = 8 then 5 else if off = 49144 ∧ n = 4 then 6 else if off = 49148 ∧ n = 4 then 7 else 0
/-- Whether there is such a place. -/
def okC (off n : Int) : Bool := kindC off n != 0
/-- What stands at a place. -/
def rdC (t : Cl) : Nat → Int
  | 1 => sI t.s
  | 2 => t.c
  | 3 => t.c % 4294967296
  | 4 => t.c / 4294967296
  | 5 => t.n
  | 6 => t.n % 4294967296
  | 7 => t.n / 4294967296
  | _ => 0
/-- What a write of v leaves. -/
def wrC (t : Cl) (v : Int) : Nat → Cl
  | 1 => ⟨v % 2 == 1, t.c, t.n⟩
  | 2 => ⟨t.s, v, t.n⟩
  | 3 => ⟨t.s, t.c / 4294967296 * 4294967296 + v % 4294967296, t.n⟩
  | 4 => ⟨t.s, v % 4294967296 * 4294967296 + t.c % 4294967296, t.n⟩
  | 5 => ⟨t.s, t.c, v⟩
  | 6 => ⟨t.s, t.c, t.n / 4294967296 * 4294967296 + v % 4294967296⟩
  | 7 => ⟨t.s, t.c, v % 4294967296 * 4294967296 + t.n % 4294967296⟩
  | _ => t
/-- What ticks leave. -/
def tickC (t : Cl) (n : Int) : Cl := ⟨t.s, t.c, (t.n + n) % 18446744073709551616⟩
/-- Every offset and length: one of the seven places, or none, as one asks. -/
theorem kind_cases (off n : Int) :
    (off = 0 ∧ n = 4 ∧ kindC off n = 1) ∨ (off = 16384 ∧ n = 8 ∧ kindC off n = 2) ∨ (off = 16384 ∧ n = 4 ∧ kindC off n = 3) ∨ (off = 16388 ∧ n = 4 ∧ kindC off n = 4) ∨
    (off = 49144 ∧ n = 8 ∧ kindC off n = 5) ∨ (off = 49144 ∧ n = 4 ∧ kindC off n = 6) ∨ (off = 49148 ∧ n = 4 ∧ kindC off n = 7) ∨
    (kindC off n = 0 ∧ ¬ (off = 0 ∧ n = 4) ∧ ¬ ((off = 16384 ∨ off = 49144) ∧ n = 8) ∧ ¬ ((off = 16384 ∨ off = 16388 ∨ off = 49144 ∨ off = 49148) ∧ n = 4)) := by
  by_cases h1 : off = 0 ∧ n = 4
  · obtain ⟨rfl, rfl⟩ := h1; exact .inl ⟨rfl, rfl, rfl⟩
  by_cases h2 : off = 16384 ∧ n = 8
  · obtain ⟨rfl, rfl⟩ := h2; exact .inr (.inl ⟨rfl, rfl, rfl⟩)
  by_cases h3 : off = 16384 ∧ n = 4
  · obtain ⟨rfl, rfl⟩ := h3; exact .inr (.inr (.inl ⟨rfl, rfl, rfl⟩))
  by_cases h4 : off = 16388 ∧ n = 4
  · obtain ⟨rfl, rfl⟩ := h4; exact .inr (.inr (.inr (.inl ⟨rfl, rfl, rfl⟩)))
  by_cases h5 : off = 49144 ∧ n = 8
  · obtain ⟨rfl, rfl⟩ := h5; exact .inr (.inr (.inr (.inr (.inl ⟨rfl, rfl, rfl⟩))))
  by_cases h6 : off = 49144 ∧ n = 4
  · obtain ⟨rfl, rfl⟩ := h6; exact .inr (.inr (.inr (.inr (.inr (.inl ⟨rfl, rfl, rfl⟩)))))
  by_cases h7 : off = 49148 ∧ n = 4
  · obtain ⟨rfl, rfl⟩ := h7; exact .inr (.inr (.inr (.inr (.inr (.inr (.inl ⟨rfl, rfl, rfl⟩))))))
  refine .inr (.inr (.inr (.inr (.inr (.inr (.inr ⟨?_, h1, ?_, ?_⟩))))))
  · unfold kindC; rw [if_neg h1, if_neg h2, if_neg h3, if_neg h4, if_neg h5, if_neg h6, if_neg h7]
  · omega
  · omega

/-! ### what the program reckons: pieces of a word, told and put -/
theorem field_whole {x : Int} (h : In64 x) : U (fieldB (V x) 0 64) = x := by
  rw [← U_V h]
  congr 1
  rw [V_U]
  refine ext64 fun i hi => ?_
  rw [field_bit _ _ (by omega)]
  simp [hi]; omega
theorem put_whole {x v : Int} (h : In64 v) : U (putB (V x) 0 64 (V v)) = v := by
  conv => rhs; rw [← U_V h]
  congr 1
  refine ext64 fun i hi => ?_
  rw [put_bit _ _ _ (by omega)]
  simp [hi]; omega
theorem low_toNat (b : BitVec 64) : fieldB b 0 32 = BitVec.ofNat 64 (b.toNat % 2 ^ 32) := by
  refine ext64 fun i hi => ?_
  rw [field_bit _ _ (by omega), BitVec.getLsbD_ofNat, Nat.testBit_mod_two_pow, decide_eq_true hi]
  by_cases c : i < 32
  · simp [BitVec.getLsbD, c, show (i : Int) < 32 by omega]
  · simp [c, show ¬ (i : Int) < 32 by omega]
theorem high_toNat (b : BitVec 64) : fieldB b 32 32 = BitVec.ofNat 64 (b.toNat / 2 ^ 32) := by
  refine ext64 fun i hi => ?_
  rw [field_bit _ _ (by omega), BitVec.getLsbD_ofNat, Nat.testBit_div_two_pow, decide_eq_true hi]
  have hb := b.isLt
  by_cases h : i < 32
  · simp [BitVec.getLsbD, show (i : Int) < 32 by omega, Nat.add_comm]
  · have hz : b.toNat.testBit (32 + i) = false := Nat.testBit_lt_two_pow (Nat.lt_of_lt_of_le hb (Nat.pow_le_pow_right (by omega) (by omega)))
    have hz2 : b.toNat.testBit (i + 32) = false := by rw [Nat.add_comm]; exact hz
    simp [hz2, show ¬ (i : Int) < 32 by omega]
theorem V_nat {x : Int} (h : In64 x) : ((V x).toNat : Int) = x := toNat_V h
theorem field_low {x : Int} (h : In64 x) : U (fieldB (V x) 0 32) = x % 4294967296 := by
  rw [low_toNat]; unfold U
  rw [BitVec.toNat_ofNat]
  have := V_nat h
  unfold In64 at h
  omega
theorem field_high {x : Int} (h : In64 x) : U (fieldB (V x) 32 32) = x / 4294967296 := by
  rw [high_toNat]; unfold U
  rw [BitVec.toNat_ofNat]
  have := V_nat h
  unfold In64 at h
  omega
theorem put_low {x v : Int} (h : In64 x) (hv : In64 v) : U (putB (V x) 0 32 (V v)) = x / 4294967296 * 4294967296 + v % 4294967296 := by
  have e : putB (V x) 0 32 (V v) = BitVec.ofNat 64 (2 ^ 32 * ((V x).toNat / 2 ^ 32) + (V v).toNat % 2 ^ 32) := by
    refine ext64 fun i hi => ?_
    rw [put_bit _ _ _ (by omega), BitVec.getLsbD_ofNat, decide_eq_true hi, Nat.testBit_two_pow_mul_add _ (Nat.mod_lt _ (by omega)), Nat.testBit_mod_two_pow, Nat.testBit_div_two_pow]
    by_cases c : i < 32
    · simp [BitVec.getLsbD, c, show (i : Int) < 32 by omega]
    · simp [BitVec.getLsbD, c, show ¬ (i : Int) < 32 by omega, show i - 32 + 32 = i by omega]
  rw [e]; unfold U
  rw [BitVec.toNat_ofNat]
  have h1 := V_nat h
  have h2 := V_nat hv
  unfold In64 at h hv
  omega
theorem put_high {x v : Int} (h : In64 x) (hv : In64 v) : U (putB (V x) 32 32 (V v)) = v % 4294967296 * 4294967296 + x % 4294967296 := by
  have e : putB (V x) 32 32 (V v) = BitVec.ofNat 64 (2 ^ 32 * ((V v).toNat % 2 ^ 32) + (V x).toNat % 2 ^ 32) := by
    refine ext64 fun i hi => ?_
    rw [put_bit _ _ _ (by omega), BitVec.getLsbD_ofNat, decide_eq_true hi, Nat.testBit_two_pow_mul_add _ (Nat.mod_lt _ (by omega)), Nat.testBit_mod_two_pow, Nat.testBit_mod_two_pow]
    by_cases c : i < 32
    · simp [BitVec.getLsbD, c, show ¬ 32 ≤ i by omega]
    · simp [BitVec.getLsbD, c, show 32 ≤ i by omega, show (i : Int) - 32 < 32 by omega, show i - 32 < 32 by omega]
  rw [e]; unfold U
  rw [BitVec.toNat_ofNat]
  have h1 := V_nat h
  have h2 := V_nat hv
  unfold In64 at h hv
  omega
/-- The lowest bit of a number. -/
theorem bit_zero {v : Int} (hv : In64 v) : bitB (V v) 0 = (v % 2 == 1) := by
  unfold bitB
  have h2 := V_nat hv
  rw [decide_eq_true (show (0 : Int) ≤ 0 by omega), Bool.true_and, show (0 : Int).toNat = 0 from rfl, bit_div, Bool.eq_iff_iff, decide_eq_true_eq, beq_iff_eq]
  omega
theorem bit_put_low {x v : Int} (h : In64 x) (hv : In64 v) : bitB (V (U (putB (V x) 0 32 (V v)))) 0 = (v % 2 == 1) := by
  rw [bit_zero (U_in _), put_low h hv, Bool.eq_iff_iff, beq_iff_eq, beq_iff_eq]
  unfold In64 at *
  omega

end Go.Proofs.YtbcnkhfpogglmaaGreatDoor.C4

namespace Go.Proofs.YtbcnkhfpogglmaaGreatDoor
open Go.RowKit
set_option linter.unusedVariables false
set_option maxRecDepth 100000

theorem ret_int {k : IntKind} {a b : Int} (h : a = b) : Ending.returned (.int k a) = .returned (.int k b) := by rw [h]
theorem ret_bool {a b : Bool} (h : a = b) : Ending.returned (.bool a) = .returned (.bool b) := by rw [h]

theorem isPlace_any (i : Int) (w : World) :
    Calls Tryz.prog 138 #[.int .i64 i] w fun e w' => e = .returned (.bool (decide (0 ≤ i ∧ i < 64))) ∧ w = w' := by
  by_cases h1 : 0 ≤ i
  · by_cases h2 : i < 64
    · go_enter Tryz.func138, Tryz.ntmps138
      go_wp2
      go_ret
      exact ⟨ret_bool (by simp [h1, h2]), rfl⟩
    · go_enter Tryz.func138, Tryz.ntmps138
      go_wp2
      go_ret
      exact ⟨ret_bool (by simp [h2]), rfl⟩
  · go_enter Tryz.func138, Tryz.ntmps138
    go_wp2
    go_ret
    exact ⟨ret_bool (by simp; omega), rfl⟩

theorem mask_any (n : Int) (w : World) :
    Calls Tryz.prog 139 #[.int .i64 n] w fun e w' => e = .returned (.int .u64 (U (maskB n))) ∧ w = w' := by
  go_enter Tryz.func139, Tryz.ntmps139
  go_wp2
  all_goals go_ret
  · exact ⟨ret_int (mask_lo (by assumption)), rfl⟩
  · exact ⟨ret_int (mask_hi (by assumption)), rfl⟩
  · exact ⟨ret_int (mask_mid (by assumption) (by assumption)), rfl⟩

theorem field_any (x lo n : Int) (hx : In64 x) (w : World) :
    Calls Tryz.prog 117 #[.int .u64 x, .int .i64 lo, .int .i64 n] w fun e w' => e = .returned (.int .u64 (U (fieldB (V x) lo n))) ∧ ∃ k, w' = w.drewN k := by
  by_cases h : 0 ≤ lo ∧ lo < 64
  · have hd : decide (0 ≤ lo ∧ lo < 64) = true := decide_eq_true h
    have hlo := h.1
    have hlo2 := h.2
    go_enter Tryz.func117, Tryz.ntmps117
    go_wp2_with (go_at_call 138; refine (isPlace_any _ _).mono ?_; rintro e w' ⟨rfl, rfl⟩)
    go_quiet ((go_at_call 139; exact Calls.quiet_of_same ((mask_any _ _).mono fun e w' h => ⟨h.1, h.2.symm⟩)))
    go_wp2
    go_ret
    exact ⟨ret_int (by rw [bits_and, V_U, shr_eq hx, V_U, field_in h]), nq, rfl⟩
  · have hd : decide (0 ≤ lo ∧ lo < 64) = false := decide_eq_false h
    go_enter Tryz.func117, Tryz.ntmps117
    go_wp2_with (go_at_call 138; refine (isPlace_any _ _).mono ?_; rintro e w' ⟨rfl, rfl⟩)
    go_ret
    exact ⟨ret_int (field_out h), 0, rfl⟩

theorem put_any (x lo n y : Int) (hx : In64 x) (w : World) :
    Calls Tryz.prog 116 #[.int .u64 x, .int .i64 lo, .int .i64 n, .int .u64 y] w fun e w' => e = .returned (.int .u64 (U (putB (V x) lo n (V y)))) ∧ w = w' := by
  by_cases h : 0 ≤ lo ∧ lo < 64
  · have hd : decide (0 ≤ lo ∧ lo < 64) = true := decide_eq_true h
    have hlo := h.1
    have hlo2 := h.2
    go_enter Tryz.func116, Tryz.ntmps116
    go_wp2_with (first | (go_at_call 138; refine (isPlace_any _ _).mono ?_; rintro e w' ⟨rfl, rfl⟩) | (go_at_call 139; refine (mask_any _ _).mono ?_; rintro e w' ⟨rfl, rfl⟩))
    go_ret
    exact ⟨ret_int (by rw [bits_andNot, bits_and, bits_or]; simp only [V_U, wrap_shl]; rw [put_in h]), rfl⟩
  · have hd : decide (0 ≤ lo ∧ lo < 64) = false := decide_eq_false h
    go_enter Tryz.func116, Tryz.ntmps116
    go_wp2_with (go_at_call 138; refine (isPlace_any _ _).mono ?_; rintro e w' ⟨rfl, rfl⟩)
    go_ret
    exact ⟨ret_int (by rw [put_out h, U_V hx]), rfl⟩

theorem bit64_any (x i : Int) (h0 : 0 ≤ x) (h1 : x < 2 ^ 64) (w : World) :
    Calls Tryz.prog 170 #[.int .u64 x, .int .i64 i] w fun e w' => e = .returned (.bool (bitB (V x) i)) ∧ w = w' := by
  have H := Lib.hid h1
  clear h1
  go_enter Tryz.func170, Tryz.ntmps170
  go_wp2
  all_goals go_ret
  · exact ⟨ret_bool (by rw [and_one_u64 (Int.ediv_nonneg h0 (Int.le_of_lt (Int.pow_pos (by omega)))), bit_reckon (by omega) h0 H.out (by assumption)]), rfl⟩
  · exact ⟨ret_bool (by rw [bit_neg (by assumption)]), rfl⟩

theorem bit32_any (x i : Int) (h0 : 0 ≤ x) (h1 : x < 2 ^ 32) (w : World) :
    Calls Tryz.prog 87 #[.int .u32 x, .int .i64 i] w fun e w' => e = .returned (.bool (bitB (V x) i)) ∧ w = w' := by
  have H := Lib.hid h1
  clear h1
  go_enter Tryz.func87, Tryz.ntmps87
  go_wp2
  all_goals go_ret
  · exact ⟨ret_bool (by rw [and_one_u32 (Int.ediv_nonneg h0 (Int.le_of_lt (Int.pow_pos (by omega)))), bit_reckon (by omega) h0 H.out (by assumption)]), rfl⟩
  · exact ⟨ret_bool (by rw [bit_neg (by assumption)]), rfl⟩

end Go.Proofs.YtbcnkhfpogglmaaGreatDoor

namespace Go.Proofs.YtbcnkhfpogglmaaGreatDoor.C4
open Go.RowKit
set_option linter.unusedVariables false
set_option maxRecDepth 100000

/-- The document's clint t stands in block b. -/
def RefC (w : World) (b : Nat) (t : Cl) : Prop := w.heap[b]? = some (.cells #[.int .u64 (sI t.s), .int .u64 t.c, .int .u64 t.n] 96 (0, 0)) ∧ t.ok
theorem RefC.keeps {w w' : World} {b : Nat} {t : Cl} {T : Nat → Prop} (h : RefC w b t) (o : Only T w w') (hb : ¬ T b) : RefC w' b t := ⟨o.keeps hb h.1, h.2⟩
theorem RefC.lt {w : World} {b : Nat} {t : Cl} (h : RefC w b t) : b < w.heap.size := (Array.getElem?_eq_some_iff.1 h.1).1
theorem RefC.below {w w' : World} {b : Nat} {t : Cl} (h : RefC w b t) (o : Below w.heap.size w w') : RefC w' b t := ⟨(o.block b h.lt).trans h.1, h.2⟩
/-- The three cells. -/
theorem RefC.cells {w : World} {b : Nat} {t : Cl} (h : RefC w b t) : w.cell? ⟨b, 0, none⟩ = some (.int .u64 (sI t.s)) ∧ w.cell? ⟨b, 1, none⟩ = some (.int .u64 t.c) ∧ w.cell? ⟨b, 2, none⟩ = some (.int .u64 t.n) := by
  refine ⟨?_, ?_, ?_⟩ <;> (rw [cell_of_row w b _ _ _ _ h.1]; rfl)
theorem RefC.free {w : World} {b : Nat} {t : Cl} (h : RefC w b t) (k : Nat) : w.frozen? ⟨b, k, none⟩ = false := frozen_of_row w b k _ _ h.1
/-- Its value. -/
def refV (t : Cl) : Value := .agg #[.int .u64 (sI t.s), .int .u64 t.c, .int .u64 t.n]

/-- What a call leaves that turns the clint. -/
def RefEnd (w : World) (b : Nat) (r : Value) (t' : Cl) (e : Ending) (w' : World) : Prop := e = .returned r ∧ Only (fun i => i = b) w w' ∧ RefC w' b t'
end Go.Proofs.YtbcnkhfpogglmaaGreatDoor.C4

namespace Go.Proofs.YtbcnkhfpogglmaaGreatDoor.C4
open Go.RowKit
set_option linter.unusedVariables false
set_option maxRecDepth 100000

/-- No such place: what the walk asks of the tests, in its own spelling. -/
structure NoPlace (off n : Int) : Prop where
  k : kindC off n = 0
  soft : ¬ (off = 0 ∧ n = 4)
  whole : ¬ ((off = 16384 ∨ off = 49144) ∧ n = 8)
  half : ¬ ((off = 16384 ∨ off = 16388 ∨ off = 49144 ∨ off = 49148) ∧ n = 4)

theorem ne_bool {a b : Int} (h : ¬ a = b) : (a == b) = false := by simpa using h
/-- Whether the time has come. -/
def mtC (t : Cl) : Bool := decide (t.c ≤ t.n)
/-- What Read leaves. -/
def ReadC (w : World) (x : Int) (r : Bool) (e : Ending) (w' : World) : Prop := e = .returned (.tuple #[.int .u64 x, .bool r]) ∧ Below w.heap.size w w'
end Go.Proofs.YtbcnkhfpogglmaaGreatDoor.C4

namespace Go.Proofs.YtbcnkhfpogglmaaGreatDoor.C4
open Go.RowKit
set_option linter.unusedVariables false
set_option maxRecDepth 100000

/-- The program's clint t stands in block b. -/
def ProgC (w : World) (b : Nat) (t : Cl) : Prop := w.heap[b]? = some (.cells #[.bool t.s, .int .u64 t.c, .int .u64 t.n] 62 (0, 0)) ∧ t.ok
theorem ProgC.keeps {w w' : World} {b : Nat} {t : Cl} {T : Nat → Prop} (h : ProgC w b t) (o : Only T w w') (hb : ¬ T b) : ProgC w' b t := ⟨o.keeps hb h.1, h.2⟩
theorem ProgC.lt {w : World} {b : Nat} {t : Cl} (h : ProgC w b t) : b < w.heap.size := (Array.getElem?_eq_some_iff.1 h.1).1
theorem ProgC.below {w w' : World} {b : Nat} {t : Cl} (h : ProgC w b t) (o : Below w.heap.size w w') : ProgC w' b t := ⟨(o.block b h.lt).trans h.1, h.2⟩
theorem ProgC.cells {w : World} {b : Nat} {t : Cl} (h : ProgC w b t) : w.cell? ⟨b, 0, none⟩ = some (.bool t.s) ∧ w.cell? ⟨b, 1, none⟩ = some (.int .u64 t.c) ∧ w.cell? ⟨b, 2, none⟩ = some (.int .u64 t.n) := by
  refine ⟨?_, ?_, ?_⟩ <;> (rw [cell_of_row w b _ _ _ _ h.1]; rfl)
theorem ProgC.free {w : World} {b : Nat} {t : Cl} (h : ProgC w b t) (k : Nat) : w.frozen? ⟨b, k, none⟩ = false := frozen_of_row w b k _ _ h.1
/-- Its value, and its times'. -/
def timesV (t : Cl) : Value := .agg #[.int .u64 t.c, .int .u64 t.n]
def progV (t : Cl) : Value := .agg #[.bool t.s, .int .u64 t.c, .int .u64 t.n]

theorem time_any (w : World) (t : Cl) : Calls Tryz.prog 41 #[timesV t] w fun e w' => e = .returned (.int .u64 t.n) ∧ Below w.heap.size w w' := by
  obtain ⟨s, c, n⟩ := t
  show Calls Tryz.prog 41 #[.agg #[.int .u64 c, .int .u64 n]] w _
  go_enter Tryz.func41, Tryz.ntmps41
  go_wp2
  go_ret
  exact ⟨rfl, (Below.refl _ _).alloc (Nat.le_refl _) _⟩
theorem alarm_any (w : World) (t : Cl) : Calls Tryz.prog 147 #[timesV t] w fun e w' => e = .returned (.int .u64 t.c) ∧ Below w.heap.size w w' := by
  obtain ⟨s, c, n⟩ := t
  show Calls Tryz.prog 147 #[.agg #[.int .u64 c, .int .u64 n]] w _
  go_enter Tryz.func147, Tryz.ntmps147
  go_wp2
  go_ret
  exact ⟨rfl, (Below.refl _ _).alloc (Nat.le_refl _) _⟩
theorem mtip_any (w : World) (t : Cl) : Calls Tryz.prog 39 #[timesV t] w fun e w' => e = .returned (.bool (mtC t)) ∧ Below w.heap.size w w' := by
  obtain ⟨s, c, n⟩ := t
  show Calls Tryz.prog 39 #[.agg #[.int .u64 c, .int .u64 n]] w _
  go_enter Tryz.func39, Tryz.ntmps39
  go_wp2
  go_ret
  exact ⟨rfl, (Below.refl _ _).alloc (Nat.le_refl _) _⟩
theorem msip_any (w : World) (t : Cl) : Calls Tryz.prog 38 #[progV t] w fun e w' => e = .returned (.bool t.s) ∧ Below w.heap.size w w' := by
  obtain ⟨s, c, n⟩ := t
  show Calls Tryz.prog 38 #[.agg #[.bool s, .int .u64 c, .int .u64 n]] w _
  go_enter Tryz.func38, Tryz.ntmps38
  go_wp2
  go_ret
  exact ⟨rfl, (Below.refl _ _).alloc (Nat.le_refl _) _⟩
theorem softWord_any (w : World) (t : Cl) : Calls Tryz.prog 144 #[progV t] w fun e w' => e = .returned (.int .u64 (sI t.s)) ∧ Below w.heap.size w w' := by
  obtain ⟨s, c, n⟩ := t
  cases s with
  | true =>
    show Calls Tryz.prog 144 #[.agg #[.bool true, .int .u64 c, .int .u64 n]] w _
    go_enter Tryz.func144, Tryz.ntmps144
    go_wp2
    go_ret
    exact ⟨rfl, (Below.refl _ _).alloc (Nat.le_refl _) _⟩
  | false =>
    show Calls Tryz.prog 144 #[.agg #[.bool false, .int .u64 c, .int .u64 n]] w _
    go_enter Tryz.func144, Tryz.ntmps144
    go_wp2
    go_ret
    exact ⟨rfl, (Below.refl _ _).alloc (Nat.le_refl _) _⟩

/-- What a call leaves that turns the clint. -/
def ProgCEnd (w : World) (b : Nat) (r : Ending) (t' : Cl) (e : Ending) (w' : World) : Prop := e = r ∧ Only (fun i => i = b) w w' ∧ ProgC w' b t'
/-- What a call leaves that answers nothing. -/
def SetEndC (w : World) (b : Nat) (t' : Cl) (e : Ending) (w' : World) : Prop := (∃ u, e = .returned u) ∧ Only (fun i => i = b) w w' ∧ ProgC w' b t'

/-- Whether a time's byte and a length make a place. -/
def tmB (a n : Int) : Bool := decide (a = 0 ∧ n = 8 ∨ (a = 0 ∨ a = 4) ∧ n = 4)
theorem isOfTime_any (a n : Int) (w : World) : Calls Tryz.prog 146 #[.int .u64 a, .int .i64 n] w fun e w' => e = .returned (.bool (tmB a n)) ∧ w = w' := by
  by_cases n8 : n = 8
  · subst n8
    by_cases a0 : a = 0
    · subst a0
      have HE : Hid (true = tmB 0 8) := Lib.hid rfl
      go_enter Tryz.func146, Tryz.ntmps146
      go_wp2
      go_ret
      exact ⟨ret_bool HE.out, rfl⟩
    · have e0 := ne_bool a0
      have HE : Hid (false = tmB a 8) := by
        refine Lib.hid ?_
        unfold tmB; symm; rw [decide_eq_false_iff_not]; omega
      clear a0
      by_cases a4 : a = 4
      · subst a4
        go_enter Tryz.func146, Tryz.ntmps146
        go_wp2
        go_ret
        exact ⟨ret_bool HE.out, rfl⟩
      · have e4 := ne_bool a4
        clear a4
        go_enter Tryz.func146, Tryz.ntmps146
        go_wp2
        go_ret
        exact ⟨ret_bool HE.out, rfl⟩
  have e8 := ne_bool n8
  by_cases n4 : n = 4
  · subst n4
    clear n8 e8
    by_cases a0 : a = 0
    · subst a0
      have HE : Hid (true = tmB 0 4) := Lib.hid rfl
      go_enter Tryz.func146, Tryz.ntmps146
      go_wp2
      go_ret
      exact ⟨ret_bool HE.out, rfl⟩
    have e0 := ne_bool a0
    by_cases a4 : a = 4
    · subst a4
      have HE : Hid (true = tmB 4 4) := Lib.hid rfl
      clear a0 e0
      go_enter Tryz.func146, Tryz.ntmps146
      go_wp2
      go_ret
      exact ⟨ret_bool HE.out, rfl⟩
    · have HE : Hid (false = tmB a 4) := by
        refine Lib.hid ?_
        unfold tmB; symm; rw [decide_eq_false_iff_not]; omega
      have e4 := ne_bool a4
      clear a0 a4
      go_enter Tryz.func146, Tryz.ntmps146
      go_wp2
      go_ret
      exact ⟨ret_bool HE.out, rfl⟩
  have e4 := ne_bool n4
  have HE : Hid (false = tmB a n) := by
    refine Lib.hid ?_
    unfold tmB; symm; rw [decide_eq_false_iff_not]; omega
  clear n8 n4
  by_cases a0 : a = 0
  · subst a0
    go_enter Tryz.func146, Tryz.ntmps146
    go_wp2
    go_ret
    exact ⟨ret_bool HE.out, rfl⟩
  have e0 := ne_bool a0
  by_cases a4 : a = 4
  · subst a4
    clear a0 e0
    go_enter Tryz.func146, Tryz.ntmps146
    go_wp2
    go_ret
    exact ⟨ret_bool HE.out, rfl⟩
  have e44 := ne_bool a4
  clear a0 a4
  go_enter Tryz.func146, Tryz.ntmps146
  go_wp2
  go_ret
  exact ⟨ret_bool HE.out, rfl⟩

theorem firstBit_0 (w : World) : Calls Tryz.prog 149 #[.int .u64 0] w fun e w' => e = .returned (.int .i64 0) ∧ w' = w := by
  go_enter Tryz.func149, Tryz.ntmps149
  go_wp2
  go_ret
  exact ⟨rfl, rfl⟩
theorem firstBit_4 (w : World) : Calls Tryz.prog 149 #[.int .u64 4] w fun e w' => e = .returned (.int .i64 32) ∧ w' = w := by
  go_enter Tryz.func149, Tryz.ntmps149
  go_wp2
  go_ret
  exact ⟨rfl, rfl⟩

end Go.Proofs.YtbcnkhfpogglmaaGreatDoor.C4

namespace Go.Proofs.YtbcnkhfpogglmaaGreatDoor.C4
open Go.RowKit
set_option linter.unusedVariables false
set_option maxRecDepth 100000

/-- What find leaves: a place as a value. -/
def FindEnd (w : World) (v : Value) (r : Bool) (e : Ending) (w' : World) : Prop := e = .returned (.tuple #[v, .bool r]) ∧ Below w.heap.size w w'

/-- A cell of a block that was there, behind a making. -/
theorem cell_alloc {w : World} {b k : Nat} {v : Value} (h : w.cell? ⟨b, k, none⟩ = some v) (o : Obj) : (w.alloc o).cell? ⟨b, k, none⟩ = some v := by
  have hb : b < w.heap.size := by
    by_cases hb : b < w.heap.size
    · exact hb
    · have hn : w.heap[b]? = none := by simp; omega
      simp [World.cell?, hn] at h
  exact (((Below.refl w.heap.size w).alloc (Nat.le_refl _) o).cell (p := ⟨b, k, none⟩) hb).trans h
theorem isOfTime_is (a n : Int) (r : Bool) (w : World) (h : tmB a n = r) : Calls Tryz.prog 146 #[.int .u64 a, .int .i64 n] w fun e w' => e = .returned (.bool r) ∧ w = w' := by
  subst h; exact isOfTime_any a n w
/-- A place's cells. -/
def rowP (f m : Value) (lo : Int) : Array Value := #[f, m, .int .i64 lo]
theorem rowP_one (f m : Fn) (x y : Array Value) (lo : Int) : (rowP (.func f x #[]) (.func m y #[]) lo).all (·.oneCell') = true := by unfold rowP; simp [Value.oneCell']
/-- The places as values. -/
def softP (b : Nat) (t : Cl) : Value := .agg #[.func (.func 144) #[progV t] #[], .func (.func 145) #[.pointer (some ⟨b, 0, none⟩)] #[], .int .i64 0]
def alarmP (b : Nat) (t : Cl) (lo : Int) : Value := .agg #[.func (.func 147) #[timesV t] #[], .func (.func 148) #[.pointer (some ⟨b, 1, none⟩)] #[], .int .i64 lo]
def timeP (b : Nat) (t : Cl) (lo : Int) : Value := .agg #[.func (.func 41) #[timesV t] #[], .func (.func 84) #[.pointer (some ⟨b, 1, none⟩)] #[], .int .i64 lo]
def noP : Value := .agg #[Value.nilFunc, Value.nilFunc, .int .i64 0]

theorem find_1 (w : World) (b : Nat) (t : Cl) (h : ProgC w b t) :
    Calls Tryz.prog 123 #[.pointer (some ⟨b, 0, none⟩), .int .u64 0, .int .i64 4] w (FindEnd w (softP b t) true) := by
  obtain ⟨hc0, hc1, hc2⟩ := h.cells
  have a0 := fun o => cell_alloc hc0 o
  have a1 := fun o => cell_alloc hc1 o
  have a2 := fun o => cell_alloc hc2 o
  have hmf : ∀ (fn : Fn) (first cap : Array Value) (w : World), (Instr.makeFunc fn first cap).run Tryz.prog w = .ok (.func fn first cap) w := fun _ _ _ _ => rfl
  clear h
  go_enter Tryz.func123, Tryz.ntmps123
  go_wp2
  exact bodyPost_ret (v := .tuple #[softP b t, .bool true]) (by simp [results, Tryz.results123, go_sem]; rfl) rfl ⟨rfl, (Below.refl _ _).alloc (Nat.le_refl _) _⟩

theorem find_2 (w : World) (b : Nat) (t : Cl) (h : ProgC w b t) :
    Calls Tryz.prog 123 #[.pointer (some ⟨b, 0, none⟩), .int .u64 16384, .int .i64 8] w (FindEnd w (alarmP b t 0) true) := by
  obtain ⟨hc0, hc1, hc2⟩ := h.cells
  have a1 := fun o => cell_alloc hc1 o
  have a2 := fun o => cell_alloc hc2 o
  have hmf : ∀ (fn : Fn) (first cap : Array Value) (w : World), (Instr.makeFunc fn first cap).run Tryz.prog w = .ok (.func fn first cap) w := fun _ _ _ _ => rfl
  clear h
  go_enter Tryz.func123, Tryz.ntmps123
  go_wp2_with (go_at_call 146; refine (isOfTime_is _ _ true _ (by decide)).mono ?_; rintro e w' ⟨rfl, rfl⟩)
  have D : (w.alloc (.cells #[Value.nilFunc, Value.nilFunc, .int .i64 0] 158)).heap[w.heap.size]? = some (.cells #[Value.nilFunc, Value.nilFunc, .int .i64 0] 158 (0, 0)) := heap_alloc_new w _
  have HB := Lib.hid ((Below.refl w.heap.size w).alloc (Nat.le_refl _) (.cells #[Value.nilFunc, Value.nilFunc, .int .i64 0] 158))
  have b1 := a1 (.cells #[Value.nilFunc, Value.nilFunc, .int .i64 0] 158)
  have b2 := a2 (.cells #[Value.nilFunc, Value.nilFunc, .int .i64 0] 158)
  clear a1 a2 hc0 hc1 hc2
  generalize w.alloc (.cells #[Value.nilFunc, Value.nilFunc, .int .i64 0] 158) = w1 at *
  have HD := Lib.hid D
  clear D
  go_still_tail 13, (by kernel_rfl)
  still_call (firstBit_0 _)
  repeat still_step
  refine wpStill_nil ?_
  change wpList _ _ _ _ _ w1.drew
  refine wpList_store_row rfl 158 (.tmp 6) (.tmp 39) rfl w.heap.size (rowP (.func (.func 147) #[.agg #[.int .u64 t.c, .int .u64 t.n]] #[]) (.func (.func 148) #[.pointer (some ⟨b, 1, none⟩)] #[]) 0) rfl rfl 158 #[Value.nilFunc, Value.nilFunc, .int .i64 0] HD.out (by kernel_rfl) rfl (rowP_one _ _ _ _ _) ?_
  have c0 := cell_setRow_same w1.drew w.heap.size 0 _ (rowP (.func (.func 147) #[.agg #[.int .u64 t.c, .int .u64 t.n]] #[]) (.func (.func 148) #[.pointer (some ⟨b, 1, none⟩)] #[]) 0) _ _ HD.out
  have c1 := cell_setRow_same w1.drew w.heap.size 1 _ (rowP (.func (.func 147) #[.agg #[.int .u64 t.c, .int .u64 t.n]] #[]) (.func (.func 148) #[.pointer (some ⟨b, 1, none⟩)] #[]) 0) _ _ HD.out
  have c2 := cell_setRow_same w1.drew w.heap.size 2 _ (rowP (.func (.func 147) #[.agg #[.int .u64 t.c, .int .u64 t.n]] #[]) (.func (.func 148) #[.pointer (some ⟨b, 1, none⟩)] #[]) 0) _ _ HD.out
  have HB2 := Lib.hid (below_setRow (HB.out.trans ((Below.refl w.heap.size w1).drew)) (Nat.le_refl w.heap.size) (rowP (.func (.func 147) #[.agg #[.int .u64 t.c, .int .u64 t.n]] #[]) (.func (.func 148) #[.pointer (some ⟨b, 1, none⟩)] #[]) 0))
  generalize w1.drew.setRow w.heap.size (rowP (.func (.func 147) #[.agg #[.int .u64 t.c, .int .u64 t.n]] #[]) (.func (.func 148) #[.pointer (some ⟨b, 1, none⟩)] #[]) 0) = w2 at *
  simp only [rowP, List.getElem?_toArray, List.getElem?_cons_zero, List.getElem?_cons_succ] at c0 c1 c2
  go_wp2
  exact bodyPost_ret (v := .tuple #[alarmP b t 0, .bool true]) (by simp [results, Tryz.results123, go_sem, *]; rfl) rfl ⟨rfl, HB2.out⟩

theorem find_3 (w : World) (b : Nat) (t : Cl) (h : ProgC w b t) :
    Calls Tryz.prog 123 #[.pointer (some ⟨b, 0, none⟩), .int .u64 16384, .int .i64 4] w (FindEnd w (alarmP b t 0) true) := by
  obtain ⟨hc0, hc1, hc2⟩ := h.cells
  have a1 := fun o => cell_alloc hc1 o
  have a2 := fun o => cell_alloc hc2 o
  have hmf : ∀ (fn : Fn) (first cap : Array Value) (w : World), (Instr.makeFunc fn first cap).run Tryz.prog w = .ok (.func fn first cap) w := fun _ _ _ _ => rfl
  clear h
  go_enter Tryz.func123, Tryz.ntmps123
  go_wp2_with (go_at_call 146; refine (isOfTime_is _ _ true _ (by decide)).mono ?_; rintro e w' ⟨rfl, rfl⟩)
  have D : (w.alloc (.cells #[Value.nilFunc, Value.nilFunc, .int .i64 0] 158)).heap[w.heap.size]? = some (.cells #[Value.nilFunc, Value.nilFunc, .int .i64 0] 158 (0, 0)) := heap_alloc_new w _
  have HB := Lib.hid ((Below.refl w.heap.size w).alloc (Nat.le_refl _) (.cells #[Value.nilFunc, Value.nilFunc, .int .i64 0] 158))
  have b1 := a1 (.cells #[Value.nilFunc, Value.nilFunc, .int .i64 0] 158)
  have b2 := a2 (.cells #[Value.nilFunc, Value.nilFunc, .int .i64 0] 158)
  clear a1 a2 hc0 hc1 hc2
  generalize w.alloc (.cells #[Value.nilFunc, Value.nilFunc, .int .i64 0] 158) = w1 at *
  have HD := Lib.hid D
  clear D
  go_still_tail 13, (by kernel_rfl)
  still_call (firstBit_0 _)
  repeat still_step
  refine wpStill_nil ?_
  change wpList _ _ _ _ _ w1.drew
  refine wpList_store_row rfl 158 (.tmp 6) (.tmp 39) rfl w.heap.size (rowP (.func (.func 147) #[.agg #[.int .u64 t.c, .int .u64 t.n]] #[]) (.func (.func 148) #[.pointer (some ⟨b, 1, none⟩)] #[]) 0) rfl rfl 158 #[Value.nilFunc, Value.nilFunc, .int .i64 0] HD.out (by kernel_rfl) rfl (rowP_one _ _ _ _ _) ?_
  have c0 := cell_setRow_same w1.drew w.heap.size 0 _ (rowP (.func (.func 147) #[.agg #[.int .u64 t.c, .int .u64 t.n]] #[]) (.func (.func 148) #[.pointer (some ⟨b, 1, none⟩)] #[]) 0) _ _ HD.out
  have c1 := cell_setRow_same w1.drew w.heap.size 1 _ (rowP (.func (.func 147) #[.agg #[.int .u64 t.c, .int .u64 t.n]] #[]) (.func (.func 148) #[.pointer (some ⟨b, 1, none⟩)] #[]) 0) _ _ HD.out
  have c2 := cell_setRow_same w1.drew w.heap.size 2 _ (rowP (.func (.func 147) #[.agg #[.int .u64 t.c, .int .u64 t.n]] #[]) (.func (.func 148) #[.pointer (some ⟨b, 1, none⟩)] #[]) 0) _ _ HD.out
  have HB2 := Lib.hid (below_setRow (HB.out.trans ((Below.refl w.heap.size w1).drew)) (Nat.le_refl w.heap.size) (rowP (.func (.func 147) #[.agg #[.int .u64 t.c, .int .u64 t.n]] #[]) (.func (.func 148) #[.pointer (some ⟨b, 1, none⟩)] #[]) 0))
  generalize w1.drew.setRow w.heap.size (rowP (.func (.func 147) #[.agg #[.int .u64 t.c, .int .u64 t.n]] #[]) (.func (.func 148) #[.pointer (some ⟨b, 1, none⟩)] #[]) 0) = w2 at *
  simp only [rowP, List.getElem?_toArray, List.getElem?_cons_zero, List.getElem?_cons_succ] at c0 c1 c2
  go_wp2
  exact bodyPost_ret (v := .tuple #[alarmP b t 0, .bool true]) (by simp [results, Tryz.results123, go_sem, *]; rfl) rfl ⟨rfl, HB2.out⟩

theorem find_4 (w : World) (b : Nat) (t : Cl) (h : ProgC w b t) :
    Calls Tryz.prog 123 #[.pointer (some ⟨b, 0, none⟩), .int .u64 16388, .int .i64 4] w (FindEnd w (alarmP b t 32) true) := by
  obtain ⟨hc0, hc1, hc2⟩ := h.cells
  have a1 := fun o => cell_alloc hc1 o
  have a2 := fun o => cell_alloc hc2 o
  have hmf : ∀ (fn : Fn) (first cap : Array Value) (w : World), (Instr.makeFunc fn first cap).run Tryz.prog w = .ok (.func fn first cap) w := fun _ _ _ _ => rfl
  clear h
  go_enter Tryz.func123, Tryz.ntmps123
  go_wp2_with (go_at_call 146; refine (isOfTime_is _ _ true _ (by decide)).mono ?_; rintro e w' ⟨rfl, rfl⟩)
  have D : (w.alloc (.cells #[Value.nilFunc, Value.nilFunc, .int .i64 0] 158)).heap[w.heap.size]? = some (.cells #[Value.nilFunc, Value.nilFunc, .int .i64 0] 158 (0, 0)) := heap_alloc_new w _
  have HB := Lib.hid ((Below.refl w.heap.size w).alloc (Nat.le_refl _) (.cells #[Value.nilFunc, Value.nilFunc, .int .i64 0] 158))
  have b1 := a1 (.cells #[Value.nilFunc, Value.nilFunc, .int .i64 0] 158)
  have b2 := a2 (.cells #[Value.nilFunc, Value.nilFunc, .int .i64 0] 158)
  clear a1 a2 hc0 hc1 hc2
  generalize w.alloc (.cells #[Value.nilFunc, Value.nilFunc, .int .i64 0] 158) = w1 at *
  have HD := Lib.hid D
  clear D
  go_still_tail 13, (by kernel_rfl)
  still_call (firstBit_4 _)
  repeat still_step
  refine wpStill_nil ?_
  change wpList _ _ _ _ _ w1.drew
  refine wpList_store_row rfl 158 (.tmp 6) (.tmp 39) rfl w.heap.size (rowP (.func (.func 147) #[.agg #[.int .u64 t.c, .int .u64 t.n]] #[]) (.func (.func 148) #[.pointer (some ⟨b, 1, none⟩)] #[]) 32) rfl rfl 158 #[Value.nilFunc, Value.nilFunc, .int .i64 0] HD.out (by kernel_rfl) rfl (rowP_one _ _ _ _ _) ?_
  have c0 := cell_setRow_same w1.drew w.heap.size 0 _ (rowP (.func (.func 147) #[.agg #[.int .u64 t.c, .int .u64 t.n]] #[]) (.func (.func 148) #[.pointer (some ⟨b, 1, none⟩)] #[]) 32) _ _ HD.out
  have c1 := cell_setRow_same w1.drew w.heap.size 1 _ (rowP (.func (.func 147) #[.agg #[.int .u64 t.c, .int .u64 t.n]] #[]) (.func (.func 148) #[.pointer (some ⟨b, 1, none⟩)] #[]) 32) _ _ HD.out
  have c2 := cell_setRow_same w1.drew w.heap.size 2 _ (rowP (.func (.func 147) #[.agg #[.int .u64 t.c, .int .u64 t.n]] #[]) (.func (.func 148) #[.pointer (some ⟨b, 1, none⟩)] #[]) 32) _ _ HD.out
  have HB2 := Lib.hid (below_setRow (HB.out.trans ((Below.refl w.heap.size w1).drew)) (Nat.le_refl w.heap.size) (rowP (.func (.func 147) #[.agg #[.int .u64 t.c, .int .u64 t.n]] #[]) (.func (.func 148) #[.pointer (some ⟨b, 1, none⟩)] #[]) 32))
  generalize w1.drew.setRow w.heap.size (rowP (.func (.func 147) #[.agg #[.int .u64 t.c, .int .u64 t.n]] #[]) (.func (.func 148) #[.pointer (some ⟨b, 1, none⟩)] #[]) 32) = w2 at *
  simp only [rowP, List.getElem?_toArray, List.getElem?_cons_zero, List.getElem?_cons_succ] at c0 c1 c2
  go_wp2
  exact bodyPost_ret (v := .tuple #[alarmP b t 32, .bool true]) (by simp [results, Tryz.results123, go_sem, *]; rfl) rfl ⟨rfl, HB2.out⟩

theorem find_5 (w : World) (b : Nat) (t : Cl) (h : ProgC w b t) :
    Calls Tryz.prog 123 #[.pointer (some ⟨b, 0, none⟩), .int .u64 49144, .int .i64 8] w (FindEnd w (timeP b t 0) true) := by
  obtain ⟨hc0, hc1, hc2⟩ := h.cells
  have a1 := fun o => cell_alloc hc1 o
  have a2 := fun o => cell_alloc hc2 o
  have hmf : ∀ (fn : Fn) (first cap : Array Value) (w : World), (Instr.makeFunc fn first cap).run Tryz.prog w = .ok (.func fn first cap) w := fun _ _ _ _ => rfl
  clear h
  go_enter Tryz.func123, Tryz.ntmps123
  go_wp2_with fail
  refine (isOfTime_is _ _ false _ (by decide)).mono ?_
  rintro e w' ⟨rfl, rfl⟩
  go_wp2_with fail
  refine (isOfTime_is _ _ true _ (by decide)).mono ?_
  rintro e w' ⟨rfl, rfl⟩
  go_wp2_with fail
  have D : (w.alloc (.cells #[Value.nilFunc, Value.nilFunc, .int .i64 0] 158)).heap[w.heap.size]? = some (.cells #[Value.nilFunc, Value.nilFunc, .int .i64 0] 158 (0, 0)) := heap_alloc_new w _
  have HB := Lib.hid ((Below.refl w.heap.size w).alloc (Nat.le_refl _) (.cells #[Value.nilFunc, Value.nilFunc, .int .i64 0] 158))
  have b1 := a1 (.cells #[Value.nilFunc, Value.nilFunc, .int .i64 0] 158)
  have b2 := a2 (.cells #[Value.nilFunc, Value.nilFunc, .int .i64 0] 158)
  clear a1 a2 hc0 hc1 hc2
  generalize w.alloc (.cells #[Value.nilFunc, Value.nilFunc, .int .i64 0] 158) = w1 at *
  have HD := Lib.hid D
  clear D
  go_still_tail 13, (by kernel_rfl)
  still_call (firstBit_0 _)
  repeat still_step
  refine wpStill_nil ?_
  change wpList _ _ _ _ _ w1.drew
  refine wpList_store_row rfl 158 (.tmp 6) (.tmp 57) rfl w.heap.size (rowP (.func (.func 41) #[.agg #[.int .u64 t.c, .int .u64 t.n]] #[]) (.func (.func 84) #[.pointer (some ⟨b, 1, none⟩)] #[]) 0) rfl rfl 158 #[Value.nilFunc, Value.nilFunc, .int .i64 0] HD.out (by kernel_rfl) rfl (rowP_one _ _ _ _ _) ?_
  have c0 := cell_setRow_same w1.drew w.heap.size 0 _ (rowP (.func (.func 41) #[.agg #[.int .u64 t.c, .int .u64 t.n]] #[]) (.func (.func 84) #[.pointer (some ⟨b, 1, none⟩)] #[]) 0) _ _ HD.out
  have c1 := cell_setRow_same w1.drew w.heap.size 1 _ (rowP (.func (.func 41) #[.agg #[.int .u64 t.c, .int .u64 t.n]] #[]) (.func (.func 84) #[.pointer (some ⟨b, 1, none⟩)] #[]) 0) _ _ HD.out
  have c2 := cell_setRow_same w1.drew w.heap.size 2 _ (rowP (.func (.func 41) #[.agg #[.int .u64 t.c, .int .u64 t.n]] #[]) (.func (.func 84) #[.pointer (some ⟨b, 1, none⟩)] #[]) 0) _ _ HD.out
  have HB2 := Lib.hid (below_setRow (HB.out.trans ((Below.refl w.heap.size w1).drew)) (Nat.le_refl w.heap.size) (rowP (.func (.func 41) #[.agg #[.int .u64 t.c, .int .u64 t.n]] #[]) (.func (.func 84) #[.pointer (some ⟨b, 1, none⟩)] #[]) 0))
  generalize w1.drew.setRow w.heap.size (rowP (.func (.func 41) #[.agg #[.int .u64 t.c, .int .u64 t.n]] #[]) (.func (.func 84) #[.pointer (some ⟨b, 1, none⟩)] #[]) 0) = w2 at *
  simp only [rowP, List.getElem?_toArray, List.getElem?_cons_zero, List.getElem?_cons_succ] at c0 c1 c2
  go_wp2
  exact bodyPost_ret (v := .tuple #[timeP b t 0, .bool true]) (by simp [results, Tryz.results123, go_sem, *]; rfl) rfl ⟨rfl, HB2.out⟩

theorem find_6 (w : World) (b : Nat) (t : Cl) (h : ProgC w b t) :
    Calls Tryz.prog 123 #[.pointer (some ⟨b, 0, none⟩), .int .u64 49144, .int .i64 4] w (FindEnd w (timeP b t 0) true) := by
  obtain ⟨hc0, hc1, hc2⟩ := h.cells
  have a1 := fun o => cell_alloc hc1 o
  have a2 := fun o => cell_alloc hc2 o
  have hmf : ∀ (fn : Fn) (first cap : Array Value) (w : World), (Instr.makeFunc fn first cap).run Tryz.prog w = .ok (.func fn first cap) w := fun _ _ _ _ => rfl
  clear h
  go_enter Tryz.func123, Tryz.ntmps123
  go_wp2_with fail
  refine (isOfTime_is _ _ false _ (by decide)).mono ?_
  rintro e w' ⟨rfl, rfl⟩
  go_wp2_with fail
  refine (isOfTime_is _ _ true _ (by decide)).mono ?_
  rintro e w' ⟨rfl, rfl⟩
  go_wp2_with fail
  have D : (w.alloc (.cells #[Value.nilFunc, Value.nilFunc, .int .i64 0] 158)).heap[w.heap.size]? = some (.cells #[Value.nilFunc, Value.nilFunc, .int .i64 0] 158 (0, 0)) := heap_alloc_new w _
  have HB := Lib.hid ((Below.refl w.heap.size w).alloc (Nat.le_refl _) (.cells #[Value.nilFunc, Value.nilFunc, .int .i64 0] 158))
  have b1 := a1 (.cells #[Value.nilFunc, Value.nilFunc, .int .i64 0] 158)
  have b2 := a2 (.cells #[Value.nilFunc, Value.nilFunc, .int .i64 0] 158)
  clear a1 a2 hc0 hc1 hc2
  generalize w.alloc (.cells #[Value.nilFunc, Value.nilFunc, .int .i64 0] 158) = w1 at *
  have HD := Lib.hid D
  clear D
  go_still_tail 13, (by kernel_rfl)
  still_call (firstBit_0 _)
  repeat still_step
  refine wpStill_nil ?_
  change wpList _ _ _ _ _ w1.drew
  refine wpList_store_row rfl 158 (.tmp 6) (.tmp 57) rfl w.heap.size (rowP (.func (.func 41) #[.agg #[.int .u64 t.c, .int .u64 t.n]] #[]) (.func (.func 84) #[.pointer (some ⟨b, 1, none⟩)] #[]) 0) rfl rfl 158 #[Value.nilFunc, Value.nilFunc, .int .i64 0] HD.out (by kernel_rfl) rfl (rowP_one _ _ _ _ _) ?_
  have c0 := cell_setRow_same w1.drew w.heap.size 0 _ (rowP (.func (.func 41) #[.agg #[.int .u64 t.c, .int .u64 t.n]] #[]) (.func (.func 84) #[.pointer (some ⟨b, 1, none⟩)] #[]) 0) _ _ HD.out
  have c1 := cell_setRow_same w1.drew w.heap.size 1 _ (rowP (.func (.func 41) #[.agg #[.int .u64 t.c, .int .u64 t.n]] #[]) (.func (.func 84) #[.pointer (some ⟨b, 1, none⟩)] #[]) 0) _ _ HD.out
  have c2 := cell_setRow_same w1.drew w.heap.size 2 _ (rowP (.func (.func 41) #[.agg #[.int .u64 t.c, .int .u64 t.n]] #[]) (.func (.func 84) #[.pointer (some ⟨b, 1, none⟩)] #[]) 0) _ _ HD.out
  have HB2 := Lib.hid (below_setRow (HB.out.trans ((Below.refl w.heap.size w1).drew)) (Nat.le_refl w.heap.size) (rowP (.func (.func 41) #[.agg #[.int .u64 t.c, .int .u64 t.n]] #[]) (.func (.func 84) #[.pointer (some ⟨b, 1, none⟩)] #[]) 0))
  generalize w1.drew.setRow w.heap.size (rowP (.func (.func 41) #[.agg #[.int .u64 t.c, .int .u64 t.n]] #[]) (.func (.func 84) #[.pointer (some ⟨b, 1, none⟩)] #[]) 0) = w2 at *
  simp only [rowP, List.getElem?_toArray, List.getElem?_cons_zero, List.getElem?_cons_succ] at c0 c1 c2
  go_wp2
  exact bodyPost_ret (v := .tuple #[timeP b t 0, .bool true]) (by simp [results, Tryz.results123, go_sem, *]; rfl) rfl ⟨rfl, HB2.out⟩

theorem find_7 (w : World) (b : Nat) (t : Cl) (h : ProgC w b t) :
    Calls Tryz.prog 123 #[.pointer (some ⟨b, 0, none⟩), .int .u64 49148, .int .i64 4] w (FindEnd w (timeP b t 32) true) := by
  obtain ⟨hc0, hc1, hc2⟩ := h.cells
  have a1 := fun o => cell_alloc hc1 o
  have a2 := fun o => cell_alloc hc2 o
  have hmf : ∀ (fn : Fn) (first cap : Array Value) (w : World), (Instr.makeFunc fn first cap).run Tryz.prog w = .ok (.func fn first cap) w := fun _ _ _ _ => rfl
  clear h
  go_enter Tryz.func123, Tryz.ntmps123
  go_wp2_with fail
  refine (isOfTime_is _ _ false _ (by decide)).mono ?_
  rintro e w' ⟨rfl, rfl⟩
  go_wp2_with fail
  refine (isOfTime_is _ _ true _ (by decide)).mono ?_
  rintro e w' ⟨rfl, rfl⟩
  go_wp2_with fail
  have D : (w.alloc (.cells #[Value.nilFunc, Value.nilFunc, .int .i64 0] 158)).heap[w.heap.size]? = some (.cells #[Value.nilFunc, Value.nilFunc, .int .i64 0] 158 (0, 0)) := heap_alloc_new w _
  have HB := Lib.hid ((Below.refl w.heap.size w).alloc (Nat.le_refl _) (.cells #[Value.nilFunc, Value.nilFunc, .int .i64 0] 158))
  have b1 := a1 (.cells #[Value.nilFunc, Value.nilFunc, .int .i64 0] 158)
  have b2 := a2 (.cells #[Value.nilFunc, Value.nilFunc, .int .i64 0] 158)
  clear a1 a2 hc0 hc1 hc2
  generalize w.alloc (.cells #[Value.nilFunc, Value.nilFunc, .int .i64 0] 158) = w1 at *
  have HD := Lib.hid D
  clear D
  go_still_tail 13, (by kernel_rfl)
  still_call (firstBit_4 _)
  repeat still_step
  refine wpStill_nil ?_
  change wpList _ _ _ _ _ w1.drew
  refine wpList_store_row rfl 158 (.tmp 6) (.tmp 57) rfl w.heap.size (rowP (.func (.func 41) #[.agg #[.int .u64 t.c, .int .u64 t.n]] #[]) (.func (.func 84) #[.pointer (some ⟨b, 1, none⟩)] #[]) 32) rfl rfl 158 #[Value.nilFunc, Value.nilFunc, .int .i64 0] HD.out (by kernel_rfl) rfl (rowP_one _ _ _ _ _) ?_
  have c0 := cell_setRow_same w1.drew w.heap.size 0 _ (rowP (.func (.func 41) #[.agg #[.int .u64 t.c, .int .u64 t.n]] #[]) (.func (.func 84) #[.pointer (some ⟨b, 1, none⟩)] #[]) 32) _ _ HD.out
  have c1 := cell_setRow_same w1.drew w.heap.size 1 _ (rowP (.func (.func 41) #[.agg #[.int .u64 t.c, .int .u64 t.n]] #[]) (.func (.func 84) #[.pointer (some ⟨b, 1, none⟩)] #[]) 32) _ _ HD.out
  have c2 := cell_setRow_same w1.drew w.heap.size 2 _ (rowP (.func (.func 41) #[.agg #[.int .u64 t.c, .int .u64 t.n]] #[]) (.func (.func 84) #[.pointer (some ⟨b, 1, none⟩)] #[]) 32) _ _ HD.out
  have HB2 := Lib.hid (below_setRow (HB.out.trans ((Below.refl w.heap.size w1).drew)) (Nat.le_refl w.heap.size) (rowP (.func (.func 41) #[.agg #[.int .u64 t.c, .int .u64 t.n]] #[]) (.func (.func 84) #[.pointer (some ⟨b, 1, none⟩)] #[]) 32))
  generalize w1.drew.setRow w.heap.size (rowP (.func (.func 41) #[.agg #[.int .u64 t.c, .int .u64 t.n]] #[]) (.func (.func 84) #[.pointer (some ⟨b, 1, none⟩)] #[]) 32) = w2 at *
  simp only [rowP, List.getElem?_toArray, List.getElem?_cons_zero, List.getElem?_cons_succ] at c0 c1 c2
  go_wp2
  exact bodyPost_ret (v := .tuple #[timeP b t 32, .bool true]) (by simp [results, Tryz.results123, go_sem, *]; rfl) rfl ⟨rfl, HB2.out⟩

end Go.Proofs.YtbcnkhfpogglmaaGreatDoor.C4

namespace Go.Proofs.YtbcnkhfpogglmaaGreatDoor.C4
open Go.RowKit
set_option linter.unusedVariables false
set_option maxRecDepth 100000

theorem find_0 (w : World) (b : Nat) (off n : Int) (hp : NoPlace off n) (ho : In64 off) :
    Calls Tryz.prog 123 #[.pointer (some ⟨b, 0, none⟩), .int .u64 off, .int .i64 n] w (FindEnd w noP false) := by
  obtain ⟨hk, h1, h2, h3⟩ := hp
  have T1 : Hid (tmB (IntKind.u64.wrap (off - 16384)) n = false) := by
    refine Lib.hid ?_
    unfold tmB In64 at *; rw [decide_eq_false_iff_not, IntKind.wrap_u64]; omega
  have T2 : Hid (tmB (IntKind.u64.wrap (off - 49144)) n = false) := by
    refine Lib.hid ?_
    unfold tmB In64 at *; rw [decide_eq_false_iff_not, IntKind.wrap_u64]; omega
  clear hk ho h2 h3
  by_cases o0 : off = 0
  · subst o0
    have e4 := ne_bool (show ¬ n = 4 by omega)
    clear h1
    go_enter Tryz.func123, Tryz.ntmps123
    go_wp2_with fail
    refine (isOfTime_is _ _ false _ T1.out).mono ?_
    rintro e w' ⟨rfl, rfl⟩
    go_wp2_with fail
    refine (isOfTime_is _ _ false _ T2.out).mono ?_
    rintro e w' ⟨rfl, rfl⟩
    go_wp2_with fail
    exact bodyPost_ret (v := .tuple #[noP, .bool false]) (by simp [results, Tryz.results123, go_sem]; rfl) rfl ⟨rfl, (Below.refl _ _).alloc (Nat.le_refl _) _⟩
  · have e0 := ne_bool o0
    clear h1 o0
    go_enter Tryz.func123, Tryz.ntmps123
    go_wp2_with fail
    refine (isOfTime_is _ _ false _ T1.out).mono ?_
    rintro e w' ⟨rfl, rfl⟩
    go_wp2_with fail
    refine (isOfTime_is _ _ false _ T2.out).mono ?_
    rintro e w' ⟨rfl, rfl⟩
    go_wp2_with fail
    exact bodyPost_ret (v := .tuple #[noP, .bool false]) (by simp [results, Tryz.results123, go_sem]; rfl) rfl ⟨rfl, (Below.refl _ _).alloc (Nat.le_refl _) _⟩

/-- What a place's reading tells. -/
def Tells (f : FuncId) (x : Array Value) (X : Int) : Prop := (∀ w, (callFunc f x).run Tryz.prog w = .ok (.enter f x) w) ∧ ∀ w, Calls Tryz.prog f x w fun e w' => e = .returned (.int .u64 X) ∧ Below w.heap.size w w'

set_option maxHeartbeats 1000000 in
theorem read_place (w : World) (t : Cl) (hok : t.ok) (off n : Int) (f g : FuncId) (x y : Nat → Array Value) (lo X : Int) (hX : In64 X) (hn : n = 4 ∨ n = 8)
    (hf : ∀ w b, ProgC w b t → Calls Tryz.prog 123 #[.pointer (some ⟨b, 0, none⟩), .int .u64 off, .int .i64 n] w (FindEnd w (.agg #[.func (.func f) (x b) #[], .func (.func g) (y b) #[], .int .i64 lo]) true)) (hrd : ∀ b, Tells f (x b) X) :
    Calls Tryz.prog 122 #[progV t, .int .u64 off, .int .i64 n] w (ReadC w (U (fieldB (V X) lo (8 * n))) true) := by
  have HP : Hid (ProgC (w.alloc (.cells #[.bool t.s, .int .u64 t.c, .int .u64 t.n] 62)) w.heap.size t) := Lib.hid ⟨heap_alloc_new w _, hok⟩
  have HB := Lib.hid ((Below.refl w.heap.size w).alloc (Nat.le_refl _) (.cells #[.bool t.s, .int .u64 t.c, .int .u64 t.n] 62))
  have HF := Lib.hid hf
  have HRD := Lib.hid (hrd w.heap.size)
  have w32 : IntKind.i64.wrap 32 = 32 := rfl
  have w64 : IntKind.i64.wrap 64 = 64 := rfl
  have HX := Lib.hid hX
  clear hok hf hrd hX
  show Calls Tryz.prog 122 #[.agg #[.bool t.s, .int .u64 t.c, .int .u64 t.n], .int .u64 off, .int .i64 n] w _
  rcases hn with rfl | rfl
  all_goals
    go_enter Tryz.func122, Tryz.ntmps122
    go_wp2_with fail
    refine (HF.out _ _ HP.out).mono ?_
    rintro e w2 ⟨rfl, hb⟩
    have HB2 := Lib.hid (HB.out.trans (hb.mono HB.out.size))
    clear HB HP hb HF
    generalize x w.heap.size = x at *
    generalize y w.heap.size = y at *
    go_wp2_with fail
    have D : (w2.alloc (.cells #[.func (.func f) x #[], .func (.func g) y #[], .int .i64 lo] 158)).heap[w2.heap.size]? = some (.cells #[.func (.func f) x #[], .func (.func g) y #[], .int .i64 lo] 158 (0, 0)) := heap_alloc_new w2 _
    have HB3 := Lib.hid (HB2.out.alloc HB2.out.size (.cells #[.func (.func f) x #[], .func (.func g) y #[], .int .i64 lo] 158))
    have hz : w2.heap.size < (w2.alloc (.cells #[.func (.func f) x #[], .func (.func g) y #[], .int .i64 lo] 158)).heap.size := by rw [World.size_alloc]; omega
    generalize w2.alloc (.cells #[.func (.func f) x #[], .func (.func g) y #[], .int .i64 lo] 158) = w3 at *
    generalize w2.heap.size = b2 at *
    have c0 : w3.cell? ⟨b2, 0, none⟩ = some (.func (.func f) x #[]) := by rw [cell_of_row w3 b2 _ _ _ _ D]; rfl
    have c2 : w3.cell? ⟨b2, 2, none⟩ = some (.int .i64 lo) := by rw [cell_of_row w3 b2 _ _ _ _ D]; rfl
    have HD := Lib.hid D
    have hcf := HRD.out.1
    clear D HB2
    go_region_held3 (fun w' => w'.cell? ⟨b2, 0, none⟩ = some (.func (.func f) x #[]) ∧ w'.cell? ⟨b2, 2, none⟩ = some (.int .i64 lo)) (go_keep)
      (first
        | (go_at_call 117; refine (field_any _ _ _ HX.out _).mono ?_; rintro e w5 ⟨rfl, hk⟩; obtain ⟨nk, rfl⟩ := hk; have g0 : (w4.drewN nk).cell? ⟨b2, 0, none⟩ = some (.func (.func f) x #[]) := e0; have g2 : (w4.drewN nk).cell? ⟨b2, 2, none⟩ = some (.int .i64 lo) := e2; have HB5 : Hid (Below w.heap.size w (w4.drewN nk)) := Lib.hid (HB4.out.trans ⟨rfl, rfl, rfl, Nat.le_refl _, fun _ _ => rfl⟩); generalize w4.drewN nk = w6 at *)
        | (refine (HRD.out.2 _).mono ?_; rintro e w4 ⟨rfl, hb⟩; have e0 := (hb.cell (p := ⟨b2, 0, none⟩) hz).trans c0; have e2 := (hb.cell (p := ⟨b2, 2, none⟩) hz).trans c2; have HB4 := Lib.hid (HB3.out.trans (((Below.refl w3.heap.size w3).drew.trans hb).mono HB3.out.size)); clear hb))
    go_wp2
    go_ret2
    exact ⟨rfl, HB5.out⟩

end Go.Proofs.YtbcnkhfpogglmaaGreatDoor.C4

namespace Go.Proofs.YtbcnkhfpogglmaaGreatDoor.C4
open Go.RowKit
set_option linter.unusedVariables false
set_option maxRecDepth 100000

theorem _root_.Go.Proofs.YtbcnkhfpogglmaaGreatDoor.Only.cell {S : Nat → Prop} {w w' : World} (h : Only S w w') {k o : Nat} {v : Value} (hs : ¬ S k) (hc : w.cell? ⟨k, o, none⟩ = some v) : w'.cell? ⟨k, o, none⟩ = some v := by
  have hb : k < w.heap.size := by
    by_cases hb : k < w.heap.size
    · exact hb
    · have hn : w.heap[k]? = none := by simp; omega
      simp [World.cell?, hn] at hc
  rw [← hc]
  simp only [World.cell?, h.block k hb hs]
/-- What a place's writing leaves. -/
def Puts (g : FuncId) (y : Array Value) (b : Nat) (t : Cl) (T : Int → Cl) : Prop :=
  (∀ (v : Value) (w : World), (callFunc g (y.push v)).run Tryz.prog w = .ok (.enter g (y.push v)) w) ∧ ∀ (v : Int) (w : World), In64 v → ProgC w b t → Calls Tryz.prog g (y.push (.int .u64 v)) w (SetEndC w b (T v))
/-- What Write leaves. -/
def WriteC (w : World) (b : Nat) (r : Bool) (t' : Cl) (e : Ending) (w' : World) : Prop := e = .returned (.bool r) ∧ Only (fun i => i = b) w w' ∧ ProgC w' b t'

end Go.Proofs.YtbcnkhfpogglmaaGreatDoor.C4

namespace Go.Proofs.YtbcnkhfpogglmaaGreatDoor.C4
open Go.RowKit
set_option linter.unusedVariables false
set_option maxRecDepth 100000

theorem tells_soft (t : Cl) : Tells 144 #[progV t] (sI t.s) := ⟨fun _ => by kernel_rfl, fun w => softWord_any w t⟩
theorem tells_alarm (t : Cl) : Tells 147 #[timesV t] t.c := ⟨fun _ => by kernel_rfl, fun w => alarm_any w t⟩
theorem tells_time (t : Cl) : Tells 41 #[timesV t] t.n := ⟨fun _ => by kernel_rfl, fun w => time_any w t⟩
theorem sI_low (s : Bool) : sI s % 4294967296 = sI s := by cases s <;> rfl

theorem read_0 (w : World) (t : Cl) (hok : t.ok) (off n : Int) (hp : NoPlace off n) (ho : In64 off) :
    Calls Tryz.prog 122 #[progV t, .int .u64 off, .int .i64 n] w (ReadC w 0 false) := by
  have HP := Lib.hid hp
  have HO := Lib.hid ho
  have HB := Lib.hid ((Below.refl w.heap.size w).alloc (Nat.le_refl _) (.cells #[.bool t.s, .int .u64 t.c, .int .u64 t.n] 62))
  clear hp ho hok
  show Calls Tryz.prog 122 #[.agg #[.bool t.s, .int .u64 t.c, .int .u64 t.n], .int .u64 off, .int .i64 n] w _
  go_enter Tryz.func122, Tryz.ntmps122
  go_wp2_with fail
  refine (find_0 _ _ _ _ HP.out HO.out).mono ?_
  rintro e w2 ⟨rfl, hb⟩
  have HB2 := Lib.hid (HB.out.trans (hb.mono HB.out.size))
  clear HB hb
  simp only [noP]
  go_wp2
  go_ret2
  exact ⟨rfl, HB2.out.alloc HB2.out.size _⟩
theorem read_1 (w : World) (t : Cl) (hok : t.ok) : Calls Tryz.prog 122 #[progV t, .int .u64 0, .int .i64 4] w (ReadC w (rdC t 1) true) := by
  have h := read_place w t hok 0 4 144 145 (fun _ => #[progV t]) (fun b => #[.pointer (some ⟨b, 0, none⟩)]) 0 (sI t.s) (sI_in _) (by decide) (fun w b hp => find_1 w b t hp) (fun _ => tells_soft t)
  rw [show U (fieldB (V (sI t.s)) 0 (8 * 4)) = rdC t 1 from (field_low (sI_in _)).trans (sI_low _)] at h
  exact h
theorem read_2 (w : World) (t : Cl) (hok : t.ok) : Calls Tryz.prog 122 #[progV t, .int .u64 16384, .int .i64 8] w (ReadC w (rdC t 2) true) := by
  have h := read_place w t hok 16384 8 147 148 (fun _ => #[timesV t]) (fun b => #[.pointer (some ⟨b, 1, none⟩)]) 0 t.c hok.1 (by decide) (fun w b hp => find_2 w b t hp) (fun _ => tells_alarm t)
  rw [show U (fieldB (V t.c) 0 (8 * 8)) = rdC t 2 from field_whole hok.1] at h
  exact h
theorem read_3 (w : World) (t : Cl) (hok : t.ok) : Calls Tryz.prog 122 #[progV t, .int .u64 16384, .int .i64 4] w (ReadC w (rdC t 3) true) := by
  have h := read_place w t hok 16384 4 147 148 (fun _ => #[timesV t]) (fun b => #[.pointer (some ⟨b, 1, none⟩)]) 0 t.c hok.1 (by decide) (fun w b hp => find_3 w b t hp) (fun _ => tells_alarm t)
  rw [show U (fieldB (V t.c) 0 (8 * 4)) = rdC t 3 from field_low hok.1] at h
  exact h
theorem read_4 (w : World) (t : Cl) (hok : t.ok) : Calls Tryz.prog 122 #[progV t, .int .u64 16388, .int .i64 4] w (ReadC w (rdC t 4) true) := by
  have h := read_place w t hok 16388 4 147 148 (fun _ => #[timesV t]) (fun b => #[.pointer (some ⟨b, 1, none⟩)]) 32 t.c hok.1 (by decide) (fun w b hp => find_4 w b t hp) (fun _ => tells_alarm t)
  rw [show U (fieldB (V t.c) 32 (8 * 4)) = rdC t 4 from field_high hok.1] at h
  exact h
theorem read_5 (w : World) (t : Cl) (hok : t.ok) : Calls Tryz.prog 122 #[progV t, .int .u64 49144, .int .i64 8] w (ReadC w (rdC t 5) true) := by
  have h := read_place w t hok 49144 8 41 84 (fun _ => #[timesV t]) (fun b => #[.pointer (some ⟨b, 1, none⟩)]) 0 t.n hok.2 (by decide) (fun w b hp => find_5 w b t hp) (fun _ => tells_time t)
  rw [show U (fieldB (V t.n) 0 (8 * 8)) = rdC t 5 from field_whole hok.2] at h
  exact h
theorem read_6 (w : World) (t : Cl) (hok : t.ok) : Calls Tryz.prog 122 #[progV t, .int .u64 49144, .int .i64 4] w (ReadC w (rdC t 6) true) := by
  have h := read_place w t hok 49144 4 41 84 (fun _ => #[timesV t]) (fun b => #[.pointer (some ⟨b, 1, none⟩)]) 0 t.n hok.2 (by decide) (fun w b hp => find_6 w b t hp) (fun _ => tells_time t)
  rw [show U (fieldB (V t.n) 0 (8 * 4)) = rdC t 6 from field_low hok.2] at h
  exact h
theorem read_7 (w : World) (t : Cl) (hok : t.ok) : Calls Tryz.prog 122 #[progV t, .int .u64 49148, .int .i64 4] w (ReadC w (rdC t 7) true) := by
  have h := read_place w t hok 49148 4 41 84 (fun _ => #[timesV t]) (fun b => #[.pointer (some ⟨b, 1, none⟩)]) 32 t.n hok.2 (by decide) (fun w b hp => find_7 w b t hp) (fun _ => tells_time t)
  rw [show U (fieldB (V t.n) 32 (8 * 4)) = rdC t 7 from field_high hok.2] at h
  exact h
theorem read_any (w : World) (t : Cl) (hok : t.ok) (off n : Int) (ho : In64 off) :
    Calls Tryz.prog 122 #[progV t, .int .u64 off, .int .i64 n] w (ReadC w (rdC t (kindC off n)) (okC off n)) := by
  unfold okC
  rcases kind_cases off n with ⟨rfl, rfl, hk⟩ | ⟨rfl, rfl, hk⟩ | ⟨rfl, rfl, hk⟩ | ⟨rfl, rfl, hk⟩ | ⟨rfl, rfl, hk⟩ | ⟨rfl, rfl, hk⟩ | ⟨rfl, rfl, hk⟩ | ⟨hk, h1, h2, h3⟩
  all_goals rw [hk]
  · exact read_1 w t hok
  · exact read_2 w t hok
  · exact read_3 w t hok
  · exact read_4 w t hok
  · exact read_5 w t hok
  · exact read_6 w t hok
  · exact read_7 w t hok
  · exact read_0 w t hok off n ⟨hk, h1, h2, h3⟩ ho
theorem new_any (w : World) : Calls Tryz.prog 29 #[] w fun e w' => e = .returned (progV ⟨false, 18446744073709551615, 0⟩) ∧ Below w.heap.size w w' := by
  go_enter Tryz.func29, Tryz.ntmps29
  go_wp2
  exact bodyPost_ret (v := progV ⟨false, 18446744073709551615, 0⟩) (by simp [results, Tryz.results29, go_sem]; rfl) rfl ⟨rfl, (Below.refl _ _).alloc (Nat.le_refl _) _⟩
end Go.Proofs.YtbcnkhfpogglmaaGreatDoor.C4

namespace Go.Proofs.YtbcnkhfpogglmaaGreatDoor.C4.In
open Go.RowKit
set_option linter.unusedVariables false
set_option maxRecDepth 100000
variable {fr : Fr 1}

/-- The program's clint t stands one cell behind the beginning of block b. -/
def ProgC (fr : Fr 1) (w : World) (b : Nat) (t : Cl) : Prop := w.heap[b]? = some (.cells (fr.all #[.bool t.s, .int .u64 t.c, .int .u64 t.n]) fr.ty (0, 0)) ∧ t.ok
theorem ProgC.lt {w : World} {b : Nat} {t : Cl} (h : ProgC fr w b t) : b < w.heap.size := (Array.getElem?_eq_some_iff.1 h.1).1
theorem ProgC.keeps {w w' : World} {b : Nat} {t : Cl} {T : Nat → Prop} (h : ProgC fr w b t) (o : Only T w w') (hb : ¬ T b) : ProgC fr w' b t := ⟨o.keeps hb h.1, h.2⟩
theorem ProgC.below {w w' : World} {b : Nat} {t : Cl} (h : ProgC fr w b t) (o : Below w.heap.size w w') : ProgC fr w' b t := ⟨(o.block b h.lt).trans h.1, h.2⟩
theorem ProgC.cells {w : World} {b : Nat} {t : Cl} (h : ProgC fr w b t) : w.cell? ⟨b, 1, none⟩ = some (.bool t.s) ∧ w.cell? ⟨b, 2, none⟩ = some (.int .u64 t.c) ∧ w.cell? ⟨b, 3, none⟩ = some (.int .u64 t.n) := by
  refine ⟨?_, ?_, ?_⟩
  · rw [cell_of_row w b _ _ _ _ h.1]; exact fr.get _ 0 (by simp)
  · rw [cell_of_row w b _ _ _ _ h.1]; exact fr.get _ 1 (by simp)
  · rw [cell_of_row w b _ _ _ _ h.1]; exact fr.get _ 2 (by simp)
theorem ProgC.free {w : World} {b : Nat} {t : Cl} (h : ProgC fr w b t) (k : Nat) : w.frozen? ⟨b, k, none⟩ = false := frozen_of_row w b k _ _ h.1
theorem progC_set {w w' : World} {b k : Nat} {t t' : Cl} {v : Value} (h : ProgC fr w b t) (ho : ∃ n, w' = (w.drewN n).setCell ⟨b, 1 + k, none⟩ v) (hk : k < 3)
    (e : (#[.bool t.s, .int .u64 t.c, .int .u64 t.n] : Array Value).setIfInBounds k v = #[.bool t'.s, .int .u64 t'.c, .int .u64 t'.n]) (hok : t'.ok) : Only (fun i => i = b) w w' ∧ ProgC fr w' b t' := by
  obtain ⟨n, rfl⟩ := ho
  refine ⟨((Only.refl (fun i => i = b) w).drewN n).setCell (p := ⟨b, 1 + k, none⟩) (.inl rfl) v, ?_, hok⟩
  rw [heap_setCell_same (w.drewN n) b (1 + k) _ _ _ h.1, fr.set _ _ _ (by simpa using hk), e]

/-- What a call leaves that answers nothing. -/
def SetEndC (fr : Fr 1) (w : World) (b : Nat) (t' : Cl) (e : Ending) (w' : World) : Prop := (∃ u, e = .returned u) ∧ Only (fun i => i = b) w w' ∧ ProgC fr w' b t'

theorem setTime_any (w : World) (b : Nat) (t : Cl) (v : Int) (h : ProgC fr w b t) (hv : In64 v) :
    Calls Tryz.prog 84 #[.pointer (some ⟨b, 2, none⟩), .int .u64 v] w (SetEndC fr w b ⟨t.s, t.c, v⟩) := by
  obtain ⟨hc0, hc1, hc2⟩ := h.cells
  have f2 := h.free 3
  have H := Lib.hid h
  have HV := Lib.hid hv
  clear h hv
  go_enter Tryz.func84, Tryz.ntmps84
  go_wp2
  go_end0
  exact ⟨⟨_, rfl⟩, progC_set (k := 2) H.out ⟨0, rfl⟩ (by omega) rfl ⟨H.out.2.1, HV.out⟩⟩
theorem setAlarm_any (w : World) (b : Nat) (t : Cl) (v : Int) (h : ProgC fr w b t) (hv : In64 v) :
    Calls Tryz.prog 148 #[.pointer (some ⟨b, 2, none⟩), .int .u64 v] w (SetEndC fr w b ⟨t.s, v, t.n⟩) := by
  obtain ⟨hc0, hc1, hc2⟩ := h.cells
  have f1 := h.free 2
  have H := Lib.hid h
  have HV := Lib.hid hv
  clear h hv
  go_enter Tryz.func148, Tryz.ntmps148
  go_wp2
  go_end0
  exact ⟨⟨_, rfl⟩, progC_set (k := 1) H.out ⟨0, rfl⟩ (by omega) rfl ⟨HV.out, H.out.2.2⟩⟩
theorem setSoftWord_any (w : World) (b : Nat) (t : Cl) (v : Int) (h : ProgC fr w b t) (hv : In64 v) :
    Calls Tryz.prog 145 #[.pointer (some ⟨b, 1, none⟩), .int .u64 v] w (SetEndC fr w b ⟨bitB (V v) 0, t.c, t.n⟩) := by
  obtain ⟨hc0, hc1, hc2⟩ := h.cells
  have f0 := h.free 1
  have H := Lib.hid h
  have HV := Lib.hid hv
  have hv0 := hv.1
  clear h hv
  go_enter Tryz.func145, Tryz.ntmps145
  go_wp2_with (go_at_call 170; refine (bit64_any _ _ hv0 HV.out.2 _).mono ?_; rintro e w' ⟨rfl, rfl⟩)
  go_end0
  exact ⟨⟨_, rfl⟩, progC_set (k := 0) H.out ⟨0, rfl⟩ (by omega) rfl ⟨H.out.2.1, H.out.2.2⟩⟩

/-- The places as values. -/
def softP (b : Nat) (t : Cl) : Value := .agg #[.func (.func 144) #[progV t] #[], .func (.func 145) #[.pointer (some ⟨b, 1, none⟩)] #[], .int .i64 0]
def alarmP (b : Nat) (t : Cl) (lo : Int) : Value := .agg #[.func (.func 147) #[timesV t] #[], .func (.func 148) #[.pointer (some ⟨b, 2, none⟩)] #[], .int .i64 lo]
def timeP (b : Nat) (t : Cl) (lo : Int) : Value := .agg #[.func (.func 41) #[timesV t] #[], .func (.func 84) #[.pointer (some ⟨b, 2, none⟩)] #[], .int .i64 lo]
theorem find_1 (w : World) (b : Nat) (t : Cl) (h : ProgC fr w b t) :
    Calls Tryz.prog 123 #[.pointer (some ⟨b, 1, none⟩), .int .u64 0, .int .i64 4] w (FindEnd w (softP b t) true) := by
  obtain ⟨hc0, hc1, hc2⟩ := h.cells
  have a0 := fun o => cell_alloc hc0 o
  have a1 := fun o => cell_alloc hc1 o
  have a2 := fun o => cell_alloc hc2 o
  have hmf : ∀ (fn : Fn) (first cap : Array Value) (w : World), (Instr.makeFunc fn first cap).run Tryz.prog w = .ok (.func fn first cap) w := fun _ _ _ _ => rfl
  clear h
  go_enter Tryz.func123, Tryz.ntmps123
  go_wp2
  exact bodyPost_ret (v := .tuple #[softP b t, .bool true]) (by simp [results, Tryz.results123, go_sem]; rfl) rfl ⟨rfl, (Below.refl _ _).alloc (Nat.le_refl _) _⟩
theorem find_2 (w : World) (b : Nat) (t : Cl) (h : ProgC fr w b t) :
    Calls Tryz.prog 123 #[.pointer (some ⟨b, 1, none⟩), .int .u64 16384, .int .i64 8] w (FindEnd w (alarmP b t 0) true) := by
  obtain ⟨hc0, hc1, hc2⟩ := h.cells
  have a1 := fun o => cell_alloc hc1 o
  have a2 := fun o => cell_alloc hc2 o
  have hmf : ∀ (fn : Fn) (first cap : Array Value) (w : World), (Instr.makeFunc fn first cap).run Tryz.prog w = .ok (.func fn first cap) w := fun _ _ _ _ => rfl
  clear h
  go_enter Tryz.func123, Tryz.ntmps123
  go_wp2_with (go_at_call 146; refine (isOfTime_is _ _ true _ (by decide)).mono ?_; rintro e w' ⟨rfl, rfl⟩)
  have D : (w.alloc (.cells #[Value.nilFunc, Value.nilFunc, .int .i64 0] 158)).heap[w.heap.size]? = some (.cells #[Value.nilFunc, Value.nilFunc, .int .i64 0] 158 (0, 0)) := heap_alloc_new w _
  have HB := Lib.hid ((Below.refl w.heap.size w).alloc (Nat.le_refl _) (.cells #[Value.nilFunc, Value.nilFunc, .int .i64 0] 158))
  have b1 := a1 (.cells #[Value.nilFunc, Value.nilFunc, .int .i64 0] 158)
  have b2 := a2 (.cells #[Value.nilFunc, Value.nilFunc, .int .i64 0] 158)
  clear a1 a2 hc0 hc1 hc2
  generalize w.alloc (.cells #[Value.nilFunc, Value.nilFunc, .int .i64 0] 158) = w1 at *
  have HD := Lib.hid D
  clear D
  go_still_tail 13, (by kernel_rfl)
  still_call (firstBit_0 _)
  repeat still_step
  refine wpStill_nil ?_
  change wpList _ _ _ _ _ w1.drew
  refine wpList_store_row rfl 158 (.tmp 6) (.tmp 39) rfl w.heap.size (rowP (.func (.func 147) #[.agg #[.int .u64 t.c, .int .u64 t.n]] #[]) (.func (.func 148) #[.pointer (some ⟨b, 2, none⟩)] #[]) 0) rfl rfl 158 #[Value.nilFunc, Value.nilFunc, .int .i64 0] HD.out (by kernel_rfl) rfl (rowP_one _ _ _ _ _) ?_
  have c0 := cell_setRow_same w1.drew w.heap.size 0 _ (rowP (.func (.func 147) #[.agg #[.int .u64 t.c, .int .u64 t.n]] #[]) (.func (.func 148) #[.pointer (some ⟨b, 2, none⟩)] #[]) 0) _ _ HD.out
  have c1 := cell_setRow_same w1.drew w.heap.size 1 _ (rowP (.func (.func 147) #[.agg #[.int .u64 t.c, .int .u64 t.n]] #[]) (.func (.func 148) #[.pointer (some ⟨b, 2, none⟩)] #[]) 0) _ _ HD.out
  have c2 := cell_setRow_same w1.drew w.heap.size 2 _ (rowP (.func (.func 147) #[.agg #[.int .u64 t.c, .int .u64 t.n]] #[]) (.func (.func 148) #[.pointer (some ⟨b, 2, none⟩)] #[]) 0) _ _ HD.out
  have HB2 := Lib.hid (below_setRow (HB.out.trans ((Below.refl w.heap.size w1).drew)) (Nat.le_refl w.heap.size) (rowP (.func (.func 147) #[.agg #[.int .u64 t.c, .int .u64 t.n]] #[]) (.func (.func 148) #[.pointer (some ⟨b, 2, none⟩)] #[]) 0))
  generalize w1.drew.setRow w.heap.size (rowP (.func (.func 147) #[.agg #[.int .u64 t.c, .int .u64 t.n]] #[]) (.func (.func 148) #[.pointer (some ⟨b, 2, none⟩)] #[]) 0) = w2 at *
  simp only [rowP, List.getElem?_toArray, List.getElem?_cons_zero, List.getElem?_cons_succ] at c0 c1 c2
  go_wp2
  exact bodyPost_ret (v := .tuple #[alarmP b t 0, .bool true]) (by simp [results, Tryz.results123, go_sem, *]; rfl) rfl ⟨rfl, HB2.out⟩
theorem find_3 (w : World) (b : Nat) (t : Cl) (h : ProgC fr w b t) :
    Calls Tryz.prog 123 #[.pointer (some ⟨b, 1, none⟩), .int .u64 16384, .int .i64 4] w (FindEnd w (alarmP b t 0) true) := by
  obtain ⟨hc0, hc1, hc2⟩ := h.cells
  have a1 := fun o => cell_alloc hc1 o
  have a2 := fun o => cell_alloc hc2 o
  have hmf : ∀ (fn : Fn) (first cap : Array Value) (w : World), (Instr.makeFunc fn first cap).run Tryz.prog w = .ok (.func fn first cap) w := fun _ _ _ _ => rfl
  clear h
  go_enter Tryz.func123, Tryz.ntmps123
  go_wp2_with (go_at_call 146; refine (isOfTime_is _ _ true _ (by decide)).mono ?_; rintro e w' ⟨rfl, rfl⟩)
  have D : (w.alloc (.cells #[Value.nilFunc, Value.nilFunc, .int .i64 0] 158)).heap[w.heap.size]? = some (.cells #[Value.nilFunc, Value.nilFunc, .int .i64 0] 158 (0, 0)) := heap_alloc_new w _
  have HB := Lib.hid ((Below.refl w.heap.size w).alloc (Nat.le_refl _) (.cells #[Value.nilFunc, Value.nilFunc, .int .i64 0] 158))
  have b1 := a1 (.cells #[Value.nilFunc, Value.nilFunc, .int .i64 0] 158)
  have b2 := a2 (.cells #[Value.nilFunc, Value.nilFunc, .int .i64 0] 158)
  clear a1 a2 hc0 hc1 hc2
  generalize w.alloc (.cells #[Value.nilFunc, Value.nilFunc, .int .i64 0] 158) = w1 at *
  have HD := Lib.hid D
  clear D
  go_still_tail 13, (by kernel_rfl)
  still_call (firstBit_0 _)
  repeat still_step
  refine wpStill_nil ?_
  change wpList _ _ _ _ _ w1.drew
  refine wpList_store_row rfl 158 (.tmp 6) (.tmp 39) rfl w.heap.size (rowP (.func (.func 147) #[.agg #[.int .u64 t.c, .int .u64 t.n]] #[]) (.func (.func 148) #[.pointer (some ⟨b, 2, none⟩)] #[]) 0) rfl rfl 158 #[Value.nilFunc, Value.nilFunc, .int .i64 0] HD.out (by kernel_rfl) rfl (rowP_one _ _ _ _ _) ?_
  have c0 := cell_setRow_same w1.drew w.heap.size 0 _ (rowP (.func (.func 147) #[.agg #[.int .u64 t.c, .int .u64 t.n]] #[]) (.func (.func 148) #[.pointer (some ⟨b, 2, none⟩)] #[]) 0) _ _ HD.out
  have c1 := cell_setRow_same w1.drew w.heap.size 1 _ (rowP (.func (.func 147) #[.agg #[.int .u64 t.c, .int .u64 t.n]] #[]) (.func (.func 148) #[.pointer (some ⟨b, 2, none⟩)] #[]) 0) _ _ HD.out
  have c2 := cell_setRow_same w1.drew w.heap.size 2 _ (rowP (.func (.func 147) #[.agg #[.int .u64 t.c, .int .u64 t.n]] #[]) (.func (.func 148) #[.pointer (some ⟨b, 2, none⟩)] #[]) 0) _ _ HD.out
  have HB2 := Lib.hid (below_setRow (HB.out.trans ((Below.refl w.heap.size w1).drew)) (Nat.le_refl w.heap.size) (rowP (.func (.func 147) #[.agg #[.int .u64 t.c, .int .u64 t.n]] #[]) (.func (.func 148) #[.pointer (some ⟨b, 2, none⟩)] #[]) 0))
  generalize w1.drew.setRow w.heap.size (rowP (.func (.func 147) #[.agg #[.int .u64 t.c, .int .u64 t.n]] #[]) (.func (.func 148) #[.pointer (some ⟨b, 2, none⟩)] #[]) 0) = w2 at *
  simp only [rowP, List.getElem?_toArray, List.getElem?_cons_zero, List.getElem?_cons_succ] at c0 c1 c2
  go_wp2
  exact bodyPost_ret (v := .tuple #[alarmP b t 0, .bool true]) (by simp [results, Tryz.results123, go_sem, *]; rfl) rfl ⟨rfl, HB2.out⟩
theorem find_4 (w : World) (b : Nat) (t : Cl) (h : ProgC fr w b t) :
    Calls Tryz.prog 123 #[.pointer (some ⟨b, 1, none⟩), .int .u64 16388, .int .i64 4] w (FindEnd w (alarmP b t 32) true) := by
  obtain ⟨hc0, hc1, hc2⟩ := h.cells
  have a1 := fun o => cell_alloc hc1 o
  have a2 := fun o => cell_alloc hc2 o
  have hmf : ∀ (fn : Fn) (first cap : Array Value) (w : World), (Instr.makeFunc fn first cap).run Tryz.prog w = .ok (.func fn first cap) w := fun _ _ _ _ => rfl
  clear h
  go_enter Tryz.func123, Tryz.ntmps123
  go_wp2_with (go_at_call 146; refine (isOfTime_is _ _ true _ (by decide)).mono ?_; rintro e w' ⟨rfl, rfl⟩)
  have D : (w.alloc (.cells #[Value.nilFunc, Value.nilFunc, .int .i64 0] 158)).heap[w.heap.size]? = some (.cells #[Value.nilFunc, Value.nilFunc, .int .i64 0] 158 (0, 0)) := heap_alloc_new w _
  have HB := Lib.hid ((Below.refl w.heap.size w).alloc (Nat.le_refl _) (.cells #[Value.nilFunc, Value.nilFunc, .int .i64 0] 158))
  have b1 := a1 (.cells #[Value.nilFunc, Value.nilFunc, .int .i64 0] 158)
  have b2 := a2 (.cells #[Value.nilFunc, Value.nilFunc, .int .i64 0] 158)
  clear a1 a2 hc0 hc1 hc2
  generalize w.alloc (.cells #[Value.nilFunc, Value.nilFunc, .int .i64 0] 158) = w1 at *
  have HD := Lib.hid D
  clear D
  go_still_tail 13, (by kernel_rfl)
  still_call (firstBit_4 _)
  repeat still_step
  refine wpStill_nil ?_
  change wpList _ _ _ _ _ w1.drew
  refine wpList_store_row rfl 158 (.tmp 6) (.tmp 39) rfl w.heap.size (rowP (.func (.func 147) #[.agg #[.int .u64 t.c, .int .u64 t.n]] #[]) (.func (.func 148) #[.pointer (some ⟨b, 2, none⟩)] #[]) 32) rfl rfl 158 #[Value.nilFunc, Value.nilFunc, .int .i64 0] HD.out (by kernel_rfl) rfl (rowP_one _ _ _ _ _) ?_
  have c0 := cell_setRow_same w1.drew w.heap.size 0 _ (rowP (.func (.func 147) #[.agg #[.int .u64 t.c, .int .u64 t.n]] #[]) (.func (.func 148) #[.pointer (some ⟨b, 2, none⟩)] #[]) 32) _ _ HD.out
  have c1 := cell_setRow_same w1.drew w.heap.size 1 _ (rowP (.func (.func 147) #[.agg #[.int .u64 t.c, .int .u64 t.n]] #[]) (.func (.func 148) #[.pointer (some ⟨b, 2, none⟩)] #[]) 32) _ _ HD.out
  have c2 := cell_setRow_same w1.drew w.heap.size 2 _ (rowP (.func (.func 147) #[.agg #[.int .u64 t.c, .int .u64 t.n]] #[]) (.func (.func 148) #[.pointer (some ⟨b, 2, none⟩)] #[]) 32) _ _ HD.out
  have HB2 := Lib.hid (below_setRow (HB.out.trans ((Below.refl w.heap.size w1).drew)) (Nat.le_refl w.heap.size) (rowP (.func (.func 147) #[.agg #[.int .u64 t.c, .int .u64 t.n]] #[]) (.func (.func 148) #[.pointer (some ⟨b, 2, none⟩)] #[]) 32))
  generalize w1.drew.setRow w.heap.size (rowP (.func (.func 147) #[.agg #[.int .u64 t.c, .int .u64 t.n]] #[]) (.func (.func 148) #[.pointer (some ⟨b, 2, none⟩)] #[]) 32) = w2 at *
  simp only [rowP, List.getElem?_toArray, List.getElem?_cons_zero, List.getElem?_cons_succ] at c0 c1 c2
  go_wp2
  exact bodyPost_ret (v := .tuple #[alarmP b t 32, .bool true]) (by simp [results, Tryz.results123, go_sem, *]; rfl) rfl ⟨rfl, HB2.out⟩
theorem find_5 (w : World) (b : Nat) (t : Cl) (h : ProgC fr w b t) :
    Calls Tryz.prog 123 #[.pointer (some ⟨b, 1, none⟩), .int .u64 49144, .int .i64 8] w (FindEnd w (timeP b t 0) true) := by
  obtain ⟨hc0, hc1, hc2⟩ := h.cells
  have a1 := fun o => cell_alloc hc1 o
  have a2 := fun o => cell_alloc hc2 o
  have hmf : ∀ (fn : Fn) (first cap : Array Value) (w : World), (Instr.makeFunc fn first cap).run Tryz.prog w = .ok (.func fn first cap) w := fun _ _ _ _ => rfl
  clear h
  go_enter Tryz.func123, Tryz.ntmps123
  go_wp2_with fail
  refine (isOfTime_is _ _ false _ (by decide)).mono ?_
  rintro e w' ⟨rfl, rfl⟩
  go_wp2_with fail
  refine (isOfTime_is _ _ true _ (by decide)).mono ?_
  rintro e w' ⟨rfl, rfl⟩
  go_wp2_with fail
  have D : (w.alloc (.cells #[Value.nilFunc, Value.nilFunc, .int .i64 0] 158)).heap[w.heap.size]? = some (.cells #[Value.nilFunc, Value.nilFunc, .int .i64 0] 158 (0, 0)) := heap_alloc_new w _
  have HB := Lib.hid ((Below.refl w.heap.size w).alloc (Nat.le_refl _) (.cells #[Value.nilFunc, Value.nilFunc, .int .i64 0] 158))
  have b1 := a1 (.cells #[Value.nilFunc, Value.nilFunc, .int .i64 0] 158)
  have b2 := a2 (.cells #[Value.nilFunc, Value.nilFunc, .int .i64 0] 158)
  clear a1 a2 hc0 hc1 hc2
  generalize w.alloc (.cells #[Value.nilFunc, Value.nilFunc, .int .i64 0] 158) = w1 at *
  have HD := Lib.hid D
  clear D
  go_still_tail 13, (by kernel_rfl)
  still_call (firstBit_0 _)
  repeat still_step
  refine wpStill_nil ?_
  change wpList _ _ _ _ _ w1.drew
  refine wpList_store_row rfl 158 (.tmp 6) (.tmp 57) rfl w.heap.size (rowP (.func (.func 41) #[.agg #[.int .u64 t.c, .int .u64 t.n]] #[]) (.func (.func 84) #[.pointer (some ⟨b, 2, none⟩)] #[]) 0) rfl rfl 158 #[Value.nilFunc, Value.nilFunc, .int .i64 0] HD.out (by kernel_rfl) rfl (rowP_one _ _ _ _ _) ?_
  have c0 := cell_setRow_same w1.drew w.heap.size 0 _ (rowP (.func (.func 41) #[.agg #[.int .u64 t.c, .int .u64 t.n]] #[]) (.func (.func 84) #[.pointer (some ⟨b, 2, none⟩)] #[]) 0) _ _ HD.out
  have c1 := cell_setRow_same w1.drew w.heap.size 1 _ (rowP (.func (.func 41) #[.agg #[.int .u64 t.c, .int .u64 t.n]] #[]) (.func (.func 84) #[.pointer (some ⟨b, 2, none⟩)] #[]) 0) _ _ HD.out
  have c2 := cell_setRow_same w1.drew w.heap.size 2 _ (rowP (.func (.func 41) #[.agg #[.int .u64 t.c, .int .u64 t.n]] #[]) (.func (.func 84) #[.pointer (some ⟨b, 2, none⟩)] #[]) 0) _ _ HD.out
  have HB2 := Lib.hid (below_setRow (HB.out.trans ((Below.refl w.heap.size w1).drew)) (Nat.le_refl w.heap.size) (rowP (.func (.func 41) #[.agg #[.int .u64 t.c, .int .u64 t.n]] #[]) (.func (.func 84) #[.pointer (some ⟨b, 2, none⟩)] #[]) 0))
  generalize w1.drew.setRow w.heap.size (rowP (.func (.func 41) #[.agg #[.int .u64 t.c, .int .u64 t.n]] #[]) (.func (.func 84) #[.pointer (some ⟨b, 2, none⟩)] #[]) 0) = w2 at *
  simp only [rowP, List.getElem?_toArray, List.getElem?_cons_zero, List.getElem?_cons_succ] at c0 c1 c2
  go_wp2
  exact bodyPost_ret (v := .tuple #[timeP b t 0, .bool true]) (by simp [results, Tryz.results123, go_sem, *]; rfl) rfl ⟨rfl, HB2.out⟩
theorem find_6 (w : World) (b : Nat) (t : Cl) (h : ProgC fr w b t) :
    Calls Tryz.prog 123 #[.pointer (some ⟨b, 1, none⟩), .int .u64 49144, .int .i64 4] w (FindEnd w (timeP b t 0) true) := by
  obtain ⟨hc0, hc1, hc2⟩ := h.cells
  have a1 := fun o => cell_alloc hc1 o
  have a2 := fun o => cell_alloc hc2 o
  have hmf : ∀ (fn : Fn) (first cap : Array Value) (w : World), (Instr.makeFunc fn first cap).run Tryz.prog w = .ok (.func fn first cap) w := fun _ _ _ _ => rfl
  clear h
  go_enter Tryz.func123, Tryz.ntmps123
  go_wp2_with fail
  refine (isOfTime_is _ _ false _ (by decide)).mono ?_
  rintro e w' ⟨rfl, rfl⟩
  go_wp2_with fail
  refine (isOfTime_is _ _ true _ (by decide)).mono ?_
  rintro e w' ⟨rfl, rfl⟩
  go_wp2_with fail
  have D : (w.alloc (.cells #[Value.nilFunc, Value.nilFunc, .int .i64 0] 158)).heap[w.heap.size]? = some (.cells #[Value.nilFunc, Value.nilFunc, .int .i64 0] 158 (0, 0)) := heap_alloc_new w _
  have HB := Lib.hid ((Below.refl w.heap.size w).alloc (Nat.le_refl _) (.cells #[Value.nilFunc, Value.nilFunc, .int .i64 0] 158))
  have b1 := a1 (.cells #[Value.nilFunc, Value.nilFunc, .int .i64 0] 158)
  have b2 := a2 (.cells #[Value.nilFunc, Value.nilFunc, .int .i64 0] 158)
  clear a1 a2 hc0 hc1 hc2
  generalize w.alloc (.cells #[Value.nilFunc, Value.nilFunc, .int .i64 0] 158) = w1 at *
  have HD := Lib.hid D
  clear D
  go_still_tail 13, (by kernel_rfl)
  still_call (firstBit_0 _)
  repeat still_step
  refine wpStill_nil ?_
  change wpList _ _ _ _ _ w1.drew
  refine wpList_store_row rfl 158 (.tmp 6) (.tmp 57) rfl w.heap.size (rowP (.func (.func 41) #[.agg #[.int .u64 t.c, .int .u64 t.n]] #[]) (.func (.func 84) #[.pointer (some ⟨b, 2, none⟩)] #[]) 0) rfl rfl 158 #[Value.nilFunc, Value.nilFunc, .int .i64 0] HD.out (by kernel_rfl) rfl (rowP_one _ _ _ _ _) ?_
  have c0 := cell_setRow_same w1.drew w.heap.size 0 _ (rowP (.func (.func 41) #[.agg #[.int .u64 t.c, .int .u64 t.n]] #[]) (.func (.func 84) #[.pointer (some ⟨b, 2, none⟩)] #[]) 0) _ _ HD.out
  have c1 := cell_setRow_same w1.drew w.heap.size 1 _ (rowP (.func (.func 41) #[.agg #[.int .u64 t.c, .int .u64 t.n]] #[]) (.func (.func 84) #[.pointer (some ⟨b, 2, none⟩)] #[]) 0) _ _ HD.out
  have c2 := cell_setRow_same w1.drew w.heap.size 2 _ (rowP (.func (.func 41) #[.agg #[.int .u64 t.c, .int .u64 t.n]] #[]) (.func (.func 84) #[.pointer (some ⟨b, 2, none⟩)] #[]) 0) _ _ HD.out
  have HB2 := Lib.hid (below_setRow (HB.out.trans ((Below.refl w.heap.size w1).drew)) (Nat.le_refl w.heap.size) (rowP (.func (.func 41) #[.agg #[.int .u64 t.c, .int .u64 t.n]] #[]) (.func (.func 84) #[.pointer (some ⟨b, 2, none⟩)] #[]) 0))
  generalize w1.drew.setRow w.heap.size (rowP (.func (.func 41) #[.agg #[.int .u64 t.c, .int .u64 t.n]] #[]) (.func (.func 84) #[.pointer (some ⟨b, 2, none⟩)] #[]) 0) = w2 at *
  simp only [rowP, List.getElem?_toArray, List.getElem?_cons_zero, List.getElem?_cons_succ] at c0 c1 c2
  go_wp2
  exact bodyPost_ret (v := .tuple #[timeP b t 0, .bool true]) (by simp [results, Tryz.results123, go_sem, *]; rfl) rfl ⟨rfl, HB2.out⟩
theorem find_7 (w : World) (b : Nat) (t : Cl) (h : ProgC fr w b t) :
    Calls Tryz.prog 123 #[.pointer (some ⟨b, 1, none⟩), .int .u64 49148, .int .i64 4] w (FindEnd w (timeP b t 32) true) := by
  obtain ⟨hc0, hc1, hc2⟩ := h.cells
  have a1 := fun o => cell_alloc hc1 o
  have a2 := fun o => cell_alloc hc2 o
  have hmf : ∀ (fn : Fn) (first cap : Array Value) (w : World), (Instr.makeFunc fn first cap).run Tryz.prog w = .ok (.func fn first cap) w := fun _ _ _ _ => rfl
  clear h
  go_enter Tryz.func123, Tryz.ntmps123
  go_wp2_with fail
  refine (isOfTime_is _ _ false _ (by decide)).mono ?_
  rintro e w' ⟨rfl, rfl⟩
  go_wp2_with fail
  refine (isOfTime_is _ _ true _ (by decide)).mono ?_
  rintro e w' ⟨rfl, rfl⟩
  go_wp2_with fail
  have D : (w.alloc (.cells #[Value.nilFunc, Value.nilFunc, .int .i64 0] 158)).heap[w.heap.size]? = some (.cells #[Value.nilFunc, Value.nilFunc, .int .i64 0] 158 (0, 0)) := heap_alloc_new w _
  have HB := Lib.hid ((Below.refl w.heap.size w).alloc (Nat.le_refl _) (.cells #[Value.nilFunc, Value.nilFunc, .int .i64 0] 158))
  have b1 := a1 (.cells #[Value.nilFunc, Value.nilFunc, .int .i64 0] 158)
  have b2 := a2 (.cells #[Value.nilFunc, Value.nilFunc, .int .i64 0] 158)
  clear a1 a2 hc0 hc1 hc2
  generalize w.alloc (.cells #[Value.nilFunc, Value.nilFunc, .int .i64 0] 158) = w1 at *
  have HD := Lib.hid D
  clear D
  go_still_tail 13, (by kernel_rfl)
  still_call (firstBit_4 _)
  repeat still_step
  refine wpStill_nil ?_
  change wpList _ _ _ _ _ w1.drew
  refine wpList_store_row rfl 158 (.tmp 6) (.tmp 57) rfl w.heap.size (rowP (.func (.func 41) #[.agg #[.int .u64 t.c, .int .u64 t.n]] #[]) (.func (.func 84) #[.pointer (some ⟨b, 2, none⟩)] #[]) 32) rfl rfl 158 #[Value.nilFunc, Value.nilFunc, .int .i64 0] HD.out (by kernel_rfl) rfl (rowP_one _ _ _ _ _) ?_
  have c0 := cell_setRow_same w1.drew w.heap.size 0 _ (rowP (.func (.func 41) #[.agg #[.int .u64 t.c, .int .u64 t.n]] #[]) (.func (.func 84) #[.pointer (some ⟨b, 2, none⟩)] #[]) 32) _ _ HD.out
  have c1 := cell_setRow_same w1.drew w.heap.size 1 _ (rowP (.func (.func 41) #[.agg #[.int .u64 t.c, .int .u64 t.n]] #[]) (.func (.func 84) #[.pointer (some ⟨b, 2, none⟩)] #[]) 32) _ _ HD.out
  have c2 := cell_setRow_same w1.drew w.heap.size 2 _ (rowP (.func (.func 41) #[.agg #[.int .u64 t.c, .int .u64 t.n]] #[]) (.func (.func 84) #[.pointer (some ⟨b, 2, none⟩)] #[]) 32) _ _ HD.out
  have HB2 := Lib.hid (below_setRow (HB.out.trans ((Below.refl w.heap.size w1).drew)) (Nat.le_refl w.heap.size) (rowP (.func (.func 41) #[.agg #[.int .u64 t.c, .int .u64 t.n]] #[]) (.func (.func 84) #[.pointer (some ⟨b, 2, none⟩)] #[]) 32))
  generalize w1.drew.setRow w.heap.size (rowP (.func (.func 41) #[.agg #[.int .u64 t.c, .int .u64 t.n]] #[]) (.func (.func 84) #[.pointer (some ⟨b, 2, none⟩)] #[]) 32) = w2 at *
  simp only [rowP, List.getElem?_toArray, List.getElem?_cons_zero, List.getElem?_cons_succ] at c0 c1 c2
  go_wp2
  exact bodyPost_ret (v := .tuple #[timeP b t 32, .bool true]) (by simp [results, Tryz.results123, go_sem, *]; rfl) rfl ⟨rfl, HB2.out⟩
theorem find_0 (w : World) (b : Nat) (off n : Int) (hp : NoPlace off n) (ho : In64 off) :
    Calls Tryz.prog 123 #[.pointer (some ⟨b, 1, none⟩), .int .u64 off, .int .i64 n] w (FindEnd w noP false) := by
  obtain ⟨hk, h1, h2, h3⟩ := hp
  have T1 : Hid (tmB (IntKind.u64.wrap (off - 16384)) n = false) := by
    refine Lib.hid ?_
    unfold tmB In64 at *; rw [decide_eq_false_iff_not, IntKind.wrap_u64]; omega
  have T2 : Hid (tmB (IntKind.u64.wrap (off - 49144)) n = false) := by
    refine Lib.hid ?_
    unfold tmB In64 at *; rw [decide_eq_false_iff_not, IntKind.wrap_u64]; omega
  clear hk ho h2 h3
  by_cases o0 : off = 0
  · subst o0
    have e4 := ne_bool (show ¬ n = 4 by omega)
    clear h1
    go_enter Tryz.func123, Tryz.ntmps123
    go_wp2_with fail
    refine (isOfTime_is _ _ false _ T1.out).mono ?_
    rintro e w' ⟨rfl, rfl⟩
    go_wp2_with fail
    refine (isOfTime_is _ _ false _ T2.out).mono ?_
    rintro e w' ⟨rfl, rfl⟩
    go_wp2_with fail
    exact bodyPost_ret (v := .tuple #[noP, .bool false]) (by simp [results, Tryz.results123, go_sem]; rfl) rfl ⟨rfl, (Below.refl _ _).alloc (Nat.le_refl _) _⟩
  · have e0 := ne_bool o0
    clear h1 o0
    go_enter Tryz.func123, Tryz.ntmps123
    go_wp2_with fail
    refine (isOfTime_is _ _ false _ T1.out).mono ?_
    rintro e w' ⟨rfl, rfl⟩
    go_wp2_with fail
    refine (isOfTime_is _ _ false _ T2.out).mono ?_
    rintro e w' ⟨rfl, rfl⟩
    go_wp2_with fail
    exact bodyPost_ret (v := .tuple #[noP, .bool false]) (by simp [results, Tryz.results123, go_sem]; rfl) rfl ⟨rfl, (Below.refl _ _).alloc (Nat.le_refl _) _⟩
/-- What a place's writing leaves. -/
def Puts (fr : Fr 1) (g : FuncId) (y : Array Value) (b : Nat) (t : Cl) (T : Int → Cl) : Prop :=
  (∀ (v : Value) (w : World), (callFunc g (y.push v)).run Tryz.prog w = .ok (.enter g (y.push v)) w) ∧ ∀ (v : Int) (w : World), In64 v → ProgC fr w b t → Calls Tryz.prog g (y.push (.int .u64 v)) w (SetEndC fr w b (T v))
/-- What Write leaves. -/
def WriteC (fr : Fr 1) (w : World) (b : Nat) (r : Bool) (t' : Cl) (e : Ending) (w' : World) : Prop := e = .returned (.bool r) ∧ Only (fun i => i = b) w w' ∧ ProgC fr w' b t'
set_option maxHeartbeats 1000000 in
theorem write_place (w : World) (b : Nat) (t : Cl) (h : ProgC fr w b t) (off n v : Int) (f g : FuncId) (x y : Array Value) (lo X : Int) (T : Int → Cl) (hX : In64 X) (hv : In64 v) (hn : n = 4 ∨ n = 8)
    (hf : ∀ w, ProgC fr w b t → Calls Tryz.prog 123 #[.pointer (some ⟨b, 1, none⟩), .int .u64 off, .int .i64 n] w (FindEnd w (.agg #[.func (.func f) x #[], .func (.func g) y #[], .int .i64 lo]) true)) (hrd : Tells f x X) (hwr : Puts fr g y b t T) :
    Calls Tryz.prog 79 #[.pointer (some ⟨b, 1, none⟩), .int .u64 off, .int .i64 n, .int .u64 v] w (WriteC fr w b true (T (U (putB (V X) lo (8 * n) (V v))))) := by
  have HP := Lib.hid h
  have hbl := h.lt
  have HF := Lib.hid hf
  have HRD := Lib.hid hrd
  have HWR := Lib.hid hwr
  have HW : Hid (∀ (v : Int) (w : World), In64 v → ProgC fr w b t → Calls Tryz.prog g (y.push (.int .u64 v)) w (SetEndC fr w b (T v))) := Lib.hid hwr.2
  have HT : Hid (∀ w, Calls Tryz.prog f x w fun e w' => e = .returned (.int .u64 X) ∧ Below w.heap.size w w') := Lib.hid hrd.2
  have w32 : IntKind.i64.wrap 32 = 32 := rfl
  have w64 : IntKind.i64.wrap 64 = 64 := rfl
  have HX := Lib.hid hX
  have HV := Lib.hid hv
  clear h hf hrd hX hwr hv
  rcases hn with rfl | rfl
  all_goals
    go_enter Tryz.func79, Tryz.ntmps79
    go_wp2_with fail
    refine (HF.out _ HP.out).mono ?_
    rintro e w2 ⟨rfl, hb⟩
    have HB2 := Lib.hid hb
    clear hb HF
    go_wp2_with fail
    have D : (w2.alloc (.cells #[.func (.func f) x #[], .func (.func g) y #[], .int .i64 lo] 158)).heap[w2.heap.size]? = some (.cells #[.func (.func f) x #[], .func (.func g) y #[], .int .i64 lo] 158 (0, 0)) := heap_alloc_new w2 _
    have HB3 := Lib.hid (HB2.out.alloc HB2.out.size (.cells #[.func (.func f) x #[], .func (.func g) y #[], .int .i64 lo] 158))
    have hz : w2.heap.size < (w2.alloc (.cells #[.func (.func f) x #[], .func (.func g) y #[], .int .i64 lo] 158)).heap.size := by rw [World.size_alloc]; omega
    have hne : ¬ w2.heap.size = b := by have := HB2.out.size; omega
    generalize w2.alloc (.cells #[.func (.func f) x #[], .func (.func g) y #[], .int .i64 lo] 158) = w3 at *
    generalize w2.heap.size = b2 at *
    have c0 : w3.cell? ⟨b2, 0, none⟩ = some (.func (.func f) x #[]) := by rw [cell_of_row w3 b2 _ _ _ _ D]; rfl
    have c1 : w3.cell? ⟨b2, 1, none⟩ = some (.func (.func g) y #[]) := by rw [cell_of_row w3 b2 _ _ _ _ D]; rfl
    have c2 : w3.cell? ⟨b2, 2, none⟩ = some (.int .i64 lo) := by rw [cell_of_row w3 b2 _ _ _ _ D]; rfl
    have hcf := HRD.out.1
    have hcg := HWR.out.1
    clear D HB2
    go_region_held3 (fun w' => w'.cell? ⟨b2, 0, none⟩ = some (.func (.func f) x #[]) ∧ w'.cell? ⟨b2, 1, none⟩ = some (.func (.func g) y #[]) ∧ w'.cell? ⟨b2, 2, none⟩ = some (.int .i64 lo)) (go_keep)
      (first
        | (go_at_call 116; refine (put_any _ _ _ _ HX.out _).mono ?_; rintro e w5 ⟨rfl, rfl⟩)
        | ((with_reducible refine (HT.out _).mono ?_); rintro e w4 ⟨rfl, hb⟩; have e0 := (hb.cell (p := ⟨b2, 0, none⟩) hz).trans c0; have e1 := (hb.cell (p := ⟨b2, 1, none⟩) hz).trans c1; have e2 := (hb.cell (p := ⟨b2, 2, none⟩) hz).trans c2; have HB4 := Lib.hid (HB3.out.trans (((Below.refl w3.heap.size w3).drew.trans hb).mono HB3.out.size)); have hz4 := Nat.lt_of_lt_of_le hz hb.size; have HP4 : Hid (ProgC fr w4 b t) := Lib.hid (HP.out.below HB4.out); clear hb)
        | ((with_reducible refine (HW.out _ _ (U_in _) HP4.out).mono ?_); rintro e w5 ⟨hu, ho, hp⟩; obtain ⟨u, rfl⟩ := hu; have g0 := ho.cell hne e0; have g1 := ho.cell hne e1; have g2 := ho.cell hne e2; have HE := Lib.hid ((Only.of_below (fun i => i = b) HB4.out).trans ho); have HP5 := Lib.hid hp; clear ho hp))
    go_wp2
    go_ret
    exact ⟨rfl, HE.out, HP5.out⟩
theorem puts_soft (b : Nat) (t : Cl) : Puts fr 145 #[.pointer (some ⟨b, 1, none⟩)] b t (fun v => ⟨bitB (V v) 0, t.c, t.n⟩) := ⟨fun _ _ => by kernel_rfl, fun v w hv h => setSoftWord_any w b t v h hv⟩
theorem puts_alarm (b : Nat) (t : Cl) : Puts fr 148 #[.pointer (some ⟨b, 2, none⟩)] b t (fun v => ⟨t.s, v, t.n⟩) := ⟨fun _ _ => by kernel_rfl, fun v w hv h => setAlarm_any w b t v h hv⟩
theorem puts_time (b : Nat) (t : Cl) : Puts fr 84 #[.pointer (some ⟨b, 2, none⟩)] b t (fun v => ⟨t.s, t.c, v⟩) := ⟨fun _ _ => by kernel_rfl, fun v w hv h => setTime_any w b t v h hv⟩
theorem write_0 (w : World) (b : Nat) (t : Cl) (h : ProgC fr w b t) (off n v : Int) (hp : NoPlace off n) (ho : In64 off) :
    Calls Tryz.prog 79 #[.pointer (some ⟨b, 1, none⟩), .int .u64 off, .int .i64 n, .int .u64 v] w (WriteC fr w b false t) := by
  have HP := Lib.hid hp
  have HO := Lib.hid ho
  have HC := Lib.hid h
  clear hp ho h
  go_enter Tryz.func79, Tryz.ntmps79
  go_wp2_with fail
  refine (find_0 _ _ _ _ HP.out HO.out).mono ?_
  rintro e w2 ⟨rfl, hb⟩
  have HB2 := Lib.hid hb
  clear hb
  simp only [noP]
  go_wp2
  go_ret
  exact ⟨rfl, Only.of_below _ (HB2.out.alloc HB2.out.size _), HC.out.below (HB2.out.alloc HB2.out.size _)⟩
theorem write_1 (w : World) (b : Nat) (t : Cl) (h : ProgC fr w b t) (v : Int) (hv : In64 v) : Calls Tryz.prog 79 #[.pointer (some ⟨b, 1, none⟩), .int .u64 0, .int .i64 4, .int .u64 v] w (WriteC fr w b true (wrC t v 1)) := by
  have k := write_place w b t h 0 4 v 144 145 #[progV t] #[.pointer (some ⟨b, 1, none⟩)] 0 (sI t.s) _ (sI_in _) hv (by decide) (fun w hp => find_1 w b t hp) (tells_soft t) (puts_soft b t)
  have e : (⟨bitB (V (U (putB (V (sI t.s)) 0 (8 * 4) (V v)))) 0, t.c, t.n⟩ : Cl) = wrC t v 1 := by
    have e1 := bit_put_low (x := sI t.s) (sI_in _) hv
    show (⟨bitB (V (U (putB (V (sI t.s)) 0 32 (V v)))) 0, t.c, t.n⟩ : Cl) = _
    rw [e1]; rfl
  rw [← e]
  exact k
theorem write_2 (w : World) (b : Nat) (t : Cl) (h : ProgC fr w b t) (v : Int) (hv : In64 v) : Calls Tryz.prog 79 #[.pointer (some ⟨b, 1, none⟩), .int .u64 16384, .int .i64 8, .int .u64 v] w (WriteC fr w b true (wrC t v 2)) := by
  have k := write_place w b t h 16384 8 v 147 148 #[timesV t] #[.pointer (some ⟨b, 2, none⟩)] 0 t.c _ h.2.1 hv (by decide) (fun w hp => find_2 w b t hp) (tells_alarm t) (puts_alarm b t)
  have e : (⟨t.s, U (putB (V t.c) 0 (8 * 8) (V v)), t.n⟩ : Cl) = wrC t v 2 := by
    have e1 := put_whole (x := t.c) hv
    show (⟨t.s, U (putB (V t.c) 0 64 (V v)), t.n⟩ : Cl) = _
    rw [e1]; rfl
  rw [← e]
  exact k
theorem write_3 (w : World) (b : Nat) (t : Cl) (h : ProgC fr w b t) (v : Int) (hv : In64 v) : Calls Tryz.prog 79 #[.pointer (some ⟨b, 1, none⟩), .int .u64 16384, .int .i64 4, .int .u64 v] w (WriteC fr w b true (wrC t v 3)) := by
  have k := write_place w b t h 16384 4 v 147 148 #[timesV t] #[.pointer (some ⟨b, 2, none⟩)] 0 t.c _ h.2.1 hv (by decide) (fun w hp => find_3 w b t hp) (tells_alarm t) (puts_alarm b t)
  have e : (⟨t.s, U (putB (V t.c) 0 (8 * 4) (V v)), t.n⟩ : Cl) = wrC t v 3 := by
    have e1 := put_low h.2.1 hv
    show (⟨t.s, U (putB (V t.c) 0 32 (V v)), t.n⟩ : Cl) = _
    rw [e1]; rfl
  rw [← e]
  exact k
theorem write_4 (w : World) (b : Nat) (t : Cl) (h : ProgC fr w b t) (v : Int) (hv : In64 v) : Calls Tryz.prog 79 #[.pointer (some ⟨b, 1, none⟩), .int .u64 16388, .int .i64 4, .int .u64 v] w (WriteC fr w b true (wrC t v 4)) := by
  have k := write_place w b t h 16388 4 v 147 148 #[timesV t] #[.pointer (some ⟨b, 2, none⟩)] 32 t.c _ h.2.1 hv (by decide) (fun w hp => find_4 w b t hp) (tells_alarm t) (puts_alarm b t)
  have e : (⟨t.s, U (putB (V t.c) 32 (8 * 4) (V v)), t.n⟩ : Cl) = wrC t v 4 := by
    have e1 := put_high h.2.1 hv
    show (⟨t.s, U (putB (V t.c) 32 32 (V v)), t.n⟩ : Cl) = _
    rw [e1]; rfl
  rw [← e]
  exact k
theorem write_5 (w : World) (b : Nat) (t : Cl) (h : ProgC fr w b t) (v : Int) (hv : In64 v) : Calls Tryz.prog 79 #[.pointer (some ⟨b, 1, none⟩), .int .u64 49144, .int .i64 8, .int .u64 v] w (WriteC fr w b true (wrC t v 5)) := by
  have k := write_place w b t h 49144 8 v 41 84 #[timesV t] #[.pointer (some ⟨b, 2, none⟩)] 0 t.n _ h.2.2 hv (by decide) (fun w hp => find_5 w b t hp) (tells_time t) (puts_time b t)
  have e : (⟨t.s, t.c, U (putB (V t.n) 0 (8 * 8) (V v))⟩ : Cl) = wrC t v 5 := by
    have e1 := put_whole (x := t.n) hv
    show (⟨t.s, t.c, U (putB (V t.n) 0 64 (V v))⟩ : Cl) = _
    rw [e1]; rfl
  rw [← e]
  exact k
theorem write_6 (w : World) (b : Nat) (t : Cl) (h : ProgC fr w b t) (v : Int) (hv : In64 v) : Calls Tryz.prog 79 #[.pointer (some ⟨b, 1, none⟩), .int .u64 49144, .int .i64 4, .int .u64 v] w (WriteC fr w b true (wrC t v 6)) := by
  have k := write_place w b t h 49144 4 v 41 84 #[timesV t] #[.pointer (some ⟨b, 2, none⟩)] 0 t.n _ h.2.2 hv (by decide) (fun w hp => find_6 w b t hp) (tells_time t) (puts_time b t)
  have e : (⟨t.s, t.c, U (putB (V t.n) 0 (8 * 4) (V v))⟩ : Cl) = wrC t v 6 := by
    have e1 := put_low h.2.2 hv
    show (⟨t.s, t.c, U (putB (V t.n) 0 32 (V v))⟩ : Cl) = _
    rw [e1]; rfl
  rw [← e]
  exact k
theorem write_7 (w : World) (b : Nat) (t : Cl) (h : ProgC fr w b t) (v : Int) (hv : In64 v) : Calls Tryz.prog 79 #[.pointer (some ⟨b, 1, none⟩), .int .u64 49148, .int .i64 4, .int .u64 v] w (WriteC fr w b true (wrC t v 7)) := by
  have k := write_place w b t h 49148 4 v 41 84 #[timesV t] #[.pointer (some ⟨b, 2, none⟩)] 32 t.n _ h.2.2 hv (by decide) (fun w hp => find_7 w b t hp) (tells_time t) (puts_time b t)
  have e : (⟨t.s, t.c, U (putB (V t.n) 32 (8 * 4) (V v))⟩ : Cl) = wrC t v 7 := by
    have e1 := put_high h.2.2 hv
    show (⟨t.s, t.c, U (putB (V t.n) 32 32 (V v))⟩ : Cl) = _
    rw [e1]; rfl
  rw [← e]
  exact k
theorem write_any (w : World) (b : Nat) (t : Cl) (h : ProgC fr w b t) (off n v : Int) (ho : In64 off) (hv : In64 v) :
    Calls Tryz.prog 79 #[.pointer (some ⟨b, 1, none⟩), .int .u64 off, .int .i64 n, .int .u64 v] w (WriteC fr w b (okC off n) (wrC t v (kindC off n))) := by
  unfold okC
  rcases kind_cases off n with ⟨rfl, rfl, hk⟩ | ⟨rfl, rfl, hk⟩ | ⟨rfl, rfl, hk⟩ | ⟨rfl, rfl, hk⟩ | ⟨rfl, rfl, hk⟩ | ⟨rfl, rfl, hk⟩ | ⟨rfl, rfl, hk⟩ | ⟨hk, h1, h2, h3⟩
  all_goals rw [hk]
  · exact write_1 w b t h v hv
  · exact write_2 w b t h v hv
  · exact write_3 w b t h v hv
  · exact write_4 w b t h v hv
  · exact write_5 w b t h v hv
  · exact write_6 w b t h v hv
  · exact write_7 w b t h v hv
  · exact write_0 w b t h off n v ⟨hk, h1, h2, h3⟩ ho
set_option maxHeartbeats 1000000 in
theorem tick_any (w : World) (b : Nat) (t : Cl) (h : ProgC fr w b t) (n : Int) (hn : In64 n) :
    Calls Tryz.prog 37 #[.pointer (some ⟨b, 1, none⟩), .int .u64 n] w (SetEndC fr w b (tickC t n)) := by
  obtain ⟨hc0, hc1, hc2⟩ := h.cells
  have hbl := h.lt
  have H := Lib.hid h
  have HS : Hid (IntKind.u64.wrap (t.n + n) = (t.n + n) % 18446744073709551616) := Lib.hid (IntKind.wrap_u64 _)
  have HI : Hid (In64 (IntKind.u64.wrap (t.n + n))) := by
    refine Lib.hid ?_
    rw [wrap_eq]; exact U_in _
  clear h
  go_enter Tryz.func37, Tryz.ntmps37
  go_wp2_with fail
  have d1 : w.drew.cell? ⟨b, 2, none⟩ = some (.int .u64 t.c) := hc1
  have d2 : w.drew.cell? ⟨b, 3, none⟩ = some (.int .u64 t.n) := hc2
  go_region_with (first
      | (go_at_call 41; refine (time_any _ t).mono ?_; rintro e w4 ⟨rfl, hb⟩; have HB4 := Lib.hid (((Below.refl w.heap.size w).drew).trans hb); have HP4 : Hid (ProgC fr w4 b t) := Lib.hid (H.out.below HB4.out); clear hb)
      | (go_at_call 84; refine (setTime_any _ b t _ HP4.out HI.out).mono ?_; rintro e w5 ⟨hu, ho, hp⟩; obtain ⟨u, rfl⟩ := hu; have HE := Lib.hid ((Only.of_below (fun i => i = b) HB4.out).trans ho); have HP5 := Lib.hid hp; clear ho hp))
  go_wp2
  go_end0
  refine ⟨⟨_, rfl⟩, HE.out, ?_⟩
  have hh := HP5.out
  rw [HS.out] at hh
  exact hh

end Go.Proofs.YtbcnkhfpogglmaaGreatDoor.C4.In

namespace Go.Proofs.YtbcnkhfpogglmaaGreatDoor.P5
open Go.RowKit
set_option linter.unusedVariables false
set_option maxRecDepth 100000

/-- A plic's state, by the source's number and the context's. -/
structure PS where
  prio : Nat → Int
  up : Nat → Bool
  pend : Nat → Bool
  busy : Nat → Bool
  on : Nat → Nat → Bool
  floor : Nat → Int
/-- The cells of a source. -/
def srcCell (t : PS) (s : Nat) : Nat → Value
  | 0 => .int .u64 (t.prio s)
  | 1 => .bool (t.up s)
  | 2 => .bool (t.pend s)
  | 3 => .bool (t.busy s)
  | 4 => .bool (t.on s 0)
  | _ => .bool (t.on s 1)
def cellR (t : PS) (i : Nat) : Value := if i < 192 then srcCell t (i / 6) (i % 6) else .int .u64 (t.floor (i - 192))
/-- The document's plic t stands in block b. -/
def RefP (w : World) (b : Nat) (t : PS) : Prop := w.heap[b]? = some (.cells (varr 194 (cellR t)) 104 (0, 0))
theorem RefP.lt {w : World} {b : Nat} {t : PS} (h : RefP w b t) : b < w.heap.size := (Array.getElem?_eq_some_iff.1 h).1
theorem RefP.below {w w' : World} {b : Nat} {t : PS} (h : RefP w b t) (o : Below w.heap.size w w') : RefP w' b t := (o.block b h.lt).trans h
theorem RefP.keeps {w w' : World} {b : Nat} {t : PS} {T : Nat → Prop} (h : RefP w b t) (o : Only T w w') (hb : ¬ T b) : RefP w' b t := o.keeps hb h
theorem cellR_floor (t : PS) (c : Nat) : cellR t (192 + c) = .int .u64 (t.floor c) := by
  unfold cellR
  rw [if_neg (by omega), show 192 + c - 192 = c by omega]
theorem RefP.floor_ {w : World} {b : Nat} {t : PS} (h : RefP w b t) {c : Nat} (hc : c < 2) : w.cell? ⟨b, 192 + c, none⟩ = some (.int .u64 (t.floor c)) := by
  rw [cell_of_row w b _ _ _ _ h, varr_get _ _ _ (by omega), cellR_floor]
theorem RefP.free {w : World} {b : Nat} {t : PS} (h : RefP w b t) (k : Nat) : w.frozen? ⟨b, k, none⟩ = false := frozen_of_row w b k _ _ h
/-- One cell of a source turned. -/
theorem RefP.set {w : World} {b : Nat} {t t' : PS} (h : RefP w b t) {s j : Nat} (v : Value) (hs : s < 32) (hj : j < 6) (he : ∀ s' j', s' < 32 → j' < 6 → srcCell t' s' j' = if s' = s ∧ j' = j then v else srcCell t s' j') (hf : t'.floor = t.floor) :
    RefP (w.setCell ⟨b, s * 6 + j, none⟩ v) b t' := by
  unfold RefP
  rw [heap_setCell_same w b _ _ _ _ h, varr_set]
  have e : (varr 194 fun i => if i = s * 6 + j then v else cellR t i) = varr 194 (cellR t') := varr_congr fun i hi => by
    by_cases h1 : i < 192
    · have h2 : i = i / 6 * 6 + i % 6 := by omega
      have e1 : cellR t' i = srcCell t' (i / 6) (i % 6) := by unfold cellR; rw [if_pos h1]
      have e2 : cellR t i = srcCell t (i / 6) (i % 6) := by unfold cellR; rw [if_pos h1]
      rw [e1, e2, he _ _ (by omega) (by omega)]
      by_cases c : i = s * 6 + j
      · rw [if_pos c, if_pos ⟨by omega, by omega⟩]
      · rw [if_neg c, if_neg (by omega)]
    · rw [if_neg (by omega)]
      unfold cellR
      rw [if_neg h1, if_neg h1, hf]
  rw [e]

/-- One function turned at one place. -/
def upd {α : Type} (f : Nat → α) (k : Nat) (v : α) : Nat → α := fun i => if i = k then v else f i
theorem upd_other {α : Type} (f : Nat → α) {k i : Nat} (v : α) (h : ¬ i = k) : upd f k v i = f i := by unfold upd; rw [if_neg h]

def isS (s : Int) : Bool := decide (1 ≤ s ∧ s ≤ 31)
/-- To look at a source. -/
def lookP (t : PS) (s : Nat) : PS := if t.up s && !t.busy s then { t with pend := upd t.pend s true } else t
def SetP (w : World) (b : Nat) (t' : PS) (e : Ending) (w' : World) : Prop := (∃ u, e = .returned u) ∧ Only (fun i => i = b) w w' ∧ RefP w' b t'
end Go.Proofs.YtbcnkhfpogglmaaGreatDoor.P5

namespace Go.Proofs.YtbcnkhfpogglmaaGreatDoor.P5
open Go.RowKit
set_option linter.unusedVariables false
set_option maxRecDepth 100000

theorem isS_nat {s : Int} (h : isS s = true) : ∃ k : Nat, s = (k : Int) ∧ 1 ≤ k ∧ k < 32 := by
  unfold isS at h; rw [decide_eq_true_eq] at h
  exact ⟨s.toNat, by omega, by omega, by omega⟩
/-- A line turned. -/
def upP (t : PS) (s : Nat) (u : Bool) : PS := { t with up := upd t.up s u }
/-- What Level leaves. -/
def levelP (t : PS) (s : Int) (u : Bool) : PS := if isS s = true then lookP (upP t s.toNat u) s.toNat else t
def RefPEnd (w : World) (b : Nat) (r : Value) (t' : PS) (e : Ending) (w' : World) : Prop := e = .returned r ∧ Only (fun i => i = b) w w' ∧ RefP w' b t'

end Go.Proofs.YtbcnkhfpogglmaaGreatDoor.P5

namespace Go.Proofs.YtbcnkhfpogglmaaGreatDoor.P5
open Go.RowKit
set_option linter.unusedVariables false
set_option maxRecDepth 100000

/-- Its value. -/
def refPV (t : PS) : Value := .agg (varr 194 (cellR t))
/-- What Up tells. -/
def upT (t : PS) (s : Int) : Bool := isS s && t.up s.toNat
/-- The best of the sources 31 down to 32 - n. -/
def bestTo (t : PS) (c : Nat) : Nat → Nat
  | 0 => 0
  | n + 1 => if t.pend (31 - n) && t.on (31 - n) c && decide (0 < t.prio (31 - n)) && (decide (bestTo t c n = 0) || decide (t.prio (bestTo t c n) ≤ t.prio (31 - n))) then 31 - n else bestTo t c n
theorem bestTo_le (t : PS) (c n : Nat) : bestTo t c n ≤ 31 := by
  induction n with
  | zero => exact Nat.zero_le _
  | succ n ih => simp only [bestTo]; split <;> omega
/-- A context's best. -/
def bestC (t : PS) (c : Int) : Nat := if c = 0 ∨ c = 1 then bestTo t c.toNat 31 else 0
end Go.Proofs.YtbcnkhfpogglmaaGreatDoor.P5

namespace Go.Proofs.YtbcnkhfpogglmaaGreatDoor.P5
open Go.RowKit
set_option linter.unusedVariables false
set_option maxRecDepth 100000

/-- What Line tells. -/
def lineC (t : PS) (c : Int) : Bool := decide (0 < bestC t c) && decide (t.floor c.toNat < t.prio (bestC t c))
end Go.Proofs.YtbcnkhfpogglmaaGreatDoor.P5

namespace Go.Proofs.YtbcnkhfpogglmaaGreatDoor.P5
set_option linter.unusedVariables false
set_option maxRecDepth 100000

/-- What the loop has made of the bits 31 down to 32 - n. -/
def bitsN (f : Nat → Bool) : Nat → Int
  | 0 => 0
  | n + 1 => 2 * bitsN f n + if f (31 - n) then 1 else 0
theorem bitsN_bd (f : Nat → Bool) (n : Nat) : 0 ≤ bitsN f n ∧ bitsN f n < 2 ^ n := by
  induction n with
  | zero => simp [bitsN]
  | succ n ih =>
    have e : (2 : Int) ^ (n + 1) = 2 * 2 ^ n := by rw [Int.pow_succ]; omega
    simp only [bitsN]
    split <;> omega
theorem bitsN_even {f : Nat → Bool} {n : Nat} (h : f (31 - n) = false) : bitsN f (n + 1) = 2 * bitsN f n := by simp [bitsN, h]
theorem bitsN_odd {f : Nat → Bool} {n : Nat} (h : f (31 - n) = true) : bitsN f (n + 1) = 2 * bitsN f n + 1 := by simp [bitsN, h]
/-- The number of 32 bits. -/
def bits32 (f : Nat → Bool) : Int := bitsN f 32
theorem bits32_bd (f : Nat → Bool) : 0 ≤ bits32 f ∧ bits32 f < 4294967296 := bitsN_bd f 32
/-- A step down: what was made of n + k bits, without the last k. -/
theorem bitsN_div (f : Nat → Bool) (n k : Nat) : bitsN f (n + k) / 2 ^ k = bitsN f n := by
  induction k with
  | zero => simp
  | succ k ih =>
    have e : (2 : Int) ^ (k + 1) = 2 * 2 ^ k := by rw [Int.pow_succ]; omega
    rw [e, ← Int.ediv_ediv_of_nonneg (by omega : (0 : Int) ≤ 2)]
    have h : bitsN f (n + (k + 1)) / 2 = bitsN f (n + k) := by
      rw [← Nat.add_assoc]
      simp only [bitsN]
      split <;> omega
    rw [h, ih]
/-- Bit s of that number. -/
theorem bits32_bit (f : Nat → Bool) {s : Nat} (hs : s < 32) : (bits32 f / 2 ^ s % 2 == 1) = f s := by
  unfold bits32
  have h := bitsN_div f (32 - s) s
  rw [show 32 - s + s = 32 by omega] at h
  rw [h, show 32 - s = 31 - s + 1 by omega]
  cases hf : f s with
  | true => rw [bitsN_odd (by rw [show 31 - (31 - s) = s by omega]; exact hf), beq_iff_eq]; omega
  | false => rw [bitsN_even (by rw [show 31 - (31 - s) = s by omega]; exact hf), beq_eq_false_iff_ne]; omega
/-- Numbers of the same bits. -/
theorem bits32_inj {f g : Nat → Bool} (h : bits32 f = bits32 g) {s : Nat} (hs : s < 32) : f s = g s := by
  rw [← bits32_bit f hs, ← bits32_bit g hs, h]

end Go.Proofs.YtbcnkhfpogglmaaGreatDoor.P5

namespace Go.Proofs.YtbcnkhfpogglmaaGreatDoor.P5
open Go.RowKit
set_option linter.unusedVariables false
set_option maxRecDepth 100000

/-- No place of a plic: what the walk asks of the tests. -/
structure NoPlic (off : Int) : Prop where
  prio : ¬ (off < 128 ∧ off % 4 = 0)
  pend : ¬ off = 4096
  on0 : ¬ off = 8192
  on1 : ¬ off = 8320
  fl0 : ¬ off = 2097152
  fl1 : ¬ off = 2101248
  cl0 : ¬ off = 2097156
  cl1 : ¬ off = 2101252
end Go.Proofs.YtbcnkhfpogglmaaGreatDoor.P5

namespace Go.Proofs.YtbcnkhfpogglmaaGreatDoor.P5
open Go.RowKit
set_option linter.unusedVariables false
set_option maxRecDepth 100000

def unpendP (t : PS) (s : Nat) : PS := { t with pend := upd t.pend s false }
def claimP (t : PS) (s : Nat) : PS := { unpendP t s with busy := upd t.busy s true }
/-- What a claim leaves. -/
def claimed (t : PS) (k : Nat) : PS := if k = 0 then t else claimP t k
theorem bestC_le (t : PS) (c : Int) : bestC t c ≤ 31 := by unfold bestC; split; exact bestTo_le _ _ _; omega

end Go.Proofs.YtbcnkhfpogglmaaGreatDoor.P5

namespace Go.Proofs.YtbcnkhfpogglmaaGreatDoor.P5
open Go.RowKit
set_option linter.unusedVariables false
set_option maxRecDepth 100000

def V32 (x : Int) : BitVec 32 := BitVec.ofInt 32 x
theorem V32_toNat {x : Int} (h0 : 0 ≤ x) (h1 : x < 4294967296) : ((V32 x).toNat : Int) = x := by
  unfold V32; rw [BitVec.toNat_ofInt]; omega
theorem V32_mod (x : Int) : ((V32 x).toNat : Int) = x % 4294967296 := by
  unfold V32; rw [BitVec.toNat_ofInt]; omega
theorem V32_bit {x : Int} (h0 : 0 ≤ x) (h1 : x < 4294967296) (s : Nat) : (V32 x).getLsbD s = (x / 2 ^ s % 2 == 1) := by
  have e := V32_toNat h0 h1
  rw [BitVec.getLsbD, Nat.testBit_eq_decide_div_mod_eq]
  have h : x / 2 ^ s % 2 = (((V32 x).toNat / 2 ^ s % 2 : Nat) : Int) := by
    rw [Int.natCast_emod, Int.natCast_ediv, e]; norm_cast
  rw [h, Bool.eq_iff_iff, decide_eq_true_eq, beq_iff_eq]; omega
theorem bits32_V (f : Nat → Bool) {s : Nat} (hs : s < 32) : (V32 (bits32 f)).getLsbD s = f s := by
  rw [V32_bit (bits32_bd f).1 (bits32_bd f).2, bits32_bit f hs]
theorem bits32_of (b : BitVec 32) {f : Nat → Bool} (h : ∀ s, s < 32 → b.getLsbD s = f s) : (b.toNat : Int) = bits32 f := by
  have e : b = V32 (bits32 f) := BitVec.eq_of_getLsbD_eq fun i hi => by rw [h i hi, bits32_V f hi]
  rw [e, V32_toNat (bits32_bd f).1 (bits32_bd f).2]
theorem bits32_congr {f g : Nat → Bool} (h : ∀ s, s < 32 → f s = g s) : bits32 f = bits32 g := by
  rw [← bits32_of (V32 (bits32 f)) (f := g) fun s hs => by rw [bits32_V f hs, h s hs], V32_toNat (bits32_bd f).1 (bits32_bd f).2]
theorem wrap32_nat (b : BitVec 32) : IntKind.u32.wrap (b.toNat : Int) = b.toNat := by
  have := b.isLt
  rw [IntKind.wrap_u32]; omega
theorem or32 (x y : Int) : bits .or .u32 x y = ((V32 x ||| V32 y).toNat : Int) := by
  show IntKind.u32.wrap ((V32 x ||| V32 y).toNat : Int) = _
  exact wrap32_nat _
theorem and32 (x y : Int) : bits .and .u32 x y = ((V32 x &&& V32 y).toNat : Int) := by
  show IntKind.u32.wrap ((V32 x &&& V32 y).toNat : Int) = _
  exact wrap32_nat _
theorem andNot32 (x y : Int) : bits .andNot .u32 x y = ((V32 x &&& ~~~ V32 y).toNat : Int) := by
  show IntKind.u32.wrap ((V32 x &&& ~~~ V32 y).toNat : Int) = _
  exact wrap32_nat _
theorem pow32 {k : Nat} (hk : k < 32) (s : Nat) (hs : s < 32) : (V32 (2 ^ k)).getLsbD s = decide (s = k) := by
  have h : (2 : Int) ^ k = ((2 ^ k : Nat) : Int) := by norm_cast
  unfold V32
  rw [h, BitVec.ofInt_natCast, BitVec.getLsbD, BitVec.toNat_ofNat, Nat.mod_eq_of_lt (Nat.pow_lt_pow_right (by omega) hk), Nat.testBit_two_pow]
  exact decide_eq_decide.2 ⟨fun e => e.symm, fun e => e.symm⟩
/-- A bit set, a bit taken away. -/
theorem set32 (f : Nat → Bool) {k : Nat} (hk : k < 32) : bits .or .u32 (bits32 f) (2 ^ k) = bits32 (upd f k true) := by
  rw [or32]
  refine bits32_of _ fun s hs => ?_
  rw [BitVec.getLsbD_or, bits32_V f hs, pow32 hk s hs]
  unfold upd
  by_cases e : s = k
  · rw [if_pos e, decide_eq_true e, Bool.or_true]
  · rw [if_neg e, decide_eq_false e, Bool.or_false]
theorem clr32 (f : Nat → Bool) {k : Nat} (hk : k < 32) : bits .andNot .u32 (bits32 f) (2 ^ k) = bits32 (upd f k false) := by
  rw [andNot32]
  refine bits32_of _ fun s hs => ?_
  rw [BitVec.getLsbD_and, BitVec.getLsbD_not, bits32_V f hs, pow32 hk s hs, decide_eq_true hs, Bool.true_and]
  unfold upd
  by_cases e : s = k
  · rw [if_pos e, decide_eq_true e, Bool.not_true, Bool.and_false]
  · rw [if_neg e, decide_eq_false e, Bool.not_false, Bool.and_true]
theorem both32 (f g : Nat → Bool) : bits .and .u32 (bits32 f) (bits32 g) = bits32 (fun s => f s && g s) := by
  rw [and32]
  exact bits32_of _ fun s hs => by rw [BitVec.getLsbD_and, bits32_V f hs, bits32_V g hs]
/-- Bit s of a number. -/
def vbit (v : Int) (s : Nat) : Bool := v / 2 ^ s % 2 == 1
theorem low32 {v : Int} (h : 0 ≤ v) : v % 4294967296 = bits32 (vbit v) := by
  rw [← V32_mod]
  refine bits32_of _ fun s hs => ?_
  have h1 := Int.emod_nonneg v (show (4294967296 : Int) ≠ 0 by decide)
  have h2 := Int.emod_lt_of_pos v (show (0 : Int) < 4294967296 by decide)
  have e : V32 v = V32 (v % 4294967296) := BitVec.eq_of_toNat_eq (by have := V32_mod v; have k := V32_mod (v % 4294967296); omega)
  rw [e, V32_bit h1 h2]
  unfold vbit
  have hd : v % 4294967296 / 2 ^ s % 2 = v / 2 ^ s % 2 := by
    have hp : (4294967296 : Int) = 2 ^ s * (2 * 2 ^ (31 - s)) := by
      rw [show (2 : Int) * 2 ^ (31 - s) = 2 ^ (32 - s) by rw [show 32 - s = 31 - s + 1 by omega, Int.pow_succ, Int.mul_comm], ← Int.pow_add, show s + (32 - s) = 32 by omega]; rfl
    have hv : v = v % 4294967296 + 2 ^ s * (2 * (2 ^ (31 - s) * (v / 4294967296))) := by
      have h3 := Int.emod_add_mul_ediv v 4294967296
      have h4 : 4294967296 * (v / 4294967296) = 2 ^ s * (2 * (2 ^ (31 - s) * (v / 4294967296))) := by
        conv => lhs; lhs; rw [hp]
        rw [Int.mul_assoc, Int.mul_assoc]
      omega
    have hk : v / 2 ^ s = v % 4294967296 / 2 ^ s + 2 * (2 ^ (31 - s) * (v / 4294967296)) := by
      have h0 : (2 : Int) ^ s ≠ 0 := Int.pow_ne_zero (by decide)
      have := Int.add_mul_ediv_left (v % 4294967296) (2 * (2 ^ (31 - s) * (v / 4294967296))) h0
      rw [← this, ← hv]
    rw [hk]; omega
  rw [hd]
/-- What may be enabled by a number: not the source 0. -/
def onBits (v : Int) (s : Nat) : Bool := decide (0 < s) && vbit v s
theorem not1_32 {v : Int} (h : 0 ≤ v) : bits .andNot .u32 (v % 4294967296) 1 = bits32 (onBits v) := by
  rw [low32 h, show (1 : Int) = 2 ^ 0 by rfl, clr32 _ (by omega)]
  refine bits32_congr fun s hs => ?_
  unfold upd onBits
  by_cases e : s = 0
  · rw [if_pos e, decide_eq_false (by omega), Bool.false_and]
  · rw [if_neg e, decide_eq_true (by omega), Bool.true_and]
theorem bit32_is (f : Nat → Bool) {s : Nat} (hs : s < 32) : bitB (V (bits32 f)) s = f s := by
  have hb := bits32_bd f
  have h := bit_reckon (x := bits32 f) (i := (s : Int)) (k := 32) (by omega) hb.1 (by exact hb.2) (by omega)
  rw [← h, show min (s : Int).toNat 32 = s by omega, bits32_bit f hs]
theorem bit32_out (f : Nat → Bool) {i : Int} (h : ¬ (0 ≤ i ∧ i < 32)) : bitB (V (bits32 f)) i = false := by
  have hb := bits32_bd f
  by_cases h0 : 0 ≤ i
  · have k := bit_reckon (x := bits32 f) (i := i) (k := 32) (by omega) hb.1 (by exact hb.2) h0
    rw [← k, show min i.toNat 32 = 32 by omega, Int.ediv_eq_zero_of_lt hb.1 (by exact hb.2)]; rfl
  · exact bit_neg (by omega)
/-- The lowest three bits. -/
theorem low3 {v : Int} (h : In64 v) : U (fieldB (V v) 0 3) = v % 8 := by
  have h1 := Int.emod_nonneg v (show (8 : Int) ≠ 0 by decide)
  have h2 := Int.emod_lt_of_pos v (show (0 : Int) < 8 by decide)
  have e : fieldB (V v) 0 3 = V (v % 8) := ext64 fun i hi => by
    rw [field_bit _ _ (by decide), decide_eq_true hi, Bool.true_and, show i + (0 : Int).toNat = i by simp]
    have k := h.1
    rw [bit_div, bit_div]
    have e1 := toNat_V h
    have e2 := toNat_V (x := v % 8) (by unfold In64; omega)
    by_cases c : (i : Int) < 3
    · rw [decide_eq_true c, Bool.true_and]
      congr 1
      have hm : (V (v % 8)).toNat = (V v).toNat % 8 := by omega
      rw [hm]
      have : i = 0 ∨ i = 1 ∨ i = 2 := by omega
      rcases this with rfl | rfl | rfl <;> (apply propext; simp only [Nat.pow_zero, Nat.pow_one, Nat.reducePow]; omega)
    · rw [decide_eq_false c, Bool.false_and]
      symm
      rw [decide_eq_false_iff_not]
      have hlt : (V (v % 8)).toNat < 2 ^ 3 := by omega
      rw [Nat.div_eq_of_lt (Nat.lt_of_lt_of_le hlt (Nat.pow_le_pow_right (by omega) (by omega)))]
      omega
  rw [e, U_V (by unfold In64; omega)]

/-! ### the best -/
def candP (t : PS) (c i : Nat) : Bool := t.pend i && t.on i c && decide (0 < t.prio i)
/-- b is the best of the sources from lo to hi. -/
structure BestIn (t : PS) (c lo hi b : Nat) : Prop where
  nil : b = 0 → ∀ i, lo ≤ i → i ≤ hi → candP t c i = false
  is : b ≠ 0 → lo ≤ b ∧ b ≤ hi ∧ candP t c b = true ∧ ∀ i, lo ≤ i → i ≤ hi → candP t c i = true → t.prio i < t.prio b ∨ (t.prio i = t.prio b ∧ b ≤ i)
theorem BestIn.uniq {t : PS} {c lo hi a b : Nat} (ha : BestIn t c lo hi a) (hb : BestIn t c lo hi b) : a = b := by
  by_cases a0 : a = 0
  · by_cases b0 : b = 0
    · omega
    · obtain ⟨h1, h2, h3, _⟩ := hb.is b0
      rw [ha.nil a0 b h1 h2] at h3; cases h3
  · obtain ⟨h1, h2, h3, h4⟩ := ha.is a0
    by_cases b0 : b = 0
    · rw [hb.nil b0 a h1 h2] at h3; cases h3
    · obtain ⟨k1, k2, k3, k4⟩ := hb.is b0
      have x := h4 b k1 k2 k3
      have y := k4 a h1 h2 h3
      omega
theorem bestTo_best (t : PS) (c n : Nat) (hn : n ≤ 31) : BestIn t c (32 - n) 31 (bestTo t c n) := by
  induction n with
  | zero => exact ⟨fun _ i h1 h2 => by omega, fun h => absurd rfl h⟩
  | succ n ih =>
    have H := ih (by omega)
    simp only [bestTo]
    generalize bestTo t c n = b at *
    by_cases hc : candP t c (31 - n) = true
    · have hp : 0 < t.prio (31 - n) := by unfold candP at hc; simp at hc; exact hc.2
      have e : (t.pend (31 - n) && t.on (31 - n) c && decide (0 < t.prio (31 - n))) = true := hc
      rw [e, Bool.true_and]
      by_cases hb : b = 0
      · rw [decide_eq_true hb, Bool.true_or, if_pos rfl]
        refine ⟨fun h => by omega, fun _ => ⟨by omega, by omega, hc, fun i h1 h2 h3 => ?_⟩⟩
        by_cases ei : i = 31 - n
        · subst ei; exact .inr ⟨rfl, Nat.le_refl _⟩
        · rw [H.nil hb i (by omega) h2] at h3; cases h3
      · obtain ⟨h1, h2, h3, h4⟩ := H.is hb
        rw [decide_eq_false hb, Bool.false_or]
        by_cases hle : t.prio b ≤ t.prio (31 - n)
        · rw [decide_eq_true hle, if_pos rfl]
          refine ⟨fun h => by omega, fun _ => ⟨by omega, by omega, hc, fun i k1 k2 k3 => ?_⟩⟩
          by_cases ei : i = 31 - n
          · subst ei; exact .inr ⟨rfl, Nat.le_refl _⟩
          · have := h4 i (by omega) k2 k3
            omega
        · rw [decide_eq_false hle, if_neg (by simp)]
          refine ⟨fun h => absurd h hb, fun _ => ⟨by omega, h2, h3, fun i k1 k2 k3 => ?_⟩⟩
          by_cases ei : i = 31 - n
          · subst ei; exact .inl (by omega)
          · exact h4 i (by omega) k2 k3
    · have e : (t.pend (31 - n) && t.on (31 - n) c && decide (0 < t.prio (31 - n))) = false := by simpa [candP] using hc
      rw [e, Bool.false_and, if_neg (by simp)]
      have hcf : candP t c (31 - n) = false := e
      refine ⟨fun h i k1 k2 => ?_, fun h => ?_⟩
      · by_cases ei : i = 31 - n
        · subst ei; exact hcf
        · exact H.nil h i (by omega) k2
      · obtain ⟨h1, h2, h3, h4⟩ := H.is h
        refine ⟨by omega, h2, h3, fun i k1 k2 k3 => ?_⟩
        by_cases ei : i = 31 - n
        · subst ei; rw [hcf] at k3; cases k3
        · exact h4 i (by omega) k2 k3
/-- The best of the sources 1 to n, as it is sought from below. -/
def bestUp (t : PS) (c : Nat) : Nat → Nat
  | 0 => 0
  | n + 1 => if t.pend (n + 1) && t.on (n + 1) c && decide (t.prio (bestUp t c n) < t.prio (n + 1)) then n + 1 else bestUp t c n
theorem bestUp_le (t : PS) (c n : Nat) : bestUp t c n ≤ n := by
  induction n with
  | zero => exact Nat.le_refl _
  | succ n ih => simp only [bestUp]; split <;> omega
theorem bestUp_best (t : PS) (c n : Nat) (h0 : t.prio 0 = 0) : BestIn t c 1 n (bestUp t c n) := by
  induction n with
  | zero => exact ⟨fun _ i h1 h2 => by omega, fun h => absurd rfl h⟩
  | succ n H =>
    simp only [bestUp]
    have hle := bestUp_le t c n
    generalize bestUp t c n = b at *
    by_cases hb : b = 0
    · rw [hb, h0]
      by_cases hc : candP t c (n + 1) = true
      · have e : (t.pend (n + 1) && t.on (n + 1) c && decide (0 < t.prio (n + 1))) = true := hc
        rw [e, if_pos rfl]
        refine ⟨fun h => by omega, fun _ => ⟨by omega, Nat.le_refl _, hc, fun i h1 h2 h3 => ?_⟩⟩
        by_cases ei : i = n + 1
        · subst ei; exact .inr ⟨rfl, Nat.le_refl _⟩
        · rw [H.nil hb i h1 (by omega)] at h3; cases h3
      · have e : (t.pend (n + 1) && t.on (n + 1) c && decide (0 < t.prio (n + 1))) = false := by simpa [candP] using hc
        rw [e, if_neg (by simp)]
        refine ⟨fun _ i h1 h2 => ?_, fun h => absurd rfl h⟩
        by_cases ei : i = n + 1
        · subst ei; exact e
        · exact H.nil hb i h1 (by omega)
    · obtain ⟨h1, h2, h3, h4⟩ := H.is hb
      have hpb : 0 < t.prio b := by unfold candP at h3; simp at h3; exact h3.2
      by_cases hc : (t.pend (n + 1) && t.on (n + 1) c && decide (t.prio b < t.prio (n + 1))) = true
      · rw [if_pos hc]
        simp at hc
        obtain ⟨⟨hc1, hc2⟩, hc3⟩ := hc
        refine ⟨fun h => by omega, fun _ => ⟨by omega, Nat.le_refl _, by unfold candP; rw [hc1, hc2, decide_eq_true (by omega)]; rfl, fun i k1 k2 k3 => ?_⟩⟩
        by_cases ei : i = n + 1
        · subst ei; exact .inr ⟨rfl, Nat.le_refl _⟩
        · have := h4 i k1 (by omega) k3
          omega
      · rw [if_neg hc]
        refine ⟨fun h => absurd h hb, fun _ => ⟨h1, by omega, h3, fun i k1 k2 k3 => ?_⟩⟩
        by_cases ei : i = n + 1
        · subst ei
          unfold candP at k3; simp at k3 hc
          have := hc k3.1.1 k3.1.2
          omega
        · exact h4 i k1 (by omega) k3
theorem bestUp_is (t : PS) (c : Nat) (h0 : t.prio 0 = 0) : bestUp t c 31 = bestTo t c 31 := (bestUp_best t c 31 h0).uniq (bestTo_best t c 31 (by omega))
theorem bestUp_step (t : PS) {c n b : Nat} (hb : b = bestUp t c n) : bestUp t c (n + 1) = if t.pend (n + 1) && t.on (n + 1) c && decide (t.prio b < t.prio (n + 1)) then n + 1 else b := by
  simp only [bestUp]; rw [← hb]

end Go.Proofs.YtbcnkhfpogglmaaGreatDoor.P5

namespace Go.Proofs.YtbcnkhfpogglmaaGreatDoor.P5
open Go.RowKit
set_option linter.unusedVariables false
set_option maxRecDepth 100000

def prioT (t : PS) (s : Nat) (v : Int) : PS := { t with prio := upd t.prio s v }
def floorT (t : PS) (c : Nat) (v : Int) : PS := { t with floor := upd t.floor c v }
def onT (t : PS) (c : Nat) (f : Nat → Bool) : PS := { t with on := fun s c' => if c' = c then f s else t.on s c' }
def idleP (t : PS) (x : Nat) : PS := { t with busy := upd t.busy x false }
def mayB (t : PS) (c x : Nat) : Bool := decide (1 ≤ x) && decide (x ≤ 31) && t.on x c && t.busy x
/-- What a completion leaves. -/
def doneT (t : PS) (c x : Nat) : PS := if mayB t c x = true then lookP (idleP t x) x else t
/-- What the loop over the enabled ones has done. -/
def onK (t : PS) (c : Nat) (v : Int) (k : Nat) : PS := { t with on := fun s c' => if c' = c ∧ s < k then onBits v s else t.on s c' }
theorem RefP.congr {w : World} {b : Nat} {t t' : PS} (h : RefP w b t) (hs : ∀ s j, s < 32 → j < 6 → srcCell t s j = srcCell t' s j) (hf : ∀ c, c < 2 → t.floor c = t'.floor c) : RefP w b t' := by
  unfold RefP at *
  have e : varr 194 (cellR t) = varr 194 (cellR t') := varr_congr fun i hi => by
    unfold cellR
    by_cases h1 : i < 192
    · rw [if_pos h1, if_pos h1]; exact hs _ _ (by omega) (by omega)
    · rw [if_neg h1, if_neg h1, hf _ (by omega)]
  rw [← e]; exact h
theorem floorT_at (t : PS) (c : Nat) (v : Int) (i : Nat) : (floorT t c v).floor i = if i = c then v else t.floor i := rfl
end Go.Proofs.YtbcnkhfpogglmaaGreatDoor.P5

namespace Go.Proofs.YtbcnkhfpogglmaaGreatDoor.P5
open Go.RowKit
set_option linter.unusedVariables false
set_option maxRecDepth 100000

/-- What is always so of a plic. -/
structure PS.ok (t : PS) : Prop where
  prio0 : t.prio 0 = 0
  on0 : ∀ c, t.on 0 c = false
  pend0 : t.pend 0 = false
  up0 : t.up 0 = false
  pr : ∀ s, 0 ≤ t.prio s ∧ t.prio s < 8
  fl : ∀ c, 0 ≤ t.floor c ∧ t.floor c < 8
def cellQ (t : PS) (i : Nat) : Value :=
  if i = 0 then .int .u32 (bits32 t.up) else if i = 1 then .int .u32 (bits32 t.pend) else if i = 2 then .int .u32 (bits32 t.busy)
  else if i < 35 then .int .u8 (t.prio (i - 3)) else if i < 37 then .int .u32 (bits32 fun s => t.on s (i - 35)) else .int .u8 (t.floor (i - 37))
/-- The program's plic t stands in block b. -/
def ProgP (w : World) (b : Nat) (t : PS) : Prop := w.heap[b]? = some (.cells (varr 39 (cellQ t)) 69 (0, 0)) ∧ t.ok
theorem ProgP.lt {w : World} {b : Nat} {t : PS} (h : ProgP w b t) : b < w.heap.size := (Array.getElem?_eq_some_iff.1 h.1).1
theorem ProgP.below {w w' : World} {b : Nat} {t : PS} (h : ProgP w b t) (o : Below w.heap.size w w') : ProgP w' b t := ⟨(o.block b h.lt).trans h.1, h.2⟩
theorem ProgP.keeps {w w' : World} {b : Nat} {t : PS} {T : Nat → Prop} (h : ProgP w b t) (o : Only T w w') (hb : ¬ T b) : ProgP w' b t := ⟨o.keeps hb h.1, h.2⟩
theorem ProgP.free {w : World} {b : Nat} {t : PS} (h : ProgP w b t) (k : Nat) : w.frozen? ⟨b, k, none⟩ = false := frozen_of_row w b k _ _ h.1
theorem ProgP.cell {w : World} {b : Nat} {t : PS} (h : ProgP w b t) {i : Nat} (hi : i < 39) {v : Value} (hv : cellQ t i = v) : w.cell? ⟨b, i, none⟩ = some v := by
  rw [cell_of_row w b _ _ _ _ h.1, varr_get _ _ _ hi, hv]
theorem cellQ_prio (t : PS) {s : Nat} (hs : s < 32) : cellQ t (3 + s) = .int .u8 (t.prio s) := by
  unfold cellQ
  rw [if_neg (by omega), if_neg (by omega), if_neg (by omega), if_pos (by omega), show 3 + s - 3 = s by omega]
theorem cellQ_on (t : PS) {c : Nat} (hc : c < 2) : cellQ t (35 + c) = .int .u32 (bits32 fun s => t.on s c) := by
  unfold cellQ
  rw [if_neg (by omega), if_neg (by omega), if_neg (by omega), if_neg (by omega), if_pos (by omega), show 35 + c - 35 = c by omega]
theorem cellQ_floor (t : PS) {c : Nat} (hc : c < 2) : cellQ t (37 + c) = .int .u8 (t.floor c) := by
  unfold cellQ
  rw [if_neg (by omega), if_neg (by omega), if_neg (by omega), if_neg (by omega), if_neg (by omega), show 37 + c - 37 = c by omega]
theorem ProgP.up_ {w : World} {b : Nat} {t : PS} (h : ProgP w b t) : w.cell? ⟨b, 0, none⟩ = some (.int .u32 (bits32 t.up)) := h.cell (by omega) rfl
theorem ProgP.pend_ {w : World} {b : Nat} {t : PS} (h : ProgP w b t) : w.cell? ⟨b, 1, none⟩ = some (.int .u32 (bits32 t.pend)) := h.cell (by omega) rfl
theorem ProgP.busy_ {w : World} {b : Nat} {t : PS} (h : ProgP w b t) : w.cell? ⟨b, 2, none⟩ = some (.int .u32 (bits32 t.busy)) := h.cell (by omega) rfl
theorem ProgP.prio_ {w : World} {b : Nat} {t : PS} (h : ProgP w b t) {s : Nat} (hs : s < 32) : w.cell? ⟨b, 3 + s, none⟩ = some (.int .u8 (t.prio s)) := h.cell (by omega) (cellQ_prio t hs)
theorem ProgP.on_ {w : World} {b : Nat} {t : PS} (h : ProgP w b t) {c : Nat} (hc : c < 2) : w.cell? ⟨b, 35 + c, none⟩ = some (.int .u32 (bits32 fun s => t.on s c)) := h.cell (by omega) (cellQ_on t hc)
theorem ProgP.floor_ {w : World} {b : Nat} {t : PS} (h : ProgP w b t) {c : Nat} (hc : c < 2) : w.cell? ⟨b, 37 + c, none⟩ = some (.int .u8 (t.floor c)) := h.cell (by omega) (cellQ_floor t hc)
/-- One cell turned. -/
theorem ProgP.set {w : World} {b : Nat} {t t' : PS} (h : ProgP w b t) {k : Nat} (v : Value) (ok : t'.ok) (he : ∀ i, i < 39 → cellQ t' i = if i = k then v else cellQ t i) : ProgP (w.setCell ⟨b, k, none⟩ v) b t' := by
  refine ⟨?_, ok⟩
  rw [heap_setCell_same w b _ _ _ _ h.1, varr_set]
  rw [show (varr 39 fun i => if i = k then v else cellQ t i) = varr 39 (cellQ t') from varr_congr fun i hi => (he i hi).symm]
theorem cells_eq {t t' : PS} {k : Nat} {v : Value} (h0 : Value.int .u32 (bits32 t'.up) = if 0 = k then v else .int .u32 (bits32 t.up)) (h1 : Value.int .u32 (bits32 t'.pend) = if 1 = k then v else .int .u32 (bits32 t.pend))
    (h2 : Value.int .u32 (bits32 t'.busy) = if 2 = k then v else .int .u32 (bits32 t.busy)) (hp : ∀ s, s < 32 → Value.int .u8 (t'.prio s) = if 3 + s = k then v else .int .u8 (t.prio s))
    (ho : ∀ c, c < 2 → Value.int .u32 (bits32 fun s => t'.on s c) = if 35 + c = k then v else .int .u32 (bits32 fun s => t.on s c)) (hf : ∀ c, c < 2 → Value.int .u8 (t'.floor c) = if 37 + c = k then v else .int .u8 (t.floor c)) :
    ∀ i, i < 39 → cellQ t' i = if i = k then v else cellQ t i := by
  intro i hi
  have hc : i = 0 ∨ i = 1 ∨ i = 2 ∨ (∃ s, s < 32 ∧ i = 3 + s) ∨ (∃ c, c < 2 ∧ i = 35 + c) ∨ ∃ c, c < 2 ∧ i = 37 + c := by
    by_cases i0 : i < 3
    · omega
    · by_cases i1 : i < 35
      · exact .inr (.inr (.inr (.inl ⟨i - 3, by omega, by omega⟩)))
      · by_cases i2 : i < 37
        · exact .inr (.inr (.inr (.inr (.inl ⟨i - 35, by omega, by omega⟩))))
        · exact .inr (.inr (.inr (.inr (.inr ⟨i - 37, by omega, by omega⟩))))
  rcases hc with rfl | rfl | rfl | ⟨s, hs, rfl⟩ | ⟨c, hc, rfl⟩ | ⟨c, hc, rfl⟩
  · exact h0
  · exact h1
  · exact h2
  · rw [cellQ_prio t' hs, cellQ_prio t hs]; exact hp s hs
  · rw [cellQ_on t' hc, cellQ_on t hc]; exact ho c hc
  · rw [cellQ_floor t' hc, cellQ_floor t hc]; exact hf c hc
theorem ProgP.setPend {w : World} {b : Nat} {t : PS} (h : ProgP w b t) (f : Nat → Bool) (h0 : f 0 = false) : ProgP (w.setCell ⟨b, 1, none⟩ (.int .u32 (bits32 f))) b { t with pend := f } :=
  h.set _ ⟨h.2.prio0, h.2.on0, h0, h.2.up0, h.2.pr, h.2.fl⟩ (cells_eq rfl rfl rfl (fun s _ => (if_neg (by omega)).symm) (fun c _ => (if_neg (by omega)).symm) (fun c _ => (if_neg (by omega)).symm))
theorem ProgP.setBusy {w : World} {b : Nat} {t : PS} (h : ProgP w b t) (f : Nat → Bool) : ProgP (w.setCell ⟨b, 2, none⟩ (.int .u32 (bits32 f))) b { t with busy := f } :=
  h.set _ ⟨h.2.prio0, h.2.on0, h.2.pend0, h.2.up0, h.2.pr, h.2.fl⟩ (cells_eq rfl rfl rfl (fun s _ => (if_neg (by omega)).symm) (fun c _ => (if_neg (by omega)).symm) (fun c _ => (if_neg (by omega)).symm))
theorem ok_prio {t : PS} (h : t.ok) {s : Nat} (hs : 1 ≤ s) {v : Int} (h0 : 0 ≤ v) (h8 : v < 8) : (prioT t s v).ok :=
  ⟨(upd_other t.prio v (show ¬ 0 = s by omega)).trans h.prio0, h.on0, h.pend0, h.up0, fun i => by
    show 0 ≤ upd t.prio s v i ∧ upd t.prio s v i < 8
    unfold upd; split
    · exact ⟨h0, h8⟩
    · exact h.pr i, h.fl⟩
theorem ok_floor {t : PS} (h : t.ok) (c : Nat) {v : Int} (h0 : 0 ≤ v) (h8 : v < 8) : (floorT t c v).ok :=
  ⟨h.prio0, h.on0, h.pend0, h.up0, h.pr, fun i => by
    rw [floorT_at]; split
    · exact ⟨h0, h8⟩
    · exact h.fl i⟩
theorem ok_on {t : PS} (h : t.ok) (c : Nat) {f : Nat → Bool} (h0 : f 0 = false) : (onT t c f).ok :=
  ⟨h.prio0, fun i => by show (if i = c then f 0 else t.on 0 i) = false; split; exact h0; exact h.on0 i, h.pend0, h.up0, h.pr, h.fl⟩
theorem ProgP.setOn {w : World} {b : Nat} {t : PS} (h : ProgP w b t) {c : Nat} (hc : c < 2) (f : Nat → Bool) (h0 : f 0 = false) : ProgP (w.setCell ⟨b, 35 + c, none⟩ (.int .u32 (bits32 f))) b (onT t c f) :=
  h.set _ (ok_on h.2 c h0) (cells_eq (if_neg (by omega)).symm (if_neg (by omega)).symm (if_neg (by omega)).symm (fun i _ => (if_neg (by omega)).symm) (fun i _ => by
    show Value.int .u32 (bits32 fun s => if i = c then f s else t.on s i) = _
    by_cases e : i = c
    · rw [if_pos (show 35 + i = 35 + c by omega)]; congr 1; exact bits32_congr fun s _ => if_pos e
    · rw [if_neg (by omega)]; congr 1; exact bits32_congr fun s _ => if_neg e) (fun i _ => (if_neg (by omega)).symm))

/-! ### small calls -/
theorem isSource_any (s : Int) (w : World) : Calls Tryz.prog 90 #[.int .i64 s] w fun e w' => e = .returned (.bool (isS s)) ∧ w = w' := by
  by_cases h1 : 1 ≤ s
  · by_cases h2 : s < 32
    · have HE : Hid (true = isS s) := Lib.hid (by unfold isS; rw [decide_eq_true ⟨h1, by omega⟩])
      go_enter Tryz.func90, Tryz.ntmps90
      go_wp2
      go_ret
      exact ⟨by rw [← HE.out]; rfl, rfl⟩
    · have HE : Hid (false = isS s) := Lib.hid (by unfold isS; symm; rw [decide_eq_false_iff_not]; omega)
      go_enter Tryz.func90, Tryz.ntmps90
      go_wp2
      go_ret
      exact ⟨by rw [← HE.out]; rfl, rfl⟩
  · have HE : Hid (false = isS s) := Lib.hid (by unfold isS; symm; rw [decide_eq_false_iff_not]; omega)
    go_enter Tryz.func90, Tryz.ntmps90
    go_wp2
    go_ret
    exact ⟨by rw [← HE.out]; rfl, rfl⟩
def isC (c : Int) : Bool := decide (c = 0 ∨ c = 1)
theorem isContext_any (c : Int) (w : World) : Calls Tryz.prog 85 #[.int .i64 c] w fun e w' => e = .returned (.bool (isC c)) ∧ w = w' := by
  by_cases h1 : 0 ≤ c
  · by_cases h2 : c < 2
    · have HE : Hid (true = isC c) := Lib.hid (by unfold isC; rw [decide_eq_true (by omega)])
      go_enter Tryz.func85, Tryz.ntmps85
      go_wp2
      go_ret
      exact ⟨by rw [← HE.out]; rfl, rfl⟩
    · have HE : Hid (false = isC c) := Lib.hid (by unfold isC; symm; rw [decide_eq_false_iff_not]; omega)
      go_enter Tryz.func85, Tryz.ntmps85
      go_wp2
      go_ret
      exact ⟨by rw [← HE.out]; rfl, rfl⟩
  · have HE : Hid (false = isC c) := Lib.hid (by unfold isC; symm; rw [decide_eq_false_iff_not]; omega)
    go_enter Tryz.func85, Tryz.ntmps85
    go_wp2
    go_ret
    exact ⟨by rw [← HE.out]; rfl, rfl⟩
theorem bitQ (f : Nat → Bool) (s : Nat) (hs : s < 32) (u : Bool) (hu : f s = u) (w : World) : Calls Tryz.prog 87 #[.int .u32 (bits32 f), .int .i64 s] w fun e w' => e = .returned (.bool u) ∧ w = w' := by
  subst hu
  have h := bit32_any (bits32 f) (s : Int) (bits32_bd f).1 (bits32_bd f).2 w
  rw [bit32_is f hs] at h
  exact h
theorem bitQ_out (f : Nat → Bool) (i : Int) (hi : ¬ (0 ≤ i ∧ i < 32)) (w : World) : Calls Tryz.prog 87 #[.int .u32 (bits32 f), .int .i64 i] w fun e w' => e = .returned (.bool false) ∧ w = w' := by
  have h := bit32_any (bits32 f) i (bits32_bd f).1 (bits32_bd f).2 w
  rw [bit32_out f hi] at h
  exact h
theorem one_shl {k : Nat} (hk : k < 32) : IntKind.u32.wrap (2 ^ k) = 2 ^ k := by
  have h1 := two_pow_le (show k ≤ 31 by omega)
  have h2 : (0 : Int) < 2 ^ k := Int.pow_pos (by decide)
  rw [IntKind.wrap_u32]; omega
def SetQ (w : World) (b : Nat) (t' : PS) (e : Ending) (w' : World) : Prop := (∃ u, e = .returned u) ∧ Only (fun i => i = b) w w' ∧ ProgP w' b t'

end Go.Proofs.YtbcnkhfpogglmaaGreatDoor.P5

namespace Go.Proofs.YtbcnkhfpogglmaaGreatDoor.P5
open Go.RowKit
set_option linter.unusedVariables false
set_option maxRecDepth 100000

theorem below_drewN {B : Nat} {a w : World} (h : Below B a w) (n : Nat) : Below B a (w.drewN n) := ⟨h.os, h.tape, h.output, h.size, h.block⟩
theorem upd0 {f : Nat → Bool} {s : Nat} (h0 : f 0 = false) (hs : 1 ≤ s) (u : Bool) : upd f s u 0 = false := (upd_other f u (show ¬ 0 = s by omega)).trans h0
/-- Its value. -/
def progPV (t : PS) : Value := .agg (varr 39 (cellQ t))
theorem progP_boxed (w : World) {t : PS} (ok : t.ok) : ProgP (w.alloc (.cells (varr 39 (cellQ t)) 69)) w.heap.size t := ⟨heap_alloc_new w _, ok⟩
theorem up_any (w : World) (t : PS) (ok : t.ok) (s : Int) : Calls Tryz.prog 42 #[progPV t, .int .i64 s] w fun e w' => e = .returned (.bool (upT t s)) ∧ Below w.heap.size w w' := by
  have HP := Lib.hid (progP_boxed w ok)
  have HB := Lib.hid ((Below.refl w.heap.size w).alloc (Nat.le_refl _) (.cells (varr 39 (cellQ t)) 69))
  show Calls Tryz.prog 42 #[.agg (varr 39 (cellQ t)), .int .i64 s] w _
  generalize varr 39 (cellQ t) = row at *
  by_cases hs : 0 ≤ s ∧ s < 32
  · obtain ⟨k, rfl⟩ : ∃ k : Nat, s = k := ⟨s.toNat, by omega⟩
    have hk : k < 32 := by omega
    have HE : Hid (upT t (k : Int) = t.up k) := Lib.hid (by
      unfold upT isS
      by_cases k0 : k = 0
      · subst k0; rw [ok.up0]; rfl
      · rw [decide_eq_true (by omega)]; simp)
    rw [HE.out]
    clear hs
    have c0 := HP.out.up_
    go_enter Tryz.func42, Tryz.ntmps42
    go_wp2_with fail
    (with_reducible refine (bitQ t.up k hk _ rfl _).mono ?_)
    rintro e w' ⟨rfl, rfl⟩
    go_wp2
    go_ret
    exact ⟨rfl, HB.out⟩
  · have HE : Hid (upT t s = false) := Lib.hid (by unfold upT isS; rw [decide_eq_false (by omega)]; rfl)
    rw [HE.out]
    have HS := Lib.hid hs
    clear hs
    have c0 := HP.out.up_
    go_enter Tryz.func42, Tryz.ntmps42
    go_wp2_with fail
    (with_reducible refine (bitQ_out t.up s HS.out _).mono ?_)
    rintro e w' ⟨rfl, rfl⟩
    go_wp2
    go_ret
    exact ⟨rfl, HB.out⟩

def ProgEnd (w : World) (b : Nat) (r : Value) (t' : PS) (e : Ending) (w' : World) : Prop := e = .returned r ∧ Only (fun i => i = b) w w' ∧ ProgP w' b t'
theorem wrap_u8 {x : Int} (h0 : 0 ≤ x) (h1 : x < 8) : IntKind.u8.wrap x = x := by rw [IntKind.wrap_u8]; omega
end Go.Proofs.YtbcnkhfpogglmaaGreatDoor.P5

namespace Go.Proofs.YtbcnkhfpogglmaaGreatDoor.P5
open Go.RowKit
set_option linter.unusedVariables false
set_option maxRecDepth 100000

theorem pair_0 (x y : Value) (w : World) : (Instr.index 66 (.agg #[x, y]) (.int .i64 0)).run Tryz.prog w = .ok x w := by kernel_rfl
theorem pair_1 (x y : Value) (w : World) : (Instr.index 66 (.agg #[x, y]) (.int .i64 1)).run Tryz.prog w = .ok y w := by kernel_rfl

set_option maxRecDepth 100000 in
set_option maxHeartbeats 4000000 in
theorem best_0 (w : World) (t : PS) (ok : t.ok) : Calls Tryz.prog 86 #[progPV t, .int .i64 0] w fun e w' => e = .returned (.int .i64 (bestUp t 0 31)) ∧ Below w.heap.size w w' := by
  have HP := Lib.hid (progP_boxed w ok)
  have HB := Lib.hid ((Below.refl w.heap.size w).alloc (Nat.le_refl _) (.cells (varr 39 (cellQ t)) 69))
  have HC : Hid (isC 0 = true) := Lib.hid (by decide)
  show Calls Tryz.prog 86 #[.agg (varr 39 (cellQ t)), .int .i64 0] w _
  generalize varr 39 (cellQ t) = row at *
  go_enter Tryz.func86, Tryz.ntmps86
  go_wp2
  go_step3
  go_wp2_with fail
  (with_reducible refine (isContext_any _ _).mono ?_)
  rintro e w' ⟨rfl, rfl⟩
  rw [HC.out]
  go_wp2
  go_step3
  go_wp2
  generalize w.alloc (.cells row 69) = w1 at *
  go_loopg [5, 6] 31 (fun g bb ii wr => ∃ j b : Nat, j + g = 31 ∧ ii = .int .i64 ((j : Int) + 1) ∧ bb = .int .i64 b ∧ b ≤ 31 ∧ Hid (b = bestUp t 0 j) ∧ ProgP wr w.heap.size t ∧ Below w.heap.size w wr)
  case atStart => exact ⟨0, 0, by omega, rfl, rfl, by omega, Lib.hid rfl, HP.out, HB.out⟩
  case round =>
    obtain ⟨j, b, hj, rfl, rfl, hb31, HBE, hR, hbr⟩ := hrel
    have HR := Lib.hid hR
    have HBR := Lib.hid hbr
    clear hbr
    cases gk with
    | zero =>
      obtain rfl : j = 31 := by omega
      have HE := Lib.hid HBE.out
      clear hR
      go_wp2
      try rw [Exit.noGoto_ret]
      go_ret
      exact ⟨by rw [HE.out]; rfl, HBR.out⟩
    | succ g =>
      have hj2 : j + 1 < 32 := by omega
      have i1 : (j : Int) + 1 < 32 := by omega
      have i0 : (0 : Int) ≤ (j : Int) + 1 := by omega
      have ib : (b : Int) < 32 := by omega
      have hwj : IntKind.i64.wrap ((j : Int) + 1 + 1) = (j : Int) + 1 + 1 := IntWalk.i64_in _ (by omega)
      have kp : wr.cell? ⟨w.heap.size, 1, none⟩ = some (.int .u32 (bits32 t.pend)) := hR.pend_
      have ko : wr.cell? ⟨w.heap.size, 35, none⟩ = some (.int .u32 (bits32 fun s => t.on s 0)) := hR.on_ (c := 0) (by omega)
      have HN := Lib.hid (bestUp_step t HBE.out)
      have END : Hid (∀ (b2 : Nat) (w2 : World), Below wr.heap.size wr w2 → bestUp t 0 (j + 1) = b2 → b2 ≤ 31 → ∃ i b : Nat, i + g = 31 ∧ Value.int .i64 ((j : Int) + 1 + 1) = .int .i64 ((i : Int) + 1) ∧ Value.int .i64 (b2 : Int) = .int .i64 b ∧ b ≤ 31 ∧ Hid (b = bestUp t 0 i) ∧ ProgP w2 w.heap.size t ∧ Below w.heap.size w w2) :=
        Lib.hid fun b2 w2 hb2 h1 h2 => ⟨j + 1, b2, by omega, by go_num, rfl, h2, Lib.hid h1.symm, HR.out.below hb2, HBR.out.trans (hb2.mono HBR.out.size)⟩
      obtain ⟨p, hp⟩ : ∃ p, t.pend (j + 1) = p := ⟨_, rfl⟩
      obtain ⟨q, hq⟩ : ∃ q, t.on (j + 1) 0 = q := ⟨_, rfl⟩
      have HN2 := HN.out
      rw [hp, hq] at HN2
      replace HN := Lib.hid HN2
      have HB0 : Hid (∀ w, Calls Tryz.prog 87 #[.int .u32 (bits32 t.pend), .int .i64 ((j : Int) + 1)] w fun e w' => e = .returned (.bool p) ∧ w = w') := Lib.hid fun w => by
        have h := bitQ t.pend (j + 1) hj2 p hp w
        rw [show ((j + 1 : Nat) : Int) = (j : Int) + 1 by omega] at h
        exact h
      have HB1 : Hid (∀ w, Calls Tryz.prog 87 #[.int .u32 (bits32 fun s => t.on s 0), .int .i64 ((j : Int) + 1)] w fun e w' => e = .returned (.bool q) ∧ w = w') := Lib.hid fun w => by
        have h := bitQ (fun s => t.on s 0) (j + 1) hj2 q hq w
        rw [show ((j + 1 : Nat) : Int) = (j : Int) + 1 by omega] at h
        exact h
      clear hp hq HN2 hR
      go_wp2_with fail
      go_quiet (fail)
      have HW : Hid (Below wr.heap.size wr (wr.drewN nq)) := Lib.hid (below_drewN (Below.refl _ _) nq)
      generalize wr.drewN nq = wq at *
      clear kp ko
      go_wp2
      go_loopg [23] 2 (fun g2 i wy => ∃ k : Nat, k + g2 = 2 ∧ i = .int .i64 k ∧ Hid ((1 ≤ k → p = true) ∧ (2 ≤ k → q = true)) ∧ wq = wy)
      case atStart => exact ⟨0, by omega, rfl, Lib.hid ⟨fun h => by omega, fun h => by omega⟩, rfl⟩
      case round =>
        obtain ⟨k, hk, rfl, HK, rfl⟩ := hrel
        have hkk : k = 0 ∨ k = 1 ∨ k = 2 := by omega
        rcases hkk with rfl | rfl | rfl
        · have P0 := pair_0
          obtain ⟨gk, rfl⟩ : ∃ x, gk = x + 1 := ⟨1, by omega⟩
          cases p with
          | false =>
            have HNE : Hid (bestUp t 0 (j + 1) = b) := Lib.hid (by rw [HN.out]; simp)
            clear HK
            go_wp2_with fail
            clear P0
            (with_reducible refine (HB0.out _).mono ?_)
            rintro e w' ⟨rfl, rfl⟩
            go_wp2
            go_roundg g
            case measure => omega
            case rel => exact END.out b _ HW.out HNE.out hb31
          | true =>
            clear HK
            go_wp2_with fail
            clear P0
            (with_reducible refine (HB0.out _).mono ?_)
            rintro e w' ⟨rfl, rfl⟩
            go_wp2
            go_roundg gk
            case measure => omega
            case rel => exact ⟨1, by omega, rfl, Lib.hid ⟨fun _ => by simp, fun h => by omega⟩, rfl⟩
        · have P1 := pair_1
          obtain ⟨gk, rfl⟩ : ∃ x, gk = x + 1 := ⟨0, by omega⟩
          obtain rfl : p = true := HK.out.1 (by omega)
          cases q with
          | false =>
            have HNE : Hid (bestUp t 0 (j + 1) = b) := Lib.hid (by rw [HN.out]; simp)
            clear HK
            go_wp2_with fail
            clear P1
            (with_reducible refine (HB1.out _).mono ?_)
            rintro e w' ⟨rfl, rfl⟩
            go_wp2
            go_roundg g
            case measure => omega
            case rel => exact END.out b _ HW.out HNE.out hb31
          | true =>
            clear HK
            go_wp2_with fail
            clear P1
            (with_reducible refine (HB1.out _).mono ?_)
            rintro e w' ⟨rfl, rfl⟩
            go_wp2
            go_roundg gk
            case measure => omega
            case rel => exact ⟨2, by omega, rfl, Lib.hid ⟨fun _ => by simp, fun _ => by simp⟩, rfl⟩
        · obtain rfl : p = true := HK.out.1 (by omega)
          obtain rfl : q = true := HK.out.2 (by omega)
          obtain rfl : gk = 0 := by omega
          have hR2 := HR.out.below HW.out
          have k1 : wq.cell? ⟨w.heap.size, 3 + (j + 1), none⟩ = some (.int .u8 (t.prio (j + 1))) := hR2.prio_ (by omega)
          have kb : wq.cell? ⟨w.heap.size, 3 + b, none⟩ = some (.int .u8 (t.prio b)) := hR2.prio_ (by omega)
          have HW2 : Hid (∀ n, Below wr.heap.size wr (wq.drewN n)) := Lib.hid fun n => below_drewN HW.out n
          obtain ⟨x, hx⟩ : ∃ x, t.prio (j + 1) = x := ⟨_, rfl⟩
          obtain ⟨y, hy⟩ : ∃ y, t.prio b = y := ⟨_, rfl⟩
          have HN2 := HN.out
          rw [hx, hy] at HN2
          replace HN := Lib.hid HN2
          rw [hx] at k1
          rw [hy] at kb
          clear hx hy HN2 HK hR2
          by_cases hyx : y < x
          · have HNE : Hid (bestUp t 0 (j + 1) = j + 1) := Lib.hid (by rw [HN.out, decide_eq_true hyx]; simp)
            go_wp2_with fail
            go_quiet (fail)
            go_wp2
            go_roundg g
            case measure => omega
            case rel => exact END.out (j + 1) _ (HW2.out _) HNE.out (by omega)
          · have hyd : decide (y < x) = false := decide_eq_false hyx
            have HNE : Hid (bestUp t 0 (j + 1) = b) := Lib.hid (by rw [HN.out, hyd]; simp)
            clear hyx
            go_wp2_with fail
            go_quiet (fail)
            go_wp2
            go_roundg g
            case measure => omega
            case rel => exact END.out b _ (HW2.out _) HNE.out hb31

set_option maxRecDepth 100000 in
set_option maxHeartbeats 4000000 in
theorem best_1 (w : World) (t : PS) (ok : t.ok) : Calls Tryz.prog 86 #[progPV t, .int .i64 1] w fun e w' => e = .returned (.int .i64 (bestUp t 1 31)) ∧ Below w.heap.size w w' := by
  have HP := Lib.hid (progP_boxed w ok)
  have HB := Lib.hid ((Below.refl w.heap.size w).alloc (Nat.le_refl _) (.cells (varr 39 (cellQ t)) 69))
  have HC : Hid (isC 1 = true) := Lib.hid (by decide)
  show Calls Tryz.prog 86 #[.agg (varr 39 (cellQ t)), .int .i64 1] w _
  generalize varr 39 (cellQ t) = row at *
  go_enter Tryz.func86, Tryz.ntmps86
  go_wp2
  go_step3
  go_wp2_with fail
  (with_reducible refine (isContext_any _ _).mono ?_)
  rintro e w' ⟨rfl, rfl⟩
  rw [HC.out]
  go_wp2
  go_step3
  go_wp2
  generalize w.alloc (.cells row 69) = w1 at *
  go_loopg [5, 6] 31 (fun g bb ii wr => ∃ j b : Nat, j + g = 31 ∧ ii = .int .i64 ((j : Int) + 1) ∧ bb = .int .i64 b ∧ b ≤ 31 ∧ Hid (b = bestUp t 1 j) ∧ ProgP wr w.heap.size t ∧ Below w.heap.size w wr)
  case atStart => exact ⟨0, 0, by omega, rfl, rfl, by omega, Lib.hid rfl, HP.out, HB.out⟩
  case round =>
    obtain ⟨j, b, hj, rfl, rfl, hb31, HBE, hR, hbr⟩ := hrel
    have HR := Lib.hid hR
    have HBR := Lib.hid hbr
    clear hbr
    cases gk with
    | zero =>
      obtain rfl : j = 31 := by omega
      have HE := Lib.hid HBE.out
      clear hR
      go_wp2
      try rw [Exit.noGoto_ret]
      go_ret
      exact ⟨by rw [HE.out]; rfl, HBR.out⟩
    | succ g =>
      have hj2 : j + 1 < 32 := by omega
      have i1 : (j : Int) + 1 < 32 := by omega
      have i0 : (0 : Int) ≤ (j : Int) + 1 := by omega
      have ib : (b : Int) < 32 := by omega
      have hwj : IntKind.i64.wrap ((j : Int) + 1 + 1) = (j : Int) + 1 + 1 := IntWalk.i64_in _ (by omega)
      have kp : wr.cell? ⟨w.heap.size, 1, none⟩ = some (.int .u32 (bits32 t.pend)) := hR.pend_
      have ko : wr.cell? ⟨w.heap.size, 35 + 1, none⟩ = some (.int .u32 (bits32 fun s => t.on s 1)) := hR.on_ (c := 1) (by omega)
      have HN := Lib.hid (bestUp_step t HBE.out)
      have END : Hid (∀ (b2 : Nat) (w2 : World), Below wr.heap.size wr w2 → bestUp t 1 (j + 1) = b2 → b2 ≤ 31 → ∃ i b : Nat, i + g = 31 ∧ Value.int .i64 ((j : Int) + 1 + 1) = .int .i64 ((i : Int) + 1) ∧ Value.int .i64 (b2 : Int) = .int .i64 b ∧ b ≤ 31 ∧ Hid (b = bestUp t 1 i) ∧ ProgP w2 w.heap.size t ∧ Below w.heap.size w w2) :=
        Lib.hid fun b2 w2 hb2 h1 h2 => ⟨j + 1, b2, by omega, by go_num, rfl, h2, Lib.hid h1.symm, HR.out.below hb2, HBR.out.trans (hb2.mono HBR.out.size)⟩
      obtain ⟨p, hp⟩ : ∃ p, t.pend (j + 1) = p := ⟨_, rfl⟩
      obtain ⟨q, hq⟩ : ∃ q, t.on (j + 1) 1 = q := ⟨_, rfl⟩
      have HN2 := HN.out
      rw [hp, hq] at HN2
      replace HN := Lib.hid HN2
      have HB0 : Hid (∀ w, Calls Tryz.prog 87 #[.int .u32 (bits32 t.pend), .int .i64 ((j : Int) + 1)] w fun e w' => e = .returned (.bool p) ∧ w = w') := Lib.hid fun w => by
        have h := bitQ t.pend (j + 1) hj2 p hp w
        rw [show ((j + 1 : Nat) : Int) = (j : Int) + 1 by omega] at h
        exact h
      have HB1 : Hid (∀ w, Calls Tryz.prog 87 #[.int .u32 (bits32 fun s => t.on s 1), .int .i64 ((j : Int) + 1)] w fun e w' => e = .returned (.bool q) ∧ w = w') := Lib.hid fun w => by
        have h := bitQ (fun s => t.on s 1) (j + 1) hj2 q hq w
        rw [show ((j + 1 : Nat) : Int) = (j : Int) + 1 by omega] at h
        exact h
      clear hp hq HN2 hR
      go_wp2_with fail
      go_quiet (fail)
      have HW : Hid (Below wr.heap.size wr (wr.drewN nq)) := Lib.hid (below_drewN (Below.refl _ _) nq)
      generalize wr.drewN nq = wq at *
      clear kp ko
      go_wp2
      go_loopg [23] 2 (fun g2 i wy => ∃ k : Nat, k + g2 = 2 ∧ i = .int .i64 k ∧ Hid ((1 ≤ k → p = true) ∧ (2 ≤ k → q = true)) ∧ wq = wy)
      case atStart => exact ⟨0, by omega, rfl, Lib.hid ⟨fun h => by omega, fun h => by omega⟩, rfl⟩
      case round =>
        obtain ⟨k, hk, rfl, HK, rfl⟩ := hrel
        have hkk : k = 0 ∨ k = 1 ∨ k = 2 := by omega
        rcases hkk with rfl | rfl | rfl
        · have P0 := pair_0
          obtain ⟨gk, rfl⟩ : ∃ x, gk = x + 1 := ⟨1, by omega⟩
          cases p with
          | false =>
            have HNE : Hid (bestUp t 1 (j + 1) = b) := Lib.hid (by rw [HN.out]; simp)
            clear HK
            go_wp2_with fail
            clear P0
            (with_reducible refine (HB0.out _).mono ?_)
            rintro e w' ⟨rfl, rfl⟩
            go_wp2
            go_roundg g
            case measure => omega
            case rel => exact END.out b _ HW.out HNE.out hb31
          | true =>
            clear HK
            go_wp2_with fail
            clear P0
            (with_reducible refine (HB0.out _).mono ?_)
            rintro e w' ⟨rfl, rfl⟩
            go_wp2
            go_roundg gk
            case measure => omega
            case rel => exact ⟨1, by omega, rfl, Lib.hid ⟨fun _ => by simp, fun h => by omega⟩, rfl⟩
        · have P1 := pair_1
          obtain ⟨gk, rfl⟩ : ∃ x, gk = x + 1 := ⟨0, by omega⟩
          obtain rfl : p = true := HK.out.1 (by omega)
          cases q with
          | false =>
            have HNE : Hid (bestUp t 1 (j + 1) = b) := Lib.hid (by rw [HN.out]; simp)
            clear HK
            go_wp2_with fail
            clear P1
            (with_reducible refine (HB1.out _).mono ?_)
            rintro e w' ⟨rfl, rfl⟩
            go_wp2
            go_roundg g
            case measure => omega
            case rel => exact END.out b _ HW.out HNE.out hb31
          | true =>
            clear HK
            go_wp2_with fail
            clear P1
            (with_reducible refine (HB1.out _).mono ?_)
            rintro e w' ⟨rfl, rfl⟩
            go_wp2
            go_roundg gk
            case measure => omega
            case rel => exact ⟨2, by omega, rfl, Lib.hid ⟨fun _ => by simp, fun _ => by simp⟩, rfl⟩
        · obtain rfl : p = true := HK.out.1 (by omega)
          obtain rfl : q = true := HK.out.2 (by omega)
          obtain rfl : gk = 0 := by omega
          have hR2 := HR.out.below HW.out
          have k1 : wq.cell? ⟨w.heap.size, 3 + (j + 1), none⟩ = some (.int .u8 (t.prio (j + 1))) := hR2.prio_ (by omega)
          have kb : wq.cell? ⟨w.heap.size, 3 + b, none⟩ = some (.int .u8 (t.prio b)) := hR2.prio_ (by omega)
          have HW2 : Hid (∀ n, Below wr.heap.size wr (wq.drewN n)) := Lib.hid fun n => below_drewN HW.out n
          obtain ⟨x, hx⟩ : ∃ x, t.prio (j + 1) = x := ⟨_, rfl⟩
          obtain ⟨y, hy⟩ : ∃ y, t.prio b = y := ⟨_, rfl⟩
          have HN2 := HN.out
          rw [hx, hy] at HN2
          replace HN := Lib.hid HN2
          rw [hx] at k1
          rw [hy] at kb
          clear hx hy HN2 HK hR2
          by_cases hyx : y < x
          · have HNE : Hid (bestUp t 1 (j + 1) = j + 1) := Lib.hid (by rw [HN.out, decide_eq_true hyx]; simp)
            go_wp2_with fail
            go_quiet (fail)
            go_wp2
            go_roundg g
            case measure => omega
            case rel => exact END.out (j + 1) _ (HW2.out _) HNE.out (by omega)
          · have hyd : decide (y < x) = false := decide_eq_false hyx
            have HNE : Hid (bestUp t 1 (j + 1) = b) := Lib.hid (by rw [HN.out, hyd]; simp)
            clear hyx
            go_wp2_with fail
            go_quiet (fail)
            go_wp2
            go_roundg g
            case measure => omega
            case rel => exact END.out b _ (HW2.out _) HNE.out hb31

end Go.Proofs.YtbcnkhfpogglmaaGreatDoor.P5

namespace Go.Proofs.YtbcnkhfpogglmaaGreatDoor
section
variable {P : Program} {ops : Array Oper} {md : Region.Mode} {Q : Exit → Act → World → Prop} {S : World → Prop}
/-- 'wpAnyH_take' where the operation runs: its temporary d is written out, so that the state can be laid out behind it. -/
theorem takeD {i : Nat} {oi : Oper} (d : Option Tmp) {v : Value} {fuel : Nat} {listed : Array Bool} {a : Act} {w : World} (hi : ops[i]? = some oi) (hd : oi.dst = d)
    (hs : Region.noSelect ops = true) (hf : Region.free md ops listed i = true) (hr : (Region.ready md ops listed).contains i = true)
    (hQ : ∀ c a w, Q (.panic c) (a.put d v) w → Q (.panic c) a w) (hw : Region.wanted oi (yielded ops a.tmps) = true) (hS : S w) (hy : ∀ w, S w → (execOp a.eval oi).run P w = .ok (.value v) w)
    (h : wpAnyH P md ops Q S fuel (listed.setIfInBounds i true) (a.put d v) w) : wpAnyH P md ops Q S (fuel + 1) listed a w := by
  subst hd; exact wpAnyH_take hi hs hf hr hQ (.inl ⟨hw, hy⟩) hS h
/-- The same where its guard is false: it is not wanted, and yields nothing. -/
theorem skipD {i : Nat} {oi : Oper} (d : Option Tmp) {fuel : Nat} {listed : Array Bool} {a : Act} {w : World} (hi : ops[i]? = some oi) (hd : oi.dst = d)
    (hs : Region.noSelect ops = true) (hf : Region.free md ops listed i = true) (hr : (Region.ready md ops listed).contains i = true)
    (hQ : ∀ c a w, Q (.panic c) (a.put d undef) w → Q (.panic c) a w) (hw : Region.wanted oi (yielded ops a.tmps) = false) (hS : S w)
    (h : wpAnyH P md ops Q S fuel (listed.setIfInBounds i true) (a.put d undef) w) : wpAnyH P md ops Q S (fuel + 1) listed a w := by
  subst hd; exact wpAnyH_take hi hs hf hr hQ (.inr ⟨hw, rfl⟩) hS h
end

end Go.Proofs.YtbcnkhfpogglmaaGreatDoor

namespace Go.Proofs.YtbcnkhfpogglmaaGreatDoor
section
variable {P : Program} {ops : Array Oper} {md : Region.Mode} {Q : Exit → Act → World → Prop}
theorem yield_row {op : Oper} {a : Act} {w : World} {row : Array Value} (ty : TypeId) (x : Operand) (ho : op.op = .load ty x) (b : Nat) (hx : a.eval x = .pointer (some ⟨b, 0, none⟩)) (hrun : (loadVar ty ⟨b, 0, none⟩).run P w = .ok (.agg row) w) :
    (execOp a.eval op).run P w = .ok (.value (.agg row)) w := by
  unfold execOp
  simp only [ho, hx, Instr.loadAt, Instr.sureAddr, Sem.run_bind, Sem.run_pure, Result.andThen_ok, hrun]
end

end Go.Proofs.YtbcnkhfpogglmaaGreatDoor

namespace Go.Proofs.YtbcnkhfpogglmaaGreatDoor.P5
open Go.RowKit
set_option linter.unusedVariables false
set_option maxRecDepth 100000

theorem isC_no {c : Int} (h0 : ¬ c = 0) (h1 : ¬ c = 1) : isC c = false := by unfold isC; rw [decide_eq_false_iff_not]; omega
theorem best_none (w : World) (t : PS) (c : Int) (hc : isC c = false) : Calls Tryz.prog 86 #[progPV t, .int .i64 c] w fun e w' => e = .returned (.int .i64 0) ∧ Below w.heap.size w w' := by
  have HC := Lib.hid hc
  clear hc
  show Calls Tryz.prog 86 #[.agg (varr 39 (cellQ t)), .int .i64 c] w _
  generalize varr 39 (cellQ t) = row at *
  go_enter Tryz.func86, Tryz.ntmps86
  go_wp2
  go_step3
  go_wp2_with fail
  (with_reducible refine (isContext_any _ _).mono ?_)
  rintro e w' ⟨rfl, rfl⟩
  rw [HC.out]
  go_wp2
  try rw [Exit.noGoto_ret]
  go_ret
  exact ⟨rfl, (Below.refl _ _).alloc (Nat.le_refl _) _⟩
theorem best_any (w : World) (t : PS) (ok : t.ok) (c : Int) : Calls Tryz.prog 86 #[progPV t, .int .i64 c] w fun e w' => e = .returned (.int .i64 (bestC t c)) ∧ Below w.heap.size w w' := by
  by_cases h0 : c = 0
  · subst h0
    have h := best_0 w t ok
    rw [bestUp_is t 0 ok.prio0] at h; exact h
  by_cases h1 : c = 1
  · subst h1
    have h := best_1 w t ok
    rw [bestUp_is t 1 ok.prio0] at h; exact h
  have e : bestC t c = 0 := by unfold bestC; rw [if_neg (by omega)]
  rw [e]; exact best_none w t c (isC_no h0 h1)
theorem size_progP : (Tryz.prog.info? 69).map (·.size) = some 39 := by kernel_rfl
/-- Whether a context's line is up. -/
def lineT (t : PS) (c : Int) : Bool := isC c && lineC t c
theorem run_progRow {w : World} {b : Nat} {row : Array Value} (h : w.heap[b]? = some (.cells row 69 (0, 0))) (hs : row.size = 39) : (loadVar 69 ⟨b, 0, none⟩).run Tryz.prog w = .ok (.agg row) w :=
  run_loadVar_row w b 69 69 row (0, 0) _ h Tryz.underlying69 rfl (size_progP.trans (by rw [hs]))
theorem bestC_0 (t : PS) (c : Nat) (hc : c < 2) (h0 : t.prio 0 = 0) : lineC t c = decide (t.floor c < t.prio (bestC t c)) ∨ ¬ (0 ≤ t.floor c) := by
  by_cases hf : 0 ≤ t.floor c
  · left
    unfold lineC
    by_cases hb : bestC t c = 0
    · rw [hb, h0, decide_eq_false (by omega), Bool.false_and, decide_eq_false (by omega)]
    · rw [decide_eq_true (by omega), Bool.true_and]; rfl
  · exact .inr hf
set_option maxHeartbeats 2000000 in
theorem line_0 (w : World) (t : PS) (ok : t.ok) : Calls Tryz.prog 40 #[progPV t, .int .i64 0] w fun e w' => e = .returned (.bool (lineT t 0)) ∧ Below w.heap.size w w' := by
  have HC : Hid (isC 0 = true) := Lib.hid (by decide)
  have HE : Hid (lineT t 0 = decide (t.floor 0 < t.prio (bestC t 0))) := Lib.hid (by
    unfold lineT; rw [HC.out, Bool.true_and]; rcases bestC_0 t 0 (by omega) ok.prio0 with h | h; exact h; exact absurd (ok.fl 0).1 h)
  rw [HE.out]
  have hle := bestC_le t 0
  have hbest := fun w' => best_any w' t ok 0
  have HP := Lib.hid (progP_boxed w ok)
  have HB := Lib.hid ((Below.refl w.heap.size w).alloc (Nat.le_refl _) (.cells (varr 39 (cellQ t)) 69))
  have hrow : (w.alloc (.cells (varr 39 (cellQ t)) 69)).heap[w.heap.size]? = some (.cells (varr 39 (cellQ t)) 69 (0, 0)) := heap_alloc_new w _
  have hsz : (varr 39 (cellQ t)).size = 39 := varr_size _ _
  unfold progPV at hbest
  show Calls Tryz.prog 40 #[.agg (varr 39 (cellQ t)), .int .i64 0] w _
  have HROW := Lib.hid hrow
  have HSZ := Lib.hid hsz
  clear hrow hsz
  generalize varr 39 (cellQ t) = row at *
  generalize bestC t 0 = k at *
  have HBEST := Lib.hid hbest
  have ik : (k : Int) < 32 := by omega
  clear hbest
  go_enter Tryz.func40, Tryz.ntmps40
  go_wp2_with fail
  have hw1 : w.heap.size < (w.alloc (.cells row 69)).heap.size := by rw [World.size_alloc]; omega
  generalize w.alloc (.cells row 69) = w1 at *
  have HF : Hid (∀ wx, Below w1.heap.size w1 wx → wx.cell? ⟨w.heap.size, 37, none⟩ = some (.int .u8 (t.floor 0))) := Lib.hid fun wx hx => (HP.out.below hx).floor_ (c := 0) (by omega)
  have HK : Hid (∀ wx, Below w1.heap.size w1 wx → wx.cell? ⟨w.heap.size, 3 + k, none⟩ = some (.int .u8 (t.prio k))) := Lib.hid fun wx hx => (HP.out.below hx).prio_ (by omega)
  refine wp_region_held_drew (S := fun wx => Below w1.heap.size w1 wx) (by kernel_rfl) (Below.refl _ _).drew (fun hHeld0 => ?_)
  have HS := Lib.hid hHeld0
  clear hHeld0
  refine takeD (i := 0) (some 5) (v := ?_) rfl rfl (by kernel_rfl) (by kernel_rfl) (by kernel_rfl) (fun _ _ _ h => h) (by rfl) HS.out ?_ ?_
  rotate_left
  · intro wx hSx
    clear hSx
    go_simp
    try (with_reducible rfl)
  simp only [Act.put, List.setIfInBounds_toArray, List.set_cons_zero, List.set_cons_succ]
  refine wpAnyH_ready (rs := [1]) (by kernel_rfl) (by simp) ?_
  refine AllReadyH.cons rfl (fun K hK => ?_) AllReadyH.nil
  go_simp
  (with_reducible refine (isContext_any _ _).mono ?_)
  rintro e w' ⟨rfl, rfl⟩
  rw [HC.out]
  go_simp
  refine hK.out _ _ ?_ (fun hHeld => ?_)
  · exact HS.out
  clear hHeld hK K
  try simp only [Act.put, List.setIfInBounds_toArray, List.set_cons_zero, List.set_cons_succ]
  refine takeD (i := 2) (some 7) (v := ?_) rfl rfl (by kernel_rfl) (by kernel_rfl) (by kernel_rfl) (fun _ _ _ h => h) (by rfl) HS.out ?_ ?_
  rotate_left
  · intro wx hSx
    clear hSx
    go_simp
    try (with_reducible rfl)
  simp only [Act.put, List.setIfInBounds_toArray, List.set_cons_zero, List.set_cons_succ]
  refine takeD (i := 3) (some 8) (v := ?_) rfl rfl (by kernel_rfl) (by kernel_rfl) (by kernel_rfl) (fun _ _ _ h => h) (by rfl) HS.out ?_ ?_
  rotate_left
  · intro wx hSx
    exact (by refine yield_row _ (.tmp 2) ?_ w.heap.size ?_ (run_progRow ((hSx.block _ hw1).trans HROW.out) HSZ.out) <;> rfl)
  simp only [Act.put, List.setIfInBounds_toArray, List.set_cons_zero, List.set_cons_succ]
  refine takeD (i := 4) (some 9) (v := ?_) rfl rfl (by kernel_rfl) (by kernel_rfl) (by kernel_rfl) (fun _ _ _ h => h) (by rfl) HS.out ?_ ?_
  rotate_left
  · intro wx hSx
    clear hSx
    go_simp
    try (with_reducible rfl)
  simp only [Act.put, List.setIfInBounds_toArray, List.set_cons_zero, List.set_cons_succ]
  refine takeD (i := 6) (some 11) (v := ?_) rfl rfl (by kernel_rfl) (by kernel_rfl) (by kernel_rfl) (fun _ _ _ h => h) (by rfl) HS.out ?_ ?_
  rotate_left
  · intro wx hSx
    clear hSx
    go_simp
    try (with_reducible rfl)
  simp only [Act.put, List.setIfInBounds_toArray, List.set_cons_zero, List.set_cons_succ]
  refine takeD (i := 9) (some 14) (v := ?_) rfl rfl (by kernel_rfl) (by kernel_rfl) (by kernel_rfl) (fun _ _ _ h => h) (by rfl) HS.out ?_ ?_
  rotate_left
  · intro wx hSx
    clear hSx
    go_simp
    try (with_reducible rfl)
  simp only [Act.put, List.setIfInBounds_toArray, List.set_cons_zero, List.set_cons_succ]
  refine takeD (i := 10) (some 15) (v := ?_) rfl rfl (by kernel_rfl) (by kernel_rfl) (by kernel_rfl) (fun _ _ _ h => h) (by rfl) HS.out ?_ ?_
  rotate_left
  · intro wx hSx
    clear hSx
    go_simp
    try (with_reducible rfl)
  simp only [Act.put, List.setIfInBounds_toArray, List.set_cons_zero, List.set_cons_succ]
  refine takeD (i := 11) (some 16) (v := ?_) rfl rfl (by kernel_rfl) (by kernel_rfl) (by kernel_rfl) (fun _ _ _ h => h) (by rfl) HS.out ?_ ?_
  rotate_left
  · intro wx hSx
    clear hSx
    go_simp
    try (with_reducible rfl)
  simp only [Act.put, List.setIfInBounds_toArray, List.set_cons_zero, List.set_cons_succ]
  refine takeD (i := 12) (some 17) (v := ?_) rfl rfl (by kernel_rfl) (by kernel_rfl) (by kernel_rfl) (fun _ _ _ h => h) (by rfl) HS.out ?_ ?_
  rotate_left
  · intro wx hSx
    have g1 := HF.out wx hSx
    clear hSx
    go_simp
    try (with_reducible rfl)
  simp only [Act.put, List.setIfInBounds_toArray, List.set_cons_zero, List.set_cons_succ]
  refine wpAnyH_ready (rs := [5]) (by kernel_rfl) (by simp) ?_
  refine AllReadyH.cons rfl (fun K hK => ?_) AllReadyH.nil
  go_simp
  (with_reducible refine (HBEST.out _).mono ?_)
  rintro e w4 ⟨rfl, hb⟩
  have HS4 : Hid (Below w1.heap.size w1 w4) := Lib.hid (HS.out.trans (hb.mono HS.out.size))
  clear hb
  go_simp
  refine hK.out _ _ ?_ (fun hHeld => ?_)
  · exact HS4.out
  clear hHeld hK K
  try simp only [Act.put, List.setIfInBounds_toArray, List.set_cons_zero, List.set_cons_succ]
  replace HS := HS4
  refine takeD (i := 7) (some 12) (v := ?_) rfl rfl (by kernel_rfl) (by kernel_rfl) (by kernel_rfl) (fun _ _ _ h => h) (by rfl) HS.out ?_ ?_
  rotate_left
  · intro wx hSx
    clear hSx
    go_simp
    try (with_reducible rfl)
  simp only [Act.put, List.setIfInBounds_toArray, List.set_cons_zero, List.set_cons_succ]
  refine takeD (i := 8) (some 13) (v := ?_) rfl rfl (by kernel_rfl) (by kernel_rfl) (by kernel_rfl) (fun _ _ _ h => h) (by rfl) HS.out ?_ ?_
  rotate_left
  · intro wx hSx
    have g1 := HK.out wx hSx
    clear hSx
    go_simp
    try (with_reducible rfl)
  simp only [Act.put, List.setIfInBounds_toArray, List.set_cons_zero, List.set_cons_succ]
  refine takeD (i := 13) (some 18) (v := ?_) rfl rfl (by kernel_rfl) (by kernel_rfl) (by kernel_rfl) (fun _ _ _ h => h) (by rfl) HS.out ?_ ?_
  rotate_left
  · intro wx hSx
    clear hSx
    go_simp
    try (with_reducible rfl)
  simp only [Act.put, List.setIfInBounds_toArray, List.set_cons_zero, List.set_cons_succ]
  refine takeD (i := 14) (some 19) (v := ?_) rfl rfl (by kernel_rfl) (by kernel_rfl) (by kernel_rfl) (fun _ _ _ h => h) (by rfl) HS.out ?_ ?_
  rotate_left
  · intro wx hSx
    clear hSx
    go_simp
    try (with_reducible rfl)
  simp only [Act.put, List.setIfInBounds_toArray, List.set_cons_zero, List.set_cons_succ]
  refine takeD (i := 15) (some 4) (v := ?_) rfl rfl (by kernel_rfl) (by kernel_rfl) (by kernel_rfl) (fun _ _ _ h => h) (by rfl) HS.out ?_ ?_
  rotate_left
  · intro wx hSx
    clear hSx
    go_simp
    try (with_reducible rfl)
  simp only [Act.put, List.setIfInBounds_toArray, List.set_cons_zero, List.set_cons_succ]
  refine wpAnyH_done (by kernel_rfl) ?_ _
  go_wp2
  go_ret
  exact ⟨rfl, HB.out.trans (HS.out.mono HB.out.size)⟩

set_option maxHeartbeats 2000000 in
theorem line_1 (w : World) (t : PS) (ok : t.ok) : Calls Tryz.prog 40 #[progPV t, .int .i64 1] w fun e w' => e = .returned (.bool (lineT t 1)) ∧ Below w.heap.size w w' := by
  have HC : Hid (isC 1 = true) := Lib.hid (by decide)
  have HE : Hid (lineT t 1 = decide (t.floor 1 < t.prio (bestC t 1))) := Lib.hid (by
    unfold lineT; rw [HC.out, Bool.true_and]; rcases bestC_0 t 1 (by omega) ok.prio0 with h | h; exact h; exact absurd (ok.fl 1).1 h)
  rw [HE.out]
  have hle := bestC_le t 1
  have hbest := fun w' => best_any w' t ok 1
  have HP := Lib.hid (progP_boxed w ok)
  have HB := Lib.hid ((Below.refl w.heap.size w).alloc (Nat.le_refl _) (.cells (varr 39 (cellQ t)) 69))
  have hrow : (w.alloc (.cells (varr 39 (cellQ t)) 69)).heap[w.heap.size]? = some (.cells (varr 39 (cellQ t)) 69 (0, 0)) := heap_alloc_new w _
  have hsz : (varr 39 (cellQ t)).size = 39 := varr_size _ _
  unfold progPV at hbest
  show Calls Tryz.prog 40 #[.agg (varr 39 (cellQ t)), .int .i64 1] w _
  have HROW := Lib.hid hrow
  have HSZ := Lib.hid hsz
  clear hrow hsz
  generalize varr 39 (cellQ t) = row at *
  generalize bestC t 1 = k at *
  have HBEST := Lib.hid hbest
  have ik : (k : Int) < 32 := by omega
  clear hbest
  go_enter Tryz.func40, Tryz.ntmps40
  go_wp2_with fail
  have hw1 : w.heap.size < (w.alloc (.cells row 69)).heap.size := by rw [World.size_alloc]; omega
  generalize w.alloc (.cells row 69) = w1 at *
  have HF : Hid (∀ wx, Below w1.heap.size w1 wx → wx.cell? ⟨w.heap.size, 37 + 1, none⟩ = some (.int .u8 (t.floor 1))) := Lib.hid fun wx hx => (HP.out.below hx).floor_ (c := 1) (by omega)
  have HK : Hid (∀ wx, Below w1.heap.size w1 wx → wx.cell? ⟨w.heap.size, 3 + k, none⟩ = some (.int .u8 (t.prio k))) := Lib.hid fun wx hx => (HP.out.below hx).prio_ (by omega)
  refine wp_region_held_drew (S := fun wx => Below w1.heap.size w1 wx) (by kernel_rfl) (Below.refl _ _).drew (fun hHeld0 => ?_)
  have HS := Lib.hid hHeld0
  clear hHeld0
  refine takeD (i := 0) (some 5) (v := ?_) rfl rfl (by kernel_rfl) (by kernel_rfl) (by kernel_rfl) (fun _ _ _ h => h) (by rfl) HS.out ?_ ?_
  rotate_left
  · intro wx hSx
    clear hSx
    go_simp
    try (with_reducible rfl)
  simp only [Act.put, List.setIfInBounds_toArray, List.set_cons_zero, List.set_cons_succ]
  refine wpAnyH_ready (rs := [1]) (by kernel_rfl) (by simp) ?_
  refine AllReadyH.cons rfl (fun K hK => ?_) AllReadyH.nil
  go_simp
  (with_reducible refine (isContext_any _ _).mono ?_)
  rintro e w' ⟨rfl, rfl⟩
  rw [HC.out]
  go_simp
  refine hK.out _ _ ?_ (fun hHeld => ?_)
  · exact HS.out
  clear hHeld hK K
  try simp only [Act.put, List.setIfInBounds_toArray, List.set_cons_zero, List.set_cons_succ]
  refine takeD (i := 2) (some 7) (v := ?_) rfl rfl (by kernel_rfl) (by kernel_rfl) (by kernel_rfl) (fun _ _ _ h => h) (by rfl) HS.out ?_ ?_
  rotate_left
  · intro wx hSx
    clear hSx
    go_simp
    try (with_reducible rfl)
  simp only [Act.put, List.setIfInBounds_toArray, List.set_cons_zero, List.set_cons_succ]
  refine takeD (i := 3) (some 8) (v := ?_) rfl rfl (by kernel_rfl) (by kernel_rfl) (by kernel_rfl) (fun _ _ _ h => h) (by rfl) HS.out ?_ ?_
  rotate_left
  · intro wx hSx
    exact (by refine yield_row _ (.tmp 2) ?_ w.heap.size ?_ (run_progRow ((hSx.block _ hw1).trans HROW.out) HSZ.out) <;> rfl)
  simp only [Act.put, List.setIfInBounds_toArray, List.set_cons_zero, List.set_cons_succ]
  refine takeD (i := 4) (some 9) (v := ?_) rfl rfl (by kernel_rfl) (by kernel_rfl) (by kernel_rfl) (fun _ _ _ h => h) (by rfl) HS.out ?_ ?_
  rotate_left
  · intro wx hSx
    clear hSx
    go_simp
    try (with_reducible rfl)
  simp only [Act.put, List.setIfInBounds_toArray, List.set_cons_zero, List.set_cons_succ]
  refine takeD (i := 6) (some 11) (v := ?_) rfl rfl (by kernel_rfl) (by kernel_rfl) (by kernel_rfl) (fun _ _ _ h => h) (by rfl) HS.out ?_ ?_
  rotate_left
  · intro wx hSx
    clear hSx
    go_simp
    try (with_reducible rfl)
  simp only [Act.put, List.setIfInBounds_toArray, List.set_cons_zero, List.set_cons_succ]
  refine takeD (i := 9) (some 14) (v := ?_) rfl rfl (by kernel_rfl) (by kernel_rfl) (by kernel_rfl) (fun _ _ _ h => h) (by rfl) HS.out ?_ ?_
  rotate_left
  · intro wx hSx
    clear hSx
    go_simp
    try (with_reducible rfl)
  simp only [Act.put, List.setIfInBounds_toArray, List.set_cons_zero, List.set_cons_succ]
  refine takeD (i := 10) (some 15) (v := ?_) rfl rfl (by kernel_rfl) (by kernel_rfl) (by kernel_rfl) (fun _ _ _ h => h) (by rfl) HS.out ?_ ?_
  rotate_left
  · intro wx hSx
    clear hSx
    go_simp
    try (with_reducible rfl)
  simp only [Act.put, List.setIfInBounds_toArray, List.set_cons_zero, List.set_cons_succ]
  refine takeD (i := 11) (some 16) (v := ?_) rfl rfl (by kernel_rfl) (by kernel_rfl) (by kernel_rfl) (fun _ _ _ h => h) (by rfl) HS.out ?_ ?_
  rotate_left
  · intro wx hSx
    clear hSx
    go_simp
    try (with_reducible rfl)
  simp only [Act.put, List.setIfInBounds_toArray, List.set_cons_zero, List.set_cons_succ]
  refine takeD (i := 12) (some 17) (v := ?_) rfl rfl (by kernel_rfl) (by kernel_rfl) (by kernel_rfl) (fun _ _ _ h => h) (by rfl) HS.out ?_ ?_
  rotate_left
  · intro wx hSx
    have g1 := HF.out wx hSx
    clear hSx
    go_simp
    try (with_reducible rfl)
  simp only [Act.put, List.setIfInBounds_toArray, List.set_cons_zero, List.set_cons_succ]
  refine wpAnyH_ready (rs := [5]) (by kernel_rfl) (by simp) ?_
  refine AllReadyH.cons rfl (fun K hK => ?_) AllReadyH.nil
  go_simp
  (with_reducible refine (HBEST.out _).mono ?_)
  rintro e w4 ⟨rfl, hb⟩
  have HS4 : Hid (Below w1.heap.size w1 w4) := Lib.hid (HS.out.trans (hb.mono HS.out.size))
  clear hb
  go_simp
  refine hK.out _ _ ?_ (fun hHeld => ?_)
  · exact HS4.out
  clear hHeld hK K
  try simp only [Act.put, List.setIfInBounds_toArray, List.set_cons_zero, List.set_cons_succ]
  replace HS := HS4
  refine takeD (i := 7) (some 12) (v := ?_) rfl rfl (by kernel_rfl) (by kernel_rfl) (by kernel_rfl) (fun _ _ _ h => h) (by rfl) HS.out ?_ ?_
  rotate_left
  · intro wx hSx
    clear hSx
    go_simp
    try (with_reducible rfl)
  simp only [Act.put, List.setIfInBounds_toArray, List.set_cons_zero, List.set_cons_succ]
  refine takeD (i := 8) (some 13) (v := ?_) rfl rfl (by kernel_rfl) (by kernel_rfl) (by kernel_rfl) (fun _ _ _ h => h) (by rfl) HS.out ?_ ?_
  rotate_left
  · intro wx hSx
    have g1 := HK.out wx hSx
    clear hSx
    go_simp
    try (with_reducible rfl)
  simp only [Act.put, List.setIfInBounds_toArray, List.set_cons_zero, List.set_cons_succ]
  refine takeD (i := 13) (some 18) (v := ?_) rfl rfl (by kernel_rfl) (by kernel_rfl) (by kernel_rfl) (fun _ _ _ h => h) (by rfl) HS.out ?_ ?_
  rotate_left
  · intro wx hSx
    clear hSx
    go_simp
    try (with_reducible rfl)
  simp only [Act.put, List.setIfInBounds_toArray, List.set_cons_zero, List.set_cons_succ]
  refine takeD (i := 14) (some 19) (v := ?_) rfl rfl (by kernel_rfl) (by kernel_rfl) (by kernel_rfl) (fun _ _ _ h => h) (by rfl) HS.out ?_ ?_
  rotate_left
  · intro wx hSx
    clear hSx
    go_simp
    try (with_reducible rfl)
  simp only [Act.put, List.setIfInBounds_toArray, List.set_cons_zero, List.set_cons_succ]
  refine takeD (i := 15) (some 4) (v := ?_) rfl rfl (by kernel_rfl) (by kernel_rfl) (by kernel_rfl) (fun _ _ _ h => h) (by rfl) HS.out ?_ ?_
  rotate_left
  · intro wx hSx
    clear hSx
    go_simp
    try (with_reducible rfl)
  simp only [Act.put, List.setIfInBounds_toArray, List.set_cons_zero, List.set_cons_succ]
  refine wpAnyH_done (by kernel_rfl) ?_ _
  go_wp2
  go_ret
  exact ⟨rfl, HB.out.trans (HS.out.mono HB.out.size)⟩

end Go.Proofs.YtbcnkhfpogglmaaGreatDoor.P5

namespace Go.Proofs.YtbcnkhfpogglmaaGreatDoor.P5
open Go.RowKit
set_option linter.unusedVariables false
set_option maxRecDepth 100000

/-- A plic at first. -/
def p0 : PS := ⟨fun _ => 0, fun _ => false, fun _ => false, fun _ => false, fun _ _ => false, fun _ => 0⟩
theorem p0_ok : p0.ok := ⟨rfl, fun _ => rfl, rfl, rfl, fun _ => by show (0 : Int) ≤ 0 ∧ (0 : Int) < 8; omega, fun _ => by show (0 : Int) ≤ 0 ∧ (0 : Int) < 8; omega⟩
def zerosQ : Array Value := #[.int .u32 0, .int .u32 0, .int .u32 0, .int .u8 0, .int .u8 0, .int .u8 0, .int .u8 0, .int .u8 0, .int .u8 0, .int .u8 0, .int .u8 0, .int .u8 0, .int .u8 0, .int .u8 0, .int .u8 0, .int .u8 0, .int .u8 0, .int .u8 0, .int .u8 0, .int .u8 0, .int .u8 0, .int .u8 0, .int .u8 0, .int .u8 0, .int .u8 0, .int .u8 0, .int .u8 0, .int .u8 0, .int .u8 0, .int .u8 0, .int .u8 0, .int .u8 0, .int .u8 0, .int .u8 0, .int .u8 0, .int .u32 0, .int .u32 0, .int .u8 0, .int .u8 0]
theorem zerosQ_def : (#[.int .u32 0, .int .u32 0, .int .u32 0, .int .u8 0, .int .u8 0, .int .u8 0, .int .u8 0, .int .u8 0, .int .u8 0, .int .u8 0, .int .u8 0, .int .u8 0, .int .u8 0, .int .u8 0, .int .u8 0, .int .u8 0, .int .u8 0, .int .u8 0, .int .u8 0, .int .u8 0, .int .u8 0, .int .u8 0, .int .u8 0, .int .u8 0, .int .u8 0, .int .u8 0, .int .u8 0, .int .u8 0, .int .u8 0, .int .u8 0, .int .u8 0, .int .u8 0, .int .u8 0, .int .u8 0, .int .u8 0, .int .u32 0, .int .u32 0, .int .u8 0, .int .u8 0] : Array Value) = zerosQ := rfl
theorem zerosQ_one : zerosQ.all (·.oneCell') = true := by unfold zerosQ; simp [Value.oneCell']
theorem varr_p0 : varr 39 (cellQ p0) = zerosQ := by kernel_rfl
set_option maxRecDepth 100000 in
theorem new_any (w : World) : Calls Tryz.prog 30 #[] w fun e w' => e = .returned (progPV p0) ∧ Below w.heap.size w w' := by
  unfold progPV
  rw [varr_p0]
  go_enter Tryz.func30, Tryz.ntmps30
  go_wp2_with (refine wpList_store_row rfl _ _ _ rfl w.heap.size _ rfl rfl 69 _ (heap_alloc_new w _) size_progP rfl zerosQ_one ?_)
  simp only [zerosQ_def]
  have h1 := setRow_heap (w.alloc (.cells zerosQ 69)) w.heap.size _ zerosQ 69 (0, 0) (heap_alloc_new w _)
  have hb : Below w.heap.size w ((w.alloc (.cells zerosQ 69)).setRow w.heap.size zerosQ) := below_setRow ((Below.refl _ _).alloc (Nat.le_refl _) _) (Nat.le_refl _) _
  refine bodyPost_ret (v := .agg zerosQ) (results_cell_row (show Tryz.f30.results = #[.cell 0 69] by kernel_rfl) _ _ w.heap.size 69 _ _ _ rfl h1 Tryz.underlying69 rfl size_progP) rfl ⟨rfl, hb⟩
end Go.Proofs.YtbcnkhfpogglmaaGreatDoor.P5
