/- Joined: Only Arr Fr Bv Bits OfBits TakeD Drive Ints -/
import Derived.WalkKit
import Derived.ProofKit
import Derived.WalkSmall
import Derived.Below
import Derived.Laws.Rows
import Derived.Laws.Tables
import Derived.Deep.MidRow
import Derived.Test.YtohidopbggcejaaDoorRows
import Derived.WalkLawsBesides
import Derived.BigQuiet
import Derived.Deep.QuietTactic
import Derived.Lib.Hide
import Derived.Deep.RegionHeld3
import Derived.OpenShut
namespace Go.Proofs.YtohidopbggcejaaDoor
open Go.RowKit
set_option linter.unusedVariables false
set_option maxRecDepth 100000

/-- Of the blocks that were there only those of S may have turned. -/
structure Only (S : Nat → Prop) (w w' : World) : Prop where
  os : w'.os = w.os
  tape : w'.tape = w.tape
  output : w'.output = w.output
  size : w.heap.size ≤ w'.heap.size
  block : ∀ k, k < w.heap.size → ¬ S k → w'.heap[k]? = w.heap[k]?

theorem Only.refl (S : Nat → Prop) (w : World) : Only S w w := ⟨rfl, rfl, rfl, Nat.le_refl _, fun _ _ _ => rfl⟩
/-- Two steps: what the second one turns is S's, or new since the first. -/
theorem Only.step {S T : Nat → Prop} {a b c : World} (h : Only S a b) (k : Only T b c) (hT : ∀ i, T i → S i ∨ a.heap.size ≤ i) : Only S a c :=
  ⟨k.os.trans h.os, k.tape.trans h.tape, k.output.trans h.output, Nat.le_trans h.size k.size, fun i hi hs =>
    (k.block i (Nat.lt_of_lt_of_le hi h.size) (fun ht => by rcases hT i ht with h1 | h1; exact hs h1; omega)).trans (h.block i hi hs)⟩
theorem Only.trans {S : Nat → Prop} {a b c : World} (h : Only S a b) (k : Only S b c) : Only S a c := h.step k fun _ hi => .inl hi
theorem Only.mono {S T : Nat → Prop} {a b : World} (h : Only S a b) (hT : ∀ i, S i → T i ∨ a.heap.size ≤ i) : Only T a b := (Only.refl T a).step h hT
theorem Only.of_below {w w' : World} (S : Nat → Prop) (h : Below w.heap.size w w') : Only S w w' := ⟨h.os, h.tape, h.output, h.size, fun k hk _ => h.block k hk⟩
theorem Only.below {S : Nat → Prop} {w w' : World} {B : Nat} (h : Only S w w') (hS : ∀ k, S k → B ≤ k) (hB : B ≤ w.heap.size) : Below B w w' :=
  ⟨h.os, h.tape, h.output, h.size, fun k hk => h.block k (by omega) (fun hs => by have := hS k hs; omega)⟩
theorem Only.thenBelow {S : Nat → Prop} {a b c : World} (h : Only S a b) (k : Below b.heap.size b c) : Only S a c := h.trans (Only.of_below S k)
/-- A chain that began below: what an object's call turns is new since the chain began. -/
theorem Below.thenOnly {S : Nat → Prop} {a b c : World} {B : Nat} (h : Below B a b) (k : Only S b c) (hS : ∀ i, S i → B ≤ i) (hB : B ≤ b.heap.size) : Below B a c := h.trans (k.below hS hB)
theorem Only.drewN {S : Nat → Prop} {a w : World} (h : Only S a w) (n : Nat) : Only S a (w.drewN n) := ⟨h.os, h.tape, h.output, h.size, h.block⟩
theorem Only.alloc {S : Nat → Prop} {a w : World} (h : Only S a w) (o : Obj) : Only S a (w.alloc o) := h.thenBelow ((Below.refl _ _).alloc (Nat.le_refl _) o)
theorem Only.setCell {S : Nat → Prop} {a w : World} (h : Only S a w) {p : Addr} (hp : S p.block ∨ a.heap.size ≤ p.block) (u : Value) : Only S a (w.setCell p u) :=
  h.step (T := fun i => i = p.block) ⟨rfl, rfl, rfl, by simp [World.setCell], fun k _ hk => Below.heap_setCell _ _ _ _ hk⟩ (by rintro i rfl; exact hp)
theorem Only.setRow {S : Nat → Prop} {a w : World} (h : Only S a w) {g : Nat} (hg : S g ∨ a.heap.size ≤ g) (cs : Array Value) : Only S a (w.setRow g cs) :=
  h.step (T := fun i => i = g) ⟨rfl, rfl, rfl, by rw [size_setRow]; exact Nat.le_refl _, fun k _ hk => Go.setRow_other w g k cs hk⟩ (by rintro i rfl; exact hg)
theorem Only.grown {S : Nat → Prop} {a w w' : World} {row : Option Nat} (h : Only S a w) (hg : w.grownBy w' row) (hr : ∀ k, row = some k → S k ∨ a.heap.size ≤ k) : Only S a w' :=
  h.step (T := fun i => row = some i) ⟨hg.os, hg.tape, hg.output, hg.size, fun k hk hn => hg.block k hk (fun e => hn e.symm)⟩ hr

/-- What stands in a block that is none of S's stands there still. -/
theorem Only.keeps {S : Nat → Prop} {w w' : World} (h : Only S w w') {g : Nat} {o : Obj} (hs : ¬ S g) (hg : w.heap[g]? = some o) : w'.heap[g]? = some o :=
  (h.block g (Array.getElem?_eq_some_iff.1 hg).1 hs).trans hg

/-- The cells from the beginning of block g on read as vs. -/
def Lays (w : World) (g : Nat) (vs : List Value) : Prop := ∃ cur t fr, w.heap[g]? = some (.cells cur t fr) ∧ cur.toList.take vs.length = vs
theorem Lays.lt {w : World} {g : Nat} {vs : List Value} (h : Lays w g vs) : g < w.heap.size := by
  obtain ⟨cur, t, fr, h, _⟩ := h; exact (Array.getElem?_eq_some_iff.1 h).1
theorem Lays.keeps {S : Nat → Prop} {w w' : World} {g : Nat} {vs : List Value} (h : Lays w g vs) (k : Only S w w') (hs : ¬ S g) : Lays w' g vs := by
  obtain ⟨cur, t, fr, h1, h2⟩ := h; exact ⟨cur, t, fr, k.keeps hs h1, h2⟩
theorem Lays.cell {w : World} {g : Nat} {vs : List Value} (h : Lays w g vs) {i : Nat} {v : Value} (hi : vs[i]? = some v) : w.cell? ⟨g, i, none⟩ = some v := by
  obtain ⟨cur, t, fr, h1, h2⟩ := h
  rw [cell_of_row w g i cur t fr h1]
  have hl : i < vs.length := (List.getElem?_eq_some_iff.1 hi).1
  have e : (cur.toList.take vs.length)[i]? = some v := by rw [h2]; exact hi
  rw [List.getElem?_take, if_pos hl] at e
  rw [← e]; simp
theorem Lays.own {base : Nat} {e : TypeId} {size : Nat} {w : World} {v : Value} {n : Nat} {vs : List Value} (h : w.ownsRow base e size v n vs) :
    (v = .slice none 0 0 ∧ n = 0 ∧ vs = []) ∨ ∃ g cap, v = .slice (some ⟨g, 0, none⟩) n cap ∧ base ≤ g ∧ Lays w g vs := by
  have hl := h.1
  rcases h.2 with ⟨hv, h0⟩ | ⟨g, cap, cur, hv, hg, hh, hn, _, hc, ht⟩
  · subst h0; exact .inl ⟨hv, rfl, List.eq_nil_of_length_eq_zero (by simpa using hl)⟩
  · exact .inr ⟨g, cap, hv, hg, cur, e, (0, 0), hh, by rw [hl]; exact ht⟩

end Go.Proofs.YtohidopbggcejaaDoor

namespace Go.Proofs.YtohidopbggcejaaDoor
open Go.RowKit
set_option linter.unusedVariables false
set_option maxRecDepth 100000

/-- The array of n cells whose cell i is f i. -/
def varr (n : Nat) (f : Nat → Value) : Array Value := ((List.range n).map f).toArray
/-- The array of n bools. -/
def barr (n : Nat) (f : Nat → Bool) : Array Value := varr n fun i => .bool (f i)

theorem varr_size (n : Nat) (f : Nat → Value) : (varr n f).size = n := by unfold varr; simp
theorem varr_get (n : Nat) (f : Nat → Value) (j : Nat) (h : j < n) : (varr n f)[j]? = some (f j) := by unfold varr; simp [h]
theorem varr_congr {n : Nat} {f g : Nat → Value} (h : ∀ i, i < n → f i = g i) : varr n f = varr n g := by
  unfold varr; congr 1; exact List.map_congr_left fun i hi => h i (List.mem_range.1 hi)
theorem varr_set (n : Nat) (f : Nat → Value) (k : Nat) (v : Value) : (varr n f).setIfInBounds k v = varr n fun j => if j = k then v else f j := by
  apply Array.ext
  · simp [varr]
  · intro i h1 h2
    simp [varr]
    by_cases e : k = i
    · simp [e]
    · simp [e, show ¬ i = k from fun h => e h.symm]
theorem varr_one {n : Nat} {f : Nat → Value} (h : ∀ i, (f i).oneCell' = true) : (varr n f).all (·.oneCell') = true := by
  unfold varr; simp [h]
theorem barr_size (n : Nat) (f : Nat → Bool) : (barr n f).size = n := varr_size n _
theorem barr_one (n : Nat) (f : Nat → Bool) : (barr n f).all (·.oneCell') = true := varr_one fun _ => rfl
theorem barr_congr {n : Nat} {f g : Nat → Bool} (h : ∀ i, i < n → f i = g i) : barr n f = barr n g := varr_congr fun i hi => by rw [h i hi]
theorem barr_set (n : Nat) (f : Nat → Bool) (k : Nat) (b : Bool) : (barr n f).setIfInBounds k (.bool b) = barr n fun j => if j = k then b else f j := by
  unfold barr; rw [varr_set]
  exact varr_congr fun i _ => by by_cases e : i = k <;> simp [e]

/-- Block g of the world holds that array, and may be written. -/
def HoldsB (w : World) (g : Nat) (t : TypeId) (n : Nat) (f : Nat → Bool) : Prop := w.heap[g]? = some (.cells (barr n f) t (0, 0))

theorem HoldsB.cell {w : World} {g : Nat} {t : TypeId} {n : Nat} {f : Nat → Bool} (h : HoldsB w g t n f) {j : Nat} (hj : j < n) : w.cell? ⟨g, j, none⟩ = some (.bool (f j)) := by
  rw [cell_of_row w g j _ t _ h]; exact varr_get n _ j hj
theorem HoldsB.frozen {w : World} {g : Nat} {t : TypeId} {n : Nat} {f : Nat → Bool} (h : HoldsB w g t n f) (j : Nat) : w.frozen? ⟨g, j, none⟩ = false := frozen_of_row w g j _ t h
theorem HoldsB.set {w : World} {g : Nat} {t : TypeId} {n : Nat} {f : Nat → Bool} (h : HoldsB w g t n f) (k : Nat) (b : Bool) : HoldsB (w.setCell ⟨g, k, none⟩ (.bool b)) g t n fun j => if j = k then b else f j := by
  unfold HoldsB; rw [heap_setCell_same w g k _ t _ h, barr_set]
theorem HoldsB.other {w : World} {g : Nat} {t : TypeId} {n : Nat} {f : Nat → Bool} (h : HoldsB w g t n f) {a : Addr} (ha : g ≠ a.block) (v : Value) : HoldsB (w.setCell a v) g t n f := by
  unfold HoldsB; rw [heap_setCell_other w a g v ha]; exact h
theorem HoldsB.congr {w : World} {g : Nat} {t : TypeId} {n : Nat} {f k : Nat → Bool} (h : HoldsB w g t n f) (e : ∀ i, i < n → f i = k i) : HoldsB w g t n k := by
  unfold HoldsB at *; rw [h, barr_congr e]
theorem HoldsB.below {w w' : World} {B g : Nat} {t : TypeId} {n : Nat} {f : Nat → Bool} (h : HoldsB w g t n f) (hb : Below B w w') (hg : g < B) : HoldsB w' g t n f := by
  unfold HoldsB at *; rw [hb.block g hg]; exact h
theorem HoldsB.drewN {w : World} {g : Nat} {t : TypeId} {n : Nat} {f : Nat → Bool} (h : HoldsB w g t n f) (k : Nat) : HoldsB (w.drewN k) g t n f := h
theorem HoldsB.lt {w : World} {g : Nat} {t : TypeId} {n : Nat} {f : Nat → Bool} (h : HoldsB w g t n f) : g < w.heap.size := (Array.getElem?_eq_some_iff.1 h).1
theorem HoldsB.setRow {w : World} {g : Nat} {t : TypeId} {n : Nat} {f : Nat → Bool} (h : HoldsB w g t n f) (k : Nat → Bool) : HoldsB (w.setRow g (barr n k)) g t n k := setRow_heap w g _ _ t _ h
theorem HoldsB.alloc {w : World} {g : Nat} {t : TypeId} {n : Nat} {f : Nat → Bool} (h : HoldsB w g t n f) (o : Obj) : HoldsB (w.alloc o) g t n f := (Below.heap_alloc w o g h.lt).trans h
theorem HoldsB.setRow_other {w : World} {g g' : Nat} {t : TypeId} {n : Nat} {f : Nat → Bool} (h : HoldsB w g t n f) (hg : g ≠ g') (cs : Array Value) : HoldsB (w.setRow g' cs) g t n f := (Go.setRow_other w g' g cs hg).trans h
/-- A new block of noughts, written whole. -/
theorem HoldsB.laid (w : World) (t : TypeId) (n : Nat) (z f : Nat → Bool) : HoldsB ((w.alloc (.cells (barr n z) t)).setRow w.heap.size (barr n f)) w.heap.size t n f :=
  HoldsB.setRow (f := z) (heap_alloc_new w _) f
theorem HoldsB.new (w : World) (t : TypeId) (n : Nat) (f : Nat → Bool) : HoldsB (w.alloc (.cells (barr n f) t)) w.heap.size t n f := heap_alloc_new w _
theorem laid_size (w : World) (o : Obj) (g : Nat) (cs : Array Value) : ((w.alloc o).setRow g cs).heap.size = w.heap.size + 1 := by rw [size_setRow]; exact World.size_alloc _ _

theorem below_setRow {B : Nat} {a w : World} (h : Below B a w) {g : Nat} (hg : B ≤ g) (cs : Array Value) : Below B a (w.setRow g cs) :=
  h.trans ⟨rfl, rfl, rfl, by simp, fun k hk => setRow_other w g k cs (by omega)⟩

end Go.Proofs.YtohidopbggcejaaDoor

namespace Go.Proofs.YtohidopbggcejaaDoor
open Go.RowKit
set_option linter.unusedVariables false
set_option maxRecDepth 100000

/-- What lies ahead of a struct in its block, and behind it; the block's type. -/
structure Fr (n : Nat) where
  pre : Array Value
  post : Array Value
  ty : TypeId
  hp : pre.size = n
/-- The whole block. -/
def Fr.all {n : Nat} (f : Fr n) (row : Array Value) : Array Value := f.pre ++ row ++ f.post
theorem Fr.get {n : Nat} (f : Fr n) (row : Array Value) (i : Nat) (h : i < row.size) : (f.all row)[n + i]? = row[i]? := by
  unfold Fr.all
  rw [Array.append_assoc, Array.getElem?_append_right (by rw [f.hp]; omega), f.hp, show n + i - n = i by omega, Array.getElem?_append_left h]
theorem Fr.set {n : Nat} (f : Fr n) (row : Array Value) (i : Nat) (v : Value) (h : i < row.size) : (f.all row).setIfInBounds (n + i) v = f.all (row.setIfInBounds i v) := by
  unfold Fr.all
  rw [Array.append_assoc, Array.append_assoc, Array.setIfInBounds_append_right (by rw [f.hp]; omega), f.hp, show n + i - n = i by omega, Array.setIfInBounds_append_left h]
theorem Fr.size {n : Nat} (f : Fr n) (row : Array Value) : (f.all row).size = n + row.size + f.post.size := by
  unfold Fr.all; rw [Array.size_append, Array.size_append, f.hp]
/-- The struct's cells, as a range. -/
theorem Fr.range {n : Nat} (f : Fr n) {w : World} {b : Nat} {row : Array Value} {x : Nat × Nat} (h : w.heap[b]? = some (.cells (f.all row) f.ty x)) : w.rangeAt b n row.toList := by
  intro j v hj
  have hl : j < row.size := by have := (List.getElem?_eq_some_iff.1 hj).1; simpa using this
  rw [cell_of_row w b _ _ _ _ h, f.get row j hl]
  simpa using hj
theorem run_load_fr {P : Program} (w : World) (b o : Nat) (ty : TypeId) (row : Array Value) (d : TypeDesc) (hc : w.rangeAt b o row.toList)
    (hu : P.underlying ty = some d) (hd : d.isRow = true) (hi : (P.info? ty).map (·.size) = some row.size) : (loadVar ty ⟨b, o, none⟩).run P w = .ok (.agg row) w := by
  have h := run_loadVar_mid (P := P) w b o ty row.toList d hc hu hd (by rw [hi]; simp)
  simpa using h
/-- A load of a whole struct out of a greater block. -/
theorem wpList_load_fr {P : Program} {ops : Array Oper} {rest : List Oper} {op : Oper} {a : Act} {w : World} {Q : Exit → Act → World → Prop} (hgd : op.guard = none) (ty : TypeId) (x : Operand) (ho : op.op = .load ty x)
    (b o : Nat) (hx : a.eval x = .pointer (some ⟨b, o, none⟩)) (row : Array Value) (d : TypeDesc) (hc : w.rangeAt b o row.toList)
    (hu : P.underlying ty = some d) (hd : d.isRow = true) (hi : (P.info? ty).map (·.size) = some row.size)
    (h : wpList P ops Q rest (a.put op.dst (.agg row)) w) : wpList P ops Q (op :: rest) a w :=
  wpList_load_mid hgd ty x ho b o hx row.toList d hc hu hd (by rw [hi]; simp) (by simpa using h)

end Go.Proofs.YtohidopbggcejaaDoor

namespace Go.Proofs.YtohidopbggcejaaDoor
open Go.RowKit
set_option linter.unusedVariables false
set_option maxRecDepth 100000

/-- The number of a bit vector, and the bit vector of a number. -/
def U (b : BitVec 64) : Int := (b.toNat : Int)
def V (x : Int) : BitVec 64 := BitVec.ofInt 64 x
/-- A number that a word can hold. -/
def In64 (x : Int) : Prop := 0 ≤ x ∧ x < 18446744073709551616

theorem U_in (b : BitVec 64) : In64 (U b) := by
  have := b.isLt; unfold In64 U; omega
theorem V_U (b : BitVec 64) : V (U b) = b := by
  unfold V U; rw [BitVec.ofInt_natCast]; simp
theorem U_V {x : Int} (h : In64 x) : U (V x) = x := by
  unfold In64 at h; unfold U V; rw [BitVec.toNat_ofInt]; omega
theorem U_inj {a b : BitVec 64} (h : U a = U b) : a = b := by
  have := congrArg V h; simpa [V_U] using this
theorem U_mod (x : Int) : U (V x) = x % 18446744073709551616 := by
  unfold U V; rw [BitVec.toNat_ofInt]; omega
theorem toNat_V {x : Int} (h : In64 x) : ((V x).toNat : Int) = x := U_V h
theorem of_wf {x : Int} (h : (Lit.int .u64 x).wf = true) : In64 x := by
  have h2 := h
  simp [Lit.wf, IntKind.min, IntKind.max, IntKind.signed, IntKind.bits] at h2
  unfold In64; omega
theorem to_wf {x : Int} (h : In64 x) : (Lit.int .u64 x).wf = true := by
  unfold In64 at h
  simp [Lit.wf, IntKind.min, IntKind.max, IntKind.signed, IntKind.bits]; omega
/-- A signed number that a word can hold. -/
def In63 (x : Int) : Prop := -9223372036854775808 ≤ x ∧ x < 9223372036854775808
theorem of_wf63 {x : Int} (h : (Lit.int .i64 x).wf = true) : In63 x := by
  have h2 := h
  simp [Lit.wf, IntKind.min, IntKind.max, IntKind.signed, IntKind.bits] at h2
  unfold In63; omega

theorem wrap_eq (x : Int) : IntKind.u64.wrap x = U (V x) := by
  rw [U_mod, IntKind.wrap_u64]
theorem V_wrap (x : Int) : V (IntKind.u64.wrap x) = V x := by rw [wrap_eq, V_U]

theorem bits_and (x y : Int) : bits .and .u64 x y = U (V x &&& V y) := by
  show IntKind.u64.wrap ((V x &&& V y).toNat : Int) = _
  exact (wrap_eq _).trans (by rw [show ((V x &&& V y).toNat : Int) = U (V x &&& V y) from rfl, V_U])
theorem bits_or (x y : Int) : bits .or .u64 x y = U (V x ||| V y) := by
  show IntKind.u64.wrap ((V x ||| V y).toNat : Int) = _
  exact (wrap_eq _).trans (by rw [show ((V x ||| V y).toNat : Int) = U (V x ||| V y) from rfl, V_U])
theorem bits_xor (x y : Int) : bits .xor .u64 x y = U (V x ^^^ V y) := by
  show IntKind.u64.wrap ((V x ^^^ V y).toNat : Int) = _
  exact (wrap_eq _).trans (by rw [show ((V x ^^^ V y).toNat : Int) = U (V x ^^^ V y) from rfl, V_U])
theorem bits_andNot (x y : Int) : bits .andNot .u64 x y = U (V x &&& ~~~ V y) := by
  show IntKind.u64.wrap ((V x &&& ~~~ V y).toNat : Int) = _
  exact (wrap_eq _).trans (by rw [show ((V x &&& ~~~ V y).toNat : Int) = U (V x &&& ~~~ V y) from rfl, V_U])

theorem V_add (x y : Int) : V (x + y) = V x + V y := by unfold V; rw [BitVec.ofInt_add]
theorem V_mul (x y : Int) : V (x * y) = V x * V y := by unfold V; rw [BitVec.ofInt_mul]
theorem V_neg (x : Int) : V (-x) = - V x := by unfold V; rw [BitVec.ofInt_neg]
theorem V_sub (x y : Int) : V (x - y) = V x - V y := by
  rw [Int.sub_eq_add_neg, V_add, V_neg, BitVec.sub_eq_add_neg]
theorem V_pow (k : Nat) : V (2 ^ k) = BitVec.twoPow 64 k := by
  apply BitVec.eq_of_toNat_eq
  have h : (2 : Int) ^ k = ((2 ^ k : Nat) : Int) := by norm_cast
  unfold V; rw [h, BitVec.ofInt_natCast, BitVec.toNat_ofNat, BitVec.toNat_twoPow]

theorem wrap_shl (x : Int) (k : Nat) : IntKind.u64.wrap (x * 2 ^ k) = U (V x <<< k) := by
  rw [wrap_eq, V_mul, V_pow, BitVec.mul_twoPow_eq_shiftLeft]
theorem shr_eq {x : Int} (h : In64 x) (k : Nat) : x / 2 ^ k = U (V x >>> k) := by
  have e := toNat_V h
  unfold U
  rw [BitVec.toNat_ushiftRight, Nat.shiftRight_eq_div_pow, Int.natCast_ediv, e]
  norm_cast

/-- The number read with its sign. -/
def S (b : BitVec 64) : Int := b.toInt
theorem wrap64_V (x : Int) : wrap64 x = S (V x) := by
  unfold wrap64 S V; rw [BitVec.toInt_ofInt, Int.bmod_def]; omega
theorem V_S (b : BitVec 64) : V (S b) = b := by unfold V S; exact BitVec.ofInt_toInt
theorem S_in (b : BitVec 64) : In63 (S b) := by
  unfold In63 S
  have h1 := BitVec.le_toInt b
  have h2 := BitVec.toInt_lt (x := b)
  omega
theorem S_V {x : Int} (h : In63 x) : S (V x) = x := by
  unfold In63 at h; unfold S V; rw [BitVec.toInt_ofInt, Int.bmod_def]; omega
theorem S_inj {a b : BitVec 64} (h : S a = S b) : a = b := by
  have := congrArg V h; simpa [V_S] using this
theorem S_shr (b : BitVec 64) (k : Nat) : S b / 2 ^ k = S (b.sshiftRight k) := by
  unfold S; rw [BitVec.toInt_sshiftRight, Int.shiftRight_eq_div_pow]
  norm_cast

/-! ### words by their bits -/
def ofF (f : Nat → Bool) : BitVec 64 := (BitVec.ofBoolListLE ((List.range 64).map f)).cast (by simp)
theorem bit_ofF (f : Nat → Bool) (i : Nat) : (ofF f).getLsbD i = (decide (i < 64) && f i) := by
  unfold ofF
  rw [BitVec.getLsbD_cast, BitVec.getLsbD_ofBoolListLE]
  by_cases h : i < 64
  · simp [h, List.getD]
  · simp [h, List.getD]
theorem ext64 {a b : BitVec 64} (h : ∀ i, i < 64 → a.getLsbD i = b.getLsbD i) : a = b := BitVec.eq_of_getLsbD_eq fun i hi => h i hi
theorem bit_of_ge (b : BitVec 64) {i : Nat} (h : 64 ≤ i) : b.getLsbD i = false := BitVec.getLsbD_of_ge b i h
theorem ofF_bits (b : BitVec 64) : ofF b.getLsbD = b := ext64 fun i hi => by rw [bit_ofF, decide_eq_true hi, Bool.true_and]
theorem ofF_congr {f g : Nat → Bool} (h : ∀ i, i < 64 → f i = g i) : ofF f = ofF g := ext64 fun i hi => by rw [bit_ofF, bit_ofF, h i hi]

theorem V_zero : V 0 = 0#64 := rfl
theorem V_one : V 1 = 1#64 := rfl
theorem V_all : V 18446744073709551615 = BitVec.allOnes 64 := by decide
theorem U_zero : U 0#64 = 0 := rfl

/-- Bit k of a word, by division. -/
theorem bit_div (b : BitVec 64) (k : Nat) : b.getLsbD k = decide (b.toNat / 2 ^ k % 2 = 1) := by
  rw [BitVec.getLsbD, Nat.testBit_eq_decide_div_mod_eq]

theorem two_pow_le {a b : Nat} (h : a ≤ b) : (2 : Int) ^ a ≤ 2 ^ b := by exact_mod_cast Nat.pow_le_pow_right (by omega) h

end Go.Proofs.YtohidopbggcejaaDoor

namespace Go.Proofs.YtohidopbggcejaaDoor
open Go.RowKit
set_option linter.unusedVariables false
set_option maxRecDepth 100000

/-- P1.1: the word whose bits below n are 1. -/
def maskB (n : Int) : BitVec 64 := ofF fun i => decide ((i : Int) < n)
/-- P1.1: the piece from lo on, of n bits. -/
def fieldB (w : BitVec 64) (lo n : Int) : BitVec 64 :=
  if 0 ≤ lo ∧ lo < 64 then ofF fun i => decide ((i : Int) < n) && w.getLsbD (i + lo.toNat) else 0#64
/-- P1.1: w with v in the place of that piece. -/
def putB (w : BitVec 64) (lo n : Int) (v : BitVec 64) : BitVec 64 :=
  if 0 ≤ lo ∧ lo < 64 then ofF fun i => if lo.toNat ≤ i ∧ (i : Int) - lo < n then v.getLsbD (i - lo.toNat) else w.getLsbD i else w
/-- P1.2: w's bits below n, drawn out. -/
def sextB (w : BitVec 64) (n : Int) : BitVec 64 :=
  if n < 1 then 0#64 else ofF fun i => if (i : Int) < n then w.getLsbD i else w.getLsbD (n.toNat - 1)
/-- P1.2: whether w is its lowest n bits, drawn out. -/
def canonB (w : BitVec 64) (n : Int) : Bool := decide (1 ≤ n) && decide (sextB w n = w)

theorem mask_bit (n : Int) (i : Nat) : (maskB n).getLsbD i = (decide (i < 64) && decide ((i : Int) < n)) := bit_ofF _ _
theorem field_bit {lo : Int} (w : BitVec 64) (n : Int) (h : 0 ≤ lo ∧ lo < 64) (i : Nat) : (fieldB w lo n).getLsbD i = (decide (i < 64) && (decide ((i : Int) < n) && w.getLsbD (i + lo.toNat))) := by
  unfold fieldB; rw [if_pos h]; exact bit_ofF _ _
theorem put_bit {lo : Int} (w : BitVec 64) (n : Int) (v : BitVec 64) (h : 0 ≤ lo ∧ lo < 64) (i : Nat) :
    (putB w lo n v).getLsbD i = (decide (i < 64) && if lo.toNat ≤ i ∧ (i : Int) - lo < n then v.getLsbD (i - lo.toNat) else w.getLsbD i) := by
  unfold putB; rw [if_pos h]; exact bit_ofF _ _
theorem sext_bit {n : Int} (w : BitVec 64) (h : ¬ n < 1) (i : Nat) : (sextB w n).getLsbD i = (decide (i < 64) && if (i : Int) < n then w.getLsbD i else w.getLsbD (n.toNat - 1)) := by
  unfold sextB; rw [if_neg h]; exact bit_ofF _ _

/-! ### what the program reckons -/
theorem mask_lo {n : Int} (h : n < 1) : (0 : Int) = U (maskB n) := by
  have e : maskB n = 0#64 := ext64 fun i hi => by
    rw [mask_bit, decide_eq_false (show ¬ (i : Int) < n by omega)]; simp
  rw [e]; rfl
theorem mask_hi {n : Int} (h : 64 ≤ n) : (18446744073709551615 : Int) = U (maskB n) := by
  have e : maskB n = BitVec.allOnes 64 := ext64 fun i hi => by
    rw [mask_bit, decide_eq_true (show (i : Int) < n by omega), BitVec.getLsbD_allOnes]; simp
  rw [e]; rfl
theorem mask_mid {n : Int} (h1 : 1 ≤ n) (h2 : n < 64) : IntKind.u64.wrap (IntKind.u64.wrap (2 ^ n.toNat) - 1) = U (maskB n) := by
  rw [wrap_eq, V_sub, V_wrap, V_pow, V_one]
  congr 1
  refine ext64 fun i hi => ?_
  rw [mask_bit, decide_eq_true hi, Bool.true_and]
  have e : BitVec.twoPow 64 n.toNat - 1#64 = BitVec.ofNat 64 (2 ^ n.toNat - 1) := by
    apply BitVec.eq_of_toNat_eq
    have hp : 2 ^ n.toNat < 2 ^ 64 := Nat.pow_lt_pow_right (by omega) (by omega)
    have hq : 0 < 2 ^ n.toNat := Nat.pow_pos (by omega)
    rw [BitVec.toNat_sub, BitVec.toNat_twoPow, BitVec.toNat_ofNat, BitVec.toNat_ofNat, Nat.mod_eq_of_lt hp]
    omega
  rw [e, BitVec.getLsbD_ofNat, Nat.testBit_two_pow_sub_one, decide_eq_true hi, Bool.true_and]
  congr 1
  apply propext; omega

theorem field_out {w : BitVec 64} {lo n : Int} (h : ¬ (0 ≤ lo ∧ lo < 64)) : (0 : Int) = U (fieldB w lo n) := by
  unfold fieldB; rw [if_neg h]; rfl
theorem field_in {w : BitVec 64} {lo n : Int} (h : 0 ≤ lo ∧ lo < 64) : w >>> lo.toNat &&& maskB n = fieldB w lo n :=
  ext64 fun i hi => by
    rw [BitVec.getLsbD_and, BitVec.getLsbD_ushiftRight, field_bit w n h, mask_bit, Nat.add_comm, Bool.and_comm, Bool.and_assoc]
theorem put_out {w v : BitVec 64} {lo n : Int} (h : ¬ (0 ≤ lo ∧ lo < 64)) : putB w lo n v = w := by
  unfold putB; rw [if_neg h]
theorem put_in {w v : BitVec 64} {lo n : Int} (h : 0 ≤ lo ∧ lo < 64) : w &&& ~~~ (maskB n <<< lo.toNat) ||| v <<< lo.toNat &&& maskB n <<< lo.toNat = putB w lo n v :=
  ext64 fun i hi => by
    rw [BitVec.getLsbD_or, BitVec.getLsbD_and, BitVec.getLsbD_and, BitVec.getLsbD_not, BitVec.getLsbD_shiftLeft, BitVec.getLsbD_shiftLeft, put_bit w n v h, mask_bit]
    by_cases a : lo.toNat ≤ i
    · have e : ((i - lo.toNat : Nat) : Int) = (i : Int) - lo := by omega
      rw [e]
      by_cases b : (i : Int) - lo < n
      · simp [hi, a, b, show i - lo.toNat < 64 by omega, show ¬ i < lo.toNat by omega]
      · simp [hi, a, b]
    · simp [hi, a, show i < lo.toNat by omega]

theorem sext_lo {w : BitVec 64} {n : Int} (h : n < 1) : (0 : Int) = U (sextB w n) := by
  unfold sextB; rw [if_pos h]; rfl
theorem sext_eq {w : BitVec 64} {n : Int} (h1 : 1 ≤ n) (h2 : n ≤ 64) : (w <<< (64 - n).toNat).sshiftRight (64 - n).toNat = sextB w n :=
  ext64 fun i hi => by
    rw [BitVec.getLsbD_sshiftRight, sext_bit w (by omega), BitVec.getLsbD_shiftLeft, BitVec.msb_eq_getLsbD_last, BitVec.getLsbD_shiftLeft]
    by_cases a : (i : Int) < n
    · rw [if_pos (by omega), if_pos a]
      simp [hi, show ¬ 64 ≤ i by omega, show (64 - n).toNat + i < 64 by omega, show ¬ (64 - n).toNat + i < (64 - n).toNat by omega]
    · rw [if_neg (by omega), if_neg a]
      simp [hi, show ¬ 64 ≤ i by omega, show 63 - (64 - n).toNat = n.toNat - 1 by omega]
      intro h; omega
theorem sext_big {w : BitVec 64} {n : Int} (h : 64 ≤ n) : sextB w n = w :=
  ext64 fun i hi => by rw [sext_bit w (by omega), if_pos (by omega), decide_eq_true hi, Bool.true_and]
theorem sext_mid {x n : Int} (h1 : 1 ≤ n) (h2 : n ≤ 64) : IntKind.u64.wrap (wrap64 (IntKind.u64.wrap (x * 2 ^ (64 - n).toNat)) / 2 ^ (64 - n).toNat) = U (sextB (V x) n) := by
  rw [wrap_shl, wrap64_V, V_U, S_shr, wrap_eq, V_S, sext_eq h1 h2]
theorem sext_hi {x n : Int} (h : 64 < n) : IntKind.u64.wrap (wrap64 (IntKind.u64.wrap x)) = U (sextB (V x) n) := by
  rw [wrap_eq, wrap64_V, V_S, V_wrap, sext_big (by omega)]

theorem canon_reckon {x n : Int} (hx : In64 x) (h : 1 ≤ n) : (U (sextB (V x) n) == x) = canonB (V x) n := by
  unfold canonB
  rw [decide_eq_true h, Bool.true_and]
  by_cases e : sextB (V x) n = V x
  · rw [decide_eq_true e, e, U_V hx]; simp
  · rw [decide_eq_false e]
    simp only [beq_eq_false_iff_ne]
    intro h'; apply e
    have h2 := congrArg V h'; rwa [V_U] at h2

/-- P1.3: the least multiple that is not below a. -/
def upZ (a s : Int) : Int × Bool :=
  if s = 0 then (0, false) else if a % s = 0 then (a, true) else if a + (s - a % s) < 18446744073709551616 then (a + (s - a % s), true) else (0, false)
/-- P1.4: one bit. -/
def bitB (w : BitVec 64) (i : Int) : Bool := decide (0 ≤ i) && w.getLsbD i.toNat

theorem up_zero (a : Int) : upZ a 0 = (0, false) := by unfold upZ; rw [if_pos rfl]
theorem up_even {a s : Int} (h : ¬ s = 0) (h1 : a % s = 0) : upZ a s = (a, true) := by unfold upZ; rw [if_neg h, if_pos h1]
theorem up_fits {a s : Int} (h : ¬ s = 0) (h1 : ¬ a % s = 0) (h2 : a + (s - a % s) < 18446744073709551616) : upZ a s = (a + (s - a % s), true) := by
  unfold upZ; rw [if_neg h, if_neg h1, if_pos h2]
theorem up_over {a s : Int} (h : ¬ s = 0) (h1 : ¬ a % s = 0) (h2 : ¬ a + (s - a % s) < 18446744073709551616) : upZ a s = (0, false) := by
  unfold upZ; rw [if_neg h, if_neg h1, if_neg h2]
theorem up_sum {a s : Int} (ha : In64 a) (hs : In64 s) (h : ¬ s = 0) : IntKind.u64.wrap (a + IntKind.u64.wrap (s - a % s)) = (a + (s - a % s)) % 18446744073709551616 := by
  unfold In64 at ha hs
  rw [IntKind.wrap_u64, IntKind.wrap_u64]
  have h1 := Int.emod_nonneg a h
  have h2 := Int.emod_lt_of_pos a (show 0 < s by omega)
  omega

theorem and_one_u8 {y : Int} (h : 0 ≤ y) : bits .and .u8 y 1 = y % 2 := by
  obtain ⟨n, rfl⟩ := Int.eq_ofNat_of_zero_le h
  show IntKind.u8.wrap ((BitVec.ofInt 8 (n : Int) &&& 1#8).toNat : Int) = _
  rw [BitVec.toNat_and, BitVec.ofInt_natCast, BitVec.toNat_ofNat, show (1#8).toNat = 1 from rfl, Nat.and_one_is_mod]
  simp [IntKind.wrap, IntKind.bits, IntKind.signed]; omega
theorem and_one_u16 {y : Int} (h : 0 ≤ y) : bits .and .u16 y 1 = y % 2 := by
  obtain ⟨n, rfl⟩ := Int.eq_ofNat_of_zero_le h
  show IntKind.u16.wrap ((BitVec.ofInt 16 (n : Int) &&& 1#16).toNat : Int) = _
  rw [BitVec.toNat_and, BitVec.ofInt_natCast, BitVec.toNat_ofNat, show (1#16).toNat = 1 from rfl, Nat.and_one_is_mod]
  simp [IntKind.wrap, IntKind.bits, IntKind.signed]; omega
theorem and_one_u32 {y : Int} (h : 0 ≤ y) : bits .and .u32 y 1 = y % 2 := by
  obtain ⟨n, rfl⟩ := Int.eq_ofNat_of_zero_le h
  show IntKind.u32.wrap ((BitVec.ofInt 32 (n : Int) &&& 1#32).toNat : Int) = _
  rw [BitVec.toNat_and, BitVec.ofInt_natCast, BitVec.toNat_ofNat, show (1#32).toNat = 1 from rfl, Nat.and_one_is_mod]
  simp [IntKind.wrap, IntKind.bits, IntKind.signed]; omega
theorem and_one_u64 {y : Int} (h : 0 ≤ y) : bits .and .u64 y 1 = y % 2 := by
  obtain ⟨n, rfl⟩ := Int.eq_ofNat_of_zero_le h
  show IntKind.u64.wrap ((BitVec.ofInt 64 (n : Int) &&& 1#64).toNat : Int) = _
  rw [BitVec.toNat_and, BitVec.ofInt_natCast, BitVec.toNat_ofNat, show (1#64).toNat = 1 from rfl, Nat.and_one_is_mod]
  simp [IntKind.wrap, IntKind.bits, IntKind.signed]; omega

/-- Bit i of a number below 2^k, shifted down by no more than k. -/
theorem bit_reckon {x i : Int} {k : Nat} (hk : k ≤ 64) (h0 : 0 ≤ x) (h1 : x < 2 ^ k) (hi : 0 ≤ i) : (x / 2 ^ min i.toNat k % 2 == 1) = bitB (V x) i := by
  obtain ⟨n, rfl⟩ := Int.eq_ofNat_of_zero_le h0
  have hn : n < 2 ^ k := by norm_cast at h1
  have hV : (V (n : Int)).toNat = n := by
    unfold V; rw [BitVec.ofInt_natCast, BitVec.toNat_ofNat]
    exact Nat.mod_eq_of_lt (Nat.lt_of_lt_of_le hn (Nat.pow_le_pow_right (by omega) hk))
  unfold bitB
  rw [decide_eq_true hi, Bool.true_and, bit_div, hV]
  have e : (n : Int) / 2 ^ min i.toNat k % 2 = ((n / 2 ^ min i.toNat k % 2 : Nat) : Int) := by norm_cast
  rw [e]
  by_cases h : i.toNat ≤ k
  · rw [Nat.min_eq_left h]
    generalize n / 2 ^ i.toNat % 2 = q
    rw [Bool.eq_iff_iff, beq_iff_eq, decide_eq_true_eq]; omega
  · have z1 : n / 2 ^ k = 0 := Nat.div_eq_of_lt hn
    have z2 : n / 2 ^ i.toNat = 0 := Nat.div_eq_of_lt (Nat.lt_of_lt_of_le hn (Nat.pow_le_pow_right (by omega) (by omega)))
    rw [Nat.min_eq_right (by omega), z1, z2]; rfl
theorem bit_neg {b : BitVec 64} {i : Int} (hi : i < 0) : bitB b i = false := by
  unfold bitB; rw [decide_eq_false (show ¬ 0 ≤ i by omega), Bool.false_and]

end Go.Proofs.YtohidopbggcejaaDoor

namespace Go.Proofs.YtohidopbggcejaaDoor
open Go.RowKit
set_option linter.unusedVariables false
set_option maxRecDepth 100000

theorem ret_int {k : IntKind} {a b : Int} (h : a = b) : Ending.returned (.int k a) = .returned (.int k b) := by rw [h]
theorem ret_bool {a b : Bool} (h : a = b) : Ending.returned (.bool a) = .returned (.bool b) := by rw [h]

theorem isPlace_any (i : Int) (w : World) :
    Calls Tryd.prog 79 #[.int .i64 i] w fun e w' => e = .returned (.bool (decide (0 ≤ i ∧ i < 64))) ∧ w = w' := by
  by_cases h1 : 0 ≤ i
  · by_cases h2 : i < 64
    · go_enter Tryd.func79, Tryd.ntmps79
      go_wp2
      go_ret
      exact ⟨ret_bool (by simp [h1, h2]), rfl⟩
    · go_enter Tryd.func79, Tryd.ntmps79
      go_wp2
      go_ret
      exact ⟨ret_bool (by simp [h2]), rfl⟩
  · go_enter Tryd.func79, Tryd.ntmps79
    go_wp2
    go_ret
    exact ⟨ret_bool (by simp; omega), rfl⟩

theorem mask_any (n : Int) (w : World) :
    Calls Tryd.prog 80 #[.int .i64 n] w fun e w' => e = .returned (.int .u64 (U (maskB n))) ∧ w = w' := by
  go_enter Tryd.func80, Tryd.ntmps80
  go_wp2
  all_goals go_ret
  · exact ⟨ret_int (mask_lo (by assumption)), rfl⟩
  · exact ⟨ret_int (mask_hi (by assumption)), rfl⟩
  · exact ⟨ret_int (mask_mid (by assumption) (by assumption)), rfl⟩

theorem field_any (x lo n : Int) (hx : In64 x) (w : World) :
    Calls Tryd.prog 67 #[.int .u64 x, .int .i64 lo, .int .i64 n] w fun e w' => e = .returned (.int .u64 (U (fieldB (V x) lo n))) ∧ ∃ k, w' = w.drewN k := by
  by_cases h : 0 ≤ lo ∧ lo < 64
  · have hd : decide (0 ≤ lo ∧ lo < 64) = true := decide_eq_true h
    have hlo := h.1
    have hlo2 := h.2
    go_enter Tryd.func67, Tryd.ntmps67
    go_wp2_with (go_at_call 79; refine (isPlace_any _ _).mono ?_; rintro e w' ⟨rfl, rfl⟩)
    go_quiet ((go_at_call 80; exact Calls.quiet_of_same ((mask_any _ _).mono fun e w' h => ⟨h.1, h.2.symm⟩)))
    go_wp2
    go_ret
    exact ⟨ret_int (by rw [bits_and, V_U, shr_eq hx, V_U, field_in h]), nq, rfl⟩
  · have hd : decide (0 ≤ lo ∧ lo < 64) = false := decide_eq_false h
    go_enter Tryd.func67, Tryd.ntmps67
    go_wp2_with (go_at_call 79; refine (isPlace_any _ _).mono ?_; rintro e w' ⟨rfl, rfl⟩)
    go_ret
    exact ⟨ret_int (field_out h), 0, rfl⟩

theorem put_any (x lo n y : Int) (hx : In64 x) (w : World) :
    Calls Tryd.prog 63 #[.int .u64 x, .int .i64 lo, .int .i64 n, .int .u64 y] w fun e w' => e = .returned (.int .u64 (U (putB (V x) lo n (V y)))) ∧ w = w' := by
  by_cases h : 0 ≤ lo ∧ lo < 64
  · have hd : decide (0 ≤ lo ∧ lo < 64) = true := decide_eq_true h
    have hlo := h.1
    have hlo2 := h.2
    go_enter Tryd.func63, Tryd.ntmps63
    go_wp2_with (first | (go_at_call 79; refine (isPlace_any _ _).mono ?_; rintro e w' ⟨rfl, rfl⟩) | (go_at_call 80; refine (mask_any _ _).mono ?_; rintro e w' ⟨rfl, rfl⟩))
    go_ret
    exact ⟨ret_int (by rw [bits_andNot, bits_and, bits_or]; simp only [V_U, wrap_shl]; rw [put_in h]), rfl⟩
  · have hd : decide (0 ≤ lo ∧ lo < 64) = false := decide_eq_false h
    go_enter Tryd.func63, Tryd.ntmps63
    go_wp2_with (go_at_call 79; refine (isPlace_any _ _).mono ?_; rintro e w' ⟨rfl, rfl⟩)
    go_ret
    exact ⟨ret_int (by rw [put_out h, U_V hx]), rfl⟩

theorem ret_pair {k : IntKind} {x y : Int} {b c : Bool} {p : Int × Bool} (h : p = (y, c)) (hx : x = y) (hb : b = c) : Ending.returned (.tuple #[.int k x, .bool b]) = .returned (.tuple #[.int k p.1, .bool p.2]) := by
  rw [h, hx, hb]

theorem bit64_any (x i : Int) (h0 : 0 ≤ x) (h1 : x < 2 ^ 64) (w : World) :
    Calls Tryd.prog 84 #[.int .u64 x, .int .i64 i] w fun e w' => e = .returned (.bool (bitB (V x) i)) ∧ w = w' := by
  have H := Lib.hid h1
  clear h1
  go_enter Tryd.func84, Tryd.ntmps84
  go_wp2
  all_goals go_ret
  · exact ⟨ret_bool (by rw [and_one_u64 (Int.ediv_nonneg h0 (Int.le_of_lt (Int.pow_pos (by omega)))), bit_reckon (by omega) h0 H.out (by assumption)]), rfl⟩
  · exact ⟨ret_bool (by rw [bit_neg (by assumption)]), rfl⟩

theorem bit32_any (x i : Int) (h0 : 0 ≤ x) (h1 : x < 2 ^ 32) (w : World) :
    Calls Tryd.prog 54 #[.int .u32 x, .int .i64 i] w fun e w' => e = .returned (.bool (bitB (V x) i)) ∧ w = w' := by
  have H := Lib.hid h1
  clear h1
  go_enter Tryd.func54, Tryd.ntmps54
  go_wp2
  all_goals go_ret
  · exact ⟨ret_bool (by rw [and_one_u32 (Int.ediv_nonneg h0 (Int.le_of_lt (Int.pow_pos (by omega)))), bit_reckon (by omega) h0 H.out (by assumption)]), rfl⟩
  · exact ⟨ret_bool (by rw [bit_neg (by assumption)]), rfl⟩

end Go.Proofs.YtohidopbggcejaaDoor

namespace Go.Proofs.YtohidopbggcejaaDoor
section
variable {P : Program} {ops : Array Oper} {md : Region.Mode} {Q : Exit → Act → World → Prop} {S : World → Prop}
/-- 'wpAnyH_take' where the operation runs: its temporary d is written out, so that the state can be laid out behind it. -/
theorem takeD {i : Nat} {oi : Oper} (d : Option Tmp) {v : Value} {fuel : Nat} {listed : Array Bool} {a : Act} {w : World} (hi : ops[i]? = some oi) (hd : oi.dst = d)
    (hs : Region.noSelect ops = true) (hf : Region.free md ops listed i = true) (hr : (Region.ready md ops listed).contains i = true)
    (hQ : ∀ c a w, Q (.panic c) (a.put d v) w → Q (.panic c) a w) (hw : Region.wanted oi (yielded ops a.tmps) = true) (hS : S w) (hy : ∀ w, S w → (execOp a.eval oi).run P w = .ok (.value v) w)
    (h : wpAnyH P md ops Q S fuel (listed.setIfInBounds i true) (a.put d v) w) : wpAnyH P md ops Q S (fuel + 1) listed a w := by
  subst hd; exact wpAnyH_take hi hs hf hr hQ (.inl ⟨hw, hy⟩) hS h
/-- The same where its guard is false: it is not wanted, and yields nothing. -/
theorem skipD {i : Nat} {oi : Oper} (d : Option Tmp) {fuel : Nat} {listed : Array Bool} {a : Act} {w : World} (hi : ops[i]? = some oi) (hd : oi.dst = d)
    (hs : Region.noSelect ops = true) (hf : Region.free md ops listed i = true) (hr : (Region.ready md ops listed).contains i = true)
    (hQ : ∀ c a w, Q (.panic c) (a.put d undef) w → Q (.panic c) a w) (hw : Region.wanted oi (yielded ops a.tmps) = false) (hS : S w)
    (h : wpAnyH P md ops Q S fuel (listed.setIfInBounds i true) (a.put d undef) w) : wpAnyH P md ops Q S (fuel + 1) listed a w := by
  subst hd; exact wpAnyH_take hi hs hf hr hQ (.inr ⟨hw, rfl⟩) hS h
end

end Go.Proofs.YtohidopbggcejaaDoor

namespace Go.Proofs.YtohidopbggcejaaDoor
section
variable {P : Program} {ops : Array Oper} {md : Region.Mode} {Q : Exit → Act → World → Prop}
/-- From here on more is shown behind each operation. -/
theorem wpAnyH_more {S T : World → Prop} (h : ∀ w, T w → S w) : ∀ (fuel : Nat) (listed : Array Bool) (a : Act) (w : World), wpAnyH P md ops Q T fuel listed a w → wpAnyH P md ops Q S fuel listed a w
  | 0, _, _, _, k => k
  | fuel + 1, _, _, _, k => ⟨k.1, fun i hi => wpOp_mono (fun a' w' k' => ⟨h _ k'.1, wpAnyH_more h fuel _ a' w' k'.2⟩) (k.2 i hi)⟩
theorem yield_row {op : Oper} {a : Act} {w : World} {row : Array Value} (ty : TypeId) (x : Operand) (ho : op.op = .load ty x) (b : Nat) (hx : a.eval x = .pointer (some ⟨b, 0, none⟩)) (hrun : (loadVar ty ⟨b, 0, none⟩).run P w = .ok (.agg row) w) :
    (execOp a.eval op).run P w = .ok (.value (.agg row)) w := by
  unfold execOp
  simp only [ho, hx, Instr.loadAt, Instr.sureAddr, Sem.run_bind, Sem.run_pure, Result.andThen_ok, hrun]
end

end Go.Proofs.YtohidopbggcejaaDoor

namespace Go.Proofs.YtohidopbggcejaaDoor
open Go.RowKit
set_option linter.unusedVariables false
set_option maxRecDepth 100000

/-- The slice value v reads as the list xs of numbers of kind k, out of blocks below B. -/
def ReadsL (k : IntKind) (B : Nat) (w : World) (v : Value) (xs : List Int) : Prop :=
  ∃ a c, v = .slice a xs.length c ∧ xs.length ≤ maxLen ∧ (xs = [] ∨ ∃ b off, a = some ⟨b, off, none⟩ ∧ b < B ∧ ∀ i, i < xs.length → w.cell? ⟨b, off + i, none⟩ = some (.int k (xs.getD i 0)))

theorem ReadsL.below {k : IntKind} {B B' : Nat} {w w' : World} {v : Value} {xs : List Int} (h : ReadsL k B w v xs) (hb : Below B' w w') (hB : B ≤ B') : ReadsL k B w' v xs := by
  obtain ⟨a, c, hv, hm, h⟩ := h
  refine ⟨a, c, hv, hm, ?_⟩
  rcases h with h | ⟨b, off, ha, hlt, hc⟩
  · exact .inl h
  · exact .inr ⟨b, off, ha, hlt, fun i hi => (hb.cell (p := ⟨b, off + i, none⟩) (Nat.lt_of_lt_of_le hlt hB)).trans (hc i hi)⟩

theorem ReadsL.mono {k : IntKind} {B B' : Nat} {w : World} {v : Value} {xs : List Int} (h : ReadsL k B w v xs) (hB : B ≤ B') : ReadsL k B' w v xs := by
  obtain ⟨a, c, hv, hm, h⟩ := h
  refine ⟨a, c, hv, hm, ?_⟩
  rcases h with h | ⟨b, off, ha, hlt, hc⟩
  · exact .inl h
  · exact .inr ⟨b, off, ha, Nat.lt_of_lt_of_le hlt hB, hc⟩

theorem add_none (b off i : Nat) : (⟨b, off, none⟩ : Addr).add i = ⟨b, off + i, none⟩ := by
  unfold Addr.add; split <;> simp_all

/-- What the call made by append reads as its list. -/
theorem ReadsL.own {k : IntKind} {base : Nat} {e : TypeId} {w : World} {v : Value} {xs : List Int} (h : w.ownsRow base e 1 v xs.length (xs.map (Value.int k))) : ReadsL k w.heap.size w v xs := by
  rcases h.2 with ⟨hv, h0⟩ | ⟨g, cap, cur, hv, _, hg, hn, hc, _, _⟩
  · have : xs = [] := List.eq_nil_of_length_eq_zero h0
    subst this
    exact ⟨none, 0, hv, Nat.zero_le _, .inl rfl⟩
  · subst hv
    refine ⟨_, cap, rfl, by omega, .inr ⟨g, 0, rfl, (Array.getElem?_eq_some_iff.1 hg).1, fun i hi => ?_⟩⟩
    have := h.cells (g := g) rfl i (.int k (xs.getD i 0)) (by simp [List.getD, hi])
    rwa [add_none] at this

/-- What the frame of a law tells of a slice of integers that came in: nil, or a row of 'cap' cells of which the first 'len' are its elements. -/
def IsRow (k : IntKind) (w : World) (a : Option Addr) (len cap : Nat) (zs : List Int) : Prop :=
  (a = none ∧ len = 0 ∧ cap = 0 ∧ zs = []) ∨
  ∃ x, a = some x ∧ len ≤ cap ∧ cap ≤ maxLen ∧ zs.length = cap ∧ (∀ i, i < zs.length → w.cell? (x.add i) = some (.int k (zs.getD i 0))) ∧ ∀ n ∈ zs, (Lit.int k n).wf = true

theorem IsRow.reads {k : IntKind} {w : World} {a : Option Addr} {len cap : Nat} {zs : List Int} (h : IsRow k w a len cap zs) : ReadsL k w.heap.size w (.slice a len cap) (zs.take len) := by
  rcases h with ⟨rfl, rfl, rfl, rfl⟩ | ⟨x, rfl, hl, hm, hz, hc, _⟩
  · exact ⟨none, 0, rfl, Nat.zero_le _, .inl rfl⟩
  · have hlen : (zs.take len).length = len := by rw [List.length_take]; omega
    refine ⟨some x, cap, by rw [hlen], by omega, ?_⟩
    by_cases h0 : len = 0
    · exact .inl (by rw [h0, List.take_zero])
    · right
      obtain ⟨b, off, rfl, hcell⟩ := Go.ints_at hc (by omega)
      refine ⟨b, off, rfl, ?_, fun i hi => ?_⟩
      · have h1 := hcell 0 (by omega)
        by_cases hb : b < w.heap.size
        · exact hb
        · have hn : w.heap[b]? = none := by simp; omega
          simp [World.cell?, hn] at h1
      · rw [hcell i (by omega)]
        simp [List.getD, show i < len by omega]

theorem take_snoc (xs : List Int) (k : Nat) (h : k < xs.length) : xs.take (k + 1) = xs.take k ++ [xs.getD k 0] := by
  rw [List.take_add_one, List.getElem?_eq_getElem h]; simp [List.getD, h]

/-- An append whose run is known. -/
theorem wp_append_run {P : Program} {o : Oper} {a : Act} {w : World} {K : Act → World → Prop} {Q : Exit → Act → World → Prop} (s x : Operand) (t : TypeId)
    (ho : o.op = .call { callee := .builtin .append, args := #[s, x], argTypes := #[t, t] }) (v v2 v' : Value) (w' : World) (hs : a.eval s = v) (hx : a.eval x = v2)
    (hr : (Builtin.append_ #[t, t] o.type #[v, v2]).run P w = .ok v' w') (h : K (a.put o.dst v') w') : o.wp P a w K Q := by
  unfold Oper.wp execOp
  simp only [ho, resolve, invoke, builtin, Sem.run_bind, Sem.run_pure, Result.andThen_ok, List.map_toArray, List.map_cons, List.map_nil, hs, hx, hr]
  exact h
theorem wpList_append_run {P : Program} {ops : Array Oper} {rest : List Oper} {o : Oper} {a : Act} {w : World} {Q : Exit → Act → World → Prop} (hgd : o.guard = none) (s x : Operand) (t : TypeId)
    (ho : o.op = .call { callee := .builtin .append, args := #[s, x], argTypes := #[t, t] }) (v v2 v' : Value) (w' : World) (hs : a.eval s = v) (hx : a.eval x = v2)
    (hr : (Builtin.append_ #[t, t] o.type #[v, v2]).run P w = .ok v' w') (h : wpList P ops Q rest (a.put o.dst v') w') : wpList P ops Q (o :: rest) a w :=
  wpList_plain hgd fun _ hK => wp_append_run s x t ho v v2 v' w' hs hx hr (hK _ _ h)

end Go.Proofs.YtohidopbggcejaaDoor
