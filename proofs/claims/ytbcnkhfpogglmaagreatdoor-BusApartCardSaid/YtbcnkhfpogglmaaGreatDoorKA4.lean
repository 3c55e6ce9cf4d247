/- Joined: BuA BuB BuI BuC BuD BuE BuF BuG BuH BuJ BuK BuL BuM -/
import Derived.Test.YtbcnkhfpogglmaaGreatDoorKA3
import Derived.Deep.AppendLies
import Derived.Deep.RegionLaw
import Derived.Laws.EntriesVeiled
import Derived.Defers
import Derived.Deep.RegionWith
import Derived.StillTailTactics
namespace Go.Proofs.YtbcnkhfpogglmaaGreatDoor
open Go.RowKit
set_option linter.unusedVariables false
set_option maxRecDepth 100000

theorem Fr.ahead {n : Nat} (f : Fr n) (row : Array Value) (i : Nat) (h : i < n) : (f.all row)[i]? = f.pre[i]? := by
  unfold Fr.all
  rw [Array.append_assoc, Array.getElem?_append_left (by rw [f.hp]; exact h)]
theorem Fr.behind {n : Nat} (f : Fr n) (row : Array Value) (i j : Nat) (h : j = n + row.size + i) : (f.all row)[j]? = f.post[i]? := by
  subst h
  unfold Fr.all
  rw [Array.getElem?_append_right (by rw [Array.size_append, f.hp]; omega), Array.size_append, f.hp, show n + row.size + i - (n + row.size) = i by omega]
theorem Fr.setBehind {n : Nat} (f : Fr n) (row : Array Value) (i j : Nat) (v : Value) (h : j = n + row.size + i) : (f.all row).setIfInBounds j v = Fr.all ⟨f.pre, f.post.setIfInBounds i v, f.ty, f.hp⟩ row := by
  subst h
  unfold Fr.all
  rw [Array.setIfInBounds_append_right (by rw [Array.size_append, f.hp]; omega), Array.size_append, f.hp, show n + row.size + i - (n + row.size) = i by omega]

/-- A bus's state. -/
structure BS where
  size : Int
  m : Int → Int
  c : C4.Cl
  p : P5.PS
  us : List U6.US

/-! ### regions -/
/-- Where region k of a bus with n uarts begins, and how many bytes it has. -/
def regBase (n k : Nat) : Int := if k = 0 then 2147483648 else if k = 1 then 33554432 else if k = 2 then 201326592 else if k < 3 + n then 268435456 + 4096 * ((k : Int) - 3) else 0
def regSize (size : Int) (n k : Nat) : Int := if k = 0 then size else if k = 1 then 65536 else if k = 2 then 4194304 else if k < 3 + n then 8 else 0
/-- The region of an address; 11: none. -/
def regK (size : Int) (n : Nat) (a : Int) : Nat :=
  if 2147483648 ≤ a ∧ a < 2147483648 + size then 0 else if 33554432 ≤ a ∧ a < 33619968 then 1 else if 201326592 ≤ a ∧ a < 205520896 then 2
  else if 268435456 ≤ a ∧ (a - 268435456) % 4096 < 8 ∧ (a - 268435456) / 4096 < n then 3 + ((a - 268435456) / 4096).toNat else 11
theorem regK_le {size : Int} {n : Nat} {a : Int} (hn : n ≤ 8) : regK size n a ≤ 11 := by
  unfold regK
  split; omega
  split; omega
  split; omega
  split
  · omega
  · omega
/-- What one looks at: whether the region is the one. -/
theorem inReg_is {size : Int} {n k : Nat} {a : Int} (hn : n ≤ 8) (hk : k < 11) (ha : In64 a) (h0 : 4096 ≤ size) (h1 : size ≤ 67108864) : ((a - regBase n k) % 18446744073709551616 < regSize size n k) ↔ regK size n a = k := by
  unfold In64 at ha
  unfold regBase regSize regK
  by_cases k0 : k = 0
  · subst k0
    rw [if_pos rfl, if_pos rfl]
    by_cases c : 2147483648 ≤ a ∧ a < 2147483648 + size
    · rw [if_pos c]; omega
    · rw [if_neg c]
      constructor
      · intro h; omega
      · split; omega
        split; omega
        split <;> omega
  rw [if_neg k0, if_neg k0]
  by_cases k1 : k = 1
  · subst k1
    rw [if_pos rfl, if_pos rfl]
    by_cases c0 : 2147483648 ≤ a ∧ a < 2147483648 + size
    · rw [if_pos c0]; omega
    rw [if_neg c0]
    by_cases c : 33554432 ≤ a ∧ a < 33619968
    · rw [if_pos c]; omega
    · rw [if_neg c]
      constructor
      · intro h; omega
      · split; omega
        split <;> omega
  rw [if_neg k1, if_neg k1]
  by_cases k2 : k = 2
  · subst k2
    rw [if_pos rfl, if_pos rfl]
    by_cases c0 : 2147483648 ≤ a ∧ a < 2147483648 + size
    · rw [if_pos c0]; omega
    rw [if_neg c0]
    by_cases c1 : 33554432 ≤ a ∧ a < 33619968
    · rw [if_pos c1]; omega
    rw [if_neg c1]
    by_cases c : 201326592 ≤ a ∧ a < 205520896
    · rw [if_pos c]; omega
    · rw [if_neg c]
      constructor
      · intro h; omega
      · split <;> omega
  rw [if_neg k2, if_neg k2]
  by_cases c0 : 2147483648 ≤ a ∧ a < 2147483648 + size
  · rw [if_pos c0]
    constructor
    · intro h; split at h <;> omega
    · omega
  rw [if_neg c0]
  by_cases c1 : 33554432 ≤ a ∧ a < 33619968
  · rw [if_pos c1]
    constructor
    · intro h; split at h <;> omega
    · omega
  rw [if_neg c1]
  by_cases c2 : 201326592 ≤ a ∧ a < 205520896
  · rw [if_pos c2]
    constructor
    · intro h; split at h <;> omega
    · omega
  rw [if_neg c2]
  by_cases hkn : k < 3 + n
  · rw [if_pos hkn, if_pos hkn]
    by_cases c : 268435456 ≤ a ∧ (a - 268435456) % 4096 < 8 ∧ (a - 268435456) / 4096 < n
    · rw [if_pos c]
      constructor <;> omega
    · rw [if_neg c]
      constructor <;> omega
  · rw [if_neg hkn, if_neg hkn]
    constructor
    · omega
    · split <;> omega

/-! ### the block -/
/-- A port's value. -/
def portV (b : Nat) (ul : List Nat) (i : Nat) : Value := .agg #[.pointer (some ⟨ul.getD i 0, 0, none⟩), .pointer (some ⟨b, 4, none⟩), .int .i64 (10 + (i : Int))]
/-- The function values of region k. -/
def rdF (b g : Nat) (ul : List Nat) (k : Nat) : Value :=
  if k = 0 then .func (.func 25) #[.pointer (some ⟨g, 0, none⟩)] #[] else if k = 1 then .func (.func 78) #[.pointer (some ⟨b, 0, none⟩)] #[]
  else if k = 2 then .func (.func 80) #[.pointer (some ⟨b, 4, none⟩)] #[] else if k < 3 + ul.length then .func (.func 82) #[portV b ul (k - 3)] #[] else Value.nilFunc
def wrF (b g : Nat) (ul : List Nat) (k : Nat) : Value :=
  if k = 0 then .func (.func 26) #[.pointer (some ⟨g, 0, none⟩)] #[] else if k = 1 then .func (.func 79) #[.pointer (some ⟨b, 1, none⟩)] #[]
  else if k = 2 then .func (.func 81) #[.pointer (some ⟨b, 4, none⟩)] #[] else if k < 3 + ul.length then .func (.func 83) #[portV b ul (k - 3)] #[] else Value.nilFunc
def regCell (b g : Nat) (size : Int) (ul : List Nat) (k : Nat) : Nat → Value
  | 0 => .int .u64 (regBase ul.length k)
  | 1 => .int .u64 (regSize size ul.length k)
  | 2 => .int .u64 (if k = 0 then 0 else regBase ul.length k)
  | 3 => rdF b g ul k
  | _ => wrF b g ul k
def regs (b g : Nat) (size : Int) (ul : List Nat) : Array Value := varr 55 fun i => regCell b g size ul (i / 5) (i % 5)
theorem regs_get (b g : Nat) (size : Int) (ul : List Nat) {k j : Nat} (hk : k < 11) (hj : j < 5) : (regs b g size ul)[k * 5 + j]? = some (regCell b g size ul k j) := by
  unfold regs
  rw [varr_get _ _ _ (by omega), show (k * 5 + j) / 5 = k by omega, show (k * 5 + j) % 5 = j by omega]
/-- What lies round the plic, and round the clint. -/
def frP (g : Nat) (c : C4.Cl) (vp : Value) (R : Array Value) : Fr 4 := ⟨#[.pointer (some ⟨g, 0, none⟩), .bool c.s, .int .u64 c.c, .int .u64 c.n], #[vp] ++ R, 76, rfl⟩
def frC (g : Nat) (p : P5.PS) (vp : Value) (R : Array Value) : Fr 1 := ⟨#[.pointer (some ⟨g, 0, none⟩)], varr 39 (P5.cellQ p) ++ (#[vp] ++ R), 76, rfl⟩
/-- The bus's block. -/
def busRow (g : Nat) (c : C4.Cl) (p : P5.PS) (vp : Value) (R : Array Value) : Array Value := (frP g c vp R).all (varr 39 (P5.cellQ p))
theorem busRow_c (g : Nat) (c : C4.Cl) (p : P5.PS) (vp : Value) (R : Array Value) : busRow g c p vp R = (frC g p vp R).all #[.bool c.s, .int .u64 c.c, .int .u64 c.n] := by
  unfold busRow Fr.all frP frC
  simp only
  generalize varr 39 (P5.cellQ p) = row
  have e : (#[.pointer (some ⟨g, 0, none⟩), .bool c.s, .int .u64 c.c, .int .u64 c.n] : Array Value) = #[.pointer (some ⟨g, 0, none⟩)] ++ #[.bool c.s, .int .u64 c.c, .int .u64 c.n] := by simp
  rw [e]
  generalize (#[.pointer (some ⟨g, 0, none⟩)] : Array Value) = x
  generalize (#[.bool c.s, .int .u64 c.c, .int .u64 c.n] : Array Value) = y
  rw [Array.append_assoc]
def BusAt (w : World) (b g : Nat) (c : C4.Cl) (p : P5.PS) (vp : Value) (R : Array Value) : Prop := w.heap[b]? = some (.cells (busRow g c p vp R) 76 (0, 0))
section
variable {w : World} {b g : Nat} {c : C4.Cl} {p : P5.PS} {vp : Value} {R : Array Value}
theorem BusAt.lt (h : BusAt w b g c p vp R) : b < w.heap.size := (Array.getElem?_eq_some_iff.1 h).1
theorem BusAt.keeps {w' : World} {T : Nat → Prop} (h : BusAt w b g c p vp R) (o : Only T w w') (hb : ¬ T b) : BusAt w' b g c p vp R := o.keeps hb h
theorem BusAt.below {w' : World} (h : BusAt w b g c p vp R) (o : Below w.heap.size w w') : BusAt w' b g c p vp R := (o.block b h.lt).trans h
theorem BusAt.free (h : BusAt w b g c p vp R) (k : Nat) : w.frozen? ⟨b, k, none⟩ = false := frozen_of_row w b k _ _ h
theorem BusAt.plic (h : BusAt w b g c p vp R) (ok : p.ok) : P5.In.ProgP (frP g c vp R) w b p := ⟨h, ok⟩
theorem BusAt.clint (h : BusAt w b g c p vp R) (ok : c.ok) : C4.In.ProgC (frC g p vp R) w b c := ⟨by rw [← busRow_c]; exact h, ok⟩
theorem BusAt.ofPlic {p' : P5.PS} (h : P5.In.ProgP (frP g c vp R) w b p') : BusAt w b g c p' vp R := h.1
theorem BusAt.ofClint {c' : C4.Cl} (h : C4.In.ProgC (frC g p vp R) w b c') : BusAt w b g c' p vp R := by
  unfold BusAt; rw [busRow_c]; exact h.1
theorem BusAt.ram_ (h : BusAt w b g c p vp R) : w.cell? ⟨b, 0, none⟩ = some (.pointer (some ⟨g, 0, none⟩)) := by
  rw [cell_of_row w b _ _ _ _ h]; exact Fr.ahead _ _ 0 (by omega)
theorem BusAt.clint_ (h : BusAt w b g c p vp R) : w.cell? ⟨b, 1, none⟩ = some (.bool c.s) ∧ w.cell? ⟨b, 2, none⟩ = some (.int .u64 c.c) ∧ w.cell? ⟨b, 3, none⟩ = some (.int .u64 c.n) := by
  refine ⟨?_, ?_, ?_⟩
  · rw [cell_of_row w b _ _ _ _ h]; exact Fr.ahead _ _ 1 (by omega)
  · rw [cell_of_row w b _ _ _ _ h]; exact Fr.ahead _ _ 2 (by omega)
  · rw [cell_of_row w b _ _ _ _ h]; exact Fr.ahead _ _ 3 (by omega)
theorem BusAt.ports_ (h : BusAt w b g c p vp R) : w.cell? ⟨b, 43, none⟩ = some vp := by
  rw [cell_of_row w b _ _ _ _ h]
  unfold busRow
  rw [Fr.behind _ _ 0 43 (by rw [varr_size])]
  show (#[vp] ++ R)[0]? = some vp
  rw [Array.getElem?_append_left (by simp)]; rfl
theorem BusAt.reg_ (h : BusAt w b g c p vp R) {i a : Nat} (ha : a = 44 + i) {v : Value} (hv : R[i]? = some v) : w.cell? ⟨b, a, none⟩ = some v := by
  rw [cell_of_row w b _ _ _ _ h]
  unfold busRow
  rw [Fr.behind _ _ (i + 1) a (by rw [varr_size]; omega)]
  show (#[vp] ++ R)[i + 1]? = some v
  rw [Array.getElem?_append_right (by simp), ← hv]
  simp
theorem BusAt.range (h : BusAt w b g c p vp R) : w.rangeAt b 4 (varr 39 (P5.cellQ p)).toList := Fr.range (frP g c vp R) h
theorem BusAt.setPorts (h : BusAt w b g c p vp R) (v : Value) : BusAt (w.setCell ⟨b, 43, none⟩ v) b g c p v R := by
  unfold BusAt
  rw [heap_setCell_same w b _ _ _ _ h]
  unfold busRow
  rw [Fr.setBehind _ _ 0 43 v (by rw [varr_size])]
  simp [frP]
theorem BusAt.setReg (h : BusAt w b g c p vp R) (i a : Nat) (ha : a = 44 + i) (v : Value) : BusAt (w.setCell ⟨b, a, none⟩ v) b g c p vp (R.setIfInBounds i v) := by
  unfold BusAt
  rw [heap_setCell_same w b _ _ _ _ h]
  unfold busRow
  rw [Fr.setBehind _ _ (i + 1) a v (by rw [varr_size]; omega)]
  have e : (#[vp] ++ R).setIfInBounds (i + 1) v = #[vp] ++ R.setIfInBounds i v := by
    rw [Array.setIfInBounds_append_right (by simp)]; simp
  show some (Obj.cells (Fr.all ⟨_, (#[vp] ++ R).setIfInBounds (i + 1) v, _, _⟩ _) _ _) = _
  simp only [e]
  rfl
end

end Go.Proofs.YtbcnkhfpogglmaaGreatDoor

namespace Go.Proofs.YtbcnkhfpogglmaaGreatDoor
open Go.RowKit
set_option linter.unusedVariables false
set_option maxRecDepth 100000

def Tabs (w : World) : Prop := P5.Tab w ∧ U6.Tab w
def TabB (i : Nat) : Prop := i = 0 ∨ i = 1
theorem Tabs.lt {w : World} (h : Tabs w) {i : Nat} (hi : TabB i) : i < w.heap.size := by
  rcases hi with rfl | rfl
  · exact h.1.lt
  · exact h.2.lt
theorem Tabs.below {w w' : World} (h : Tabs w) (o : Below w.heap.size w w') : Tabs w' := ⟨h.1.below o, h.2.below o⟩
theorem Tabs.keeps {w w' : World} {T : Nat → Prop} (h : Tabs w) (o : Only T w w') (hT : ∀ i, TabB i → ¬ T i) : Tabs w' := ⟨h.1.keeps o (hT _ (.inl rfl)), h.2.keeps o (hT _ (.inr rfl))⟩

theorem M3.ProgMem.mono {w : World} {b : Nat} {S T : Nat → Prop} {base size : Int} {m : Int → Int} (h : M3.ProgMem w b S base size m) (hs : ∀ i, S i → T i) (hl : ∀ i, T i → i < w.heap.size) : M3.ProgMem w b T base size m := by
  obtain ⟨mb, pg, h1, h2, h3⟩ := h
  refine ⟨mb, pg, h1, ⟨h2.map, fun q g e => ?_, h2.gone, h2.inj, hs _ h2.sb, hs _ h2.smb, h2.ne, hl⟩, h3⟩
  obtain ⟨k1, k2, k3⟩ := h2.page q g e
  exact ⟨k1, hs _ k2, k3⟩
theorem M3.ProgMem.own {w : World} {b : Nat} {S : Nat → Prop} {base size : Int} {m : Int → Int} (h : M3.ProgMem w b S base size m) : S b := by
  obtain ⟨mb, pg, h1, h2, h3⟩ := h; exact h2.sb
theorem M3.ProgMem.lt {w : World} {b : Nat} {S : Nat → Prop} {base size : Int} {m : Int → Int} (h : M3.ProgMem w b S base size m) : ∀ i, S i → i < w.heap.size := by
  obtain ⟨mb, pg, h1, h2, h3⟩ := h; exact h2.lt
theorem U6.UP.keeps {w w' : World} {b : Nat} {F : Nat → Prop} {t : U6.US} {T : Nat → Prop} (h : U6.UP w b F t) (o : Only T w w') (hd : ∀ i, F i → ¬ T i) : U6.UP w' b F t := by
  obtain ⟨vi, vo, h⟩ := h; exact ⟨vi, vo, h.keeps o hd⟩
theorem U6.UP.mono {w : World} {b : Nat} {F G : Nat → Prop} {t : U6.US} (h : U6.UP w b F t) (hs : ∀ i, F i → G i) (hl : ∀ i, G i → i < w.heap.size) : U6.UP w b G t := by
  obtain ⟨vi, vo, h⟩ := h; exact ⟨vi, vo, h.mono hs hl⟩
theorem U6.UP.lt {w : World} {b : Nat} {F : Nat → Prop} {t : U6.US} (h : U6.UP w b F t) : ∀ i, F i → i < w.heap.size := by
  obtain ⟨vi, vo, h⟩ := h; exact h.lt

/-- The cells of the row of ports. -/
def portCells (b : Nat) (ul : List Nat) : List Value := (List.range ul.length).flatMap fun i => [.pointer (some ⟨ul.getD i 0, 0, none⟩), .pointer (some ⟨b, 4, none⟩), .int .i64 (10 + (i : Int))]
theorem flat3_len (f : Nat → List Value) (hf : ∀ i, (f i).length = 3) (n : Nat) : ((List.range n).flatMap f).length = n * 3 := by
  induction n with
  | zero => rfl
  | succ n ih => rw [List.range_succ, List.flatMap_append, List.length_append, ih]; simp [hf]; omega
theorem flat3_get (f : Nat → List Value) (hf : ∀ i, (f i).length = 3) (n i j : Nat) (hi : i < n) (hj : j < 3) : ((List.range n).flatMap f)[i * 3 + j]? = (f i)[j]? := by
  induction n with
  | zero => omega
  | succ n ih =>
    rw [List.range_succ, List.flatMap_append]
    by_cases c : i = n
    · subst c
      rw [List.getElem?_append_right (by rw [flat3_len f hf]; omega), flat3_len f hf, show i * 3 + j - i * 3 = j by omega]
      simp
    · rw [List.getElem?_append_left (by rw [flat3_len f hf]; omega)]
      exact ih (by omega)
theorem portCells_len (b : Nat) (ul : List Nat) : (portCells b ul).length = ul.length * 3 := flat3_len _ (fun _ => rfl) _
theorem portCells_get (b : Nat) (ul : List Nat) {i j : Nat} (hi : i < ul.length) (hj : j < 3) : (portCells b ul)[i * 3 + j]? = ([.pointer (some ⟨ul.getD i 0, 0, none⟩), .pointer (some ⟨b, 4, none⟩), .int .i64 (10 + (i : Int))] : List Value)[j]? :=
  flat3_get _ (fun _ => rfl) _ _ _ hi hj
/-- The row of ports stands in memory. -/
def PortsAt (w : World) (b : Nat) (K : Nat → Nat) (vp : Value) (ul : List Nat) : Prop :=
  (ul = [] ∧ vp = .slice none 0 0) ∨ ∃ gp cap, vp = .slice (some ⟨gp, 0, none⟩) ul.length cap ∧ ul.length ≤ cap ∧ K gp = 1 ∧ ¬ gp = b ∧ Lays w gp (portCells b ul)
theorem PortsAt.keeps {w w' : World} {b : Nat} {K K' : Nat → Nat} {vp : Value} {ul : List Nat} {T : Nat → Prop} (h : PortsAt w b K vp ul) (o : Only T w w') (hT : ∀ i, T i → ¬ K i = 1 ∨ i = b) (hK : ∀ i, i < w.heap.size → K' i = K i) : PortsAt w' b K' vp ul := by
  rcases h with h | ⟨gp, cap, h1, h2, h3, h4, h5⟩
  · exact .inl h
  · refine .inr ⟨gp, cap, h1, h2, by rw [hK _ h5.lt]; exact h3, h4, h5.keeps o fun ht => ?_⟩
    rcases hT _ ht with h6 | h6
    · exact h6 h3
    · exact h4 h6
theorem PortsAt.len {w : World} {b : Nat} {K : Nat → Nat} {vp : Value} {ul : List Nat} (h : PortsAt w b K vp ul) : ∃ a c, vp = .slice a ul.length c ∧ ul.length ≤ c := by
  rcases h with ⟨rfl, rfl⟩ | ⟨gp, cap, h1, h2, _⟩
  · exact ⟨none, 0, rfl, Nat.le_refl _⟩
  · exact ⟨_, cap, h1, h2⟩

/-- The program's bus st stands in block b; the memory's object in block g; K tells each block whose it is: 0 none's, 1 the bus's own, 2 the memory's, 3 + j the uart j's. -/
structure BusQ (w : World) (b : Nat) (K : Nat → Nat) (g : Nat) (vp : Value) (ul : List Nat) (st : BS) (R : Array Value) : Prop where
  obj : BusAt w b g st.c st.p vp R
  ports : PortsAt w b K vp ul
  mem : M3.ProgMem w g (fun i => K i = 2) 2147483648 st.size st.m
  fits : M3.Fits 2147483648 st.size
  uart : ∀ j, j < ul.length → U6.UP w (ul.getD j 0) (fun i => K i = 3 + j) (st.us.getD j U6.u0)
  len : st.us.length = ul.length
  le : ul.length ≤ 8
  kb : K b = 1
  lt : ∀ i, ¬ K i = 0 → i < w.heap.size
  cok : st.c.ok
  pok : st.p.ok
  kt : ∀ i, TabB i → K i = 0
  tabs : Tabs w
/-- Its regions are laid. -/
abbrev BusP (w : World) (b : Nat) (K : Nat → Nat) (g : Nat) (vp : Value) (ul : List Nat) (st : BS) : Prop := BusQ w b K g vp ul st (regs b g st.size ul)
/-- The labels grow. -/
def Grow (w : World) (K K' : Nat → Nat) : Prop := ∀ i, i < w.heap.size → K' i = K i
theorem Grow.refl (w : World) (K : Nat → Nat) : Grow w K K := fun _ _ => rfl
def BusEnd (w : World) (b : Nat) (K : Nat → Nat) (g : Nat) (vp : Value) (ul : List Nat) (r : Value) (st' : BS) (e : Ending) (w' : World) : Prop :=
  e = .returned r ∧ Only (fun i => ¬ K i = 0) w w' ∧ ∃ K', Grow w K K' ∧ BusP w' b K' g vp ul st'
section
variable {w w' : World} {b g : Nat} {K : Nat → Nat} {vp : Value} {ul : List Nat} {st : BS} {R : Array Value}
/-- What a call on another object leaves. -/
theorem BusQ.keeps {T : Nat → Prop} (h : BusQ w b K g vp ul st R) (o : Only T w w') (hT : ∀ i, ¬ K i = 0 ∨ TabB i → ¬ T i) : BusQ w' b K g vp ul st R :=
  ⟨h.obj.keeps o (hT _ (.inl (by rw [h.kb]; omega))), h.ports.keeps o (fun i ht => .inl fun hk => hT i (.inl (by omega)) ht) (fun _ _ => rfl), h.mem.keeps o (fun i hi => hT i (.inl (by omega))), h.fits,
    fun j hj => (h.uart j hj).keeps o fun i hi => hT i (.inl (by omega)), h.len, h.le, h.kb, fun i hi => Nat.lt_of_lt_of_le (h.lt i hi) o.size, h.cok, h.pok, h.kt, h.tabs.keeps o fun i hi => hT i (.inr hi)⟩
theorem BusQ.below (h : BusQ w b K g vp ul st R) (o : Below w.heap.size w w') : BusQ w' b K g vp ul st R := h.keeps (Only.of_below (fun _ => False) o) fun _ _ => id
/-- The plic turned. -/
theorem BusQ.setPlic (h : BusQ w b K g vp ul st R) {p' : P5.PS} (o : Only (fun i => i = b) w w') (hp : P5.In.ProgP (frP g st.c vp R) w' b p') : BusQ w' b K g vp ul { st with p := p' } R := by
  have kb := h.kb
  exact ⟨BusAt.ofPlic hp, h.ports.keeps o (fun i hi => .inr hi) (fun _ _ => rfl), h.mem.keeps o (fun i hi e => by subst e; omega), h.fits, fun j hj => (h.uart j hj).keeps o fun i hi e => by subst e; omega, h.len, h.le, h.kb,
    fun i hi => Nat.lt_of_lt_of_le (h.lt i hi) o.size, h.cok, hp.2, h.kt, h.tabs.keeps o fun i hi e => by have := h.kt i hi; subst e; omega⟩
/-- The clint turned. -/
theorem BusQ.setClint (h : BusQ w b K g vp ul st R) {c' : C4.Cl} (o : Only (fun i => i = b) w w') (hp : C4.In.ProgC (frC g st.p vp R) w' b c') : BusQ w' b K g vp ul { st with c := c' } R := by
  have kb := h.kb
  exact ⟨BusAt.ofClint hp, h.ports.keeps o (fun i hi => .inr hi) (fun _ _ => rfl), h.mem.keeps o (fun i hi e => by subst e; omega), h.fits, fun j hj => (h.uart j hj).keeps o fun i hi e => by subst e; omega, h.len, h.le, h.kb,
    fun i hi => Nat.lt_of_lt_of_le (h.lt i hi) o.size, hp.2, h.pok, h.kt, h.tabs.keeps o fun i hi e => by have := h.kt i hi; subst e; omega⟩
/-- New blocks are given to part k. -/
def relabel (w : World) (K : Nat → Nat) (k : Nat) (w' : World) : Nat → Nat := fun i => if i < w.heap.size then K i else if i < w'.heap.size then k else 0
theorem relabel_grow (w : World) (K : Nat → Nat) (k : Nat) (w' : World) : Grow w K (relabel w K k w') := fun i hi => if_pos hi
theorem relabel_lt {K : Nat → Nat} {k : Nat} (hl : ∀ i, ¬ K i = 0 → i < w.heap.size) (hs : w.heap.size ≤ w'.heap.size) : ∀ i, ¬ relabel w K k w' i = 0 → i < w'.heap.size := by
  intro i hi
  unfold relabel at hi
  split at hi
  · omega
  · split at hi
    · assumption
    · exact absurd rfl hi
theorem relabel_in {K : Nat → Nat} {k j i : Nat} (hl : ∀ i, ¬ K i = 0 → i < w.heap.size) (hs : w.heap.size ≤ w'.heap.size) (hj : ¬ j = 0) (h : relabel w K k w' i = j) : i < w'.heap.size := relabel_lt hl hs i (by rw [h]; exact hj)
theorem relabel_old {K : Nat → Nat} {k j i : Nat} (hl : ∀ i, ¬ K i = 0 → i < w.heap.size) (hj : ¬ j = 0) (h : K i = j) : relabel w K k w' i = j := by
  unfold relabel; rw [if_pos (hl i (by omega))]; exact h
theorem relabel_new {K : Nat → Nat} {k i : Nat} (h : K i = k ∨ w.heap.size ≤ i) (hw : i < w'.heap.size) : relabel w K k w' i = k := by
  unfold relabel
  split
  · rcases h with h | h
    · exact h
    · omega
  · first | rfl | rw [if_pos hw]
/-- A part's call: all the others stand. -/
theorem BusQ.part (h : BusQ w b K g vp ul st R) {k : Nat} (hk : 2 ≤ k) (o : Only (fun i => K i = k) w w') {st' : BS} (hc : st'.c = st.c) (hp : st'.p = st.p) (hs : st'.size = st.size) (hlen : st'.us.length = st.us.length)
    (hm : M3.ProgMem w' g (fun i => relabel w K k w' i = 2) 2147483648 st.size st'.m) (hu : ∀ j, j < ul.length → U6.UP w' (ul.getD j 0) (fun i => relabel w K k w' i = 3 + j) (st'.us.getD j U6.u0)) : BusQ w' b (relabel w K k w') g vp ul st' R := by
  have kb := h.kb
  obtain ⟨size', m', c', p', us'⟩ := st'
  simp only at hc hp hs hlen hm hu
  subst hc hp hs
  refine ⟨h.obj.keeps o (by show ¬ K b = k; omega), h.ports.keeps o (fun i hi => .inl (by show ¬ K i = 1; omega)) (relabel_grow w K k w'), hm, h.fits, hu, hlen.trans h.len, h.le, ?_, relabel_lt h.lt o.size, h.cok, h.pok, ?_, h.tabs.keeps o fun i hi e => by have := h.kt i hi; omega⟩
  · exact relabel_old h.lt (by omega) kb
  · intro i hi
    rw [relabel_grow w K k w' i (h.tabs.lt hi)]; exact h.kt i hi
/-- A uart turned. -/
theorem BusQ.setUart (h : BusQ w b K g vp ul st R) {j : Nat} (hj : j < ul.length) {t' : U6.US} (k : U6.EndU U6.cellsP 131 w (ul.getD j 0) (fun i => K i = 3 + j) t' w') : BusQ w' b (relabel w K (3 + j) w') g vp ul { st with us := st.us.set j t' } R := by
  obtain ⟨o, F', hF', hu⟩ := k
  have hu : U6.UP w' (ul.getD j 0) F' t' := hu
  refine h.part (by omega) o rfl rfl rfl (by simp) ?_ ?_
  · exact (h.mem.keeps o (fun i hi => by show ¬ K i = 3 + j; omega)).mono (fun i hi => relabel_old h.lt (by omega) hi) fun i hi => relabel_in h.lt o.size (by omega) hi
  · intro i hi
    by_cases e : i = j
    · subst e
      have e1 : (st.us.set i t').getD i U6.u0 = t' := by
        rw [List.getD_eq_getElem?_getD, List.getElem?_set_self (by rw [h.len]; exact hi)]; rfl
      rw [e1]
      exact hu.mono (fun x hx => relabel_new (hF' x hx) (hu.lt x hx)) fun x hx => relabel_in h.lt o.size (by omega) hx
    · have e1 : (st.us.set j t').getD i U6.u0 = st.us.getD i U6.u0 := by
        rw [List.getD_eq_getElem?_getD, List.getD_eq_getElem?_getD, List.getElem?_set_ne (fun e' => e e'.symm)]
      rw [e1]
      exact ((h.uart i hi).keeps o fun x hx => by show ¬ K x = 3 + j; omega).mono (fun x hx => relabel_old h.lt (by omega) hx) fun x hx => relabel_in h.lt o.size (by omega) hx
/-- The memory turned. -/
theorem BusQ.setMem (h : BusQ w b K g vp ul st R) {m' : Int → Int} {r : Bool} {e : Ending} (k : M3.ProgEnd M3.ProgMem w g (fun i => K i = 2) 2147483648 st.size m' r e w') : BusQ w' b (relabel w K 2 w') g vp ul { st with m := m' } R := by
  obtain ⟨_, o, S', hS', hm⟩ := k
  refine h.part (by omega) o rfl rfl rfl rfl ?_ ?_
  · exact hm.mono (fun x hx => relabel_new (hS' x hx) (hm.lt x hx)) fun x hx => relabel_in h.lt o.size (by omega) hx
  · intro i hi
    exact ((h.uart i hi).keeps o fun x hx => by show ¬ K x = 2; omega).mono (fun x hx => relabel_old h.lt (by omega) hx) fun x hx => relabel_in h.lt o.size (by omega) hx
theorem BusP.below (h : BusP w b K g vp ul st) (o : Below w.heap.size w w') : BusP w' b K g vp ul st := BusQ.below h o
theorem BusP.keeps {T : Nat → Prop} (h : BusP w b K g vp ul st) (o : Only T w w') (hT : ∀ i, ¬ K i = 0 ∨ TabB i → ¬ T i) : BusP w' b K g vp ul st := BusQ.keeps h o hT
theorem BusP.setPlic (h : BusP w b K g vp ul st) {p' : P5.PS} (o : Only (fun i => i = b) w w') (hp : P5.In.ProgP (frP g st.c vp (regs b g st.size ul)) w' b p') : BusP w' b K g vp ul { st with p := p' } := BusQ.setPlic h o hp
theorem BusP.setClint (h : BusP w b K g vp ul st) {c' : C4.Cl} (o : Only (fun i => i = b) w w') (hp : C4.In.ProgC (frC g st.p vp (regs b g st.size ul)) w' b c') : BusP w' b K g vp ul { st with c := c' } := BusQ.setClint h o hp
theorem BusP.setUart (h : BusP w b K g vp ul st) {j : Nat} (hj : j < ul.length) {t' : U6.US} (k : U6.EndU U6.cellsP 131 w (ul.getD j 0) (fun i => K i = 3 + j) t' w') : BusP w' b (relabel w K (3 + j) w') g vp ul { st with us := st.us.set j t' } := BusQ.setUart h hj k
theorem BusP.setMem (h : BusP w b K g vp ul st) {m' : Int → Int} {r : Bool} {e : Ending} (k : M3.ProgEnd M3.ProgMem w g (fun i => K i = 2) 2147483648 st.size m' r e w') : BusP w' b (relabel w K 2 w') g vp ul { st with m := m' } := BusQ.setMem h k
theorem BusP.end_same (h : BusP w b K g vp ul st) {r : Value} (o : Below w.heap.size w w') : BusEnd w b K g vp ul r st (.returned r) w' := ⟨rfl, Only.of_below _ o, K, Grow.refl _ _, h.below o⟩
end

end Go.Proofs.YtbcnkhfpogglmaaGreatDoor

namespace Go.Proofs.YtbcnkhfpogglmaaGreatDoor
open Go.RowKit
set_option linter.unusedVariables false
set_option maxRecDepth 100000

theorem info_port : (Tryz.prog.info? 86).map (fun i => (i.zero, i.size, i.bytes)) = some (some (.agg #[.pointer none, .pointer none, .int .i64 0]), 3, 24) := by kernel_rfl
/-- What plug leaves: the row of ports is one longer. -/
def PlugE (w : World) (b g : Nat) (c : C4.Cl) (p : P5.PS) (vp : Value) (R : Array Value) (n : Nat) (cs : List Value) (e : Ending) (w' : World) : Prop :=
  (∃ v, e = .returned v) ∧ ∃ vp', BusAt w' b g c p vp' R ∧ w'.ownsRow (b + 1) 86 3 vp' (n + 1) cs ∧ Only (fun i => i = b ∨ vp.ownBlock = some i) w w' ∧ ∀ x, vp'.ownBlock = some x → vp.ownBlock = some x ∨ w.heap.size ≤ x
set_option maxHeartbeats 1000000 in
theorem plug_any {w : World} {b g : Nat} {c : C4.Cl} {p : P5.PS} {vp : Value} {R : Array Value} (h : BusAt w b g c p vp R) (n : Nat) (cs : List Value) (ho : w.ownsRow (b + 1) 86 3 vp n cs) (hn : n < 9) (u : Nat) :
    Calls Tryz.prog 31 #[.pointer (some ⟨b, 0, none⟩), .pointer (some ⟨u, 0, none⟩)] w (PlugE w b g c p vp R n (cs ++ [.pointer (some ⟨u, 0, none⟩), .pointer (some ⟨b, 4, none⟩), .int .i64 (10 + (n : Int))])) := by
  obtain ⟨i0, hi, hz0, hz1, hz2⟩ := U6.info_parts8 info_port
  obtain ⟨A, m, C, hvp⟩ := M3.own_slice ho
  subst hvp
  have hmn : m = n := by
    rcases Lays.own ho with ⟨h1, h2, _⟩ | ⟨_, _, h1, _, _⟩
    · simp at h1; omega
    · simp at h1; omega
  subst hmn
  have hbl := h.lt
  have hcell := h.ports_
  have hfr := h.free 43
  have B1 : Below w.heap.size w (w.drew.alloc (.cells #[.pointer (some ⟨u, 0, none⟩), .pointer (some ⟨b, 4, none⟩), .int .i64 (10 + (m : Int))] 86)) := (Below.refl _ _).drew.alloc (Nat.le_refl _) _
  have hnc : ∀ j x, ([.pointer (some ⟨u, 0, none⟩), .pointer (some ⟨b, 4, none⟩), .int .i64 (10 + (m : Int))] : List Value)[j]? = some x → (w.drew.alloc (.cells #[.pointer (some ⟨u, 0, none⟩), .pointer (some ⟨b, 4, none⟩), .int .i64 (10 + (m : Int))] 86)).cell? ((⟨w.heap.size, 0, none⟩ : Addr).add j) = some x := by
    intro j x hj
    rw [add_none, Nat.zero_add]
    have hz : (w.drew.alloc (.cells #[.pointer (some ⟨u, 0, none⟩), .pointer (some ⟨b, 4, none⟩), .int .i64 (10 + (m : Int))] 86)).heap[w.heap.size]? = some (.cells #[.pointer (some ⟨u, 0, none⟩), .pointer (some ⟨b, 4, none⟩), .int .i64 (10 + (m : Int))] 86 (0, 0)) := heap_alloc_new w.drew _
    rw [cell_of_row _ _ _ _ _ _ hz]
    simpa using hj
  obtain ⟨v', w', hr, h2, h3, _, h5⟩ := run_append_own_at (P := Tryz.prog) (w.drew.alloc (.cells #[.pointer (some ⟨u, 0, none⟩), .pointer (some ⟨b, 4, none⟩), .int .i64 (10 + (m : Int))] 86)) (b + 1) 71 71 86 i0 (.agg #[.pointer none, .pointer none, .int .i64 0]) 3 24 Tryz.underlying71 hi hz0 hz1 hz2 rfl (by decide) (.slice A m C) m cs ((show w.drew.ownsRow (b + 1) 86 3 (.slice A m C) m cs from ho).alloc _) ⟨w.heap.size, 0, none⟩ 1 1 [.pointer (some ⟨u, 0, none⟩), .pointer (some ⟨b, 4, none⟩), .int .i64 (10 + (m : Int))] rfl hnc (by intro x hx; simp at hx; rcases hx with rfl | rfl | rfl <;> rfl) (by unfold maxLen; omega) (by omega) (by have := B1.size; simp; omega)
  obtain ⟨A2, m2, C2, hv2⟩ := M3.own_slice h2
  subst hv2
  have hno : ¬ (Value.slice A m C).ownBlock = some b := fun e => by
    have := (ho.lt b e).1; omega
  have hat : BusAt w' b g c p (.slice A m C) R := (h3.block b (Nat.lt_of_lt_of_le hbl B1.size) (fun e => hno e.symm)).trans ((B1.block b hbl).trans h)
  have f2 := hat.free 43
  have c2 := hat.ports_
  have hE : PlugE w b g c p (.slice A m C) R m (cs ++ [.pointer (some ⟨u, 0, none⟩), .pointer (some ⟨b, 4, none⟩), .int .i64 (10 + (m : Int))]) (.returned (.tuple #[])) (w'.setCell ⟨b, 43, none⟩ (.slice A2 m2 C2)) := by
    refine ⟨⟨_, rfl⟩, _, hat.setPorts _, ?_, ?_, ?_⟩
    · exact ownsRow_setCell_below h2 (by show b < b + 1; omega) _
    · exact (Only.setCell ((Only.of_below _ B1).grown h3 fun k hk => .inl (.inr hk)) (p := ⟨b, 43, none⟩) (.inl (.inl rfl)) _)
    · intro x hx
      rcases h5 with h5 | h5
      · exact .inl (h5 ▸ hx)
      · rw [h5] at hx; injection hx with hx; have := B1.size; exact .inr (by omega)
  have HRUN := Lib.hid hr
  have HE := Lib.hid hE
  have hsum : IntKind.i64.wrap (10 + (m : Int)) = 10 + (m : Int) := IntWalk.i64_in _ (by omega)
  clear hr hE h2 h3 h5 hat hno B1 ho h hz0 hz1 hz2 hi
  go_enter Tryz.func31, Tryz.ntmps31
  go_wp2_with fail
  go_region_law (first | (refine M3.step_append_run rfl (.tmp 8) (.tmp 20) 71 rfl (.slice A m C) (.slice (some ⟨w.heap.size, 0, none⟩) 1 1) (.slice A2 m2 C2) w' rfl rfl HRUN.out ?_))
  all_goals
    go_end0
    exact HE.out

end Go.Proofs.YtbcnkhfpogglmaaGreatDoor

namespace Go.Proofs.YtbcnkhfpogglmaaGreatDoor
open Go.RowKit
set_option linter.unusedVariables false
set_option maxRecDepth 100000

theorem busLen_any (n : Int) (w : World) : Calls Tryz.prog 35 #[.int .i64 n] w fun e w' => e = .returned (.bool (M3.okN n)) ∧ w = w' := by
  by_cases h1 : n = 1
  · subst h1
    have HE : Hid (true = M3.okN 1) := Lib.hid (by decide)
    go_enter Tryz.func35, Tryz.ntmps35
    go_wp2
    go_ret
    exact ⟨by rw [← HE.out]; rfl, rfl⟩
  by_cases h2 : n = 2
  · subst h2
    have HE : Hid (true = M3.okN 2) := Lib.hid (by decide)
    go_enter Tryz.func35, Tryz.ntmps35
    go_wp2
    go_ret
    exact ⟨by rw [← HE.out]; rfl, rfl⟩
  by_cases h4 : n = 4
  · subst h4
    have HE : Hid (true = M3.okN 4) := Lib.hid (by decide)
    go_enter Tryz.func35, Tryz.ntmps35
    go_wp2
    go_ret
    exact ⟨by rw [← HE.out]; rfl, rfl⟩
  by_cases h8 : n = 8
  · subst h8
    have HE : Hid (true = M3.okN 8) := Lib.hid (by decide)
    go_enter Tryz.func35, Tryz.ntmps35
    go_wp2
    go_ret
    exact ⟨by rw [← HE.out]; rfl, rfl⟩
  have HE : Hid (false = M3.okN n) := Lib.hid (by unfold M3.okN; symm; rw [decide_eq_false_iff_not]; omega)
  have e1 : (n == 1) = false := by simpa using h1
  have e2 : (n == 2) = false := by simpa using h2
  have e4 : (n == 4) = false := by simpa using h4
  have e8 : (n == 8) = false := by simpa using h8
  clear h1 h2 h4 h8
  go_enter Tryz.func35, Tryz.ntmps35
  go_wp2
  go_ret
  exact ⟨by rw [← HE.out]; rfl, rfl⟩

/-- What find tells. -/
def findV (b : Nat) (size : Int) (n : Nat) (a len : Int) : Value := if M3.okN len = true ∧ regK size n a < 11 then .pointer (some ⟨b, 44 + regK size n a * 5, none⟩) else .pointer none
def FindE (w : World) (b q : Nat) (e : Ending) (w' : World) : Prop := e = .returned (if q < 11 then .pointer (some ⟨b, 44 + q * 5, none⟩) else .pointer none) ∧ Below w.heap.size w w'
set_option maxHeartbeats 1000000 in
theorem find_any {w : World} {b g : Nat} {K : Nat → Nat} {vp : Value} {ul : List Nat} {st : BS} (h : BusP w b K g vp ul st) (a n : Int) (ha : In64 a) :
    Calls Tryz.prog 34 #[.pointer (some ⟨b, 0, none⟩), .int .u64 a, .int .i64 n] w fun e w' => e = .returned (findV b st.size ul.length a n) ∧ Below w.heap.size w w' := by
  cases hk : M3.okN n with
  | false =>
    have HK := Lib.hid hk
    have HE : Hid (findV b st.size ul.length a n = .pointer none) := Lib.hid (by unfold findV; rw [hk]; simp)
    rw [HE.out]
    clear h ha hk
    go_enter Tryz.func34, Tryz.ntmps34
    go_wp2_with (go_at_call 35; refine (busLen_any _ _).mono ?_; rintro e w' ⟨rfl, rfl⟩; rw [HK.out])
    go_ret
    exact ⟨rfl, Below.refl _ _⟩
  | true =>
    have HK := Lib.hid hk
    have H := Lib.hid h
    have HA := Lib.hid ha
    obtain ⟨q, hq⟩ : ∃ q, regK st.size ul.length a = q := ⟨_, rfl⟩
    have hq11 : q ≤ 11 := by rw [← hq]; exact regK_le h.le
    have HQ := Lib.hid hq
    have HE : Hid (findV b st.size ul.length a n = if q < 11 then .pointer (some ⟨b, 44 + q * 5, none⟩) else .pointer none) := Lib.hid (by
      unfold findV; rw [hk, hq]
      by_cases c : q < 11
      · rw [if_pos c, if_pos ⟨rfl, c⟩]
      · rw [if_neg c, if_neg fun x => c x.2])
    rw [HE.out]
    show Calls Tryz.prog 34 #[.pointer (some ⟨b, 0, none⟩), .int .u64 a, .int .i64 n] w (FindE w b q)
    clear h ha hk hq
    go_enter Tryz.func34, Tryz.ntmps34
    go_wp2_with (go_at_call 35; refine (busLen_any _ _).mono ?_; rintro e w' ⟨rfl, rfl⟩; rw [HK.out])
    go_loopw [16] (fun i wr => ∃ k : Nat, k ≤ 11 ∧ k ≤ q ∧ i = .int .i64 k ∧ Below w.heap.size w wr) (fun i wr => (11 - intOf i).toNat)
    case atStart => exact ⟨0, by omega, by omega, rfl, Below.refl _ _⟩
    case round =>
      obtain ⟨k, hk, hkq, rfl, hbr⟩ := hrel
      have HBR := Lib.hid hbr
      clear hbr
      by_cases k11 : k < 11
      · have HP := H.out.below HBR.out
        have c0 : wr.cell? ⟨b, 44 + k * 5, none⟩ = some (.int .u64 (regBase ul.length k)) := HP.obj.reg_ (i := k * 5 + 0) (by omega) (regs_get b g st.size ul k11 (by omega))
        have c1 : wr.cell? ⟨b, 44 + k * 5 + 1, none⟩ = some (.int .u64 (regSize st.size ul.length k)) := HP.obj.reg_ (i := k * 5 + 1) (by omega) (regs_get b g st.size ul k11 (by omega))
        have hin := inReg_is HP.le k11 HA.out HP.fits.2.1 HP.fits.2.2.1
        rw [HQ.out] at hin
        clear HP
        generalize regBase ul.length k = B at *
        generalize regSize st.size ul.length k = Z at *
        have i1 : (k : Int) < 11 := by omega
        by_cases hqk : q = k
        · have hlt := hin.2 hqk
          obtain ⟨D, hD⟩ : ∃ D, (a - B) % 18446744073709551616 = D := ⟨_, rfl⟩
          rw [hD] at hlt
          have hw : IntKind.u64.wrap (a - B) = D := by rw [IntKind.wrap_u64]; exact hD
          clear hin hD
          have HQK := Lib.hid hqk
          clear hqk
          go_wp2_with fail
          go_quiet (fail)
          go_wp2
          go_ret
          have hqk := HQK.out
          exact ⟨by subst hqk; rw [if_pos k11]; rfl, ⟨HBR.out.os, HBR.out.tape, HBR.out.output, HBR.out.size, HBR.out.block⟩⟩
        · have hlt : ¬ (a - B) % 18446744073709551616 < Z := fun x => hqk (hin.1 x)
          obtain ⟨D, hD⟩ : ∃ D, (a - B) % 18446744073709551616 = D := ⟨_, rfl⟩
          rw [hD] at hlt
          have hw : IntKind.u64.wrap (a - B) = D := by rw [IntKind.wrap_u64]; exact hD
          clear hin hD
          have hkq2 : k + 1 ≤ q := by omega
          clear hqk
          go_wp2_with fail
          go_quiet (fail)
          go_wp2
          go_roundw
          case rel => exact ⟨k + 1, by omega, hkq2, by go_num, ⟨HBR.out.os, HBR.out.tape, HBR.out.output, HBR.out.size, HBR.out.block⟩⟩
          case measure => simp [intOf]; omega
      · obtain rfl : k = 11 := by omega
        have hq2 : ¬ q < 11 := by omega
        have HQ2 := Lib.hid hq2
        clear k11 hk hkq hq11 hq2
        go_wp2
        go_ret
        exact ⟨by rw [if_neg HQ2.out]; rfl, HBR.out⟩

theorem readClint_any {w : World} {b g : Nat} {K : Nat → Nat} {vp : Value} {ul : List Nat} {st : BS} (h : BusP w b K g vp ul st) (off n : Int) (ho : In64 off) :
    Calls Tryz.prog 78 #[.pointer (some ⟨b, 0, none⟩), .int .u64 off, .int .i64 n] w (C4.ReadC w (C4.rdC st.c (C4.kindC off n)) (C4.okC off n)) := by
  obtain ⟨c0, c1, c2⟩ := h.obj.clint_
  have HC : Hid (∀ w', Calls Tryz.prog 122 #[.agg #[.bool st.c.s, .int .u64 st.c.c, .int .u64 st.c.n], .int .u64 off, .int .i64 n] w' (C4.ReadC w' (C4.rdC st.c (C4.kindC off n)) (C4.okC off n))) := Lib.hid fun w' => C4.read_any w' st.c h.cok off n ho
  clear h ho
  go_enter Tryz.func78, Tryz.ntmps78
  go_wp2_with fail
  (with_reducible refine (HC.out _).mono ?_)
  rintro e w' ⟨rfl, hb⟩
  have HB := Lib.hid hb
  clear hb HC
  go_wp2
  go_ret2
  exact ⟨rfl, HB.out⟩

/-- Whether there is a uart of that number. -/
def isU (n : Nat) (i : Int) : Bool := decide (0 ≤ i ∧ i < n)
theorem hasUart_any {w : World} {b g : Nat} {K : Nat → Nat} {vp : Value} {ul : List Nat} {st : BS} (h : BusP w b K g vp ul st) (i : Int) :
    Calls Tryz.prog 43 #[.pointer (some ⟨b, 0, none⟩), .int .i64 i] w fun e w' => e = .returned (.bool (isU ul.length i)) ∧ w = w' := by
  have c0 := h.obj.ports_
  obtain ⟨a, c, rfl, hc⟩ := h.ports.len
  have hl := h.le
  clear h
  generalize ul.length = m at *
  by_cases i0 : 0 ≤ i
  · by_cases i1 : i < m
    · have HE : Hid (true = isU m i) := Lib.hid (by unfold isU; rw [decide_eq_true ⟨i0, i1⟩])
      go_enter Tryz.func43, Tryz.ntmps43
      go_wp2
      go_ret
      exact ⟨by rw [← HE.out]; rfl, rfl⟩
    · have HE : Hid (false = isU m i) := Lib.hid (by unfold isU; symm; rw [decide_eq_false_iff_not]; omega)
      go_enter Tryz.func43, Tryz.ntmps43
      go_wp2
      go_ret
      exact ⟨by rw [← HE.out]; rfl, rfl⟩
  · have HE : Hid (false = isU m i) := Lib.hid (by unfold isU; symm; rw [decide_eq_false_iff_not]; omega)
    go_enter Tryz.func43, Tryz.ntmps43
    go_wp2
    go_ret
    exact ⟨by rw [← HE.out]; rfl, rfl⟩

end Go.Proofs.YtbcnkhfpogglmaaGreatDoor

namespace Go.Proofs.YtbcnkhfpogglmaaGreatDoor
open Go.RowKit
set_option linter.unusedVariables false
set_option maxRecDepth 100000

/-- What the uart's line is, the plic has been told. -/
def driveS (st : BS) (i : Nat) : BS := { st with p := P5.levelP st.p (10 + (i : Int)) (U6.lineU (st.us.getD i U6.u0)) }
def uartS (st : BS) (i : Nat) (t : U6.US) : BS := { st with us := st.us.set i t }
def DriveE (w : World) (b : Nat) (K : Nat → Nat) (g : Nat) (vp : Value) (ul : List Nat) (st' : BS) (e : Ending) (w' : World) : Prop := (∃ v, e = .returned v) ∧ Only (fun i => i = b) w w' ∧ BusP w' b K g vp ul st'
set_option maxHeartbeats 1000000 in
theorem drive_d {w : World} {b g : Nat} {K : Nat → Nat} {vp : Value} {ul : List Nat} {st : BS} (h : BusP w b K g vp ul st) (i : Nat) (hi : i < ul.length) (u : FrameMode) :
    CallsD Tryz.prog 88 #[portV b ul i] u w fun e u' w' => u' = u ∧ DriveE w b K g vp ul (driveS st i) e w' := by
  have HL : Hid (∀ w', BusP w' b K g vp ul st → Calls Tryz.prog 130 #[.pointer (some ⟨ul.getD i 0, 0, none⟩)] w' fun e w'' => e = .returned (.bool (U6.lineU (st.us.getD i U6.u0))) ∧ w' = w'') := Lib.hid fun w' h' => by
    obtain ⟨vi, vo, hu⟩ := h'.uart i hi
    exact U6.line_any w' _ _ _ vi vo hu
  have HV : Hid (∀ w', BusP w' b K g vp ul st → Calls Tryz.prog 45 #[.pointer (some ⟨b, 4, none⟩), .int .i64 (10 + (i : Int)), .bool (U6.lineU (st.us.getD i U6.u0))] w' fun e w'' => (∃ v, e = .returned v) ∧ Only (fun i => i = b) w' w'' ∧ BusP w'' b K g vp ul (driveS st i)) := Lib.hid fun w' h' =>
    (P5.In.level_any w' b st.p (10 + (i : Int)) (U6.lineU (st.us.getD i U6.u0)) (h'.obj.plic h'.pok)).mono fun e w'' k => ⟨⟨_, k.1⟩, k.2.1, h'.setPlic k.2.1 k.2.2⟩
  have HB : Hid (Only (fun i => i = b) w (w.alloc (.cells #[.pointer (some ⟨ul.getD i 0, 0, none⟩), .pointer (some ⟨b, 4, none⟩), .int .i64 (10 + (i : Int))] 86))) := Lib.hid ((Only.refl _ w).alloc _)
  have HP : Hid (BusP (w.alloc (.cells #[.pointer (some ⟨ul.getD i 0, 0, none⟩), .pointer (some ⟨b, 4, none⟩), .int .i64 (10 + (i : Int))] 86)) b K g vp ul st) := Lib.hid (h.below ((Below.refl _ _).alloc (Nat.le_refl _) _))
  unfold portV
  clear h
  generalize U6.lineU (st.us.getD i U6.u0) = r at *
  generalize ul.getD i 0 = ui at *
  generalize driveS st i = st' at *
  generalize (10 + (i : Int)) = s at *
  go_enter_d Tryz.func88, Tryz.ntmps88
  go_wp2_with fail
  have D : (w.alloc (.cells #[.pointer (some ⟨ui, 0, none⟩), .pointer (some ⟨b, 4, none⟩), .int .i64 s] 86)).heap[w.heap.size]? = some (.cells #[.pointer (some ⟨ui, 0, none⟩), .pointer (some ⟨b, 4, none⟩), .int .i64 s] 86 (0, 0)) := heap_alloc_new w _
  generalize w.alloc (.cells #[.pointer (some ⟨ui, 0, none⟩), .pointer (some ⟨b, 4, none⟩), .int .i64 s] 86) = w1 at *
  generalize w.heap.size = x at *
  have c0 : w1.drew.cell? ⟨x, 0, none⟩ = some (.pointer (some ⟨ui, 0, none⟩)) := by rw [show w1.drew.cell? ⟨x, 0, none⟩ = w1.cell? ⟨x, 0, none⟩ from rfl, cell_of_row w1 x _ _ _ _ D]; rfl
  have c1 : w1.drew.cell? ⟨x, 1, none⟩ = some (.pointer (some ⟨b, 4, none⟩)) := by rw [show w1.drew.cell? ⟨x, 1, none⟩ = w1.cell? ⟨x, 1, none⟩ from rfl, cell_of_row w1 x _ _ _ _ D]; rfl
  have c2 : w1.drew.cell? ⟨x, 2, none⟩ = some (.int .i64 s) := by rw [show w1.drew.cell? ⟨x, 2, none⟩ = w1.cell? ⟨x, 2, none⟩ from rfl, cell_of_row w1 x _ _ _ _ D]; rfl
  have HPD : Hid (BusP w1.drew b K g vp ul st) := Lib.hid (HP.out.below (Below.refl _ _).drew)
  have HBD : Hid (Only (fun i => i = b) w w1.drew) := Lib.hid (HB.out.drewN 1)
  clear D HP HB
  go_region_with (first
    | (go_at_call 130; (with_reducible refine (HL.out _ HPD.out).mono ?_); rintro e w' ⟨rfl, rfl⟩)
    | (go_at_call 45; (with_reducible refine (HV.out _ HPD.out).mono ?_); rintro e w2 ⟨⟨v, rfl⟩, ho, hp⟩; have HO2 := Lib.hid (HBD.out.trans ho); have HP2 := Lib.hid hp; clear ho hp))
  all_goals
    go_end0
    exact ⟨⟨_, rfl⟩, HO2.out, HP2.out⟩

section
variable {w w' : World} {b g : Nat} {K : Nat → Nat} {vp : Value} {ul : List Nat} {st : BS}
theorem BusP.uartEnd (h : BusP w b K g vp ul st) {i : Nat} (hi : i < ul.length) {r : Value} {t' : U6.US} {e : Ending} (k : U6.TellU w (ul.getD i 0) (fun x => K x = 3 + i) r t' e w') : BusEnd w b K g vp ul r (uartS st i t') e w' := by
  obtain ⟨he, k⟩ := k
  exact ⟨he, k.1.mono fun x hx => .inl (by show ¬ K x = 0; have : K x = 3 + i := hx; omega), _, relabel_grow w K (3 + i) w', h.setUart hi k⟩
theorem Grow.trans {w w1 : World} {K K1 K2 : Nat → Nat} (h : Grow w K K1) (k : Grow w1 K1 K2) (hs : w.heap.size ≤ w1.heap.size) : Grow w K K2 := fun i hi => (k i (by omega)).trans (h i hi)
theorem Grow.earlier {w w1 : World} {K K1 : Nat → Nat} (k : Grow w1 K K1) (hs : w.heap.size ≤ w1.heap.size) : Grow w K K1 := fun i hi => k i (by omega)
/-- A call of the bus's behind one that left the bus alone. -/
theorem BusEnd.behind {w1 : World} {r : Value} {st' : BS} {e : Ending} (o : Only (fun i => ¬ K i = 0) w w1) (k : BusEnd w1 b K g vp ul r st' e w') : BusEnd w b K g vp ul r st' e w' := by
  obtain ⟨he, o2, K', hg, hp⟩ := k
  exact ⟨he, o.trans o2, K', hg.earlier o.size, hp⟩
/-- One call behind another. -/
theorem BusEnd.step {w1 : World} {K1 : Nat → Nat} {r : Value} {st' : BS} {e : Ending} (o : Only (fun i => ¬ K i = 0) w w1) (hg : Grow w K K1) (hl : ∀ i, ¬ K1 i = 0 → i < w1.heap.size) (k : BusEnd w1 b K1 g vp ul r st' e w') : BusEnd w b K g vp ul r st' e w' := by
  obtain ⟨he, o2, K', hg2, hp⟩ := k
  refine ⟨he, o.step o2 fun i hi => ?_, K', hg.trans hg2 o.size, hp⟩
  by_cases c : i < w.heap.size
  · left; rw [hg i c] at hi; exact hi
  · right; omega
theorem DriveE.end {w1 : World} {K1 : Nat → Nat} {st' : BS} {r : Value} {e : Ending} (o : Only (fun i => ¬ K i = 0) w w1) (hg : Grow w K K1) (h1 : BusP w1 b K1 g vp ul st) (k : DriveE w1 b K1 g vp ul st' e w') : BusEnd w b K g vp ul r st' (.returned r) w' :=
  BusEnd.step o hg h1.lt ⟨rfl, k.2.1.mono fun i hi => .inl (by subst hi; rw [h1.kb]; omega), K1, Grow.refl _ _, k.2.2⟩
end

set_option maxHeartbeats 1000000 in
theorem portFeed_any {w : World} {b g : Nat} {K : Nat → Nat} {vp : Value} {ul : List Nat} {st : BS} (h : BusP w b K g vp ul st) (i : Nat) (hi : i < ul.length) (x : Int) (hx : 0 ≤ x ∧ x < 256) :
    Calls Tryz.prog 44 #[portV b ul i, .int .u8 x] w (BusEnd w b K g vp ul (.bool (U6.feedK (st.us.getD i U6.u0))) (driveS (uartS st i (U6.feedT (st.us.getD i U6.u0) x)) i)) := by
  have HF : Hid (∀ w', BusP w' b K g vp ul st → Calls Tryz.prog 89 #[.pointer (some ⟨ul.getD i 0, 0, none⟩), .int .u8 x] w' (BusEnd w' b K g vp ul (.bool (U6.feedK (st.us.getD i U6.u0))) (uartS st i (U6.feedT (st.us.getD i U6.u0) x)))) := Lib.hid fun w' h' => by
    obtain ⟨vi, vo, hu⟩ := h'.uart i hi
    exact (U6.feed_any w' _ _ _ vi vo hu x hx).mono fun e w'' k => h'.uartEnd hi k
  have HD : Hid (∀ w' K' u, BusP w' b K' g vp ul (uartS st i (U6.feedT (st.us.getD i U6.u0) x)) → CallsD Tryz.prog 88 #[portV b ul i] u w' fun e u' w'' => u' = u ∧ DriveE w' b K' g vp ul (driveS (uartS st i (U6.feedT (st.us.getD i U6.u0) x)) i) e w'') := Lib.hid fun w' K' u h' => drive_d h' i hi u
  have HB : Hid (Only (fun i => ¬ K i = 0) w (w.alloc (.cells #[.pointer (some ⟨ul.getD i 0, 0, none⟩), .pointer (some ⟨b, 4, none⟩), .int .i64 (10 + (i : Int))] 86))) := Lib.hid ((Only.refl _ w).alloc _)
  have HP : Hid (BusP (w.alloc (.cells #[.pointer (some ⟨ul.getD i 0, 0, none⟩), .pointer (some ⟨b, 4, none⟩), .int .i64 (10 + (i : Int))] 86)) b K g vp ul st) := Lib.hid (h.below ((Below.refl _ _).alloc (Nat.le_refl _) _))
  unfold portV at HD ⊢
  clear h hx
  generalize U6.feedK (st.us.getD i U6.u0) = r at *
  generalize driveS (uartS st i (U6.feedT (st.us.getD i U6.u0) x)) i = st2 at *
  generalize uartS st i (U6.feedT (st.us.getD i U6.u0) x) = st1 at *
  generalize ul.getD i 0 = ui at *
  generalize (10 + (i : Int)) = s at *
  go_enter_defers Tryz.func44, Tryz.ntmps44
  go_wp2_with fail
  (with_reducible refine (HF.out _ HP.out).mono ?_)
  rintro e w2 ⟨rfl, ho, K1, hg, hp⟩
  have HO2 := Lib.hid (HB.out.trans ho)
  have HG2 := Lib.hid (hg.earlier (w := w) HB.out.size)
  have HP2 := Lib.hid hp
  clear ho hg hp HB HP HF
  go_wp2
  refine leaves_cons (f := 88) (args := #[.agg #[.pointer (some ⟨ui, 0, none⟩), .pointer (some ⟨b, 4, none⟩), .int .i64 s]]) (by simp) (by simp [go_sem]) ?_
  refine (HD.out _ K1 .returning HP2.out).mono ?_
  rintro e u' w3 ⟨rfl, hd⟩
  obtain ⟨⟨v, rfl⟩, _⟩ := id hd
  exact ⟨_, results_tmp rfl _ _ _, DriveE.end HO2.out HG2.out HP2.out hd⟩

end Go.Proofs.YtbcnkhfpogglmaaGreatDoor

namespace Go.Proofs.YtbcnkhfpogglmaaGreatDoor
open Go.RowKit
set_option linter.unusedVariables false
set_option maxRecDepth 100000

set_option maxHeartbeats 1000000 in
theorem portRead_any {w : World} {b g : Nat} {K : Nat → Nat} {vp : Value} {ul : List Nat} {st : BS} (h : BusP w b K g vp ul st) (i : Nat) (hi : i < ul.length) (off n : Int) (ho : In64 off) :
    Calls Tryz.prog 82 #[portV b ul i, .int .u64 off, .int .i64 n] w (BusEnd w b K g vp ul (.tuple #[.int .u64 (U6.rdX (st.us.getD i U6.u0) (U6.plK (st.us.getD i U6.u0) off n)), .bool (U6.okK (U6.plK (st.us.getD i U6.u0) off n))]) (driveS (uartS st i (U6.rdT (st.us.getD i U6.u0) (U6.plK (st.us.getD i U6.u0) off n))) i)) := by
  have HF : Hid (∀ w', BusP w' b K g vp ul st → Calls Tryz.prog 128 #[.pointer (some ⟨ul.getD i 0, 0, none⟩), .int .u64 off, .int .i64 n] w' (BusEnd w' b K g vp ul (.tuple #[.int .u64 (U6.rdX (st.us.getD i U6.u0) (U6.plK (st.us.getD i U6.u0) off n)), .bool (U6.okK (U6.plK (st.us.getD i U6.u0) off n))]) (uartS st i (U6.rdT (st.us.getD i U6.u0) (U6.plK (st.us.getD i U6.u0) off n))))) := Lib.hid fun w' h' => by
    exact (U6.read_any w' _ _ _ (h'.uart i hi) off n ho).mono fun e w'' k => h'.uartEnd hi k
  have HD : Hid (∀ w' K' u, BusP w' b K' g vp ul (uartS st i (U6.rdT (st.us.getD i U6.u0) (U6.plK (st.us.getD i U6.u0) off n))) → CallsD Tryz.prog 88 #[portV b ul i] u w' fun e u' w'' => u' = u ∧ DriveE w' b K' g vp ul (driveS (uartS st i (U6.rdT (st.us.getD i U6.u0) (U6.plK (st.us.getD i U6.u0) off n))) i) e w'') := Lib.hid fun w' K' u h' => drive_d h' i hi u
  have HB : Hid (Only (fun i => ¬ K i = 0) w (w.alloc (.cells #[.pointer (some ⟨ul.getD i 0, 0, none⟩), .pointer (some ⟨b, 4, none⟩), .int .i64 (10 + (i : Int))] 86))) := Lib.hid ((Only.refl _ w).alloc _)
  have HP : Hid (BusP (w.alloc (.cells #[.pointer (some ⟨ul.getD i 0, 0, none⟩), .pointer (some ⟨b, 4, none⟩), .int .i64 (10 + (i : Int))] 86)) b K g vp ul st) := Lib.hid (h.below ((Below.refl _ _).alloc (Nat.le_refl _) _))
  unfold portV at HD ⊢
  clear h ho
  generalize U6.plK (st.us.getD i U6.u0) off n = pk at *
  generalize U6.rdX (st.us.getD i U6.u0) pk = rx at *
  generalize U6.okK pk = r at *
  generalize driveS (uartS st i (U6.rdT (st.us.getD i U6.u0) pk)) i = st2 at *
  generalize uartS st i (U6.rdT (st.us.getD i U6.u0) pk) = st1 at *
  generalize ul.getD i 0 = ui at *
  generalize (10 + (i : Int)) = s at *
  go_enter_defers Tryz.func82, Tryz.ntmps82
  go_wp2_with fail
  (with_reducible refine (HF.out _ HP.out).mono ?_)
  rintro e w2 ⟨rfl, ho, K1, hg, hp⟩
  have HO2 := Lib.hid (HB.out.trans ho)
  have HG2 := Lib.hid (hg.earlier (w := w) HB.out.size)
  have HP2 := Lib.hid hp
  clear ho hg hp HB HP HF
  go_wp2
  refine leaves_cons (f := 88) (args := #[.agg #[.pointer (some ⟨ui, 0, none⟩), .pointer (some ⟨b, 4, none⟩), .int .i64 s]]) (by simp) (by simp [go_sem]) ?_
  refine (HD.out _ K1 .returning HP2.out).mono ?_
  rintro e u' w3 ⟨rfl, hd⟩
  obtain ⟨⟨v, rfl⟩, _⟩ := id hd
  exact ⟨_, results_tmp2 rfl _ _ _, DriveE.end HO2.out HG2.out HP2.out hd⟩


set_option maxHeartbeats 1000000 in
theorem portWrite_any {w : World} {b g : Nat} {K : Nat → Nat} {vp : Value} {ul : List Nat} {st : BS} (h : BusP w b K g vp ul st) (i : Nat) (hi : i < ul.length) (off n v : Int) (ho : In64 off) (hv : In64 v) :
    Calls Tryz.prog 83 #[portV b ul i, .int .u64 off, .int .i64 n, .int .u64 v] w (BusEnd w b K g vp ul (.bool (U6.okK (U6.plK (st.us.getD i U6.u0) off n))) (driveS (uartS st i (U6.wrT (st.us.getD i U6.u0) (v % 256) (U6.plK (st.us.getD i U6.u0) off n))) i)) := by
  have HF : Hid (∀ w', BusP w' b K g vp ul st → Calls Tryz.prog 129 #[.pointer (some ⟨ul.getD i 0, 0, none⟩), .int .u64 off, .int .i64 n, .int .u64 v] w' (BusEnd w' b K g vp ul (.bool (U6.okK (U6.plK (st.us.getD i U6.u0) off n))) (uartS st i (U6.wrT (st.us.getD i U6.u0) (v % 256) (U6.plK (st.us.getD i U6.u0) off n))))) := Lib.hid fun w' h' => by
    exact (U6.write_any w' _ _ _ (h'.uart i hi) h'.tabs.2 (by have := h'.kt _ (.inr rfl); omega) off n v ho hv).mono fun e w'' k => h'.uartEnd hi k
  have HD : Hid (∀ w' K' u, BusP w' b K' g vp ul (uartS st i (U6.wrT (st.us.getD i U6.u0) (v % 256) (U6.plK (st.us.getD i U6.u0) off n))) → CallsD Tryz.prog 88 #[portV b ul i] u w' fun e u' w'' => u' = u ∧ DriveE w' b K' g vp ul (driveS (uartS st i (U6.wrT (st.us.getD i U6.u0) (v % 256) (U6.plK (st.us.getD i U6.u0) off n))) i) e w'') := Lib.hid fun w' K' u h' => drive_d h' i hi u
  have HB : Hid (Only (fun i => ¬ K i = 0) w (w.alloc (.cells #[.pointer (some ⟨ul.getD i 0, 0, none⟩), .pointer (some ⟨b, 4, none⟩), .int .i64 (10 + (i : Int))] 86))) := Lib.hid ((Only.refl _ w).alloc _)
  have HP : Hid (BusP (w.alloc (.cells #[.pointer (some ⟨ul.getD i 0, 0, none⟩), .pointer (some ⟨b, 4, none⟩), .int .i64 (10 + (i : Int))] 86)) b K g vp ul st) := Lib.hid (h.below ((Below.refl _ _).alloc (Nat.le_refl _) _))
  unfold portV at HD ⊢
  clear h ho hv
  generalize U6.plK (st.us.getD i U6.u0) off n = pk at *
  generalize U6.okK pk = r at *
  generalize driveS (uartS st i (U6.wrT (st.us.getD i U6.u0) (v % 256) pk)) i = st2 at *
  generalize uartS st i (U6.wrT (st.us.getD i U6.u0) (v % 256) pk) = st1 at *
  generalize ul.getD i 0 = ui at *
  generalize (10 + (i : Int)) = s at *
  go_enter_defers Tryz.func83, Tryz.ntmps83
  go_wp2_with fail
  (with_reducible refine (HF.out _ HP.out).mono ?_)
  rintro e w2 ⟨rfl, ho, K1, hg, hp⟩
  have HO2 := Lib.hid (HB.out.trans ho)
  have HG2 := Lib.hid (hg.earlier (w := w) HB.out.size)
  have HP2 := Lib.hid hp
  clear ho hg hp HB HP HF
  go_wp2
  refine leaves_cons (f := 88) (args := #[.agg #[.pointer (some ⟨ui, 0, none⟩), .pointer (some ⟨b, 4, none⟩), .int .i64 s]]) (by simp) (by simp [go_sem]) ?_
  refine (HD.out _ K1 .returning HP2.out).mono ?_
  rintro e u' w3 ⟨rfl, hd⟩
  obtain ⟨⟨v', rfl⟩, _⟩ := id hd
  exact ⟨_, results_tmp rfl _ _ _, DriveE.end HO2.out HG2.out HP2.out hd⟩


end Go.Proofs.YtbcnkhfpogglmaaGreatDoor

namespace Go.Proofs.YtbcnkhfpogglmaaGreatDoor
open Go.RowKit
set_option linter.unusedVariables false
set_option maxRecDepth 100000

/-- What a region's function is asked for an address. -/
def offK (n q : Nat) (a : Int) : Int := if q = 0 then a else a - regBase n q
theorem offK_is {size : Int} {n q : Nat} {a : Int} (hq : regK size n a = q) (hn : n ≤ 8) (hk : q < 11) (ha : In64 a) (h0 : 4096 ≤ size) (h1 : size ≤ 67108864) : IntKind.u64.wrap (a - (if q = 0 then 0 else regBase n q)) = offK n q a ∧ In64 (offK n q a) := by
  have h := (inReg_is hn hk ha h0 h1).2 hq
  unfold offK
  unfold In64 at *
  by_cases q0 : q = 0
  · rw [if_pos q0, if_pos q0, IntKind.wrap_u64]; omega
  · rw [if_neg q0, if_neg q0, IntKind.wrap_u64]
    have hb : 0 ≤ regBase n q ∧ regBase n q ≤ 2147483648 ∧ regBase n q ≤ a := by
      subst hq
      revert q0 hk
      unfold regK regBase
      split
      · intro hk q0; exact absurd rfl q0
      · split
        · intro _ _; simp; omega
        · split
          · intro _ _; simp; omega
          · split
            · intro _ _
              rw [if_neg (by omega), if_neg (by omega), if_neg (by omega), if_pos (by omega)]
              omega
            · intro hk; omega
    omega
theorem okN_63 {n : Int} (h : M3.okN n = true) : In63 n := by
  unfold M3.okN at h; rw [decide_eq_true_eq] at h; unfold In63; omega
/-- What reading tells in region q, and what it leaves. -/
def rdR (st : BS) (o n : Int) : Nat → Int × Bool × BS
  | 0 => ((M3.readV 2147483648 st.size st.m o n).1, (M3.readV 2147483648 st.size st.m o n).2, st)
  | 1 => (C4.rdC st.c (C4.kindC o n), C4.okC o n, st)
  | 2 => (P5.rdX st.p (P5.plcK o n), P5.okP (P5.plcK o n), { st with p := P5.rdT st.p (P5.plcK o n) })
  | i + 3 => (U6.rdX (st.us.getD i U6.u0) (U6.plK (st.us.getD i U6.u0) o n), U6.okK (U6.plK (st.us.getD i U6.u0) o n), driveS (uartS st i (U6.rdT (st.us.getD i U6.u0) (U6.plK (st.us.getD i U6.u0) o n))) i)
def wrR (st : BS) (o n v : Int) : Nat → Bool × BS
  | 0 => (M3.okN n && M3.hasZ 2147483648 st.size o n, { st with m := M3.writeM 2147483648 st.size st.m o n v })
  | 1 => (C4.okC o n, { st with c := C4.wrC st.c v (C4.kindC o n) })
  | 2 => (P5.okP (P5.plcK o n), { st with p := P5.wrT st.p (P5.plcK o n) v })
  | i + 3 => (U6.okK (U6.plK (st.us.getD i U6.u0) o n), driveS (uartS st i (U6.wrT (st.us.getD i U6.u0) (v % 256) (U6.plK (st.us.getD i U6.u0) o n))) i)
/-- What Read tells, and what Write; what they leave. -/
def busRd (st : BS) (a n : Int) : Int × Bool × BS := if M3.okN n = true ∧ regK st.size st.us.length a < 11 then rdR st (offK st.us.length (regK st.size st.us.length a) a) n (regK st.size st.us.length a) else (0, false, st)
def busWr (st : BS) (a n v : Int) : Bool × BS := if M3.okN n = true ∧ regK st.size st.us.length a < 11 then wrR st (offK st.us.length (regK st.size st.us.length a) a) n v (regK st.size st.us.length a) else (false, st)

section
variable {w : World} {b g : Nat} {K : Nat → Nat} {vp : Value} {ul : List Nat} {st : BS}
theorem BusP.rdCell (h : BusP w b K g vp ul st) {q : Nat} (hq : q < 11) : w.cell? ⟨b, 44 + q * 5 + 3, none⟩ = some (rdF b g ul q) := h.obj.reg_ (i := q * 5 + 3) (by omega) (regs_get b g st.size ul hq (by omega))
theorem BusP.wrCell (h : BusP w b K g vp ul st) {q : Nat} (hq : q < 11) : w.cell? ⟨b, 44 + q * 5 + 4, none⟩ = some (wrF b g ul q) := h.obj.reg_ (i := q * 5 + 4) (by omega) (regs_get b g st.size ul hq (by omega))
theorem BusP.orgCell (h : BusP w b K g vp ul st) {q : Nat} (hq : q < 11) : w.cell? ⟨b, 44 + q * 5 + 2, none⟩ = some (.int .u64 (if q = 0 then 0 else regBase ul.length q)) := h.obj.reg_ (i := q * 5 + 2) (by omega) (regs_get b g st.size ul hq (by omega))
end
theorem findV_is {st : BS} {b n : Nat} {a len : Int} {q : Nat} (hk : M3.okN len = true) (hq : regK st.size n a = q) (hq11 : q < 11) : findV b st.size n a len = .pointer (some ⟨b, 44 + q * 5, none⟩) := by
  unfold findV; rw [hk, hq, if_pos ⟨rfl, hq11⟩]

set_option maxHeartbeats 1000000 in
theorem busRead_ram {w : World} {b g : Nat} {K : Nat → Nat} {vp : Value} {ul : List Nat} {st : BS} (h : BusP w b K g vp ul st) (a n : Int) (ha : In64 a) (hk : M3.okN n = true) (q : Nat) (hq : regK st.size ul.length a = q) (hq11 : q < 11) (hF : rdF b g ul q = .func (.func 25) #[.pointer (some ⟨g, 0, none⟩)] #[]) (X : Int) (r : Bool) (st' : BS)
    (hC : ∀ w', BusP w' b K g vp ul st → Calls Tryz.prog 25 #[.pointer (some ⟨g, 0, none⟩), .int .u64 (offK ul.length q a), .int .i64 n] w' (BusEnd w' b K g vp ul (.tuple #[.int .u64 X, .bool r]) st')) :
    Calls Tryz.prog 8 #[.pointer (some ⟨b, 0, none⟩), .int .u64 a, .int .i64 n] w (BusEnd w b K g vp ul (.tuple #[.int .u64 X, .bool r]) st') := by
  have HFI : Hid (∀ w', BusP w' b K g vp ul st → Calls Tryz.prog 34 #[.pointer (some ⟨b, 0, none⟩), .int .u64 a, .int .i64 n] w' fun e w'' => e = .returned (.pointer (some ⟨b, 44 + q * 5, none⟩)) ∧ Below w'.heap.size w' w'') := Lib.hid fun w' h' => by
    have := find_any h' a n ha
    rw [findV_is hk hq hq11] at this
    exact this
  have hw := (offK_is hq h.le hq11 ha h.fits.2.1 h.fits.2.2.1).1
  have HC := Lib.hid hC
  have H := Lib.hid h
  have HFF := Lib.hid hF
  clear hC h hF hk hq ha
  generalize offK ul.length q a = D at *
  generalize ho : (if q = 0 then (0 : Int) else regBase ul.length q) = o at *
  have HOO := Lib.hid ho
  clear ho
  go_enter Tryz.func8, Tryz.ntmps8
  go_wp2_with fail
  (with_reducible refine (HFI.out _ H.out).mono ?_)
  rintro e w2 ⟨rfl, hb⟩
  have HP2 := Lib.hid (H.out.below hb)
  have HB2 : Hid (Only (fun i => ¬ K i = 0) w w2) := Lib.hid (Only.of_below _ hb)
  have c3 := HP2.out.rdCell hq11
  have c2 := HP2.out.orgCell hq11
  rw [HFF.out] at c3
  rw [HOO.out] at c2
  have HCE : Hid (∀ w4 r4 st4 e4, BusEnd w2.drew b K g vp ul r4 st4 e4 w4 → w4.cell? ⟨b, 44 + q * 5 + 3, none⟩ = some (.func (.func 25) #[.pointer (some ⟨g, 0, none⟩)] #[]) ∧ w4.cell? ⟨b, 44 + q * 5 + 2, none⟩ = some (.int .u64 o)) := Lib.hid fun w4 r4 st4 e4 k => by
    obtain ⟨_, _, K4, _, hp4⟩ := k
    have d3 := hp4.rdCell hq11
    have d2 := hp4.orgCell hq11
    rw [HFF.out] at d3
    rw [HOO.out] at d2
    exact ⟨d3, d2⟩
  have HP3 : Hid (BusP w2.drew b K g vp ul st) := Lib.hid (HP2.out.below (Below.refl _ _).drew)
  have HB3 : Hid (Only (fun i => ¬ K i = 0) w w2.drew) := Lib.hid (HB2.out.drewN 1)
  clear hb HFI H HFF HOO hq11 HP2 HB2
  go_wp2_with fail
  go_region_held3 (fun wx => wx.cell? ⟨b, 44 + q * 5 + 3, none⟩ = some (.func (.func 25) #[.pointer (some ⟨g, 0, none⟩)] #[]) ∧ wx.cell? ⟨b, 44 + q * 5 + 2, none⟩ = some (.int .u64 o)) (go_keep)
    (((with_reducible refine (HC.out _ HP3.out).mono ?_); rintro e w4 hE; obtain ⟨rfl, _⟩ := id hE; obtain ⟨e3, e2⟩ := HCE.out _ _ _ _ hE; have HE := Lib.hid hE; clear hE))
  go_wp2
  go_ret2
  exact BusEnd.behind HB3.out HE.out

set_option maxHeartbeats 1000000 in
theorem busRead_clint {w : World} {b g : Nat} {K : Nat → Nat} {vp : Value} {ul : List Nat} {st : BS} (h : BusP w b K g vp ul st) (a n : Int) (ha : In64 a) (hk : M3.okN n = true) (q : Nat) (hq : regK st.size ul.length a = q) (hq11 : q < 11) (hF : rdF b g ul q = .func (.func 78) #[.pointer (some ⟨b, 0, none⟩)] #[]) (X : Int) (r : Bool) (st' : BS)
    (hC : ∀ w', BusP w' b K g vp ul st → Calls Tryz.prog 78 #[.pointer (some ⟨b, 0, none⟩), .int .u64 (offK ul.length q a), .int .i64 n] w' (BusEnd w' b K g vp ul (.tuple #[.int .u64 X, .bool r]) st')) :
    Calls Tryz.prog 8 #[.pointer (some ⟨b, 0, none⟩), .int .u64 a, .int .i64 n] w (BusEnd w b K g vp ul (.tuple #[.int .u64 X, .bool r]) st') := by
  have HFI : Hid (∀ w', BusP w' b K g vp ul st → Calls Tryz.prog 34 #[.pointer (some ⟨b, 0, none⟩), .int .u64 a, .int .i64 n] w' fun e w'' => e = .returned (.pointer (some ⟨b, 44 + q * 5, none⟩)) ∧ Below w'.heap.size w' w'') := Lib.hid fun w' h' => by
    have := find_any h' a n ha
    rw [findV_is hk hq hq11] at this
    exact this
  have hw := (offK_is hq h.le hq11 ha h.fits.2.1 h.fits.2.2.1).1
  have HC := Lib.hid hC
  have H := Lib.hid h
  have HFF := Lib.hid hF
  clear hC h hF hk hq ha
  generalize offK ul.length q a = D at *
  generalize ho : (if q = 0 then (0 : Int) else regBase ul.length q) = o at *
  have HOO := Lib.hid ho
  clear ho
  go_enter Tryz.func8, Tryz.ntmps8
  go_wp2_with fail
  (with_reducible refine (HFI.out _ H.out).mono ?_)
  rintro e w2 ⟨rfl, hb⟩
  have HP2 := Lib.hid (H.out.below hb)
  have HB2 : Hid (Only (fun i => ¬ K i = 0) w w2) := Lib.hid (Only.of_below _ hb)
  have c3 := HP2.out.rdCell hq11
  have c2 := HP2.out.orgCell hq11
  rw [HFF.out] at c3
  rw [HOO.out] at c2
  have HCE : Hid (∀ w4 r4 st4 e4, BusEnd w2.drew b K g vp ul r4 st4 e4 w4 → w4.cell? ⟨b, 44 + q * 5 + 3, none⟩ = some (.func (.func 78) #[.pointer (some ⟨b, 0, none⟩)] #[]) ∧ w4.cell? ⟨b, 44 + q * 5 + 2, none⟩ = some (.int .u64 o)) := Lib.hid fun w4 r4 st4 e4 k => by
    obtain ⟨_, _, K4, _, hp4⟩ := k
    have d3 := hp4.rdCell hq11
    have d2 := hp4.orgCell hq11
    rw [HFF.out] at d3
    rw [HOO.out] at d2
    exact ⟨d3, d2⟩
  have HP3 : Hid (BusP w2.drew b K g vp ul st) := Lib.hid (HP2.out.below (Below.refl _ _).drew)
  have HB3 : Hid (Only (fun i => ¬ K i = 0) w w2.drew) := Lib.hid (HB2.out.drewN 1)
  clear hb HFI H HFF HOO hq11 HP2 HB2
  go_wp2_with fail
  go_region_held3 (fun wx => wx.cell? ⟨b, 44 + q * 5 + 3, none⟩ = some (.func (.func 78) #[.pointer (some ⟨b, 0, none⟩)] #[]) ∧ wx.cell? ⟨b, 44 + q * 5 + 2, none⟩ = some (.int .u64 o)) (go_keep)
    (((with_reducible refine (HC.out _ HP3.out).mono ?_); rintro e w4 hE; obtain ⟨rfl, _⟩ := id hE; obtain ⟨e3, e2⟩ := HCE.out _ _ _ _ hE; have HE := Lib.hid hE; clear hE))
  go_wp2
  go_ret2
  exact BusEnd.behind HB3.out HE.out

set_option maxHeartbeats 1000000 in
theorem busRead_plic {w : World} {b g : Nat} {K : Nat → Nat} {vp : Value} {ul : List Nat} {st : BS} (h : BusP w b K g vp ul st) (a n : Int) (ha : In64 a) (hk : M3.okN n = true) (q : Nat) (hq : regK st.size ul.length a = q) (hq11 : q < 11) (hF : rdF b g ul q = .func (.func 80) #[.pointer (some ⟨b, 4, none⟩)] #[]) (X : Int) (r : Bool) (st' : BS)
    (hC : ∀ w', BusP w' b K g vp ul st → Calls Tryz.prog 80 #[.pointer (some ⟨b, 4, none⟩), .int .u64 (offK ul.length q a), .int .i64 n] w' (BusEnd w' b K g vp ul (.tuple #[.int .u64 X, .bool r]) st')) :
    Calls Tryz.prog 8 #[.pointer (some ⟨b, 0, none⟩), .int .u64 a, .int .i64 n] w (BusEnd w b K g vp ul (.tuple #[.int .u64 X, .bool r]) st') := by
  have HFI : Hid (∀ w', BusP w' b K g vp ul st → Calls Tryz.prog 34 #[.pointer (some ⟨b, 0, none⟩), .int .u64 a, .int .i64 n] w' fun e w'' => e = .returned (.pointer (some ⟨b, 44 + q * 5, none⟩)) ∧ Below w'.heap.size w' w'') := Lib.hid fun w' h' => by
    have := find_any h' a n ha
    rw [findV_is hk hq hq11] at this
    exact this
  have hw := (offK_is hq h.le hq11 ha h.fits.2.1 h.fits.2.2.1).1
  have HC := Lib.hid hC
  have H := Lib.hid h
  have HFF := Lib.hid hF
  clear hC h hF hk hq ha
  generalize offK ul.length q a = D at *
  generalize ho : (if q = 0 then (0 : Int) else regBase ul.length q) = o at *
  have HOO := Lib.hid ho
  clear ho
  go_enter Tryz.func8, Tryz.ntmps8
  go_wp2_with fail
  (with_reducible refine (HFI.out _ H.out).mono ?_)
  rintro e w2 ⟨rfl, hb⟩
  have HP2 := Lib.hid (H.out.below hb)
  have HB2 : Hid (Only (fun i => ¬ K i = 0) w w2) := Lib.hid (Only.of_below _ hb)
  have c3 := HP2.out.rdCell hq11
  have c2 := HP2.out.orgCell hq11
  rw [HFF.out] at c3
  rw [HOO.out] at c2
  have HCE : Hid (∀ w4 r4 st4 e4, BusEnd w2.drew b K g vp ul r4 st4 e4 w4 → w4.cell? ⟨b, 44 + q * 5 + 3, none⟩ = some (.func (.func 80) #[.pointer (some ⟨b, 4, none⟩)] #[]) ∧ w4.cell? ⟨b, 44 + q * 5 + 2, none⟩ = some (.int .u64 o)) := Lib.hid fun w4 r4 st4 e4 k => by
    obtain ⟨_, _, K4, _, hp4⟩ := k
    have d3 := hp4.rdCell hq11
    have d2 := hp4.orgCell hq11
    rw [HFF.out] at d3
    rw [HOO.out] at d2
    exact ⟨d3, d2⟩
  have HP3 : Hid (BusP w2.drew b K g vp ul st) := Lib.hid (HP2.out.below (Below.refl _ _).drew)
  have HB3 : Hid (Only (fun i => ¬ K i = 0) w w2.drew) := Lib.hid (HB2.out.drewN 1)
  clear hb HFI H HFF HOO hq11 HP2 HB2
  go_wp2_with fail
  go_region_held3 (fun wx => wx.cell? ⟨b, 44 + q * 5 + 3, none⟩ = some (.func (.func 80) #[.pointer (some ⟨b, 4, none⟩)] #[]) ∧ wx.cell? ⟨b, 44 + q * 5 + 2, none⟩ = some (.int .u64 o)) (go_keep)
    (((with_reducible refine (HC.out _ HP3.out).mono ?_); rintro e w4 hE; obtain ⟨rfl, _⟩ := id hE; obtain ⟨e3, e2⟩ := HCE.out _ _ _ _ hE; have HE := Lib.hid hE; clear hE))
  go_wp2
  go_ret2
  exact BusEnd.behind HB3.out HE.out

set_option maxHeartbeats 1000000 in
theorem busRead_port {w : World} {b g : Nat} {K : Nat → Nat} {vp : Value} {ul : List Nat} {st : BS} (h : BusP w b K g vp ul st) (a n : Int) (ha : In64 a) (hk : M3.okN n = true) (q : Nat) (hq : regK st.size ul.length a = q) (hq11 : q < 11) (i : Nat) (uv : Nat) (hF : rdF b g ul q = .func (.func 82) #[.agg #[.pointer (some ⟨uv, 0, none⟩), .pointer (some ⟨b, 4, none⟩), .int .i64 (10 + (i : Int))]] #[]) (X : Int) (r : Bool) (st' : BS)
    (hC : ∀ w', BusP w' b K g vp ul st → Calls Tryz.prog 82 #[.agg #[.pointer (some ⟨uv, 0, none⟩), .pointer (some ⟨b, 4, none⟩), .int .i64 (10 + (i : Int))], .int .u64 (offK ul.length q a), .int .i64 n] w' (BusEnd w' b K g vp ul (.tuple #[.int .u64 X, .bool r]) st')) :
    Calls Tryz.prog 8 #[.pointer (some ⟨b, 0, none⟩), .int .u64 a, .int .i64 n] w (BusEnd w b K g vp ul (.tuple #[.int .u64 X, .bool r]) st') := by
  have HFI : Hid (∀ w', BusP w' b K g vp ul st → Calls Tryz.prog 34 #[.pointer (some ⟨b, 0, none⟩), .int .u64 a, .int .i64 n] w' fun e w'' => e = .returned (.pointer (some ⟨b, 44 + q * 5, none⟩)) ∧ Below w'.heap.size w' w'') := Lib.hid fun w' h' => by
    have := find_any h' a n ha
    rw [findV_is hk hq hq11] at this
    exact this
  have hw := (offK_is hq h.le hq11 ha h.fits.2.1 h.fits.2.2.1).1
  have HC := Lib.hid hC
  have H := Lib.hid h
  have HFF := Lib.hid hF
  clear hC h hF hk hq ha
  generalize offK ul.length q a = D at *
  generalize ho : (if q = 0 then (0 : Int) else regBase ul.length q) = o at *
  have HOO := Lib.hid ho
  clear ho
  go_enter Tryz.func8, Tryz.ntmps8
  go_wp2_with fail
  (with_reducible refine (HFI.out _ H.out).mono ?_)
  rintro e w2 ⟨rfl, hb⟩
  have HP2 := Lib.hid (H.out.below hb)
  have HB2 : Hid (Only (fun i => ¬ K i = 0) w w2) := Lib.hid (Only.of_below _ hb)
  have c3 := HP2.out.rdCell hq11
  have c2 := HP2.out.orgCell hq11
  rw [HFF.out] at c3
  rw [HOO.out] at c2
  have HCE : Hid (∀ w4 r4 st4 e4, BusEnd w2.drew b K g vp ul r4 st4 e4 w4 → w4.cell? ⟨b, 44 + q * 5 + 3, none⟩ = some (.func (.func 82) #[.agg #[.pointer (some ⟨uv, 0, none⟩), .pointer (some ⟨b, 4, none⟩), .int .i64 (10 + (i : Int))]] #[]) ∧ w4.cell? ⟨b, 44 + q * 5 + 2, none⟩ = some (.int .u64 o)) := Lib.hid fun w4 r4 st4 e4 k => by
    obtain ⟨_, _, K4, _, hp4⟩ := k
    have d3 := hp4.rdCell hq11
    have d2 := hp4.orgCell hq11
    rw [HFF.out] at d3
    rw [HOO.out] at d2
    exact ⟨d3, d2⟩
  have HP3 : Hid (BusP w2.drew b K g vp ul st) := Lib.hid (HP2.out.below (Below.refl _ _).drew)
  have HB3 : Hid (Only (fun i => ¬ K i = 0) w w2.drew) := Lib.hid (HB2.out.drewN 1)
  clear hb HFI H HFF HOO hq11 HP2 HB2
  go_wp2_with fail
  go_region_held3 (fun wx => wx.cell? ⟨b, 44 + q * 5 + 3, none⟩ = some (.func (.func 82) #[.agg #[.pointer (some ⟨uv, 0, none⟩), .pointer (some ⟨b, 4, none⟩), .int .i64 (10 + (i : Int))]] #[]) ∧ wx.cell? ⟨b, 44 + q * 5 + 2, none⟩ = some (.int .u64 o)) (go_keep)
    (((with_reducible refine (HC.out _ HP3.out).mono ?_); rintro e w4 hE; obtain ⟨rfl, _⟩ := id hE; obtain ⟨e3, e2⟩ := HCE.out _ _ _ _ hE; have HE := Lib.hid hE; clear hE))
  go_wp2
  go_ret2
  exact BusEnd.behind HB3.out HE.out

set_option maxHeartbeats 1000000 in
theorem busWrite_ram {w : World} {b g : Nat} {K : Nat → Nat} {vp : Value} {ul : List Nat} {st : BS} (h : BusP w b K g vp ul st) (a n v : Int) (ha : In64 a) (hk : M3.okN n = true) (q : Nat) (hq : regK st.size ul.length a = q) (hq11 : q < 11) (hF : wrF b g ul q = .func (.func 26) #[.pointer (some ⟨g, 0, none⟩)] #[]) (r : Bool) (st' : BS)
    (hC : ∀ w', BusP w' b K g vp ul st → Calls Tryz.prog 26 #[.pointer (some ⟨g, 0, none⟩), .int .u64 (offK ul.length q a), .int .i64 n, .int .u64 v] w' (BusEnd w' b K g vp ul (.bool r) st')) :
    Calls Tryz.prog 9 #[.pointer (some ⟨b, 0, none⟩), .int .u64 a, .int .i64 n, .int .u64 v] w (BusEnd w b K g vp ul (.bool r) st') := by
  have HFI : Hid (∀ w', BusP w' b K g vp ul st → Calls Tryz.prog 34 #[.pointer (some ⟨b, 0, none⟩), .int .u64 a, .int .i64 n] w' fun e w'' => e = .returned (.pointer (some ⟨b, 44 + q * 5, none⟩)) ∧ Below w'.heap.size w' w'') := Lib.hid fun w' h' => by
    have := find_any h' a n ha
    rw [findV_is hk hq hq11] at this
    exact this
  have hw := (offK_is hq h.le hq11 ha h.fits.2.1 h.fits.2.2.1).1
  have HC := Lib.hid hC
  have H := Lib.hid h
  have HFF := Lib.hid hF
  clear hC h hF hk hq ha
  generalize offK ul.length q a = D at *
  generalize ho : (if q = 0 then (0 : Int) else regBase ul.length q) = o at *
  have HOO := Lib.hid ho
  clear ho
  go_enter Tryz.func9, Tryz.ntmps9
  go_wp2_with fail
  (with_reducible refine (HFI.out _ H.out).mono ?_)
  rintro e w2 ⟨rfl, hb⟩
  have HP2 := Lib.hid (H.out.below hb)
  have HB2 : Hid (Only (fun i => ¬ K i = 0) w w2) := Lib.hid (Only.of_below _ hb)
  have c3 := HP2.out.wrCell hq11
  have c2 := HP2.out.orgCell hq11
  rw [HFF.out] at c3
  rw [HOO.out] at c2
  have HCE : Hid (∀ w4 r4 st4 e4, BusEnd w2.drew b K g vp ul r4 st4 e4 w4 → w4.cell? ⟨b, 44 + q * 5 + 4, none⟩ = some (.func (.func 26) #[.pointer (some ⟨g, 0, none⟩)] #[]) ∧ w4.cell? ⟨b, 44 + q * 5 + 2, none⟩ = some (.int .u64 o)) := Lib.hid fun w4 r4 st4 e4 k => by
    obtain ⟨_, _, K4, _, hp4⟩ := k
    have d3 := hp4.wrCell hq11
    have d2 := hp4.orgCell hq11
    rw [HFF.out] at d3
    rw [HOO.out] at d2
    exact ⟨d3, d2⟩
  have HP3 : Hid (BusP w2.drew b K g vp ul st) := Lib.hid (HP2.out.below (Below.refl _ _).drew)
  have HB3 : Hid (Only (fun i => ¬ K i = 0) w w2.drew) := Lib.hid (HB2.out.drewN 1)
  clear hb HFI H HFF HOO hq11 HP2 HB2
  go_wp2_with fail
  go_region_held3 (fun wx => wx.cell? ⟨b, 44 + q * 5 + 4, none⟩ = some (.func (.func 26) #[.pointer (some ⟨g, 0, none⟩)] #[]) ∧ wx.cell? ⟨b, 44 + q * 5 + 2, none⟩ = some (.int .u64 o)) (go_keep)
    (((with_reducible refine (HC.out _ HP3.out).mono ?_); rintro e w4 hE; obtain ⟨rfl, _⟩ := id hE; obtain ⟨e3, e2⟩ := HCE.out _ _ _ _ hE; have HE := Lib.hid hE; clear hE))
  go_wp2
  go_ret
  exact BusEnd.behind HB3.out HE.out

set_option maxHeartbeats 1000000 in
theorem busWrite_clint {w : World} {b g : Nat} {K : Nat → Nat} {vp : Value} {ul : List Nat} {st : BS} (h : BusP w b K g vp ul st) (a n v : Int) (ha : In64 a) (hk : M3.okN n = true) (q : Nat) (hq : regK st.size ul.length a = q) (hq11 : q < 11) (hF : wrF b g ul q = .func (.func 79) #[.pointer (some ⟨b, 1, none⟩)] #[]) (r : Bool) (st' : BS)
    (hC : ∀ w', BusP w' b K g vp ul st → Calls Tryz.prog 79 #[.pointer (some ⟨b, 1, none⟩), .int .u64 (offK ul.length q a), .int .i64 n, .int .u64 v] w' (BusEnd w' b K g vp ul (.bool r) st')) :
    Calls Tryz.prog 9 #[.pointer (some ⟨b, 0, none⟩), .int .u64 a, .int .i64 n, .int .u64 v] w (BusEnd w b K g vp ul (.bool r) st') := by
  have HFI : Hid (∀ w', BusP w' b K g vp ul st → Calls Tryz.prog 34 #[.pointer (some ⟨b, 0, none⟩), .int .u64 a, .int .i64 n] w' fun e w'' => e = .returned (.pointer (some ⟨b, 44 + q * 5, none⟩)) ∧ Below w'.heap.size w' w'') := Lib.hid fun w' h' => by
    have := find_any h' a n ha
    rw [findV_is hk hq hq11] at this
    exact this
  have hw := (offK_is hq h.le hq11 ha h.fits.2.1 h.fits.2.2.1).1
  have HC := Lib.hid hC
  have H := Lib.hid h
  have HFF := Lib.hid hF
  clear hC h hF hk hq ha
  generalize offK ul.length q a = D at *
  generalize ho : (if q = 0 then (0 : Int) else regBase ul.length q) = o at *
  have HOO := Lib.hid ho
  clear ho
  go_enter Tryz.func9, Tryz.ntmps9
  go_wp2_with fail
  (with_reducible refine (HFI.out _ H.out).mono ?_)
  rintro e w2 ⟨rfl, hb⟩
  have HP2 := Lib.hid (H.out.below hb)
  have HB2 : Hid (Only (fun i => ¬ K i = 0) w w2) := Lib.hid (Only.of_below _ hb)
  have c3 := HP2.out.wrCell hq11
  have c2 := HP2.out.orgCell hq11
  rw [HFF.out] at c3
  rw [HOO.out] at c2
  have HCE : Hid (∀ w4 r4 st4 e4, BusEnd w2.drew b K g vp ul r4 st4 e4 w4 → w4.cell? ⟨b, 44 + q * 5 + 4, none⟩ = some (.func (.func 79) #[.pointer (some ⟨b, 1, none⟩)] #[]) ∧ w4.cell? ⟨b, 44 + q * 5 + 2, none⟩ = some (.int .u64 o)) := Lib.hid fun w4 r4 st4 e4 k => by
    obtain ⟨_, _, K4, _, hp4⟩ := k
    have d3 := hp4.wrCell hq11
    have d2 := hp4.orgCell hq11
    rw [HFF.out] at d3
    rw [HOO.out] at d2
    exact ⟨d3, d2⟩
  have HP3 : Hid (BusP w2.drew b K g vp ul st) := Lib.hid (HP2.out.below (Below.refl _ _).drew)
  have HB3 : Hid (Only (fun i => ¬ K i = 0) w w2.drew) := Lib.hid (HB2.out.drewN 1)
  clear hb HFI H HFF HOO hq11 HP2 HB2
  go_wp2_with fail
  go_region_held3 (fun wx => wx.cell? ⟨b, 44 + q * 5 + 4, none⟩ = some (.func (.func 79) #[.pointer (some ⟨b, 1, none⟩)] #[]) ∧ wx.cell? ⟨b, 44 + q * 5 + 2, none⟩ = some (.int .u64 o)) (go_keep)
    (((with_reducible refine (HC.out _ HP3.out).mono ?_); rintro e w4 hE; obtain ⟨rfl, _⟩ := id hE; obtain ⟨e3, e2⟩ := HCE.out _ _ _ _ hE; have HE := Lib.hid hE; clear hE))
  go_wp2
  go_ret
  exact BusEnd.behind HB3.out HE.out

set_option maxHeartbeats 1000000 in
theorem busWrite_plic {w : World} {b g : Nat} {K : Nat → Nat} {vp : Value} {ul : List Nat} {st : BS} (h : BusP w b K g vp ul st) (a n v : Int) (ha : In64 a) (hk : M3.okN n = true) (q : Nat) (hq : regK st.size ul.length a = q) (hq11 : q < 11) (hF : wrF b g ul q = .func (.func 81) #[.pointer (some ⟨b, 4, none⟩)] #[]) (r : Bool) (st' : BS)
    (hC : ∀ w', BusP w' b K g vp ul st → Calls Tryz.prog 81 #[.pointer (some ⟨b, 4, none⟩), .int .u64 (offK ul.length q a), .int .i64 n, .int .u64 v] w' (BusEnd w' b K g vp ul (.bool r) st')) :
    Calls Tryz.prog 9 #[.pointer (some ⟨b, 0, none⟩), .int .u64 a, .int .i64 n, .int .u64 v] w (BusEnd w b K g vp ul (.bool r) st') := by
  have HFI : Hid (∀ w', BusP w' b K g vp ul st → Calls Tryz.prog 34 #[.pointer (some ⟨b, 0, none⟩), .int .u64 a, .int .i64 n] w' fun e w'' => e = .returned (.pointer (some ⟨b, 44 + q * 5, none⟩)) ∧ Below w'.heap.size w' w'') := Lib.hid fun w' h' => by
    have := find_any h' a n ha
    rw [findV_is hk hq hq11] at this
    exact this
  have hw := (offK_is hq h.le hq11 ha h.fits.2.1 h.fits.2.2.1).1
  have HC := Lib.hid hC
  have H := Lib.hid h
  have HFF := Lib.hid hF
  clear hC h hF hk hq ha
  generalize offK ul.length q a = D at *
  generalize ho : (if q = 0 then (0 : Int) else regBase ul.length q) = o at *
  have HOO := Lib.hid ho
  clear ho
  go_enter Tryz.func9, Tryz.ntmps9
  go_wp2_with fail
  (with_reducible refine (HFI.out _ H.out).mono ?_)
  rintro e w2 ⟨rfl, hb⟩
  have HP2 := Lib.hid (H.out.below hb)
  have HB2 : Hid (Only (fun i => ¬ K i = 0) w w2) := Lib.hid (Only.of_below _ hb)
  have c3 := HP2.out.wrCell hq11
  have c2 := HP2.out.orgCell hq11
  rw [HFF.out] at c3
  rw [HOO.out] at c2
  have HCE : Hid (∀ w4 r4 st4 e4, BusEnd w2.drew b K g vp ul r4 st4 e4 w4 → w4.cell? ⟨b, 44 + q * 5 + 4, none⟩ = some (.func (.func 81) #[.pointer (some ⟨b, 4, none⟩)] #[]) ∧ w4.cell? ⟨b, 44 + q * 5 + 2, none⟩ = some (.int .u64 o)) := Lib.hid fun w4 r4 st4 e4 k => by
    obtain ⟨_, _, K4, _, hp4⟩ := k
    have d3 := hp4.wrCell hq11
    have d2 := hp4.orgCell hq11
    rw [HFF.out] at d3
    rw [HOO.out] at d2
    exact ⟨d3, d2⟩
  have HP3 : Hid (BusP w2.drew b K g vp ul st) := Lib.hid (HP2.out.below (Below.refl _ _).drew)
  have HB3 : Hid (Only (fun i => ¬ K i = 0) w w2.drew) := Lib.hid (HB2.out.drewN 1)
  clear hb HFI H HFF HOO hq11 HP2 HB2
  go_wp2_with fail
  go_region_held3 (fun wx => wx.cell? ⟨b, 44 + q * 5 + 4, none⟩ = some (.func (.func 81) #[.pointer (some ⟨b, 4, none⟩)] #[]) ∧ wx.cell? ⟨b, 44 + q * 5 + 2, none⟩ = some (.int .u64 o)) (go_keep)
    (((with_reducible refine (HC.out _ HP3.out).mono ?_); rintro e w4 hE; obtain ⟨rfl, _⟩ := id hE; obtain ⟨e3, e2⟩ := HCE.out _ _ _ _ hE; have HE := Lib.hid hE; clear hE))
  go_wp2
  go_ret
  exact BusEnd.behind HB3.out HE.out

set_option maxHeartbeats 1000000 in
theorem busWrite_port {w : World} {b g : Nat} {K : Nat → Nat} {vp : Value} {ul : List Nat} {st : BS} (h : BusP w b K g vp ul st) (a n v : Int) (ha : In64 a) (hk : M3.okN n = true) (q : Nat) (hq : regK st.size ul.length a = q) (hq11 : q < 11) (i : Nat) (uv : Nat) (hF : wrF b g ul q = .func (.func 83) #[.agg #[.pointer (some ⟨uv, 0, none⟩), .pointer (some ⟨b, 4, none⟩), .int .i64 (10 + (i : Int))]] #[]) (r : Bool) (st' : BS)
    (hC : ∀ w', BusP w' b K g vp ul st → Calls Tryz.prog 83 #[.agg #[.pointer (some ⟨uv, 0, none⟩), .pointer (some ⟨b, 4, none⟩), .int .i64 (10 + (i : Int))], .int .u64 (offK ul.length q a), .int .i64 n, .int .u64 v] w' (BusEnd w' b K g vp ul (.bool r) st')) :
    Calls Tryz.prog 9 #[.pointer (some ⟨b, 0, none⟩), .int .u64 a, .int .i64 n, .int .u64 v] w (BusEnd w b K g vp ul (.bool r) st') := by
  have HFI : Hid (∀ w', BusP w' b K g vp ul st → Calls Tryz.prog 34 #[.pointer (some ⟨b, 0, none⟩), .int .u64 a, .int .i64 n] w' fun e w'' => e = .returned (.pointer (some ⟨b, 44 + q * 5, none⟩)) ∧ Below w'.heap.size w' w'') := Lib.hid fun w' h' => by
    have := find_any h' a n ha
    rw [findV_is hk hq hq11] at this
    exact this
  have hw := (offK_is hq h.le hq11 ha h.fits.2.1 h.fits.2.2.1).1
  have HC := Lib.hid hC
  have H := Lib.hid h
  have HFF := Lib.hid hF
  clear hC h hF hk hq ha
  generalize offK ul.length q a = D at *
  generalize ho : (if q = 0 then (0 : Int) else regBase ul.length q) = o at *
  have HOO := Lib.hid ho
  clear ho
  go_enter Tryz.func9, Tryz.ntmps9
  go_wp2_with fail
  (with_reducible refine (HFI.out _ H.out).mono ?_)
  rintro e w2 ⟨rfl, hb⟩
  have HP2 := Lib.hid (H.out.below hb)
  have HB2 : Hid (Only (fun i => ¬ K i = 0) w w2) := Lib.hid (Only.of_below _ hb)
  have c3 := HP2.out.wrCell hq11
  have c2 := HP2.out.orgCell hq11
  rw [HFF.out] at c3
  rw [HOO.out] at c2
  have HCE : Hid (∀ w4 r4 st4 e4, BusEnd w2.drew b K g vp ul r4 st4 e4 w4 → w4.cell? ⟨b, 44 + q * 5 + 4, none⟩ = some (.func (.func 83) #[.agg #[.pointer (some ⟨uv, 0, none⟩), .pointer (some ⟨b, 4, none⟩), .int .i64 (10 + (i : Int))]] #[]) ∧ w4.cell? ⟨b, 44 + q * 5 + 2, none⟩ = some (.int .u64 o)) := Lib.hid fun w4 r4 st4 e4 k => by
    obtain ⟨_, _, K4, _, hp4⟩ := k
    have d3 := hp4.wrCell hq11
    have d2 := hp4.orgCell hq11
    rw [HFF.out] at d3
    rw [HOO.out] at d2
    exact ⟨d3, d2⟩
  have HP3 : Hid (BusP w2.drew b K g vp ul st) := Lib.hid (HP2.out.below (Below.refl _ _).drew)
  have HB3 : Hid (Only (fun i => ¬ K i = 0) w w2.drew) := Lib.hid (HB2.out.drewN 1)
  clear hb HFI H HFF HOO hq11 HP2 HB2
  go_wp2_with fail
  go_region_held3 (fun wx => wx.cell? ⟨b, 44 + q * 5 + 4, none⟩ = some (.func (.func 83) #[.agg #[.pointer (some ⟨uv, 0, none⟩), .pointer (some ⟨b, 4, none⟩), .int .i64 (10 + (i : Int))]] #[]) ∧ wx.cell? ⟨b, 44 + q * 5 + 2, none⟩ = some (.int .u64 o)) (go_keep)
    (((with_reducible refine (HC.out _ HP3.out).mono ?_); rintro e w4 hE; obtain ⟨rfl, _⟩ := id hE; obtain ⟨e3, e2⟩ := HCE.out _ _ _ _ hE; have HE := Lib.hid hE; clear hE))
  go_wp2
  go_ret
  exact BusEnd.behind HB3.out HE.out

end Go.Proofs.YtbcnkhfpogglmaaGreatDoor

namespace Go.Proofs.YtbcnkhfpogglmaaGreatDoor
open Go.RowKit
set_option linter.unusedVariables false
set_option maxRecDepth 100000

section
variable {w : World} {b g : Nat} {K : Nat → Nat} {vp : Value} {ul : List Nat} {st : BS}
theorem busRead_no (h : BusP w b K g vp ul st) (a n : Int) (ha : In64 a) (hn : findV b st.size ul.length a n = .pointer none) :
    Calls Tryz.prog 8 #[.pointer (some ⟨b, 0, none⟩), .int .u64 a, .int .i64 n] w (BusEnd w b K g vp ul (.tuple #[.int .u64 0, .bool false]) st) := by
  have HFI := Lib.hid (find_any h a n ha)
  have HN := Lib.hid hn
  have H := Lib.hid h
  clear h hn ha
  go_enter Tryz.func8, Tryz.ntmps8
  go_wp2_with fail
  (with_reducible refine HFI.out.mono ?_)
  rintro e w2 ⟨rfl, hb⟩
  rw [HN.out]
  have HB := Lib.hid hb
  clear hb
  go_wp2
  go_ret2
  exact H.out.end_same HB.out
theorem busWrite_no (h : BusP w b K g vp ul st) (a n v : Int) (ha : In64 a) (hn : findV b st.size ul.length a n = .pointer none) :
    Calls Tryz.prog 9 #[.pointer (some ⟨b, 0, none⟩), .int .u64 a, .int .i64 n, .int .u64 v] w (BusEnd w b K g vp ul (.bool false) st) := by
  have HFI := Lib.hid (find_any h a n ha)
  have HN := Lib.hid hn
  have H := Lib.hid h
  clear h hn ha
  go_enter Tryz.func9, Tryz.ntmps9
  go_wp2_with fail
  (with_reducible refine HFI.out.mono ?_)
  rintro e w2 ⟨rfl, hb⟩
  rw [HN.out]
  have HB := Lib.hid hb
  clear hb
  go_wp2_with fail
  go_quiet (fail)
  go_wp2
  go_ret
  exact H.out.end_same (P5.below_drewN HB.out _)
theorem BusP.plicEnd (h : BusP w b K g vp ul st) {r : Value} {p' : P5.PS} {e : Ending} {w' : World} (k : P5.In.ProgEnd (frP g st.c vp (regs b g st.size ul)) w b r p' e w') : BusEnd w b K g vp ul r { st with p := p' } e w' :=
  ⟨k.1, k.2.1.mono fun i hi => .inl (by subst hi; rw [h.kb]; omega), K, Grow.refl _ _, h.setPlic k.2.1 k.2.2⟩
theorem BusP.clintEnd (h : BusP w b K g vp ul st) {r : Bool} {c' : C4.Cl} {e : Ending} {w' : World} (k : C4.In.WriteC (frC g st.p vp (regs b g st.size ul)) w b r c' e w') : BusEnd w b K g vp ul (.bool r) { st with c := c' } e w' :=
  ⟨k.1, k.2.1.mono fun i hi => .inl (by subst hi; rw [h.kb]; omega), K, Grow.refl _ _, h.setClint k.2.1 k.2.2⟩
theorem BusP.memEnd (h : BusP w b K g vp ul st) {r : Bool} {m' : Int → Int} {e : Ending} {w' : World} (k : M3.ProgEnd M3.ProgMem w g (fun i => K i = 2) 2147483648 st.size m' r e w') : BusEnd w b K g vp ul (.bool r) { st with m := m' } e w' :=
  ⟨k.1, k.2.1.mono fun i hi => .inl (by show ¬ K i = 0; have : K i = 2 := hi; omega), _, relabel_grow w K 2 w', h.setMem k⟩
theorem BusP.ramRd (h : BusP w b K g vp ul st) {q : Int × Bool} {e : Ending} {w' : World} (k : M3.ReadEnd w q e w') : BusEnd w b K g vp ul (.tuple #[.int .u64 q.1, .bool q.2]) st e w' := by
  obtain ⟨rfl, kb⟩ := k; exact h.end_same kb
theorem BusP.clRd (h : BusP w b K g vp ul st) {x : Int} {r : Bool} {e : Ending} {w' : World} (k : C4.ReadC w x r e w') : BusEnd w b K g vp ul (.tuple #[.int .u64 x, .bool r]) st e w' := by
  obtain ⟨rfl, kb⟩ := k; exact h.end_same kb
theorem rdF_port (b g : Nat) (ul : List Nat) {i : Nat} (hi : i < ul.length) : rdF b g ul (i + 3) = .func (.func 82) #[portV b ul i] #[] := by
  unfold rdF; rw [if_neg (by omega), if_neg (by omega), if_neg (by omega), if_pos (by omega), show i + 3 - 3 = i by omega]
theorem wrF_port (b g : Nat) (ul : List Nat) {i : Nat} (hi : i < ul.length) : wrF b g ul (i + 3) = .func (.func 83) #[portV b ul i] #[] := by
  unfold wrF; rw [if_neg (by omega), if_neg (by omega), if_neg (by omega), if_pos (by omega), show i + 3 - 3 = i by omega]
theorem regK_port {size : Int} {n : Nat} {a : Int} {i : Nat} (h : regK size n a = i + 3) (h11 : i + 3 < 11) : i < n := by
  unfold regK at h
  split at h; omega
  split at h; omega
  split at h; omega
  split at h <;> omega
theorem busRead_any (h : BusP w b K g vp ul st) (a n : Int) (ha : In64 a) :
    Calls Tryz.prog 8 #[.pointer (some ⟨b, 0, none⟩), .int .u64 a, .int .i64 n] w (BusEnd w b K g vp ul (.tuple #[.int .u64 (busRd st a n).1, .bool (busRd st a n).2.1]) (busRd st a n).2.2) := by
  unfold busRd
  rw [h.len]
  by_cases hf : M3.okN n = true ∧ regK st.size ul.length a < 11
  · rw [if_pos hf]
    obtain ⟨hk, hq11⟩ := hf
    have hof := (offK_is (size := st.size) (n := ul.length) (a := a) rfl h.le hq11 ha h.fits.2.1 h.fits.2.2.1).2
    generalize hq : regK st.size ul.length a = q at *
    match q with
    | 0 => exact busRead_ram h a n ha hk 0 hq (by omega) rfl _ _ _ fun w' h' => (M3.progRead_any _ n h'.mem h'.fits hof (okN_63 hk)).mono fun e w'' k => h'.ramRd k
    | 1 => exact busRead_clint h a n ha hk 1 hq (by omega) rfl _ _ _ fun w' h' => (readClint_any h' _ n hof).mono fun e w'' k => h'.clRd k
    | 2 => exact busRead_plic h a n ha hk 2 hq (by omega) rfl _ _ _ fun w' h' => (P5.In.read_any w' b st.p (h'.obj.plic h'.pok) h'.tabs.1 _ n hof).mono fun e w'' k => h'.plicEnd k
    | i + 3 =>
      have hi := regK_port hq hq11
      exact busRead_port h a n ha hk (i + 3) hq hq11 i (ul.getD i 0) (rdF_port b g ul hi) _ _ _ fun w' h' => portRead_any h' i hi _ n hof
  · rw [if_neg hf]
    exact busRead_no h a n ha (by unfold findV; rw [if_neg hf])
theorem busWrite_any (h : BusP w b K g vp ul st) (a n v : Int) (ha : In64 a) (hv : In64 v) :
    Calls Tryz.prog 9 #[.pointer (some ⟨b, 0, none⟩), .int .u64 a, .int .i64 n, .int .u64 v] w (BusEnd w b K g vp ul (.bool (busWr st a n v).1) (busWr st a n v).2) := by
  unfold busWr
  rw [h.len]
  by_cases hf : M3.okN n = true ∧ regK st.size ul.length a < 11
  · rw [if_pos hf]
    obtain ⟨hk, hq11⟩ := hf
    have hof := (offK_is (size := st.size) (n := ul.length) (a := a) rfl h.le hq11 ha h.fits.2.1 h.fits.2.2.1).2
    generalize hq : regK st.size ul.length a = q at *
    match q with
    | 0 => exact busWrite_ram h a n v ha hk 0 hq (by omega) rfl _ _ fun w' h' => (M3.progWrite_any _ n v h'.mem h'.fits hof (okN_63 hk) hv).mono fun e w'' k => h'.memEnd k
    | 1 => exact busWrite_clint h a n v ha hk 1 hq (by omega) rfl _ _ fun w' h' => (C4.In.write_any w' b st.c (h'.obj.clint h'.cok) _ n v hof hv).mono fun e w'' k => h'.clintEnd k
    | 2 => exact busWrite_plic h a n v ha hk 2 hq (by omega) rfl _ _ fun w' h' => (P5.In.write_any w' b st.p (h'.obj.plic h'.pok) h'.tabs.1 _ n v hof hv).mono fun e w'' k => h'.plicEnd k
    | i + 3 =>
      have hi := regK_port hq hq11
      exact busWrite_port h a n v ha hk (i + 3) hq hq11 i (ul.getD i 0) (wrF_port b g ul hi) _ _ fun w' h' => portWrite_any h' i hi _ n v hof hv
  · rw [if_neg hf]
    exact busWrite_no h a n v ha (by unfold findV; rw [if_neg hf])

/-! ### Level, Feed, Tick, IsRam, Ram, Out -/
def busLv (st : BS) (s : Int) (u : Bool) : Bool × BS := if isU st.us.length (s - 10) = true then (false, st) else (P5.isS s, { st with p := P5.levelP st.p s u })
def busFd (st : BS) (i x : Int) : Bool × BS := if isU st.us.length i = true then (U6.feedK (st.us.getD i.toNat U6.u0), driveS (uartS st i.toNat (U6.feedT (st.us.getD i.toNat U6.u0) x)) i.toNat) else (false, st)
def busTk (st : BS) (n : Int) : BS := { st with c := C4.tickC st.c n }
def TickE (w : World) (b : Nat) (K : Nat → Nat) (g : Nat) (vp : Value) (ul : List Nat) (st' : BS) (e : Ending) (w' : World) : Prop := ∃ u, BusEnd w b K g vp ul u st' e w'
theorem busTick_any (h : BusP w b K g vp ul st) (n : Int) (hn : In64 n) :
    Calls Tryz.prog 11 #[.pointer (some ⟨b, 0, none⟩), .int .u64 n] w (TickE w b K g vp ul (busTk st n)) := by
  have HT := Lib.hid (C4.In.tick_any w b st.c (h.obj.clint h.cok) n hn)
  have H := Lib.hid h
  clear h hn
  go_enter Tryz.func11, Tryz.ntmps11
  go_wp2_with fail
  (with_reducible refine HT.out.mono ?_)
  rintro e w2 ⟨⟨v, rfl⟩, ho, hp⟩
  have HE : Hid (BusEnd w b K g vp ul (.tuple #[]) (busTk st n) (.returned (.tuple #[])) w2) := Lib.hid ⟨rfl, ho.mono fun i hi => .inl (by subst hi; rw [H.out.kb]; omega), K, Grow.refl _ _, H.out.setClint ho hp⟩
  clear ho hp
  go_wp2
  go_end0
  exact ⟨_, HE.out⟩
theorem busRam_any (h : BusP w b K g vp ul st) : Calls Tryz.prog 16 #[.pointer (some ⟨b, 0, none⟩)] w fun e w' => e = .returned (.pointer (some ⟨g, 0, none⟩)) ∧ w = w' := by
  have c0 := h.obj.ram_
  clear h
  go_enter Tryz.func16, Tryz.ntmps16
  go_wp2
  go_ret
  exact ⟨rfl, rfl⟩
def IsRamE (w : World) (r : Bool) (e : Ending) (w' : World) : Prop := e = .returned (.bool r) ∧ Below w.heap.size w w'
theorem busIsRam_any (h : BusP w b K g vp ul st) (a n : Int) (ha : In64 a) : Calls Tryz.prog 10 #[.pointer (some ⟨b, 0, none⟩), .int .u64 a, .int .i64 n] w (IsRamE w (M3.okN n && M3.hasZ 2147483648 st.size a n)) := by
  cases hk : M3.okN n with
  | false =>
    have HK := Lib.hid hk
    clear hk h ha
    go_enter Tryz.func10, Tryz.ntmps10
    go_wp2_with (go_at_call 35; refine (busLen_any _ _).mono ?_; rintro e w' ⟨rfl, rfl⟩; rw [HK.out])
    go_ret
    exact ⟨rfl, Below.refl _ _⟩
  | true =>
    have HK := Lib.hid hk
    have HR := Lib.hid (busRam_any h)
    have HH := Lib.hid (M3.progHas_any a n h.mem h.fits ha (okN_63 hk))
    clear hk h ha
    rw [Bool.true_and]
    generalize M3.hasZ 2147483648 st.size a n = r at *
    go_enter Tryz.func10, Tryz.ntmps10
    go_wp2_with (first
      | (go_at_call 35; refine (busLen_any _ _).mono ?_; rintro e w' ⟨rfl, rfl⟩; rw [HK.out])
      | (go_at_call 16; (with_reducible refine HR.out.mono ?_); rintro e w' ⟨rfl, rfl⟩)
      | (go_at_call 36; (with_reducible refine HH.out.mono ?_); rintro e w' ⟨rfl, hw⟩; have HW := Lib.hid hw; clear hw))
    go_ret
    have hw := HW.out
    exact ⟨rfl, by first | (obtain ⟨k, rfl⟩ := hw; exact P5.below_drewN (Below.refl _ _) _) | (subst hw; exact Below.refl _ _)⟩
end

end Go.Proofs.YtbcnkhfpogglmaaGreatDoor

namespace Go.Proofs.YtbcnkhfpogglmaaGreatDoor
open Go.RowKit
set_option linter.unusedVariables false
set_option maxRecDepth 100000

theorem isU_nat {n : Nat} {i : Int} (h : isU n i = true) : ∃ k : Nat, i = (k : Int) ∧ k < n := by
  unfold isU at h; rw [decide_eq_true_eq] at h
  exact ⟨i.toNat, by omega, by omega⟩
/-- The cells of a port in its row. -/
theorem PortsAt.cells {w : World} {b : Nat} {K : Nat → Nat} {vp : Value} {ul : List Nat} (h : PortsAt w b K vp ul) {k : Nat} (hk : k < ul.length) :
    ∃ gp cap, vp = .slice (some ⟨gp, 0, none⟩) ul.length cap ∧ ul.length ≤ cap ∧ w.cell? ⟨gp, k * 3, none⟩ = some (.pointer (some ⟨ul.getD k 0, 0, none⟩)) ∧ w.cell? ⟨gp, k * 3 + 1, none⟩ = some (.pointer (some ⟨b, 4, none⟩)) ∧ w.cell? ⟨gp, k * 3 + 2, none⟩ = some (.int .i64 (10 + (k : Int))) := by
  rcases h with ⟨rfl, _⟩ | ⟨gp, cap, h1, h2, h3, h4, h5⟩
  · simp at hk
  · exact ⟨gp, cap, h1, h2, h5.cell (portCells_get b ul hk (j := 0) (by omega)), h5.cell (portCells_get b ul hk (j := 1) (by omega)), h5.cell (portCells_get b ul hk (j := 2) (by omega))⟩
section
variable {w : World} {b g : Nat} {K : Nat → Nat} {vp : Value} {ul : List Nat} {st : BS}
theorem busFeed_any (h : BusP w b K g vp ul st) (i x : Int) (hx : 0 ≤ x ∧ x < 256) :
    Calls Tryz.prog 13 #[.pointer (some ⟨b, 0, none⟩), .int .i64 i, .int .u8 x] w (BusEnd w b K g vp ul (.bool (busFd st i x).1) (busFd st i x).2) := by
  unfold busFd
  rw [h.len]
  have HH := Lib.hid (hasUart_any h i)
  cases hc : isU ul.length i with
  | false =>
    rw [if_neg (by simp)]
    have HU := Lib.hid hc
    have H := Lib.hid h
    clear hc h hx
    go_enter Tryz.func13, Tryz.ntmps13
    go_wp2_with fail
    (with_reducible refine HH.out.mono ?_)
    rintro e w2 ⟨rfl, rfl⟩
    rw [HU.out]
    go_wp2
    go_ret
    exact H.out.end_same (Below.refl _ _)
  | true =>
    rw [if_pos rfl]
    have HU := Lib.hid hc
    obtain ⟨k, rfl, hk⟩ := isU_nat hc
    obtain ⟨gp, cap, rfl, hcap, c0, c1, c2⟩ := h.ports.cells hk
    have HF := Lib.hid (portFeed_any h k hk x hx)
    unfold portV at HF
    have cp := h.obj.ports_
    have hle := h.le
    rw [show ((k : Int)).toNat = k from rfl]
    generalize U6.feedK (st.us.getD k U6.u0) = r at *
    generalize driveS (uartS st k (U6.feedT (st.us.getD k U6.u0) x)) k = st2 at *
    generalize ul.getD k 0 = uv at *
    generalize hn : ul.length = n at *
    clear hc h hx hn
    go_enter Tryz.func13, Tryz.ntmps13
    go_wp2_with fail
    (with_reducible refine HH.out.mono ?_)
    rintro e w2 ⟨rfl, rfl⟩
    rw [HU.out]
    go_wp2_with fail
    (with_reducible refine HF.out.mono ?_)
    rintro e w2 hE
    obtain ⟨rfl, _⟩ := id hE
    have HE := Lib.hid hE
    clear hE
    go_wp2
    go_ret
    exact HE.out
/-- What Out tells: the bytes, in a row of their own. -/
def OutE (w : World) (xs : List Int) (e : Ending) (w' : World) : Prop := ∃ a c, e = .returned (.slice a xs.length c) ∧ Below w.heap.size w w' ∧ U6.RowB w' (.slice a xs.length c) xs
def busOt (us : List U6.US) (i : Int) : List Int := if isU us.length i = true then (us.getD i.toNat U6.u0).out else []
theorem busOut_any (h : BusP w b K g vp ul st) (i : Int) :
    Calls Tryz.prog 17 #[.pointer (some ⟨b, 0, none⟩), .int .i64 i] w (OutE w (busOt st.us i)) := by
  unfold busOt
  rw [h.len]
  have HH := Lib.hid (hasUart_any h i)
  cases hc : isU ul.length i with
  | false =>
    rw [if_neg (by simp)]
    have HU := Lib.hid hc
    clear hc h
    go_enter Tryz.func17, Tryz.ntmps17
    go_wp2_with fail
    (with_reducible refine HH.out.mono ?_)
    rintro e w2 ⟨rfl, rfl⟩
    rw [HU.out]
    go_wp2
    go_ret
    exact ⟨none, 0, rfl, Below.refl _ _, U6.RowB.nil _⟩
  | true =>
    rw [if_pos rfl]
    have HU := Lib.hid hc
    obtain ⟨k, rfl, hk⟩ := isU_nat hc
    obtain ⟨gp, cap, rfl, hcap, c0, c1, c2⟩ := h.ports.cells hk
    have HF := Lib.hid (U6.out_any w _ _ _ (h.uart k hk))
    have cp := h.obj.ports_
    have hle := h.le
    rw [show ((k : Int)).toNat = k from rfl]
    generalize (st.us.getD k U6.u0).out = xs at *
    generalize ul.getD k 0 = uv at *
    generalize hn : ul.length = n at *
    clear hc h hn c1 c2
    go_enter Tryz.func17, Tryz.ntmps17
    go_wp2_with fail
    (with_reducible refine HH.out.mono ?_)
    rintro e w2 ⟨rfl, rfl⟩
    rw [HU.out]
    go_wp2_with fail
    (with_reducible refine HF.out.mono ?_)
    rintro e w2 ⟨a2, c2, rfl, hb, hr, _⟩
    have HE : Hid (OutE w xs (.returned (.slice a2 xs.length c2)) w2) := Lib.hid ⟨_, _, rfl, hb, hr⟩
    clear hb hr
    go_wp2
    go_ret
    exact HE.out
end

end Go.Proofs.YtbcnkhfpogglmaaGreatDoor

namespace Go.Proofs.YtbcnkhfpogglmaaGreatDoor
open Go.RowKit
set_option linter.unusedVariables false
set_option maxRecDepth 100000

/-- The cells of a region that is none. -/
def zeroCell : Nat → Value
  | 0 => .int .u64 0
  | 1 => .int .u64 0
  | 2 => .int .u64 0
  | _ => Value.nilFunc
/-- The regions, the first k of them laid. -/
def regsTo (b g : Nat) (size : Int) (ul : List Nat) (k : Nat) : Array Value := varr 55 fun i => if i / 5 < k then regCell b g size ul (i / 5) (i % 5) else zeroCell (i % 5)
theorem regsTo_all (b g : Nat) (size : Int) (ul : List Nat) : regsTo b g size ul (3 + ul.length) = regs b g size ul := by
  unfold regsTo regs
  refine varr_congr fun i hi => ?_
  by_cases c : i / 5 < 3 + ul.length
  · rw [if_pos c]
  · rw [if_neg c]
    have h0 : ¬ i / 5 = 0 := by omega
    have h1 : ¬ i / 5 = 1 := by omega
    have h2 : ¬ i / 5 = 2 := by omega
    have hm : i % 5 = 0 ∨ i % 5 = 1 ∨ i % 5 = 2 ∨ i % 5 = 3 ∨ i % 5 = 4 := by omega
    rcases hm with hm | hm | hm | hm | hm <;> rw [hm] <;> simp [zeroCell, regCell, regBase, regSize, rdF, wrF, h0, h1, h2, c]
theorem regsTo_next (b g : Nat) (size : Int) (ul : List Nat) (k : Nat) (v0 v1 v2 v3 v4 : Value) (h0 : v0 = regCell b g size ul k 0) (h1 : v1 = regCell b g size ul k 1) (h2 : v2 = regCell b g size ul k 2) (h3 : v3 = regCell b g size ul k 3) (h4 : v4 = regCell b g size ul k 4) :
    (((((regsTo b g size ul k).setIfInBounds (k * 5) v0).setIfInBounds (k * 5 + 1) v1).setIfInBounds (k * 5 + 2) v2).setIfInBounds (k * 5 + 3) v3).setIfInBounds (k * 5 + 4) v4 = regsTo b g size ul (k + 1) := by
  subst h0 h1 h2 h3 h4
  unfold regsTo
  rw [varr_set, varr_set, varr_set, varr_set, varr_set]
  refine varr_congr fun i hi => ?_
  by_cases c4 : i = k * 5 + 4
  · subst c4
    rw [if_pos rfl, if_pos (by omega), show (k * 5 + 4) / 5 = k by omega, show (k * 5 + 4) % 5 = 4 by omega]
  rw [if_neg c4]
  by_cases c3 : i = k * 5 + 3
  · subst c3
    rw [if_pos rfl, if_pos (by omega), show (k * 5 + 3) / 5 = k by omega, show (k * 5 + 3) % 5 = 3 by omega]
  rw [if_neg c3]
  by_cases c2 : i = k * 5 + 2
  · subst c2
    rw [if_pos rfl, if_pos (by omega), show (k * 5 + 2) / 5 = k by omega, show (k * 5 + 2) % 5 = 2 by omega]
  rw [if_neg c2]
  by_cases c1 : i = k * 5 + 1
  · subst c1
    rw [if_pos rfl, if_pos (by omega), show (k * 5 + 1) / 5 = k by omega, show (k * 5 + 1) % 5 = 1 by omega]
  rw [if_neg c1]
  by_cases c0 : i = k * 5
  · subst c0
    rw [if_pos rfl, if_pos (by omega), show (k * 5) / 5 = k by omega, show (k * 5) % 5 = 0 by omega]
  rw [if_neg c0]
  by_cases c : i / 5 < k
  · rw [if_pos c, if_pos (by omega)]
  · rw [if_neg c, if_neg (by omega)]
section
variable {w : World} {b g : Nat} {c : C4.Cl} {p : P5.PS} {vp : Value} {size : Int} {ul : List Nat}
theorem BusAt.there {k : Nat} (h : BusAt w b g c p vp (regsTo b g size ul k)) {q a : Nat} (hq : q < 11) (ha : a = 44 + q * 5) : w.there b a 5 := by
  intro j hj
  refine ⟨?_, h.free _⟩
  subst ha
  rw [Nat.add_assoc, h.reg_ (i := q * 5 + j) rfl (v := if (q * 5 + j) / 5 < k then regCell b g size ul ((q * 5 + j) / 5) ((q * 5 + j) % 5) else zeroCell ((q * 5 + j) % 5)) (by unfold regsTo; rw [varr_get _ _ _ (by omega)])]
  rfl
/-- A region laid. -/
theorem BusAt.layReg {k : Nat} (h : BusAt w b g c p vp (regsTo b g size ul k)) (a : Nat) (ha : a = 44 + k * 5) (v0 v1 v2 v3 v4 : Value) (h0 : v0 = regCell b g size ul k 0) (h1 : v1 = regCell b g size ul k 1) (h2 : v2 = regCell b g size ul k 2) (h3 : v3 = regCell b g size ul k 3) (h4 : v4 = regCell b g size ul k 4) :
    BusAt (w.setCells b a [v0, v1, v2, v3, v4]) b g c p vp (regsTo b g size ul (k + 1)) := by
  have k0 := h.setReg (k * 5) a ha v0
  have k1 := k0.setReg (k * 5 + 1) (a + 1) (by omega) v1
  have k2 := k1.setReg (k * 5 + 2) (a + 1 + 1) (by omega) v2
  have k3 := k2.setReg (k * 5 + 3) (a + 1 + 1 + 1) (by omega) v3
  have k4 := k3.setReg (k * 5 + 4) (a + 1 + 1 + 1 + 1) (by omega) v4
  rw [regsTo_next b g size ul k v0 v1 v2 v3 v4 h0 h1 h2 h3 h4] at k4
  exact k4
theorem only_setCells {T : Nat → Prop} {w0 w : World} (h : Only T w0 w) {b : Nat} (hb : T b) : ∀ (vs : List Value) (o : Nat) (w : World), Only T w0 w → Only T w0 (w.setCells b o vs)
  | [], _, _, h => h
  | v :: r, o, w, h => by
    rw [World.setCells]; exact only_setCells h hb r (o + 1) _ (h.setCell (p := ⟨b, o, none⟩) (.inl hb) v)
end
theorem info_region : (Tryz.prog.info? 73).map (·.size) = some 5 := by kernel_rfl
def LayE (w : World) (b g : Nat) (c : C4.Cl) (p : P5.PS) (vp : Value) (R : Array Value) (e : Ending) (w' : World) : Prop := (∃ v, e = .returned v) ∧ Only (fun i => i = b) w w' ∧ BusAt w' b g c p vp R
set_option maxHeartbeats 2000000 in
theorem lay_any {w : World} {b g : Nat} {c : C4.Cl} {p : P5.PS} {vp : Value} {size : Int} {m : Int → Int} {S : Nat → Prop} {ul : List Nat} {K : Nat → Nat} (h : BusAt w b g c p vp (regsTo b g size ul 0)) (hm : M3.ProgMem w g S 2147483648 size m) (hS : ¬ S b) (hp : PortsAt w b K vp ul) (hle : ul.length ≤ 8) :
    Calls Tryz.prog 33 #[.pointer (some ⟨b, 0, none⟩)] w (LayE w b g c p vp (regs b g size ul)) := by
  have hmf : ∀ (fn : Fn) (first cap : Array Value) (w : World), (Instr.makeFunc fn first cap).run Tryz.prog w = .ok (.func fn first cap) w := fun _ _ _ _ => rfl
  have HB : Hid (∀ w', M3.ProgMem w' g S 2147483648 size m → Calls Tryz.prog 76 #[.pointer (some ⟨g, 0, none⟩)] w' fun e w'' => e = .returned (.int .u64 2147483648) ∧ w'' = w') := Lib.hid fun w' h' => (M3.progBase_any h').mono fun _ _ k => ⟨k.1, k.2.symm⟩
  have HZ : Hid (∀ w', M3.ProgMem w' g S 2147483648 size m → Calls Tryz.prog 77 #[.pointer (some ⟨g, 0, none⟩)] w' fun e w'' => e = .returned (.int .u64 size) ∧ w'' = w') := Lib.hid fun w' h' => (M3.progSize_any h').mono fun _ _ k => ⟨k.1, k.2.symm⟩
  have HM := Lib.hid hm
  have H := Lib.hid h
  have HP := Lib.hid hp
  have HS := Lib.hid hS
  have c0 := h.ram_
  have HMD : Hid (M3.ProgMem w.drew g S 2147483648 size m) := Lib.hid (hm.keeps ((Only.refl (fun _ => False) w).drewN 1) fun _ _ => id)
  have HCE : Hid (∀ wx, Only (fun i => i = b) w wx → ∀ k, k < ul.length → ∀ a n c, vp = .slice a n c → ∃ gp, a = some ⟨gp, 0, none⟩ ∧ wx.cell? ⟨gp, k * 3, none⟩ = some (.pointer (some ⟨ul.getD k 0, 0, none⟩)) ∧ wx.cell? ⟨gp, k * 3 + 1, none⟩ = some (.pointer (some ⟨b, 4, none⟩)) ∧ wx.cell? ⟨gp, k * 3 + 2, none⟩ = some (.int .i64 (10 + (k : Int)))) := Lib.hid fun wx hx k hk a n c e => by
    obtain ⟨gp, cap, h1, h2, h3, h4, h5⟩ := (hp.keeps hx (fun i hi => .inr hi) (fun _ _ => rfl)).cells hk
    rw [h1] at e; injection e with e1 e2 e3
    exact ⟨gp, e1.symm, h3, h4, h5⟩
  obtain ⟨av, cv, hvp, hcap⟩ := hp.len
  generalize hn : ul.length = n at *
  have HN := Lib.hid hn
  have HVP := Lib.hid hvp
  clear hn hvp h hm hp hS
  go_enter Tryz.func33, Tryz.ntmps33
  go_wp2_with fail
  go_still_tail 25, (by kernel_rfl)
  still_call (HB.out _ HMD.out)
  repeat still_step
  still_call (HZ.out _ HMD.out)
  repeat still_step
  refine wpStill_nil ?_
  change wpList _ _ _ _ _ w.drew
  have H0 : Hid (BusAt w.drew b g c p vp (regsTo b g size ul 0)) := Lib.hid H.out
  have O0 : Hid (Only (fun i => i = b) w w.drew) := Lib.hid ((Only.refl _ w).drewN 1)
  refine wpList_store_mid rfl 73 (.tmp 29) (.tmp 26) rfl b 44 #[.int .u64 2147483648, .int .u64 size, .int .u64 0, .func (.func 25) #[.pointer (some ⟨g, 0, none⟩)] #[], .func (.func 26) #[.pointer (some ⟨g, 0, none⟩)] #[]] rfl rfl (H0.out.there (q := 0) (by omega) rfl) info_region (by simp [Value.oneCell']) ?_
  have H1 : Hid (BusAt (w.drew.setCells b 44 [.int .u64 2147483648, .int .u64 size, .int .u64 0, .func (.func 25) #[.pointer (some ⟨g, 0, none⟩)] #[], .func (.func 26) #[.pointer (some ⟨g, 0, none⟩)] #[]]) b g c p vp (regsTo b g size ul 1)) := Lib.hid (H0.out.layReg 44 rfl _ _ _ _ _ rfl rfl rfl rfl rfl)
  have O1 : Hid (Only (fun i => i = b) w (w.drew.setCells b 44 [.int .u64 2147483648, .int .u64 size, .int .u64 0, .func (.func 25) #[.pointer (some ⟨g, 0, none⟩)] #[], .func (.func 26) #[.pointer (some ⟨g, 0, none⟩)] #[]])) := Lib.hid (only_setCells O0.out (b := b) rfl _ _ _ O0.out)
  show wpList _ _ _ _ _ (w.drew.setCells b 44 [.int .u64 2147483648, .int .u64 size, .int .u64 0, .func (.func 25) #[.pointer (some ⟨g, 0, none⟩)] #[], .func (.func 26) #[.pointer (some ⟨g, 0, none⟩)] #[]])
  clear H0 O0
  generalize w.drew.setCells b 44 [.int .u64 2147483648, .int .u64 size, .int .u64 0, .func (.func 25) #[.pointer (some ⟨g, 0, none⟩)] #[], .func (.func 26) #[.pointer (some ⟨g, 0, none⟩)] #[]] = w1 at *
  go_wp2_with fail
  go_still_tail 11, (by kernel_rfl)
  change wpList _ _ _ _ _ w1.drew
  have H1d : Hid (BusAt w1.drew b g c p vp (regsTo b g size ul 1)) := Lib.hid H1.out
  have O1d : Hid (Only (fun i => i = b) w w1.drew) := Lib.hid (O1.out.drewN 1)
  clear H1 O1
  generalize w1.drew = w1d at *
  refine wpList_store_mid rfl 73 (.tmp 40) (.tmp 37) rfl b 49 #[.int .u64 33554432, .int .u64 65536, .int .u64 33554432, .func (.func 78) #[.pointer (some ⟨b, 0, none⟩)] #[], .func (.func 79) #[.pointer (some ⟨b, 1, none⟩)] #[]] rfl rfl (H1d.out.there (q := 1) (by omega) rfl) info_region (by simp [Value.oneCell']) ?_
  have H2 : Hid (BusAt (w1d.setCells b 49 [.int .u64 33554432, .int .u64 65536, .int .u64 33554432, .func (.func 78) #[.pointer (some ⟨b, 0, none⟩)] #[], .func (.func 79) #[.pointer (some ⟨b, 1, none⟩)] #[]]) b g c p vp (regsTo b g size ul 2)) := Lib.hid (H1d.out.layReg 49 rfl _ _ _ _ _ rfl rfl rfl rfl rfl)
  have O2 : Hid (Only (fun i => i = b) w (w1d.setCells b 49 [.int .u64 33554432, .int .u64 65536, .int .u64 33554432, .func (.func 78) #[.pointer (some ⟨b, 0, none⟩)] #[], .func (.func 79) #[.pointer (some ⟨b, 1, none⟩)] #[]])) := Lib.hid (only_setCells O1d.out (b := b) rfl _ _ _ O1d.out)
  show wpList _ _ _ _ _ (w1d.setCells b 49 [.int .u64 33554432, .int .u64 65536, .int .u64 33554432, .func (.func 78) #[.pointer (some ⟨b, 0, none⟩)] #[], .func (.func 79) #[.pointer (some ⟨b, 1, none⟩)] #[]])
  clear H1d O1d
  generalize w1d.setCells b 49 [.int .u64 33554432, .int .u64 65536, .int .u64 33554432, .func (.func 78) #[.pointer (some ⟨b, 0, none⟩)] #[], .func (.func 79) #[.pointer (some ⟨b, 1, none⟩)] #[]] = w2 at *
  go_wp2_with fail
  go_still_tail 13, (by kernel_rfl)
  change wpList _ _ _ _ _ w2.drew
  have H2d : Hid (BusAt w2.drew b g c p vp (regsTo b g size ul 2)) := Lib.hid H2.out
  have O2d : Hid (Only (fun i => i = b) w w2.drew) := Lib.hid (O2.out.drewN 1)
  clear H2 O2
  generalize w2.drew = w2d at *
  refine wpList_store_mid rfl 73 (.tmp 53) (.tmp 50) rfl b 54 #[.int .u64 201326592, .int .u64 4194304, .int .u64 201326592, .func (.func 80) #[.pointer (some ⟨b, 4, none⟩)] #[], .func (.func 81) #[.pointer (some ⟨b, 4, none⟩)] #[]] rfl rfl (H2d.out.there (q := 2) (by omega) rfl) info_region (by simp [Value.oneCell']) ?_
  have H3 : Hid (BusAt (w2d.setCells b 54 [.int .u64 201326592, .int .u64 4194304, .int .u64 201326592, .func (.func 80) #[.pointer (some ⟨b, 4, none⟩)] #[], .func (.func 81) #[.pointer (some ⟨b, 4, none⟩)] #[]]) b g c p vp (regsTo b g size ul 3)) := Lib.hid (H2d.out.layReg 54 rfl _ _ _ _ _ rfl rfl rfl rfl rfl)
  have O3 : Hid (Only (fun i => i = b) w (w2d.setCells b 54 [.int .u64 201326592, .int .u64 4194304, .int .u64 201326592, .func (.func 80) #[.pointer (some ⟨b, 4, none⟩)] #[], .func (.func 81) #[.pointer (some ⟨b, 4, none⟩)] #[]])) := Lib.hid (only_setCells O2d.out (b := b) rfl _ _ _ O2d.out)
  show wpList _ _ _ _ _ (w2d.setCells b 54 [.int .u64 201326592, .int .u64 4194304, .int .u64 201326592, .func (.func 80) #[.pointer (some ⟨b, 4, none⟩)] #[], .func (.func 81) #[.pointer (some ⟨b, 4, none⟩)] #[]])
  clear H2d O2d
  generalize w2d.setCells b 54 [.int .u64 201326592, .int .u64 4194304, .int .u64 201326592, .func (.func 80) #[.pointer (some ⟨b, 4, none⟩)] #[], .func (.func 81) #[.pointer (some ⟨b, 4, none⟩)] #[]] = w3 at *
  have c43 := H3.out.ports_
  rw [HVP.out] at c43
  go_wp2
  go_loopw [59] (fun i wr => ∃ k : Nat, k ≤ n ∧ i = .int .i64 k ∧ Hid (BusAt wr b g c p vp (regsTo b g size ul (3 + k))) ∧ Hid (Only (fun i => i = b) w wr)) (fun i wr => (n - (intOf i).toNat))
  case atStart => exact ⟨0, by omega, rfl, H3, O3⟩
  case round =>
    obtain ⟨k, hk, rfl, HA, HO⟩ := hrel
    by_cases hlt : k < n
    · obtain ⟨gp, rfl, e0, e1, e2⟩ := HCE.out wr HO.out k hlt _ _ _ HVP.out
      have hkk : (k : Int) < n := by omega
      have hsum : IntKind.i64.wrap (3 + (k : Int)) = 3 + (k : Int) := IntWalk.i64_in _ (by omega)
      have hs0 : 0 ≤ 3 + (k : Int) := by omega
      have hs1 : 3 + (k : Int) < 11 := by omega
      have hs2 : (3 + (k : Int)).toNat = 3 + k := by omega
      have hrb : (Value.int .u64 (268435456 + (k : Int) * 4096)) = regCell b g size ul (3 + k) 0 := by
        show _ = Value.int .u64 (regBase ul.length (3 + k))
        rw [HN.out]; unfold regBase
        rw [if_neg (by omega), if_neg (by omega), if_neg (by omega), if_pos (by omega)]
        congr 1; omega
      have hrz : (Value.int .u64 8) = regCell b g size ul (3 + k) 1 := by
        show _ = Value.int .u64 (regSize size ul.length (3 + k))
        rw [HN.out]; unfold regSize
        rw [if_neg (by omega), if_neg (by omega), if_neg (by omega), if_pos (by omega)]
      have hro : (Value.int .u64 (268435456 + (k : Int) * 4096)) = regCell b g size ul (3 + k) 2 := by
        rw [hrb]; show Value.int .u64 (regBase ul.length (3 + k)) = Value.int .u64 (if 3 + k = 0 then 0 else regBase ul.length (3 + k))
        rw [if_neg (by omega)]
      have hrr : Value.func (.func 82) #[portV b ul k] #[] = regCell b g size ul (3 + k) 3 := by
        rw [Nat.add_comm 3 k]; exact (rdF_port b g ul (by rw [HN.out]; exact hlt)).symm
      have hrw : Value.func (.func 83) #[portV b ul k] #[] = regCell b g size ul (3 + k) 4 := by
        rw [Nat.add_comm 3 k]; exact (wrF_port b g ul (by rw [HN.out]; exact hlt)).symm
      have HRB := Lib.hid hrb
      have HRZ := Lib.hid hrz
      have HRO := Lib.hid hro
      have HRR := Lib.hid hrr
      have HRW := Lib.hid hrw
      clear hrb hrz hro hrr hrw
      unfold portV at HRR HRW
      generalize ul.getD k 0 = uv at *
      have D : (wr.alloc (.cells #[.pointer (some ⟨uv, 0, none⟩), .pointer (some ⟨b, 4, none⟩), .int .i64 (10 + (k : Int))] 86)).heap[wr.heap.size]? = some (.cells #[.pointer (some ⟨uv, 0, none⟩), .pointer (some ⟨b, 4, none⟩), .int .i64 (10 + (k : Int))] 86 (0, 0)) := heap_alloc_new wr _
      have HAA : Hid (BusAt (wr.alloc (.cells #[.pointer (some ⟨uv, 0, none⟩), .pointer (some ⟨b, 4, none⟩), .int .i64 (10 + (k : Int))] 86)) b g c p vp (regsTo b g size ul (3 + k))) := Lib.hid (HA.out.below ((Below.refl _ _).alloc (Nat.le_refl _) _))
      have HOA : Hid (Only (fun i => i = b) w (wr.alloc (.cells #[.pointer (some ⟨uv, 0, none⟩), .pointer (some ⟨b, 4, none⟩), .int .i64 (10 + (k : Int))] 86))) := Lib.hid (HO.out.alloc _)
      clear HA HO
      go_wp2_with fail
      generalize wr.alloc (.cells #[.pointer (some ⟨uv, 0, none⟩), .pointer (some ⟨b, 4, none⟩), .int .i64 (10 + (k : Int))] 86) = wa at *
      generalize wr.heap.size = x at *
      have d0 : wa.cell? ⟨x, 0, none⟩ = some (.pointer (some ⟨uv, 0, none⟩)) := by rw [cell_of_row wa x _ _ _ _ D]; rfl
      have d1 : wa.cell? ⟨x, 1, none⟩ = some (.pointer (some ⟨b, 4, none⟩)) := by rw [cell_of_row wa x _ _ _ _ D]; rfl
      have d2 : wa.cell? ⟨x, 2, none⟩ = some (.int .i64 (10 + (k : Int))) := by rw [cell_of_row wa x _ _ _ _ D]; rfl
      clear D e0 e1 e2
      go_still_tail 13, (by kernel_rfl)
      change wpList _ _ _ _ _ wa.drew
      have HAD : Hid (BusAt wa.drew b g c p vp (regsTo b g size ul (3 + k))) := Lib.hid HAA.out
      have HOD : Hid (Only (fun i => i = b) w wa.drew) := Lib.hid (HOA.out.drewN 1)
      clear HAA HOA d0 d1 d2
      generalize wa.drew = wd at *
      refine wpList_store_mid rfl 73 (.tmp 80) (.tmp 77) rfl b (44 + (3 + k) * 5) #[.int .u64 (268435456 + (k : Int) * 4096), .int .u64 8, .int .u64 (268435456 + (k : Int) * 4096), .func (.func 82) #[.agg #[.pointer (some ⟨uv, 0, none⟩), .pointer (some ⟨b, 4, none⟩), .int .i64 (10 + (k : Int))]] #[], .func (.func 83) #[.agg #[.pointer (some ⟨uv, 0, none⟩), .pointer (some ⟨b, 4, none⟩), .int .i64 (10 + (k : Int))]] #[]] rfl rfl (HAD.out.there (q := 3 + k) (by omega) rfl) info_region (by simp [Value.oneCell']) ?_
      have HN1 : Hid (BusAt (wd.setCells b (44 + (3 + k) * 5) [.int .u64 (268435456 + (k : Int) * 4096), .int .u64 8, .int .u64 (268435456 + (k : Int) * 4096), .func (.func 82) #[.agg #[.pointer (some ⟨uv, 0, none⟩), .pointer (some ⟨b, 4, none⟩), .int .i64 (10 + (k : Int))]] #[], .func (.func 83) #[.agg #[.pointer (some ⟨uv, 0, none⟩), .pointer (some ⟨b, 4, none⟩), .int .i64 (10 + (k : Int))]] #[]]) b g c p vp (regsTo b g size ul (3 + (k + 1)))) := Lib.hid (HAD.out.layReg (k := 3 + k) _ rfl _ _ _ _ _ HRB.out HRZ.out HRO.out HRR.out HRW.out)
      have HO1 : Hid (Only (fun i => i = b) w (wd.setCells b (44 + (3 + k) * 5) [.int .u64 (268435456 + (k : Int) * 4096), .int .u64 8, .int .u64 (268435456 + (k : Int) * 4096), .func (.func 82) #[.agg #[.pointer (some ⟨uv, 0, none⟩), .pointer (some ⟨b, 4, none⟩), .int .i64 (10 + (k : Int))]] #[], .func (.func 83) #[.agg #[.pointer (some ⟨uv, 0, none⟩), .pointer (some ⟨b, 4, none⟩), .int .i64 (10 + (k : Int))]] #[]])) := Lib.hid (only_setCells HOD.out (b := b) rfl _ _ _ HOD.out)
      show wpList _ _ _ _ _ (wd.setCells b (44 + (3 + k) * 5) [.int .u64 (268435456 + (k : Int) * 4096), .int .u64 8, .int .u64 (268435456 + (k : Int) * 4096), .func (.func 82) #[.agg #[.pointer (some ⟨uv, 0, none⟩), .pointer (some ⟨b, 4, none⟩), .int .i64 (10 + (k : Int))]] #[], .func (.func 83) #[.agg #[.pointer (some ⟨uv, 0, none⟩), .pointer (some ⟨b, 4, none⟩), .int .i64 (10 + (k : Int))]] #[]])
      clear HAD HOD HRB HRZ HRO HRR HRW hsum hs0 hs1 hs2
      generalize wd.setCells b (44 + (3 + k) * 5) _ = we at *
      go_wp2
      go_roundw
      case rel => exact ⟨k + 1, by omega, by go_num, HN1, HO1⟩
      case measure => simp [intOf]; omega
    · obtain rfl : k = n := by omega
      have HE : Hid (BusAt wr b g c p vp (regs b g size ul)) := Lib.hid (by have := HA.out; rw [← HN.out, regsTo_all] at this; exact this)
      clear hlt hk
      go_wp2
      go_end0
      exact ⟨⟨_, rfl⟩, HO.out, HE.out⟩

end Go.Proofs.YtbcnkhfpogglmaaGreatDoor

namespace Go.Proofs.YtbcnkhfpogglmaaGreatDoor
open Go.RowKit
set_option linter.unusedVariables false
set_option maxRecDepth 100000

theorem portCells_snoc (b : Nat) (ul : List Nat) (u : Nat) : portCells b (ul ++ [u]) = portCells b ul ++ [.pointer (some ⟨u, 0, none⟩), .pointer (some ⟨b, 4, none⟩), .int .i64 (10 + (ul.length : Int))] := by
  unfold portCells
  rw [List.length_append, List.length_singleton, List.range_succ, List.flatMap_append]
  congr 1
  · rw [List.flatMap_def, List.flatMap_def]
    congr 1
    refine List.map_congr_left fun i hi => ?_
    have hi := List.mem_range.1 hi
    have e : (ul ++ [u]).getD i 0 = ul.getD i 0 := by rw [List.getD_eq_getElem?_getD, List.getD_eq_getElem?_getD, List.getElem?_append_left hi]
    rw [e]
  · have e : (ul ++ [u]).getD ul.length 0 = u := by rw [List.getD_eq_getElem?_getD, List.getElem?_append_right (Nat.le_refl _)]; simp
    simp [e]
open Classical in
/-- The labels behind plug. -/
noncomputable def plugK (K : Nat → Nat) (F : Nat → Prop) (n : Nat) (vp : Value) : Nat → Nat := fun i => if F i then 3 + n else if vp.ownBlock = some i then 1 else K i
theorem BusQ.plug {w w' : World} {b g : Nat} {K : Nat → Nat} {vp vp' : Value} {ul : List Nat} {st : BS} {R : Array Value} (h : BusQ w b K g vp ul st R) {u : Nat} {F : Nat → Prop} {t : U6.US} (hu : U6.UP w u F t) (hF : ∀ i, F i → K i = 0 ∧ ¬ TabB i)
    (own : ∀ x, vp.ownBlock = some x → K x = 1) (hat : BusAt w' b g st.c st.p vp' R) (own' : w'.ownsRow (b + 1) 86 3 vp' (ul.length + 1) (portCells b ul ++ [.pointer (some ⟨u, 0, none⟩), .pointer (some ⟨b, 4, none⟩), .int .i64 (10 + (ul.length : Int))]))
    (o : Only (fun i => i = b ∨ vp.ownBlock = some i) w w') (hx : ∀ x, vp'.ownBlock = some x → vp.ownBlock = some x ∨ w.heap.size ≤ x) (hn : ul.length < 8) :
    BusQ w' b (plugK K F ul.length vp') g vp' (ul ++ [u]) { st with us := st.us ++ [t] } R ∧ (∀ x, vp'.ownBlock = some x → plugK K F ul.length vp' x = 1) ∧ ∀ i, ¬ plugK K F ul.length vp' i = 0 → ¬ K i = 0 ∨ F i ∨ w.heap.size ≤ i := by
  have kb := h.kb
  have hFl := hu.lt
  have hnF : ∀ x, vp'.ownBlock = some x → ¬ F x := fun x e hf => by
    have h0 := (hF x hf).1
    rcases hx x e with h1 | h1
    · have := own x h1; omega
    · have := hFl x hf; omega
  have k1 : ∀ x, vp'.ownBlock = some x → plugK K F ul.length vp' x = 1 := fun x e => by
    unfold plugK; rw [if_neg (hnF x e), if_pos e]
  have kold : ∀ i j, K i = j → 2 ≤ j → plugK K F ul.length vp' i = j := fun i j e hj => by
    unfold plugK
    rw [if_neg (fun hf => by have := (hF i hf).1; omega), if_neg (fun e2 => by
      rcases hx i e2 with h1 | h1
      · have := own i h1; omega
      · have := h.lt i (by omega); omega)]
    exact e
  have hb1 : ¬ vp'.ownBlock = some b := fun e => by have := (own'.lt b e).1; omega
  have klt : ∀ i, ¬ plugK K F ul.length vp' i = 0 → i < w'.heap.size := fun i hi => by
    unfold plugK at hi
    split at hi
    · rename_i hf; exact Nat.lt_of_lt_of_le (hFl i hf) o.size
    · split at hi
      · rename_i e; exact (own'.lt i e).2
      · exact Nat.lt_of_lt_of_le (h.lt i hi) o.size
  have hT : ∀ i, ¬ K i = 1 → ¬ (i = b ∨ vp.ownBlock = some i) := fun i hi e => by
    rcases e with rfl | e
    · omega
    · exact hi (own i e)
  refine ⟨⟨hat, ?_, ?_, h.fits, ?_, ?_, ?_, ?_, klt, h.cok, h.pok, ?_, h.tabs.keeps o fun i hi => hT i (by have := h.kt i hi; omega)⟩, k1, ?_⟩
  · refine .inr ?_
    obtain ⟨_, h2⟩ := own'
    rcases h2 with ⟨_, h0⟩ | ⟨gp, cap, cur, hv, hg, hh, hnc, _, hc, ht⟩
    · omega
    · refine ⟨gp, cap, by rw [hv, List.length_append]; rfl, by rw [List.length_append]; exact hnc, k1 gp (by rw [hv]; rfl), by omega, cur, _, _, hh, ?_⟩
      rw [portCells_snoc, List.length_append, portCells_len]
      rw [show ul.length * 3 + ([.pointer (some ⟨u, 0, none⟩), .pointer (some ⟨b, 4, none⟩), .int .i64 (10 + (ul.length : Int))] : List Value).length = (ul.length + 1) * 3 by simp; omega]
      exact ht
  · exact (h.mem.keeps o fun i hi => hT i (by show ¬ K i = 1; have : K i = 2 := hi; omega)).mono (fun i hi => kold i 2 hi (by omega)) fun i hi => klt i (by have : plugK K F ul.length vp' i = 2 := hi; omega)
  · intro j hj
    by_cases e : j = ul.length
    · subst e
      have e1 : (ul ++ [u]).getD ul.length 0 = u := by rw [List.getD_eq_getElem?_getD, List.getElem?_append_right (Nat.le_refl _)]; simp
      have e2 : (st.us ++ [t]).getD ul.length U6.u0 = t := by rw [List.getD_eq_getElem?_getD, ← h.len, List.getElem?_append_right (Nat.le_refl _)]; simp
      rw [e1, e2]
      refine (hu.keeps o fun i hi => hT i (by have := (hF i hi).1; omega)).mono (fun i hi => ?_) fun i hi => klt i (by have : plugK K F ul.length vp' i = 3 + ul.length := hi; omega)
      unfold plugK; rw [if_pos hi]
    · have hj2 : j < ul.length := by rw [List.length_append] at hj; simp at hj; omega
      have e1 : (ul ++ [u]).getD j 0 = ul.getD j 0 := by rw [List.getD_eq_getElem?_getD, List.getD_eq_getElem?_getD, List.getElem?_append_left hj2]
      have e2 : (st.us ++ [t]).getD j U6.u0 = st.us.getD j U6.u0 := by rw [List.getD_eq_getElem?_getD, List.getD_eq_getElem?_getD, List.getElem?_append_left (by rw [h.len]; exact hj2)]
      rw [e1, e2]
      exact ((h.uart j hj2).keeps o fun i hi => hT i (by have : K i = 3 + j := hi; omega)).mono (fun i hi => kold i _ hi (by omega)) fun i hi => klt i (by have : plugK K F ul.length vp' i = 3 + j := hi; omega)
  · simp [h.len]
  · simp; omega
  · unfold plugK; rw [if_neg (fun hf => by have := (hF b hf).1; omega), if_neg hb1]; exact kb
  · intro i hi
    unfold plugK
    rw [if_neg (fun hf => (hF i hf).2 hi), if_neg (fun e => by
      rcases hx i e with h1 | h1
      · have := own i h1; have := h.kt i hi; omega
      · have := h.tabs.lt hi; omega)]
    exact h.kt i hi
  · intro i hi
    unfold plugK at hi
    split at hi
    · rename_i hf; exact .inr (.inl hf)
    · split at hi
      · rename_i e
        rcases hx i e with h1 | h1
        · have := own i h1; exact .inl (by omega)
        · exact .inr (.inr h1)
      · exact .inl hi

/-- What New and Twin begin with. -/
theorem built_bus (b g : Nat) (size : Int) (ul : List Nat) (c : C4.Cl) (p : P5.PS) : Tryz.prog.built 76 [(0, .pointer (some ⟨g, 0, none⟩)), (1, C4.progV c), (2, P5.progPV p)] = some (busRow g c p (.slice none 0 0) (regsTo b g size ul 0)) := by kernel_rfl

end Go.Proofs.YtbcnkhfpogglmaaGreatDoor

namespace Go.Proofs.YtbcnkhfpogglmaaGreatDoor
open Go.RowKit
set_option linter.unusedVariables false
set_option maxRecDepth 100000

def cl0 : C4.Cl := ⟨false, 18446744073709551615, 0⟩
theorem cl0_ok : cl0.ok := by unfold C4.Cl.ok In64; show (0 ≤ (18446744073709551615 : Int) ∧ (18446744073709551615 : Int) < 18446744073709551616) ∧ (0 : Int) ≤ 0 ∧ (0 : Int) < 18446744073709551616; omega
theorem regsTo_zero (b g : Nat) (size : Int) (ul ul' : List Nat) : regsTo b g size ul 0 = regsTo b g size ul' 0 := by
  unfold regsTo; exact varr_congr fun i _ => by rw [if_neg (by omega), if_neg (by omega)]
theorem owns_below {w w' : World} {base : Nat} {e : TypeId} {size : Nat} {v : Value} {n : Nat} {xs : List Value} (h : w.ownsRow base e size v n xs) (o : Below w.heap.size w w') : w'.ownsRow base e size v n xs := by
  obtain ⟨h1, h2⟩ := h
  refine ⟨h1, ?_⟩
  rcases h2 with h2 | ⟨g, cap, cur, hv, hg, hh, h3⟩
  · exact .inl h2
  · exact .inr ⟨g, cap, cur, hv, hg, (o.block g (Array.getElem?_eq_some_iff.1 hh).1).trans hh, h3⟩
open Classical in
noncomputable def startK (b : Nat) (S : Nat → Prop) : Nat → Nat := fun i => if i = b then 1 else if S i then 2 else 0
theorem BusQ.start {w : World} {b g : Nat} {c : C4.Cl} {p : P5.PS} {R : Array Value} {S : Nat → Prop} {size : Int} {m : Int → Int} (hat : BusAt w b g c p (.slice none 0 0) R) (hm : M3.ProgMem w g S 2147483648 size m) (hf : M3.Fits 2147483648 size) (hS : ¬ S b) (hT : ∀ i, TabB i → ¬ S i ∧ ¬ i = b) (tabs : Tabs w) (hc : c.ok) (hp : p.ok) :
    BusQ w b (startK b S) g (.slice none 0 0) [] ⟨size, m, c, p, []⟩ R := by
  refine ⟨hat, .inl ⟨rfl, rfl⟩, hm.mono (fun i hi => ?_) (fun i hi => ?_), hf, fun j hj => by simp at hj, rfl, by simp, ?_, fun i hi => ?_, hc, hp, fun i hi => ?_, tabs⟩
  · unfold startK; rw [if_neg (fun e => hS (by subst e; exact hi)), if_pos hi]
  · have hi : startK b S i = 2 := hi
    unfold startK at hi
    split at hi
    · omega
    · split at hi
      · rename_i h; exact hm.lt i h
      · omega
  · unfold startK; rw [if_pos rfl]
  · unfold startK at hi
    split at hi
    · rename_i h; subst h; exact hat.lt
    · split at hi
      · rename_i h; exact hm.lt i h
      · exact absurd rfl hi
  · unfold startK; rw [if_neg (hT i hi).2, if_neg (hT i hi).1]
/-- A bus in the making. -/
def MakeR (w0 : World) (b g : Nat) (st : BS) (R : Array Value) (wr : World) : Prop :=
  ∃ K vp ul, BusQ wr b K g vp ul st R ∧ (∀ x, vp.ownBlock = some x → K x = 1) ∧ wr.ownsRow (b + 1) 86 3 vp ul.length (portCells b ul) ∧ Below w0.heap.size w0 wr ∧ ∀ i, ¬ K i = 0 → w0.heap.size ≤ i
theorem makeR_step {w0 wr w1 w2 : World} {b g u : Nat} {K : Nat → Nat} {vp : Value} {ul : List Nat} {st : BS} {R : Array Value} {t : U6.US} {e : Ending} {F : Nat → Prop} (h : BusQ wr b K g vp ul st R) (own : ∀ x, vp.ownBlock = some x → K x = 1) (hb0 : Below w0.heap.size w0 wr) (hk : ∀ i, ¬ K i = 0 → w0.heap.size ≤ i) (hn : ul.length < 8)
    (hb : Below wr.heap.size wr w1) (hF : ∀ i, F i → wr.heap.size ≤ i) (hu : U6.UP w1 u F t) (k : PlugE w1 b g st.c st.p vp R ul.length (portCells b ul ++ [.pointer (some ⟨u, 0, none⟩), .pointer (some ⟨b, 4, none⟩), .int .i64 (10 + (ul.length : Int))]) e w2) : MakeR w0 b g { st with us := st.us ++ [t] } R w2 := by
  obtain ⟨_, vp', hat, own', o, hx⟩ := k
  have h1 : BusQ w1 b K g vp ul st R := h.below hb
  have s1 := hb.size
  have s0 := hb0.size
  obtain ⟨p1, p2, p3⟩ := BusQ.plug h1 hu (fun i hi => ⟨by
    have := hF i hi
    by_cases e : K i = 0
    · exact e
    · have := h.lt i e; omega, fun ht => by have := hF i hi; have := h.tabs.lt ht; omega⟩) own hat own' o hx hn
  refine ⟨_, vp', ul ++ [u], p1, p2, ?_, ?_, fun i hi => ?_⟩
  · rw [portCells_snoc, List.length_append]; exact own'
  · have hb1 : w0.heap.size ≤ b := hk b (by rw [h.kb]; omega)
    exact (hb0.trans (hb.mono hb0.size)).trans (o.below (fun i hi => by
      rcases hi with rfl | hi
      · exact hb1
      · exact hk i (by rw [own i hi]; omega)) (by omega))
  · rcases p3 i hi with h2 | h2 | h2
    · exact hk i h2
    · have := hF i h2; omega
    · omega
theorem BusQ.laid {w w' : World} {b g : Nat} {K : Nat → Nat} {vp : Value} {ul : List Nat} {st : BS} {R R' : Array Value} (h : BusQ w b K g vp ul st R) (o : Only (fun i => i = b) w w') (hat : BusAt w' b g st.c st.p vp R') : BusQ w' b K g vp ul st R' := by
  have kb := h.kb
  exact ⟨hat, h.ports.keeps o (fun i hi => .inr hi) (fun _ _ => rfl), h.mem.keeps o (fun i hi e => by subst e; omega), h.fits, fun j hj => (h.uart j hj).keeps o fun i hi e => by subst e; omega, h.len, h.le, h.kb,
    fun i hi => Nat.lt_of_lt_of_le (h.lt i hi) o.size, h.cok, h.pok, h.kt, h.tabs.keeps o fun i hi e => by have := h.kt i hi; subst e; omega⟩
/-- A made bus is laid. -/
theorem makeR_lay {w0 wr w2 : World} {b g : Nat} {K : Nat → Nat} {vp : Value} {ul : List Nat} {st : BS} {R : Array Value} {e : Ending} (h : BusQ wr b K g vp ul st R) (hb0 : Below w0.heap.size w0 wr) (hk : ∀ i, ¬ K i = 0 → w0.heap.size ≤ i) (k : LayE wr b g st.c st.p vp (regs b g st.size ul) e w2) :
    Below w0.heap.size w0 w2 ∧ BusP w2 b K g vp ul st := by
  obtain ⟨_, o, hat⟩ := k
  exact ⟨hb0.trans (o.below (fun i hi => by subst hi; exact hk i (by rw [h.kb]; omega)) hb0.size), h.laid o hat⟩
section
variable {P : Program} {ops : Array Oper} {rest : List Oper} {o : Oper} {a : Act} {w : World} {Q : Exit → Act → World → Prop}
theorem wpList_build_at (hg : o.guard = none) (t : TypeId) (parts : Array (Nat × Operand)) (ho : o.op = .build t parts) (vs : List (Nat × Value)) (hp : (parts.map fun (i, x) => (i, a.eval x)).toList = vs) (row : Array Value) (hb : P.built t vs = some row) (h : wpList P ops Q rest (a.put o.dst (.agg row)) w) : wpList P ops Q (o :: rest) a w :=
  wpList_build hg t parts ho (by rw [hp, hb]; rfl) (by rw [hp, hb]; exact h)
end
/-- What New answers. -/
def busOk (size n : Int) : Bool := M3.newOk 2147483648 size && decide (0 ≤ n ∧ n ≤ 8)
def bs0 (size : Int) (n : Nat) : BS := ⟨size, fun _ => 0, cl0, P5.p0, List.replicate n U6.u0⟩
def BusNewE (w : World) (size n : Int) (e : Ending) (w' : World) : Prop :=
  Below w.heap.size w w' ∧ ((busOk size n = false ∧ e = .returned (.tuple #[.pointer none, .int .i64 1])) ∨
    (busOk size n = true ∧ ∃ b K g vp ul, e = .returned (.tuple #[.pointer (some ⟨b, 0, none⟩), .int .i64 0]) ∧ (∀ i, ¬ K i = 0 → w.heap.size ≤ i) ∧ BusP w' b K g vp ul (bs0 size n.toNat)))
set_option maxHeartbeats 1000000 in
theorem busNew_bad (w : World) (size n : Int) (hs : In64 size) (hbad : M3.newOk 2147483648 size = false) : Calls Tryz.prog 7 #[.int .u64 size, .int .i64 n] w (BusNewE w size n) := by
  have HN := Lib.hid (M3.progNew_any 2147483648 size w (by unfold In64; omega) hs)
  have HO : Hid (busOk size n = false) := Lib.hid (by unfold busOk; rw [hbad]; rfl)
  have HB := Lib.hid hbad
  clear hbad hs
  go_enter Tryz.func7, Tryz.ntmps7
  go_wp2_with fail
  (with_reducible refine HN.out.mono ?_)
  rintro e w1 ⟨hb, hor⟩
  have HBB := Lib.hid hb
  have he : e = .returned (.tuple #[.pointer none, .int .i64 1]) := by
    rcases hor with ⟨_, rfl⟩ | ⟨h1, _⟩
    · rfl
    · rw [HB.out] at h1; cases h1
  subst he
  clear hb hor
  go_wp2
  go_ret2
  exact ⟨HBB.out, .inl ⟨HO.out, rfl⟩⟩
set_option maxHeartbeats 1000000 in
theorem busNew_n (w : World) (size n : Int) (hs : In64 size) (hn : ¬ (0 ≤ n ∧ n ≤ 8)) (hok : M3.newOk 2147483648 size = true) : Calls Tryz.prog 7 #[.int .u64 size, .int .i64 n] w (BusNewE w size n) := by
  have HN := Lib.hid (M3.progNew_any 2147483648 size w (by unfold In64; omega) hs)
  have HO : Hid (busOk size n = false) := Lib.hid (by unfold busOk; rw [decide_eq_false hn, Bool.and_false])
  have HB := Lib.hid hok
  clear hok hs
  by_cases n0 : n < 0
  · clear hn
    go_enter Tryz.func7, Tryz.ntmps7
    go_wp2_with fail
    (with_reducible refine HN.out.mono ?_)
    rintro e w1 ⟨hb, hor⟩
    have HBB := Lib.hid hb
    obtain ⟨x, he⟩ : ∃ x, e = .returned (.tuple #[x, .int .i64 0]) := by
      rcases hor with ⟨h1, _⟩ | ⟨_, b, S, rfl, _⟩
      · rw [HB.out] at h1; cases h1
      · exact ⟨_, rfl⟩
    subst he
    clear hb hor
    go_wp2
    go_ret2
    exact ⟨HBB.out, .inl ⟨HO.out, rfl⟩⟩
  · have n8 : 8 < n := by omega
    clear hn
    go_enter Tryz.func7, Tryz.ntmps7
    go_wp2_with fail
    (with_reducible refine HN.out.mono ?_)
    rintro e w1 ⟨hb, hor⟩
    have HBB := Lib.hid hb
    obtain ⟨x, he⟩ : ∃ x, e = .returned (.tuple #[x, .int .i64 0]) := by
      rcases hor with ⟨h1, _⟩ | ⟨_, b, S, rfl, _⟩
      · rw [HB.out] at h1; cases h1
      · exact ⟨_, rfl⟩
    subst he
    clear hb hor
    go_wp2
    go_ret2
    exact ⟨HBB.out, .inl ⟨HO.out, rfl⟩⟩
set_option maxHeartbeats 2000000 in
theorem busNew_ok (w : World) (tabs : Tabs w) (size : Int) (n : Nat) (hs : In64 size) (hn : n ≤ 8) (hok : M3.newOk 2147483648 size = true) : Calls Tryz.prog 7 #[.int .u64 size, .int .i64 n] w (BusNewE w size n) := by
  have HN := Lib.hid (M3.progNew_any 2147483648 size w (by unfold In64; omega) hs)
  have HO : Hid (busOk size n = true) := Lib.hid (by unfold busOk; rw [hok, decide_eq_true (by omega)]; rfl)
  have HF := Lib.hid (M3.newOk_fits (base := 2147483648) (by unfold In64; omega) hok)
  have HB := Lib.hid hok
  have HT := Lib.hid tabs
  clear hok hs tabs
  go_enter Tryz.func7, Tryz.ntmps7
  go_wp2_with fail
  (with_reducible refine HN.out.mono ?_)
  rintro e w1 ⟨hb, hor⟩
  obtain ⟨g, S, rfl, hSn, hm⟩ : ∃ b S, e = .returned (.tuple #[.pointer (some ⟨b, 0, none⟩), .int .i64 0]) ∧ (∀ i, S i → w.heap.size ≤ i) ∧ M3.ProgMem w1 b S 2147483648 size fun _ => 0 := by
    rcases hor with ⟨h1, _⟩ | ⟨_, b, S, h1, h2, h3⟩
    · rw [HB.out] at h1; cases h1
    · exact ⟨b, S, h1, h2, h3⟩
  have HB1 := Lib.hid hb
  have HM := Lib.hid hm
  have HSN := Lib.hid hSn
  clear hb hor hm hSn HN HB
  go_wp2_with fail
  refine (C4.new_any _).mono ?_
  rintro e w2 ⟨rfl, hb2⟩
  have HB2 := Lib.hid (HB1.out.trans (hb2.mono HB1.out.size))
  have HM2 := Lib.hid (HM.out.keeps (Only.of_below (fun _ => False) hb2) fun _ _ => id)
  clear hb2 HM
  go_wp2_with fail
  refine (P5.new_any _).mono ?_
  rintro e w3 ⟨rfl, hb3⟩
  have HB3 := Lib.hid (HB2.out.trans (hb3.mono HB2.out.size))
  have HM3 := Lib.hid (HM2.out.keeps (Only.of_below (fun _ => False) hb3) fun _ _ => id)
  clear hb3 HM2
  go_wp2_with (refine wpList_build_at rfl 76 #[(0, .tmp 24), (1, .tmp 25), (2, .tmp 26)] rfl [(0, .pointer (some ⟨g, 0, none⟩)), (1, C4.progV ⟨false, 18446744073709551615, 0⟩), (2, P5.progPV P5.p0)] (by first | rfl | simp [Act.eval, Act.put]) _ (built_bus w3.heap.size g size [] cl0 P5.p0) ?_)
  have hfr : M3.Fits 2147483648 size := HF.out
  have D : BusAt (w3.alloc (.cells (busRow g cl0 P5.p0 (.slice none 0 0) (regsTo w3.heap.size g size [] 0)) 76)) w3.heap.size g cl0 P5.p0 (.slice none 0 0) (regsTo w3.heap.size g size [] 0) := heap_alloc_new w3 _
  have hb4 : Below w3.heap.size w3 (w3.alloc (.cells (busRow g cl0 P5.p0 (.slice none 0 0) (regsTo w3.heap.size g size [] 0)) 76)) := (Below.refl _ _).alloc (Nat.le_refl _) _
  have hz4 : w3.heap.size < (w3.alloc (.cells (busRow g cl0 P5.p0 (.slice none 0 0) (regsTo w3.heap.size g size [] 0)) 76)).heap.size := by rw [World.size_alloc]; omega
  have HMK : Hid (MakeR w w3.heap.size g ⟨size, fun _ => 0, cl0, P5.p0, []⟩ (regsTo w3.heap.size g size [] 0) (w3.alloc (.cells (busRow g cl0 P5.p0 (.slice none 0 0) (regsTo w3.heap.size g size [] 0)) 76))) := by
    have hS : ¬ S w3.heap.size := fun h => by have := HM3.out.lt _ h; omega
    have s3 := HB3.out.size
    refine Lib.hid ⟨startK w3.heap.size S, .slice none 0 0, [], BusQ.start D (HM3.out.keeps (Only.of_below (fun _ => False) hb4) fun _ _ => id) hfr hS (fun i hi => ?_) (HT.out.below (HB3.out.trans (hb4.mono s3))) cl0_ok P5.p0_ok, fun x hx => by simp [Value.ownBlock] at hx, World.ownsRow_nil _ _ _ _, HB3.out.trans (hb4.mono s3), fun i hi => ?_⟩
    · have := HT.out.lt hi
      exact ⟨fun h => by have := HSN.out i h; omega, by omega⟩
    · unfold startK at hi
      split at hi
      · omega
      · split at hi
        · rename_i h; exact HSN.out i h
        · exact absurd rfl hi
  clear D hb4 hz4 HM3 HB1 HB2 HB3 HSN hfr
  generalize w3.alloc (.cells (busRow g cl0 P5.p0 (.slice none 0 0) (regsTo w3.heap.size g size [] 0)) 76) = w4 at *
  generalize w3.heap.size = b at *
  generalize hR : regsTo b g size [] 0 = R at *
  have HR := Lib.hid hR
  clear hR
  go_loopw [30] (fun i wr => ∃ k : Nat, k ≤ n ∧ i = .int .i64 k ∧ Hid (MakeR w b g ⟨size, fun _ => 0, cl0, P5.p0, List.replicate k U6.u0⟩ R wr)) (fun i wr => (n - (intOf i).toNat))
  case atStart => exact ⟨0, by omega, rfl, HMK⟩
  case round =>
    obtain ⟨k, hk, rfl, HMR⟩ := hrel
    obtain ⟨K, vp, ul, hq, own, owr, hb0, hkk⟩ := HMR.out
    have hl := hq.len
    simp only [List.length_replicate] at hl
    by_cases hlt : k < n
    · have HSTEP : Hid (∀ w1 w2 u F e, Below wr.heap.size wr w1 → (∀ i, F i → wr.heap.size ≤ i) → U6.UP w1 u F U6.u0 → PlugE w1 b g cl0 P5.p0 vp R ul.length (portCells b ul ++ [.pointer (some ⟨u, 0, none⟩), .pointer (some ⟨b, 4, none⟩), .int .i64 (10 + (ul.length : Int))]) e w2 → MakeR w b g ⟨size, fun _ => 0, cl0, P5.p0, List.replicate (k + 1) U6.u0⟩ R w2) := Lib.hid fun w1 w2 u F e h1 h2 h3 h4 => by
        have := makeR_step hq own hb0 hkk (by omega) h1 h2 h3 h4
        rw [List.replicate_succ']; exact this
      have HPL : Hid (∀ w1 u, Below wr.heap.size wr w1 → Calls Tryz.prog 31 #[.pointer (some ⟨b, 0, none⟩), .pointer (some ⟨u, 0, none⟩)] w1 (PlugE w1 b g cl0 P5.p0 vp R ul.length (portCells b ul ++ [.pointer (some ⟨u, 0, none⟩), .pointer (some ⟨b, 4, none⟩), .int .i64 (10 + (ul.length : Int))]))) := Lib.hid fun w1 u h1 => plug_any (hq.obj.below h1) ul.length _ (owns_below owr h1) (by omega) u
      have hlk : (k : Int) < n := by omega
      clear hq own owr hb0 hkk HMR hl
      go_wp2_with fail
      refine (U6.new_any _).mono ?_
      rintro e w5 ⟨u, F, vi, vo, rfl, hb5, hF5, hu5⟩
      have HB5 := Lib.hid hb5
      have HF5 := Lib.hid hF5
      have HU5 : Hid (U6.UP w5 u F U6.u0) := Lib.hid ⟨vi, vo, hu5⟩
      clear hb5 hF5 hu5
      go_wp2_with fail
      (with_reducible refine (HPL.out _ u HB5.out).mono ?_)
      rintro e w6 hE
      obtain ⟨⟨v, rfl⟩, _⟩ := id hE
      have HM6 := Lib.hid (HSTEP.out _ _ _ _ _ HB5.out HF5.out HU5.out hE)
      clear hE HB5 HF5 HU5 HPL HSTEP
      go_wp2
      go_roundw
      case rel => exact ⟨k + 1, by omega, by go_num, HM6⟩
      case measure => simp [intOf]; omega
    · obtain rfl : k = n := by omega
      have hat : BusAt wr b g cl0 P5.p0 vp (regsTo b g size ul 0) := by rw [regsTo_zero b g size ul [], HR.out]; exact hq.obj
      have HL := Lib.hid (lay_any hat hq.mem (by rw [hq.kb]; omega) hq.ports hq.le)
      have HFIN : Hid (∀ e w2, LayE wr b g cl0 P5.p0 vp (regs b g size ul) e w2 → BusNewE w size k (.returned (.tuple #[.pointer (some ⟨b, 0, none⟩), .int .i64 0])) w2) := Lib.hid fun e w2 h => by
        obtain ⟨h1, h2⟩ := makeR_lay hq hb0 hkk h
        exact ⟨h1, .inr ⟨HO.out, b, K, g, vp, ul, rfl, hkk, by show BusP w2 b K g vp ul (bs0 size (k : Int).toNat); rw [Int.toNat_natCast]; exact h2⟩⟩
      clear hq own owr hb0 hkk HMR hl hat hlt hk
      go_wp2_with fail
      (with_reducible refine HL.out.mono ?_)
      rintro e w6 hE
      obtain ⟨⟨v, rfl⟩, _⟩ := id hE
      have HF6 := Lib.hid (HFIN.out _ _ hE)
      clear hE
      go_wp2
      go_ret2
      exact HF6.out
theorem busNew_any (w : World) (tabs : Tabs w) (size n : Int) (hs : In64 size) : Calls Tryz.prog 7 #[.int .u64 size, .int .i64 n] w (BusNewE w size n) := by
  cases hok : M3.newOk 2147483648 size with
  | false => exact busNew_bad w size n hs hok
  | true =>
    by_cases hn : 0 ≤ n ∧ n ≤ 8
    · obtain ⟨k, rfl⟩ : ∃ k : Nat, n = k := ⟨n.toNat, by omega⟩
      exact busNew_ok w tabs size k hs (by omega) hok
    · exact busNew_n w size n hs hn hok

end Go.Proofs.YtbcnkhfpogglmaaGreatDoor

namespace Go.Proofs.YtbcnkhfpogglmaaGreatDoor
open Go.RowKit
set_option linter.unusedVariables false
set_option maxRecDepth 100000

section
variable {P : Program} {op : Oper} {a : Act} {w : World} {row : Array Value}
theorem yield_fr (ty : TypeId) (x : Operand) (ho : op.op = .load ty x) (b o : Nat) (hx : a.eval x = .pointer (some ⟨b, o, none⟩)) (hrun : (loadVar ty ⟨b, o, none⟩).run P w = .ok (.agg row) w) :
    (execOp a.eval op).run P w = .ok (.value (.agg row)) w := by
  unfold execOp
  simp only [ho, hx, Instr.loadAt, Instr.sureAddr, Sem.run_bind, Sem.run_pure, Result.andThen_ok, hrun]
theorem yield_build (t : TypeId) (parts : Array (Nat × Operand)) (ho : op.op = .build t parts) (vs : List (Nat × Value)) (hp : (parts.map fun (i, x) => (i, a.eval x)).toList = vs) (hb : P.built t vs = some row) :
    (execOp a.eval op).run P w = .ok (.value (.agg row)) w := by
  have hr := run_build (P := P) w t (parts.map fun (i, x) => (i, a.eval x)) row (by rw [hp, hb])
  unfold execOp
  simp only [ho, Sem.run_bind, hr, Result.andThen_ok, Sem.run_pure]
end
theorem regsTo_zeros (b g : Nat) (size : Int) (ul : List Nat) (b' g' : Nat) (size' : Int) (ul' : List Nat) : regsTo b g size ul 0 = regsTo b' g' size' ul' 0 := by
  unfold regsTo; exact varr_congr fun i _ => by rw [if_neg (by omega), if_neg (by omega)]
theorem take_next {α : Type} (l : List α) (d : α) {k : Nat} (hk : k < l.length) : l.take k ++ [l.getD k d] = l.take (k + 1) := by
  rw [List.take_succ_eq_append_getElem hk, List.getD_eq_getElem?_getD, List.getElem?_eq_getElem hk]; rfl
/-- What Twin answers. -/
def BusTwinE (w : World) (st : BS) (e : Ending) (w' : World) : Prop := Below w.heap.size w w' ∧ ∃ b K g vp ul, e = .returned (.pointer (some ⟨b, 0, none⟩)) ∧ (∀ i, ¬ K i = 0 → w.heap.size ≤ i) ∧ BusP w' b K g vp ul st
set_option maxHeartbeats 4000000 in
theorem busTwin_any {w : World} {b g : Nat} {K : Nat → Nat} {vp : Value} {ul : List Nat} {st : BS} (h : BusP w b K g vp ul st) : Calls Tryz.prog 18 #[.pointer (some ⟨b, 0, none⟩)] w (BusTwinE w st) := by
  have H := Lib.hid h
  have HTW : Hid (∀ wx, Below w.heap.size w wx → Calls Tryz.prog 47 #[.pointer (some ⟨g, 0, none⟩)] wx (M3.ProgTwin wx 2147483648 st.size st.m)) := Lib.hid fun wx hx => M3.progTwin_any (h.below hx).mem h.fits
  have HRG : Hid (∀ wx, Below w.heap.size w wx → wx.rangeAt b 4 (varr 39 (P5.cellQ st.p)).toList) := Lib.hid fun wx hx => (h.below hx).obj.range
  have HSZ : Hid ((Tryz.prog.info? 69).map (·.size) = some (varr 39 (P5.cellQ st.p)).size) := Lib.hid (P5.size_progP.trans (by rw [varr_size]))
  obtain ⟨BR, hBR⟩ : ∃ BR : Nat → Nat → Array Value, ∀ x g2, BR x g2 = busRow g2 st.c st.p (.slice none 0 0) (regsTo x g2 st.size [] 0) := ⟨_, fun _ _ => rfl⟩
  have HBB : Hid (∀ g2, Tryz.prog.built 76 [(0, .pointer (some ⟨g2, 0, none⟩)), (1, .agg #[.bool st.c.s, .int .u64 st.c.c, .int .u64 st.c.n]), (2, .agg (varr 39 (P5.cellQ st.p)))] = some (BR 0 g2)) := Lib.hid fun g2 => by rw [hBR]; exact built_bus 0 g2 st.size [] st.c st.p
  have HBR : Hid (∀ g2, BR 0 g2 = busRow g2 st.c st.p (.slice none 0 0) (regsTo 0 g2 st.size [] 0)) := Lib.hid fun g2 => hBR 0 g2
  clear hBR
  generalize BR 0 = BR at *
  have HPT : Hid (∃ a c, vp = .slice a ul.length c ∧ ul.length ≤ c) := Lib.hid h.ports.len
  clear h
  generalize hrow : varr 39 (P5.cellQ st.p) = row at *
  generalize hcs : st.c.s = cs at *
  generalize hcc : st.c.c = cc at *
  generalize hcn : st.c.n = cn at *
  clear hrow
  have HCL : Hid (st.c.s = cs ∧ st.c.c = cc ∧ st.c.n = cn) := Lib.hid ⟨hcs, hcc, hcn⟩
  go_enter Tryz.func18, Tryz.ntmps18
  go_wp2_with fail
  refine wp_region_held_drew (S := fun wx => Below w.heap.size w wx) (by kernel_rfl) ((Below.refl _ _).drew) (fun hHeld0 => ?_)
  have HS := Lib.hid hHeld0
  clear hHeld0
  refine takeD (i := 0) (some 8) (v := ?_) rfl rfl (by kernel_rfl) (by kernel_rfl) (by kernel_rfl) (fun _ _ _ h => h) (by rfl) HS.out ?_ ?_
  rotate_left
  · intro wx hSx
    clear hSx
    go_simp
    try (with_reducible rfl)
  simp only [Act.put, List.setIfInBounds_toArray, List.set_cons_zero, List.set_cons_succ]
  refine takeD (i := 1) (some 9) (v := ?_) rfl rfl (by kernel_rfl) (by kernel_rfl) (by kernel_rfl) (fun _ _ _ h => h) (by rfl) HS.out ?_ ?_
  rotate_left
  · intro wx hSx
    clear hSx
    go_simp
    try (with_reducible rfl)
  simp only [Act.put, List.setIfInBounds_toArray, List.set_cons_zero, List.set_cons_succ]
  refine takeD (i := 2) (some 10) (v := ?_) rfl rfl (by kernel_rfl) (by kernel_rfl) (by kernel_rfl) (fun _ _ _ h => h) (by rfl) HS.out ?_ ?_
  rotate_left
  · intro wx hSx
    clear hSx
    go_simp
    try (with_reducible rfl)
  simp only [Act.put, List.setIfInBounds_toArray, List.set_cons_zero, List.set_cons_succ]
  refine takeD (i := 3) (some 11) (v := ?_) rfl rfl (by kernel_rfl) (by kernel_rfl) (by kernel_rfl) (fun _ _ _ h => h) (by rfl) HS.out ?_ ?_
  rotate_left
  · intro wx hSx
    have kx := H.out.below hSx
    obtain ⟨k1, k2, k3⟩ := kx.obj.clint_
    have k0 := kx.obj.ram_
    clear kx
    clear hSx
    go_simp
    try (with_reducible rfl)
  simp only [Act.put, List.setIfInBounds_toArray, List.set_cons_zero, List.set_cons_succ]
  refine takeD (i := 5) (some 13) (v := ?_) rfl rfl (by kernel_rfl) (by kernel_rfl) (by kernel_rfl) (fun _ _ _ h => h) (by rfl) HS.out ?_ ?_
  rotate_left
  · intro wx hSx
    clear hSx
    go_simp
    try (with_reducible rfl)
  simp only [Act.put, List.setIfInBounds_toArray, List.set_cons_zero, List.set_cons_succ]
  refine takeD (i := 6) (some 14) (v := ?_) rfl rfl (by kernel_rfl) (by kernel_rfl) (by kernel_rfl) (fun _ _ _ h => h) (by rfl) HS.out ?_ ?_
  rotate_left
  · intro wx hSx
    clear hSx
    go_simp
    try (with_reducible rfl)
  simp only [Act.put, List.setIfInBounds_toArray, List.set_cons_zero, List.set_cons_succ]
  refine takeD (i := 7) (some 15) (v := ?_) rfl rfl (by kernel_rfl) (by kernel_rfl) (by kernel_rfl) (fun _ _ _ h => h) (by rfl) HS.out ?_ ?_
  rotate_left
  · intro wx hSx
    clear hSx
    go_simp
    try (with_reducible rfl)
  simp only [Act.put, List.setIfInBounds_toArray, List.set_cons_zero, List.set_cons_succ]
  refine takeD (i := 8) (some 16) (v := ?_) rfl rfl (by kernel_rfl) (by kernel_rfl) (by kernel_rfl) (fun _ _ _ h => h) (by rfl) HS.out ?_ ?_
  rotate_left
  · intro wx hSx
    have kx := H.out.below hSx
    obtain ⟨k1, k2, k3⟩ := kx.obj.clint_
    have k0 := kx.obj.ram_
    clear kx
    clear hSx
    go_simp
    try (with_reducible rfl)
  simp only [Act.put, List.setIfInBounds_toArray, List.set_cons_zero, List.set_cons_succ]
  refine takeD (i := 9) (some 17) (v := ?_) rfl rfl (by kernel_rfl) (by kernel_rfl) (by kernel_rfl) (fun _ _ _ h => h) (by rfl) HS.out ?_ ?_
  rotate_left
  · intro wx hSx
    clear hSx
    go_simp
    try (with_reducible rfl)
  simp only [Act.put, List.setIfInBounds_toArray, List.set_cons_zero, List.set_cons_succ]
  refine takeD (i := 10) (some 18) (v := ?_) rfl rfl (by kernel_rfl) (by kernel_rfl) (by kernel_rfl) (fun _ _ _ h => h) (by rfl) HS.out ?_ ?_
  rotate_left
  · intro wx hSx
    clear hSx
    go_simp
    try (with_reducible rfl)
  simp only [Act.put, List.setIfInBounds_toArray, List.set_cons_zero, List.set_cons_succ]
  refine takeD (i := 11) (some 19) (v := ?_) rfl rfl (by kernel_rfl) (by kernel_rfl) (by kernel_rfl) (fun _ _ _ h => h) (by rfl) HS.out ?_ ?_
  rotate_left
  · intro wx hSx
    clear hSx
    go_simp
    try (with_reducible rfl)
  simp only [Act.put, List.setIfInBounds_toArray, List.set_cons_zero, List.set_cons_succ]
  refine takeD (i := 12) (some 20) (v := ?_) rfl rfl (by kernel_rfl) (by kernel_rfl) (by kernel_rfl) (fun _ _ _ h => h) (by rfl) HS.out ?_ ?_
  rotate_left
  · intro wx hSx
    exact (by refine yield_fr _ (.tmp 19) ?_ b 4 ?_ (run_load_fr wx b 4 69 row _ (HRG.out wx hSx) Tryz.underlying69 rfl HSZ.out) <;> rfl)
  simp only [Act.put, List.setIfInBounds_toArray, List.set_cons_zero, List.set_cons_succ]
  refine wpAnyH_ready (rs := [4]) (by kernel_rfl) (by simp) ?_
  refine AllReadyH.cons rfl (fun K hK => ?_) AllReadyH.nil
  go_simp
  (with_reducible refine (HTW.out _ HS.out).mono ?_)
  rintro e w3 ⟨hb1, g2, S2, rfl, hS2, hm2⟩
  have HS3 : Hid (Below w.heap.size w w3) := Lib.hid (HS.out.trans (hb1.mono HS.out.size))
  have HM2 := Lib.hid hm2
  have HSN : Hid (∀ i, S2 i → w.heap.size ≤ i) := Lib.hid fun i hi => Nat.le_trans HS.out.size (hS2 i hi)
  have HBU : Hid (Tryz.prog.built 76 [(0, .pointer (some ⟨g2, 0, none⟩)), (1, .agg #[.bool cs, .int .u64 cc, .int .u64 cn]), (2, .agg row)] = some (BR g2)) := Lib.hid (HBB.out g2)
  clear hb1 hS2 hm2
  go_simp
  refine hK.out _ _ ?_ (fun hHeld => ?_)
  · exact HS3.out
  clear hHeld hK K
  try simp only [Act.put, List.setIfInBounds_toArray, List.set_cons_zero, List.set_cons_succ]
  replace HS := HS3
  refine takeD (i := 13) (some 21) (v := ?_) rfl rfl (by kernel_rfl) (by kernel_rfl) (by kernel_rfl) (fun _ _ _ h => h) (by rfl) HS.out ?_ ?_
  rotate_left
  · intro wx hSx
    exact (by refine yield_build 76 #[(0, .tmp 12), (1, .tmp 16), (2, .tmp 20)] ?_ [(0, .pointer (some ⟨g2, 0, none⟩)), (1, .agg #[.bool cs, .int .u64 cc, .int .u64 cn]), (2, .agg row)] ?_ HBU.out <;> first | rfl | simp [Act.eval, Act.put])
  simp only [Act.put, List.setIfInBounds_toArray, List.set_cons_zero, List.set_cons_succ]
  refine wpAnyH_ready (rs := [14]) (by kernel_rfl) (by simp) ?_
  refine AllReadyH.cons rfl (fun K hK => ?_) AllReadyH.nil
  go_simp
  refine hK.out _ _ ?_ (fun hHeld => ?_)
  · exact HS.out.alloc HS.out.size _
  replace HS : Hid (Below w.heap.size w _) := Lib.hid hHeld
  clear hHeld hK K
  try simp only [Act.put, List.setIfInBounds_toArray, List.set_cons_zero, List.set_cons_succ]
  refine takeD (i := 15) (some 3) (v := ?_) rfl rfl (by kernel_rfl) (by kernel_rfl) (by kernel_rfl) (fun _ _ _ h => h) (by rfl) HS.out ?_ ?_
  rotate_left
  · intro wx hSx
    clear hSx
    go_simp
    try (with_reducible rfl)
  simp only [Act.put, List.setIfInBounds_toArray, List.set_cons_zero, List.set_cons_succ]
  refine wpAnyH_done (by kernel_rfl) ?_ _
  have hz4 : w3.heap.size < (w3.alloc (.cells (BR g2) 76)).heap.size := by rw [World.size_alloc]; omega
  have hb4 : Below w3.heap.size w3 (w3.alloc (.cells (BR g2) 76)) := (Below.refl _ _).alloc (Nat.le_refl _) _
  have D : BusAt (w3.alloc (.cells (BR g2) 76)) w3.heap.size g2 st.c st.p (.slice none 0 0) (regsTo 0 g2 st.size [] 0) := by
    have := heap_alloc_new w3 (.cells (BR g2) 76)
    unfold BusAt; rw [← HBR.out]; exact this
  have HMK : Hid (MakeR w w3.heap.size g2 ⟨st.size, st.m, st.c, st.p, []⟩ (regsTo 0 g2 st.size [] 0) (w3.alloc (.cells (BR g2) 76))) := by
    have hS : ¬ S2 w3.heap.size := fun h => by have := HM2.out.lt _ h; omega
    have s3 : w.heap.size ≤ w3.heap.size := HS3.out.size
    refine Lib.hid ⟨startK w3.heap.size S2, .slice none 0 0, [], BusQ.start D (HM2.out.keeps (Only.of_below (fun _ => False) hb4) fun _ _ => id) H.out.fits hS (fun i hi => ?_) (H.out.tabs.below (HS3.out.trans (hb4.mono s3))) H.out.cok H.out.pok, fun x hx => by simp [Value.ownBlock] at hx, World.ownsRow_nil _ _ _ _, HS3.out.trans (hb4.mono s3), fun i hi => ?_⟩
    · have := H.out.tabs.lt hi
      exact ⟨fun h => by have := HSN.out i h; omega, by omega⟩
    · unfold startK at hi
      split at hi
      · omega
      · split at hi
        · rename_i h; exact HSN.out i h
        · exact absurd rfl hi
  have HSW := HS
  clear D hb4 hz4 HM2 HS3 HSN HBU HBB HBR HS HTW HRG HSZ HCL
  generalize w3.alloc (.cells (BR g2) 76) = w4 at *
  generalize w3.heap.size = b2 at *
  generalize hR : regsTo 0 g2 st.size [] 0 = R at *
  have HR := Lib.hid hR
  clear hR
  obtain ⟨av, cv, hvp, hcap⟩ := HPT.out
  have HVP := Lib.hid hvp
  have c43 := (H.out.below HSW.out).obj.ports_
  rw [HVP.out] at c43
  have hle := H.out.le
  generalize hn : ul.length = n at *
  have HN := Lib.hid hn
  clear hn hvp HPT
  go_wp2
  go_loopw [28] (fun i wr => ∃ k : Nat, k ≤ n ∧ i = .int .i64 k ∧ Hid (MakeR w b2 g2 ⟨st.size, st.m, st.c, st.p, st.us.take k⟩ R wr)) (fun i wr => (n - (intOf i).toNat))
  case atStart => exact ⟨0, by omega, rfl, HMK⟩
  case round =>
    obtain ⟨k, hk, rfl, HMR⟩ := hrel
    obtain ⟨K2, vp2, ul2, hq, own, owr, hb0, hkk⟩ := HMR.out
    have hl := hq.len
    have hus := H.out.len
    rw [HN.out] at hus
    simp only [List.length_take] at hl
    by_cases hlt : k < n
    · obtain ⟨gp, cap, hvp2, hcap2, e0, e1, e2⟩ := (H.out.below hb0).ports.cells (k := k) (by rw [HN.out]; exact hlt)
      obtain rfl : av = some ⟨gp, 0, none⟩ := by
        have := HVP.out; rw [hvp2] at this; injection this with h1 h2 h3; exact h1.symm
      have HUT : Hid (∀ wx, Below w.heap.size w wx → Calls Tryz.prog 48 #[.pointer (some ⟨ul.getD k 0, 0, none⟩)] wx (U6.MadeU U6.cellsP 131 wx (st.us.getD k U6.u0))) := Lib.hid fun wx hx => U6.twin_any wx _ _ _ ((H.out.below hx).uart k (by rw [HN.out]; exact hlt))
      have HSTEP : Hid (∀ w1 w2 u F e, Below wr.heap.size wr w1 → (∀ i, F i → wr.heap.size ≤ i) → U6.UP w1 u F (st.us.getD k U6.u0) → PlugE w1 b2 g2 st.c st.p vp2 R ul2.length (portCells b2 ul2 ++ [.pointer (some ⟨u, 0, none⟩), .pointer (some ⟨b2, 4, none⟩), .int .i64 (10 + (ul2.length : Int))]) e w2 → MakeR w b2 g2 ⟨st.size, st.m, st.c, st.p, st.us.take (k + 1)⟩ R w2) := Lib.hid fun w1 w2 u F e h1 h2 h3 h4 => by
        have := makeR_step hq own hb0 hkk (by omega) h1 h2 h3 h4
        rw [← take_next st.us U6.u0 (by omega)]; exact this
      have HPL : Hid (∀ w1 u, Below wr.heap.size wr w1 → Calls Tryz.prog 31 #[.pointer (some ⟨b2, 0, none⟩), .pointer (some ⟨u, 0, none⟩)] w1 (PlugE w1 b2 g2 st.c st.p vp2 R ul2.length (portCells b2 ul2 ++ [.pointer (some ⟨u, 0, none⟩), .pointer (some ⟨b2, 4, none⟩), .int .i64 (10 + (ul2.length : Int))]))) := Lib.hid fun w1 u h1 => plug_any (hq.obj.below h1) ul2.length _ (owns_below owr h1) (by omega) u
      have HB0 := Lib.hid hb0
      have hlk : (k : Int) < n := by omega
      clear hq own owr hb0 hkk HMR hl hus hvp2 hcap2
      generalize ul.getD k 0 = uv at *
      have HAW : Hid (Below wr.heap.size wr (wr.alloc (.cells #[.pointer (some ⟨uv, 0, none⟩), .pointer (some ⟨b, 4, none⟩), .int .i64 (10 + (k : Int))] 86))) := Lib.hid ((Below.refl _ _).alloc (Nat.le_refl _) _)
      go_wp2_with fail
      (with_reducible refine (HUT.out _ (HB0.out.trans (HAW.out.mono HB0.out.size))).mono ?_)
      rintro e w5 ⟨u, F, vi, vo, rfl, hb5, hF5, hu5⟩
      have HB5 : Hid (Below wr.heap.size wr w5) := Lib.hid (HAW.out.trans (hb5.mono HAW.out.size))
      have HF5 : Hid (∀ i, F i → wr.heap.size ≤ i) := Lib.hid fun i hi => Nat.le_trans HAW.out.size (hF5 i hi)
      have HU5 : Hid (U6.UP w5 u F (st.us.getD k U6.u0)) := Lib.hid ⟨vi, vo, hu5⟩
      clear hb5 hF5 hu5 HAW HUT
      go_wp2_with fail
      (with_reducible refine (HPL.out _ u HB5.out).mono ?_)
      rintro e w6 hE
      obtain ⟨⟨v, rfl⟩, _⟩ := id hE
      have HM6 := Lib.hid (HSTEP.out _ _ _ _ _ HB5.out HF5.out HU5.out hE)
      clear hE HB5 HF5 HU5 HPL HSTEP
      go_wp2
      go_roundw
      case rel => exact ⟨k + 1, by omega, by go_num, HM6⟩
      case measure => simp [intOf]; omega
    · obtain rfl : k = n := by omega
      have hat : BusAt wr b2 g2 st.c st.p vp2 (regsTo b2 g2 st.size ul2 0) := by rw [regsTo_zeros b2 g2 st.size ul2 0 g2 st.size [], HR.out]; exact hq.obj
      have HL := Lib.hid (lay_any hat hq.mem (by rw [hq.kb]; omega) hq.ports hq.le)
      have HFIN : Hid (∀ e w2, LayE wr b2 g2 st.c st.p vp2 (regs b2 g2 st.size ul2) e w2 → BusTwinE w st (.returned (.pointer (some ⟨b2, 0, none⟩))) w2) := Lib.hid fun e w2 h => by
        obtain ⟨h1, h2⟩ := makeR_lay hq hb0 hkk h
        rw [show st.us.take k = st.us by rw [← hus]; exact List.take_length] at h2
        exact ⟨h1, b2, K2, g2, vp2, ul2, rfl, hkk, h2⟩
      have c0 := (H.out.below hb0).obj.ram_
      clear hq own owr hb0 hkk HMR hl hat hlt hk hus
      go_wp2_with fail
      (with_reducible refine HL.out.mono ?_)
      rintro e w6 hE
      obtain ⟨⟨v, rfl⟩, _⟩ := id hE
      have HF6 := Lib.hid (HFIN.out _ _ hE)
      clear hE
      go_wp2
      go_ret
      exact HF6.out

end Go.Proofs.YtbcnkhfpogglmaaGreatDoor
