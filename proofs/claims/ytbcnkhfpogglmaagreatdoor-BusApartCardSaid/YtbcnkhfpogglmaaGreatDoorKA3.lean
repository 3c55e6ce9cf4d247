/- Joined: R3e R3f R3g R3h MemEnd ArrEq PgMap Pm Pm2 Byt Pm3 LawsG Pm4 Pm5 Pm6 Pm7 Pm8 Pm9 Pm10 Pm11 Pm12 Pm13 Pk1 Pk2 Pk3 Pk4 Pk5 Pm14 -/
import Derived.Test.YtbcnkhfpogglmaaGreatDoorKA2
import Derived.StillTailTactics
import Derived.Deep.AppendLies
import Derived.Deep.RegionLaw
import Derived.Laws.StructEq
import Derived.Maps.RangeWalk
import Derived.Maps.OwnSet
import Derived.Maps.Ext
import Derived.Laws.CopyOwn
import Derived.Shelf.Bytes.SlCountOne
import Derived.Laws.EntriesVeiled
import Derived.Outline
import Derived.Laws.MakeOwn
import Derived.Deep.RegionHeld3
import Derived.Deep.DrawnRows
import Derived.RangeFuncGives
import Derived.Shelf.AbstractIn
import Derived.Sort.MapsRangeIn
import Derived.Sort.KeysCollected
import Derived.WalkKit
import Derived.OwnWalkIn
import Derived.TacticsInMore
import Derived.RegionIn
import Derived.LoopNIn
import Derived.LoopIn
import Derived.Shelf.SlIter.Collect
import Derived.Maps.AppendAt
import Derived.Sort.Walk0
import Derived.Sort.LotA
import Derived.BigGuard
import Derived.BigCall
import Derived.CellFam
import Derived.Deep.Draws
import Derived.Deep.QuietTactic
import Derived.BigQuiet
import Derived.BigRegion
namespace Go.Proofs.YtbcnkhfpogglmaaGreatDoor.M3
open Go.RowKit
set_option linter.unusedVariables false
set_option maxRecDepth 100000

/-- The slice value reads as xs, out of block g. -/
def ReadsIn (k : IntKind) (g : Nat) (w : World) (v : Value) (xs : List Int) : Prop :=
  ∃ a c, v = .slice a xs.length c ∧ xs.length ≤ maxLen ∧ (xs = [] ∨ ∃ off, a = some ⟨g, off, none⟩ ∧ g < w.heap.size ∧ ∀ i, i < xs.length → w.cell? ⟨g, off + i, none⟩ = some (.int k (xs.getD i 0)))
theorem ReadsIn.keeps {S : Nat → Prop} {k : IntKind} {g : Nat} {w w' : World} {v : Value} {xs : List Int} (h : ReadsIn k g w v xs) (o : Only S w w') (hg : ¬ S g) : ReadsIn k g w' v xs := by
  obtain ⟨a, c, hv, hm, h⟩ := h
  refine ⟨a, c, hv, hm, ?_⟩
  rcases h with h | ⟨off, ha, hlt, hc⟩
  · exact .inl h
  · exact .inr ⟨off, ha, Nat.lt_of_lt_of_le hlt o.size, fun i hi => (World.cell?_of_block (w := w) (o.block g hlt hg)).trans (hc i hi)⟩
theorem ReadsIn.below {k : IntKind} {g : Nat} {w w' : World} {v : Value} {xs : List Int} (h : ReadsIn k g w v xs) (o : Below w.heap.size w w') : ReadsIn k g w' v xs :=
  h.keeps (Only.of_below (fun _ => False) o) id
theorem ReadsIn.own {k : IntKind} {base : Nat} {e : TypeId} {w : World} {v : Value} {xs : List Int} (h : w.ownsRow base e 1 v xs.length (xs.map (Value.int k))) : ∃ g, (base ≤ g ∨ xs = []) ∧ ReadsIn k g w v xs := by
  rcases h.2 with ⟨hv, h0⟩ | ⟨g, cap, cur, hv, hb, hg, hn, hc, _, _⟩
  · have : xs = [] := List.eq_nil_of_length_eq_zero h0
    subst this
    exact ⟨0, .inr rfl, none, 0, hv, Nat.zero_le _, .inl rfl⟩
  · subst hv
    refine ⟨g, .inl hb, _, cap, rfl, by omega, .inr ⟨0, rfl, (Array.getElem?_eq_some_iff.1 hg).1, fun i hi => ?_⟩⟩
    have := h.cells (g := g) rfl i (.int k (xs.getD i 0)) (by simp [List.getD, hi])
    rwa [add_none] at this

/-- Memory behind bytes were put at x. -/
def putF (m : Int → Int) (x : Int) : List Int → Int → Int
  | [], y => m y
  | v :: vs, y => putF (fun z => if z = x then v else m z) (x + 1) vs y
def putM (base size : Int) (m : Int → Int) (x : Int) (xs : List Int) : Int → Int := if hasZ base size x xs.length = true then putF m x xs else m
theorem putF_out {m : Int → Int} {x : Int} {xs : List Int} {y : Int} (h : y < x ∨ x + xs.length ≤ y) : putF m x xs y = m y := by
  induction xs generalizing m x with
  | nil => rfl
  | cons v vs ih =>
    simp only [List.length_cons] at h
    unfold putF
    rw [ih (by omega)]
    show (if y = x then v else m y) = m y
    rw [if_neg (by omega)]
theorem putF_at {m : Int → Int} {x : Int} {xs : List Int} {i : Nat} (h : i < xs.length) : putF m x xs (x + i) = xs.getD i 0 := by
  induction xs generalizing m x i with
  | nil => simp at h
  | cons v vs ih =>
    unfold putF
    cases i with
    | zero => rw [putF_out (by omega)]; simp
    | succ i =>
      rw [show x + ((i + 1 : Nat) : Int) = x + 1 + i by omega, ih (by simpa using h)]; simp
def Bytes255 (xs : List Int) : Prop := ∀ i, i < xs.length → 0 ≤ xs.getD i 0 ∧ xs.getD i 0 ≤ 255
/-- In the loop: what is still to be put. -/
def Putting (w wr : World) (b g : Nat) (base size : Int) (N : Nat) (m : Int → Int) (x : Int) (xs : List Int) (k : Nat) : Prop :=
  Only (fun i => i = b) w wr ∧ ∃ g' m', (g' = g ∨ w.heap.size ≤ g') ∧ RefMem wr b g' base size (N + k) m' ∧ ∀ y, putF m' (x + k) (xs.drop k) y = putF m x xs y
end Go.Proofs.YtbcnkhfpogglmaaGreatDoor.M3

namespace Go.Proofs.YtbcnkhfpogglmaaGreatDoor.M3
open Go.RowKit
set_option linter.unusedVariables false
set_option maxRecDepth 100000

/-- The n bytes from x on. -/
def bytesL (m : Int → Int) (x : Int) (n : Nat) : List Int := (List.range n).map fun i : Nat => m (x + (i : Int))
theorem bytesL_len (m : Int → Int) (x : Int) (n : Nat) : (bytesL m x n).length = n := by unfold bytesL; simp
theorem bytesL_get (m : Int → Int) (x : Int) (n i : Nat) (h : i < n) : (bytesL m x n).getD i 0 = m (x + i) := by unfold bytesL; simp [List.getD, h]
def bytesV (base size : Int) (m : Int → Int) (x n : Int) : List Int := if hasZ base size x n = true then bytesL m x n.toNat else []

/-- What Bytes answers. -/
def BytesEnd (w : World) (xs : List Int) (r : Bool) (e : Ending) (w' : World) : Prop :=
  Below w.heap.size w w' ∧ ∃ a n c, e = .returned (.tuple #[.slice a n c, .bool r]) ∧ w'.ownsRow w.heap.size 5 1 (.slice a n c) xs.length (xs.map (Value.int .u8))

end Go.Proofs.YtbcnkhfpogglmaaGreatDoor.M3

namespace Go.Proofs.YtbcnkhfpogglmaaGreatDoor.M3
open Go.RowKit
set_option linter.unusedVariables false
set_option maxRecDepth 100000

/-- P3.1: which memories there are. -/
def newOk (base size : Int) : Bool := decide (base % 4096 = 0 ∧ size % 4096 = 0 ∧ 4096 ≤ size ∧ size ≤ 67108864 ∧ base ≤ 9223372036854775808 - size)
theorem newOk_fits {base size : Int} (hb : In64 base) (h : newOk base size = true) : Fits base size := by
  unfold newOk at h; rw [decide_eq_true_eq] at h
  have := hb.1
  exact ⟨this, by omega, by omega, by omega⟩

/-- What New answers. -/
def NewEnd (w : World) (base size : Int) (ok : Bool) (e : Ending) (w' : World) : Prop :=
  (ok = false ∧ e = .returned (.tuple #[.pointer none, .int .i64 1]) ∧ w = w') ∨
  (ok = true ∧ e = .returned (.tuple #[.pointer (some ⟨w.heap.size, 0, none⟩), .int .i64 0]) ∧ Below w.heap.size w w' ∧ RefMem w' w.heap.size (w.heap.size + 1) base size 0 fun _ => 0)

end Go.Proofs.YtbcnkhfpogglmaaGreatDoor.M3

namespace Go.Proofs.YtbcnkhfpogglmaaGreatDoor.M3
open Go.RowKit
set_option linter.unusedVariables false
set_option maxRecDepth 100000

/-- An append whose run is known, at a step of a region that draws. -/
theorem step_append_run {P : Program} {w : World} {ops : Array Oper} {o : Oper} {a : Act} {K : Act → World → Prop} {Q : Exit → Act → World → Prop} {E : Prop} (hgd : o.guard = none) (s x : Operand) (t : TypeId)
    (ho : o.op = .call { callee := .builtin .append, args := #[s, x], argTypes := #[t, t] }) (v v2 v' : Value) (w' : World) (hs : a.eval s = v) (hx : a.eval x = v2)
    (hr : (Builtin.append_ #[t, t] o.type #[v, v2]).run P w = .ok v' w') (h : K (a.put o.dst v') w') :
    if Region.wanted o (yielded ops a.tmps) = true then Oper.wp P o a w K Q else E := by
  have hw : Region.wanted o (yielded ops a.tmps) = true := by simp [Region.wanted, hgd]
  rw [if_pos hw]
  exact wp_append_run s x t ho v v2 v' w' hs hx hr h

/-- What Twin answers. -/
def TwinEnd (w : World) (base size : Int) (N : Nat) (m : Int → Int) (e : Ending) (w' : World) : Prop :=
  Below w.heap.size w w' ∧ ∃ b g, e = .returned (.pointer (some ⟨b, 0, none⟩)) ∧ w.heap.size ≤ b ∧ w.heap.size ≤ g ∧ RefMem w' b g base size N m

end Go.Proofs.YtbcnkhfpogglmaaGreatDoor.M3

namespace Go.Proofs.YtbcnkhfpogglmaaGreatDoor.M3
open Go.RowKit
set_option linter.unusedVariables false
set_option maxRecDepth 100000

/-- Numbers that rise. -/
def Rises (ps : List Int) : Prop := ps.Pairwise (· < ·)
def pageOf (x : Int) : Int := x / 4096 * 4096
/-- The pages of the first k entries. -/
def PagesTo (l : List (Int × Int)) (k : Nat) (ps : List Int) : Prop := Rises ps ∧ ps.length ≤ k ∧ (∀ p ∈ ps, In64 p) ∧ ∀ p, p ∈ ps ↔ ∃ j, j < k ∧ pageOf (l.getD j (0, 0)).1 = p
/-- What Pages answers. -/
def PagesEnd (w : World) (m : Int → Int) (e : Ending) (w' : World) : Prop :=
  Below w.heap.size w w' ∧ ∃ a n c ps, e = .returned (.slice a n c) ∧ w'.ownsRow w.heap.size 26 1 (.slice a n c) ps.length (ps.map (Value.int .u64)) ∧ Rises ps ∧ ∀ p, p ∈ ps ↔ ∃ y, ¬ m y = 0 ∧ pageOf y = p

theorem info_u64 : (Tryz.prog.info? 26).map (fun i => (i.zero, i.size, i.bytes)) = some (some (.int .u64 0), 1, 8) := by kernel_rfl
/-- What a call leaves that may turn the object: its own blocks are the old ones, or new. -/
def ProgEnd (M : World → Nat → (Nat → Prop) → Int → Int → (Int → Int) → Prop) (w : World) (b : Nat) (S : Nat → Prop) (base size : Int) (m : Int → Int) (r : Bool) (e : Ending) (w' : World) : Prop :=
  e = .returned (.bool r) ∧ Only S w w' ∧ ∃ S', (∀ i, S' i → S i ∨ w.heap.size ≤ i) ∧ M w' b S' base size m

theorem RefMem.norm {w : World} {b g : Nat} {base size : Int} {N : Nat} {m : Int → Int} (h : RefMem w b g base size N m) : ∃ g', (g' = g ∨ g' = b) ∧ g' < w.heap.size ∧ RefMem w b g' base size N m := by
  have hlt := h.lt
  obtain ⟨l, ⟨a, c, h1, h2, h3⟩, h4⟩ := h
  rcases h3 with h3 | ⟨h5, h6, h7⟩
  · exact ⟨b, .inr rfl, hlt, l, ⟨a, c, h1, h2, .inl h3⟩, h4⟩
  · exact ⟨g, .inl rfl, h7.lt, l, ⟨a, c, h1, h2, .inr ⟨h5, h6, h7⟩⟩, h4⟩

/-- What the program's New answers. -/
def ProgNew (M : World → Nat → (Nat → Prop) → Int → Int → (Int → Int) → Prop) (w : World) (base size : Int) (ok : Bool) (e : Ending) (w' : World) : Prop :=
  Below w.heap.size w w' ∧ ((ok = false ∧ e = .returned (.tuple #[.pointer none, .int .i64 1])) ∨
    (ok = true ∧ ∃ b S, e = .returned (.tuple #[.pointer (some ⟨b, 0, none⟩), .int .i64 0]) ∧ (∀ i, S i → w.heap.size ≤ i) ∧ M w' b S base size fun _ => 0))

end Go.Proofs.YtbcnkhfpogglmaaGreatDoor.M3

namespace Go.Proofs.YtbcnkhfpogglmaaGreatDoor.M3
open Go.RowKit
set_option linter.unusedVariables false
set_option maxRecDepth 100000

/-- The array of n bytes. -/
def uarr (n : Nat) (f : Nat → Int) : Array Value := varr n fun i => .int .u8 (f i)
theorem uarr_size (n : Nat) (f : Nat → Int) : (uarr n f).size = n := varr_size n _
theorem uarr_get (n : Nat) (f : Nat → Int) (j : Nat) (h : j < n) : (uarr n f)[j]? = some (.int .u8 (f j)) := varr_get n _ j h
theorem uarr_one (n : Nat) (f : Nat → Int) : (uarr n f).all (·.oneCell') = true := varr_one fun _ => rfl
theorem uarr_congr {n : Nat} {f g : Nat → Int} (h : ∀ i, i < n → f i = g i) : uarr n f = uarr n g := varr_congr fun i hi => by rw [h i hi]

/-- All the bytes are alike. -/
def alike (n : Nat) (f g : Nat → Int) : Bool := (List.range n).all fun i => f i == g i
theorem alike_iff {n : Nat} {f g : Nat → Int} : alike n f g = true ↔ ∀ i, i < n → f i = g i := by
  unfold alike; simp [List.all_eq_true]

section
variable {P : Program} (w : World)
theorem run_part_u8 {e : TypeId} (ha : (isAgg e).run P w = .ok false w) {n : Nat} {f : Nat → Int} {i : Nat} (h : i < n) : (part e (uarr n f) i).run P w = .ok (.int .u8 (f i)) w := by
  simp [part, ha, uarr_get n f i h]

theorem run_alike {d : Nat} {e : TypeId} (ha : (isAgg e).run P w = .ok false w) (he : P.underlying e = some (.int .u8)) {n : Nat} (f g : Nat → Int) (l : List Nat) (hl : ∀ i ∈ l, i < n) :
    ((forIn l ((none, ()) : Option Bool × Unit) fun i _ => do
        let x ← part e (uarr n f) i
        let y ← part e (uarr n g) i
        let r ← Op.equalIn (d + 1) e x y
        if (!r) = true then pure (ForInStep.done (some false, ())) else pure (ForInStep.yield (none, ()))).run P w) =
      .ok (if (l.all fun i => f i == g i) = true then (none, ()) else (some false, ())) w := by
  induction l with
  | nil => simp
  | cons i l ih =>
    have hi := hl i (by simp)
    have ih := ih fun j hj => hl j (by simp [hj])
    rw [List.forIn_cons]
    simp only [Sem.run_bind, run_part_u8 w ha hi, Result.andThen_ok, run_equalIn_int w d e .u8 .u8 _ _ he]
    cases hc : (f i == g i)
    · simp [hc]
    · simp only [Bool.not_true, Bool.false_eq_true, if_false, Sem.run_pure, Result.andThen_ok, List.all_cons, hc, Bool.true_and]
      exact ih

theorem run_equalIn_bytes {d : Nat} {t e : TypeId} {n : Nat} (ht : P.underlying t = some (.array n e)) (hs : (sizeOf e).run P w = .ok 1 w) (ha : (isAgg e).run P w = .ok false w) (he : P.underlying e = some (.int .u8)) (f g : Nat → Int) :
    (Op.equalIn (d + 1 + 1) t (.agg (uarr n f)) (.agg (uarr n g))).run P w = .ok (alike n f g) w := by
  rw [Op.equalIn]
  simp only [Sem.run_bind, run_underlying ht, Result.andThen_ok, hs, Nat.mul_one]
  rw [Std.Legacy.Range.forIn_eq_forIn_range']
  simp only [Std.Legacy.Range.size]
  have e1 : (n - 0 + 1 - 1) / 1 = n := by simp
  rw [e1, ← List.range_eq_range', run_alike w ha he f g (List.range n) fun i hi => List.mem_range.1 hi, Result.andThen_ok]
  unfold alike
  cases (List.range n).all fun i => f i == g i <;> simp

theorem run_eql_bytes {t e : TypeId} {n : Nat} (ht : P.underlying t = some (.array n e)) (hs : (sizeOf e).run P w = .ok 1 w) (ha : (isAgg e).run P w = .ok false w) (he : P.underlying e = some (.int .u8)) (f g : Nat → Int) :
    (binOp .eql t (.agg (uarr n f)) (.agg (uarr n g))).run P w = .ok (.bool (alike n f g)) w := by
  rw [run_eql_struct, run_equalIn_bytes (d := 9998) w ht hs ha he]
  rfl
end

end Go.Proofs.YtbcnkhfpogglmaaGreatDoor.M3

namespace Go.Proofs.YtbcnkhfpogglmaaGreatDoor.M3
open Go.RowKit Go.Maps
set_option linter.unusedVariables false
set_option maxRecDepth 100000

/-- How a pointer reads as a number: its block's, or -1. -/
def ptrElem (v : Value) : Option (DataW Unit × List MemPlace) :=
  match v with
  | .pointer none => some (.lit (.int .i64 (-1)), [])
  | .pointer (some ⟨g, 0, none⟩) => some (.lit (.int .i64 g), [])
  | _ => none
def encP : Option Nat → DataW Unit
  | none => .lit (.int .i64 (-1))
  | some g => .lit (.int .i64 g)
def ptrTo : Option Nat → Value
  | none => .pointer none
  | some g => .pointer (some ⟨g, 0, none⟩)
theorem ptrElem_to (o : Option Nat) : ptrElem (ptrTo o) = some (encP o, []) := by cases o <;> rfl
theorem ptrElem_inv {v : Value} {z : DataW Unit × List MemPlace} (h : ptrElem v = some z) : ∃ o, v = ptrTo o ∧ z = (encP o, []) := by
  unfold ptrElem at h
  split at h
  · cases h; exact ⟨none, rfl, rfl⟩
  · cases h; exact ⟨some _, rfl, rfl⟩
  · cases h
theorem encP_inj {o o' : Option Nat} (h : encP o = encP o') : o = o' := by
  cases o <;> cases o' <;> simp [encP] at h ⊢
  · omega
theorem wf_u64 {q : Int} (h : In64 q) : (Lit.int .u64 q).wf = true := by
  unfold In64 at h
  simp [Lit.wf, IntKind.min, IntKind.max, IntKind.signed, IntKind.bits]; omega
theorem wf_u64_in {q : Int} (h : (Lit.int .u64 q).wf = true) : In64 q := by
  unfold In64
  simp [Lit.wf, IntKind.min, IntKind.max, IntKind.signed, IntKind.bits] at h; omega

theorem nodup_le (N : Nat) (lo : Int) (l : List Int) (hn : l.Nodup) (h : ∀ x ∈ l, lo ≤ x ∧ x < lo + N) : l.length ≤ N := by
  induction N generalizing l with
  | zero =>
    cases l with
    | nil => simp
    | cons a l => have := h a (by simp); omega
  | succ N ih =>
    by_cases c : lo + N ∈ l
    · have h1 := List.length_erase_of_mem c
      have h2 := ih (l.erase (lo + N)) (hn.erase _) fun x hx => by
        have h3 := (hn.mem_erase_iff).1 hx
        have h4 := h x h3.2
        have := h3.1
        omega
      omega
    · have := ih l hn fun x hx => by
        have h4 := h x hx
        have : x ≠ lo + N := fun e => c (e ▸ hx)
        omega
      omega

/-- The types' facts. -/
structure PgT (P : Program) (t k e : TypeId) : Prop where
  hk : P.underlying k = some (.int .u64)
  ht : P.underlying t = some (.map k e)
  hz : ∀ w, (zeroValue e).run P w = .ok (.pointer none) w

/-- Block mb of the world is a map whose entry at q leads to block pg q. -/
def PgMap (P : Program) (k : TypeId) (w : World) (mb : Nat) (pg : Int → Option Nat) : Prop :=
  ∃ n D, w.ownsMap P k ptrElem mb n D ∧ (∀ q, D.atKey (.int .u64 q) (encP none) = encP (pg q)) ∧ ∀ kl, Maps.has D kl = true → ∃ q, In64 q ∧ kl = .int .u64 q ∧ pg q ≠ none

section
variable {P : Program} {t k e : TypeId} {w w' : World} {mb : Nat} {pg : Int → Option Nat}

theorem PgMap.lt (h : PgMap P k w mb pg) : mb < w.heap.size := by obtain ⟨n, D, h, _⟩ := h; exact h.lt
theorem PgMap.keeps {S : Nat → Prop} (h : PgMap P k w mb pg) (o : Only S w w') (hs : ¬ S mb) : PgMap P k w' mb pg := by
  obtain ⟨n, D, h1, h2⟩ := h
  have hlt := h1.lt
  obtain ⟨es, clock, hb, r⟩ := h1
  exact ⟨n, D, ⟨es, clock, (o.block mb hlt hs).trans hb, r⟩, h2⟩
theorem PgMap.congr (h : PgMap P k w mb pg) {pg' : Int → Option Nat} (e : ∀ q, pg q = pg' q) : PgMap P k w mb pg' := by
  obtain rfl : pg = pg' := funext e; exact h
theorem PgMap.made (P : Program) (k : TypeId) (w : World) : PgMap P k (w.alloc (.map #[] 0)) w.heap.size fun _ => none :=
  ⟨0, _, World.ownsMap_made w P k ptrElem, fun q => rfl, fun kl h => by simp [Maps.has] at h⟩

theorem PgMap.look (h : PgMap P k w mb pg) (T : PgT P t k e) {q : Int} (hq : In64 q) :
    (Instr.lookup t (.map (some mb)) (.int .u64 q) false).run P w = .ok (ptrTo (pg q)) w := by
  obtain ⟨n, D, h1, h2, h3⟩ := h
  obtain ⟨v, ps, hr, hv⟩ := h1.lookup (int_keyed T.hk) T.ht (T.hz w) (ptrElem_to none) (keyOf_int_mk T.hk (wf_u64 hq))
  obtain ⟨o, rfl, ho⟩ := ptrElem_inv hv
  injection ho with ho _
  rw [h2 q] at ho
  rw [hr, encP_inj ho]

theorem PgMap.size_le (h : PgMap P k w mb pg) (hk : P.underlying k = some (.int .u64)) {lo : Int} {N : Nat} (hN : ∀ q, pg q ≠ none → lo ≤ q ∧ q < lo + N) : ∃ n D, n ≤ N ∧ Maps.size D = n ∧ w.ownsMap P k ptrElem mb n D ∧ (∀ q, D.atKey (.int .u64 q) (encP none) = encP (pg q)) ∧ ∀ kl, Maps.has D kl = true → ∃ q, In64 q ∧ kl = .int .u64 q ∧ pg q ≠ none := by
  obtain ⟨n, D, ⟨es, clock, hb, F, hs, hD⟩, h2, h3⟩ := h
  have hsz : Maps.size D = es.size := by rw [hD]; simp [Maps.size, Go.length_read]
  refine ⟨es.size, D, ?_, hsz, ⟨es, clock, hb, F, Nat.le_refl _, hD⟩, h2, h3⟩
  rw [← hsz]
  have ht := World.ownsMap.tidy (⟨es, clock, hb, F, hs, hD⟩ : w.ownsMap P k ptrElem mb n D) (int_keyed hk)
  obtain ⟨l, rfl, hp⟩ := ht
  have hkey : ∀ p ∈ l, ∃ q, p.1 = .int .u64 q ∧ pg q ≠ none := fun p hpm => by
    obtain ⟨q, _, e1, e2⟩ := h3 p.1 (by
      show (l.any fun r => r.1.sameKey p.1) = true
      rw [List.any_eq_true]
      refine ⟨p, hpm, ?_⟩
      have hent := World.ownsMap.entries (⟨es, clock, hb, F, hs, hD⟩ : w.ownsMap P k ptrElem mb n _) (int_keyed hk)
      obtain ⟨es2, e3, _, e4⟩ := hent
      injection e3 with e3
      subst e3
      exact WideAt.sameKey_self (e4 p hpm))
    exact ⟨q, e1, e2⟩
  let f : Lit × DataW Unit → Int := fun p => match p.1 with | .int _ q => q | _ => 0
  have hnd : (l.map f).Nodup := by
    rw [List.Nodup, List.pairwise_map]
    refine List.Pairwise.imp_of_mem ?_ hp
    intro a b ha hb hne he
    obtain ⟨q1, e1, _⟩ := hkey a ha
    obtain ⟨q2, e2, _⟩ := hkey b hb
    apply hne
    simp only [f, e1, e2] at he
    rw [e1, e2, he]
  have := nodup_le N lo (l.map f) hnd fun x hx => by
    obtain ⟨p, hp1, rfl⟩ := List.mem_map.1 hx
    obtain ⟨q, e1, e2⟩ := hkey p hp1
    simp only [f, e1]
    exact hN q e2
  simpa [Maps.size] using this

theorem PgMap.put (h : PgMap P k w mb pg) (T : PgT P t k e) {lo : Int} {N : Nat} (hN : ∀ q, pg q ≠ none → lo ≤ q ∧ q < lo + N) (hM : N < maxLen) {q : Int} (hq : In64 q) (g : Nat) :
    ∃ w', (Instr.mapUpdate t (.map (some mb)) (.int .u64 q) (.pointer (some ⟨g, 0, none⟩))).run P w = .ok () w' ∧ PgMap P k w' mb (fun y => if y = q then some g else pg y) ∧ w.mapTurned w' mb := by
  obtain ⟨n, D, hn, _, h1, h2, h3⟩ := h.size_le T.hk hN
  have K := int_keyed T.hk
  have hkey := keyOf_int_mk T.hk (wf_u64 hq)
  obtain ⟨w', hr, ho, hg⟩ := h1.store K T.ht (by omega) hkey (ptrElem_to (some g))
  refine ⟨w', hr, ⟨_, _, ho, fun y => ?_, fun kl hkl => ?_⟩, hg⟩
  · show _ = encP (if y = q then some g else pg y)
    by_cases e : y = q
    · subst e; rw [if_pos rfl]; exact Maps.atKey_put_same h1.isMap (K.key hkey) _ _
    · rw [if_neg e, Maps.atKey_put_other (by intro h; injection h with _ h; exact e h)]; exact h2 y
  · by_cases e : kl = .int .u64 q
    · subst e; exact ⟨q, hq, rfl, by simp⟩
    · rw [Maps.has_put_other e] at hkl
      obtain ⟨y, h4, rfl, h5⟩ := h3 kl hkl
      exact ⟨y, h4, rfl, by show (if y = q then some g else pg y) ≠ none; rw [if_neg (by intro h; exact e (by rw [h]))]; exact h5⟩
theorem PgMap.drop (h : PgMap P k w mb pg) (T : PgT P t k e) {q : Int} (hq : In64 q) (ty : TypeId) :
    ∃ w', (Builtin.delete_ #[t, k] ty #[.map (some mb), .int .u64 q]).run P w = .ok (.tuple #[]) w' ∧ PgMap P k w' mb (fun y => if y = q then none else pg y) ∧ w.mapTurned w' mb := by
  obtain ⟨n, D, h1, h2, h3⟩ := h
  have hkey := keyOf_int_mk T.hk (wf_u64 hq)
  obtain ⟨w', hr, ho, hg⟩ := h1.drop (int_keyed T.hk) T.ht hkey ty
  refine ⟨w', hr, ⟨_, _, ho, fun y => ?_, fun kl hkl => ?_⟩, hg⟩
  · show _ = encP (if y = q then none else pg y)
    by_cases e : y = q
    · subst e; rw [if_pos rfl]; exact Maps.atKey_del_same _
    · rw [if_neg e, Maps.atKey_del_other (by intro h; injection h with _ h; exact e h)]; exact h2 y
  · by_cases e : kl = .int .u64 q
    · subst e; rw [Maps.has_del_same] at hkl; cases hkl
    · rw [Maps.has_del_other e] at hkl
      obtain ⟨y, h4, rfl, h5⟩ := h3 kl hkl
      exact ⟨y, h4, rfl, by show (if y = q then none else pg y) ≠ none; rw [if_neg (by intro h; exact e (by rw [h]))]; exact h5⟩

theorem mapTurned_only {S : Nat → Prop} (h : w.mapTurned w' mb) (hs : S mb) : Only S w w' := by
  have g := h.grown
  exact ⟨g.os, g.tape, g.output, g.size, fun i hi hn => g.block i hi (by intro e; cases e; exact hn hs)⟩
theorem mapTurned_size (h : w.mapTurned w' mb) : w'.heap.size = w.heap.size := by
  obtain ⟨es, clock, es', clock', hb, rfl⟩ := h
  show (Array.setIfInBounds _ _ _).size = _
  simp
end

end Go.Proofs.YtbcnkhfpogglmaaGreatDoor.M3

namespace Go.Proofs.YtbcnkhfpogglmaaGreatDoor.M3
open Go.RowKit Go.Maps
set_option linter.unusedVariables false
set_option maxRecDepth 100000

theorem pgT : PgT Tryz.prog 122 26 123 := ⟨Tryz.underlying26, Tryz.underlying122, fun w => Tryz.zeroValue123 w⟩

/-- Block g holds the 4096 bytes of m from 4096 q on. -/
def PageAt (w : World) (g : Nat) (m : Int → Int) (q : Int) : Prop := w.heap[g]? = some (.cells (uarr 4096 fun i => m (q * 4096 + i)) 138 (0, 0))

/-- What the map and the pages hold. -/
structure PgOk (w : World) (b mb : Nat) (S : Nat → Prop) (m : Int → Int) (pg : Int → Option Nat) : Prop where
  map : PgMap Tryz.prog 26 w mb pg
  page : ∀ q g, pg q = some g → PageAt w g m q ∧ S g ∧ g ≠ b ∧ g ≠ mb ∧ ∃ i : Nat, i < 4096 ∧ ¬ m (q * 4096 + i) = 0
  gone : ∀ q, pg q = none → ∀ i : Nat, i < 4096 → m (q * 4096 + i) = 0
  inj : ∀ q q' g, pg q = some g → pg q' = some g → q = q'
  sb : S b
  smb : S mb
  ne : mb ≠ b
  lt : ∀ i, S i → i < w.heap.size

/-- The object in block b, whose own blocks are those of S, is the memory m. -/
def ProgMem (w : World) (b : Nat) (S : Nat → Prop) (base size : Int) (m : Int → Int) : Prop :=
  ∃ mb pg, w.heap[b]? = some (.cells #[.int .u64 base, .int .u64 size, .map (some mb)] 125 (0, 0)) ∧ PgOk w b mb S m pg ∧ Bytey m ∧ (∀ y, ¬ m y = 0 → base ≤ y ∧ y < base + size) ∧ base % 4096 = 0 ∧ size % 4096 = 0

theorem ProgMem.keeps {w w' : World} {b : Nat} {S : Nat → Prop} {base size : Int} {m : Int → Int} {T : Nat → Prop} (h : ProgMem w b S base size m) (o : Only T w w') (hs : ∀ i, S i → ¬ T i) : ProgMem w' b S base size m := by
  obtain ⟨mb, pg, h1, h2, h3⟩ := h
  refine ⟨mb, pg, o.keeps (hs _ h2.sb) h1, ⟨h2.map.keeps o (hs _ h2.smb), fun q g e => ?_, h2.gone, h2.inj, h2.sb, h2.smb, h2.ne, fun i hi => Nat.lt_of_lt_of_le (h2.lt i hi) o.size⟩, h3⟩
  obtain ⟨k1, k2, k3⟩ := h2.page q g e
  exact ⟨o.keeps (hs _ k2) k1, k2, k3⟩

theorem pages_in {w : World} {b mb : Nat} {S : Nat → Prop} {m : Int → Int} {pg : Int → Option Nat} {base size : Int} (h : PgOk w b mb S m pg) (hf : Fits base size) (hm : ∀ y, ¬ m y = 0 → base ≤ y ∧ y < base + size) (h1 : base % 4096 = 0) (h2 : size % 4096 = 0) :
    ∀ q, pg q ≠ none → base / 4096 ≤ q ∧ q < base / 4096 + (16384 : Nat) := by
  intro q hq
  cases e : pg q with
  | none => exact absurd e hq
  | some g =>
    obtain ⟨_, _, _, _, i, hi, hne⟩ := h.page q g e
    have := hm _ hne
    unfold Fits at hf
    omega

theorem isWhole_any (n : Int) (hn : In64 n) (w : World) :
    Calls Tryz.prog 75 #[.int .u64 n] w fun e w' => e = .returned (.bool (n % 4096 == 0)) ∧ w = w' := by
  have h1 := hn.1
  have h2 := hn.2
  go_enter Tryz.func75, Tryz.ntmps75
  go_wp2
  go_ret
  exact ⟨rfl, rfl⟩

theorem isLength_any (n : Int) (w : World) :
    Calls Tryz.prog 68 #[.int .i64 n] w fun e w' => e = .returned (.bool (okN n)) ∧ w = w' := by
  by_cases h1 : n = 1
  · subst h1
    go_enter Tryz.func68, Tryz.ntmps68
    go_wp2
    go_ret
    exact ⟨rfl, rfl⟩
  by_cases h2 : n = 2
  · subst h2
    go_enter Tryz.func68, Tryz.ntmps68
    go_wp2
    go_ret
    exact ⟨rfl, rfl⟩
  by_cases h3 : n = 4
  · subst h3
    go_enter Tryz.func68, Tryz.ntmps68
    go_wp2
    go_ret
    exact ⟨rfl, rfl⟩
  by_cases h4 : n = 8
  · subst h4
    go_enter Tryz.func68, Tryz.ntmps68
    go_wp2
    go_ret
    exact ⟨rfl, rfl⟩
  have e : okN n = false := by unfold okN; rw [decide_eq_false]; omega
  rw [e]
  have e1 : (n == 1) = false := by simpa using h1
  have e2 : (n == 2) = false := by simpa using h2
  have e3 : (n == 4) = false := by simpa using h3
  have e4 : (n == 8) = false := by simpa using h4
  clear h1 h2 h3 h4 e
  go_enter Tryz.func68, Tryz.ntmps68
  go_wp2
  go_ret
  exact ⟨rfl, rfl⟩

theorem place_any (x : Int) (hx : In64 x) (w : World) :
    Calls Tryz.prog 115 #[.int .u64 x] w fun e w' => e = .returned (.tuple #[.int .u64 (x / 4096), .int .i64 (x % 4096)]) ∧ w = w' := by
  have h1 := hx.1
  have h2 := hx.2
  go_enter Tryz.func115, Tryz.ntmps115
  go_wp2
  go_ret2
  exact ⟨rfl, rfl⟩

end Go.Proofs.YtbcnkhfpogglmaaGreatDoor.M3

namespace Go.Proofs.YtbcnkhfpogglmaaGreatDoor.M3
open Go.RowKit Go.Maps
set_option linter.unusedVariables false
set_option maxRecDepth 100000

/-- The struct's three cells. -/
theorem ram_cells {w : World} {b mb : Nat} {base size : Int} (h : w.heap[b]? = some (.cells #[.int .u64 base, .int .u64 size, .map (some mb)] 125 (0, 0))) :
    w.cell? ⟨b, 0, none⟩ = some (.int .u64 base) ∧ w.cell? ⟨b, 1, none⟩ = some (.int .u64 size) ∧ w.cell? ⟨b, 2, none⟩ = some (.map (some mb)) := by
  refine ⟨?_, ?_, ?_⟩
  · rw [cell_of_row w b 0 _ _ _ h]; rfl
  · rw [cell_of_row w b 1 _ _ _ h]; rfl
  · rw [cell_of_row w b 2 _ _ _ h]; rfl

theorem progBase_any {w : World} {b : Nat} {S : Nat → Prop} {base size : Int} {m : Int → Int} (h : ProgMem w b S base size m) :
    Calls Tryz.prog 76 #[.pointer (some ⟨b, 0, none⟩)] w fun e w' => e = .returned (.int .u64 base) ∧ w = w' := by
  obtain ⟨mb, pg, hb, _⟩ := h
  obtain ⟨c0, c1, c2⟩ := ram_cells hb
  clear hb
  go_enter Tryz.func76, Tryz.ntmps76
  go_wp2
  go_ret
  exact ⟨rfl, rfl⟩

theorem progSize_any {w : World} {b : Nat} {S : Nat → Prop} {base size : Int} {m : Int → Int} (h : ProgMem w b S base size m) :
    Calls Tryz.prog 77 #[.pointer (some ⟨b, 0, none⟩)] w fun e w' => e = .returned (.int .u64 size) ∧ w = w' := by
  obtain ⟨mb, pg, hb, _⟩ := h
  obtain ⟨c0, c1, c2⟩ := ram_cells hb
  clear hb
  go_enter Tryz.func77, Tryz.ntmps77
  go_wp2
  go_ret
  exact ⟨rfl, rfl⟩

set_option maxHeartbeats 1000000 in
theorem progHas_any {w : World} {b : Nat} {S : Nat → Prop} {base size : Int} {m : Int → Int} (x n : Int) (h : ProgMem w b S base size m) (hf : Fits base size) (hx : In64 x) (hn : In63 n) :
    Calls Tryz.prog 36 #[.pointer (some ⟨b, 0, none⟩), .int .u64 x, .int .i64 n] w fun e w' => e = .returned (.bool (hasZ base size x n)) ∧ w = w' := by
  obtain ⟨mb, pg, hb, _⟩ := h
  obtain ⟨c0, c1, c2⟩ := ram_cells hb
  clear hb
  obtain ⟨f1, f2, f3, f4⟩ := hf
  have x1 := hx.1
  have x2 := hx.2
  have n1 := hn.1
  have n2 := hn.2
  by_cases a : n < 0
  · rw [show hasZ base size x n = false by unfold hasZ; rw [decide_eq_false]; omega]
    go_enter Tryz.func36, Tryz.ntmps36
    go_wp2
    go_ret
    exact ⟨rfl, rfl⟩
  by_cases z : n = 0
  · subst z
    rw [show hasZ base size x 0 = true by unfold hasZ; rw [decide_eq_true]; omega]
    go_enter Tryz.func36, Tryz.ntmps36
    go_wp2
    go_ret
    exact ⟨rfl, rfl⟩
  have zz : (n == 0) = false := by simpa using z
  have zp : 0 < n := by omega
  clear z
  by_cases c : base ≤ x
  · have d1 : 0 ≤ x - base := by omega
    have d2 : x - base ≤ 18446744073709551615 := by omega
    by_cases e : x - base < size
    · have d3 : 0 ≤ size - (x - base) := by omega
      have d4 : size - (x - base) ≤ 18446744073709551615 := by omega
      by_cases k : n ≤ size - (x - base)
      · rw [show hasZ base size x n = true by unfold hasZ; rw [decide_eq_true]; omega]
        go_enter Tryz.func36, Tryz.ntmps36
        go_wp2
        go_ret
        exact ⟨rfl, rfl⟩
      · rw [show hasZ base size x n = false by unfold hasZ; rw [decide_eq_false]; omega]
        go_enter Tryz.func36, Tryz.ntmps36
        go_wp2
        go_ret
        exact ⟨rfl, rfl⟩
    · rw [show hasZ base size x n = false by unfold hasZ; rw [decide_eq_false]; omega]
      go_enter Tryz.func36, Tryz.ntmps36
      go_wp2
      go_ret
      exact ⟨rfl, rfl⟩
  · rw [show hasZ base size x n = false by unfold hasZ; rw [decide_eq_false]; omega]
    go_enter Tryz.func36, Tryz.ntmps36
    go_wp2
    go_ret
    exact ⟨rfl, rfl⟩

end Go.Proofs.YtbcnkhfpogglmaaGreatDoor.M3

namespace Go.Proofs.YtbcnkhfpogglmaaGreatDoor.M3
open Go.RowKit
set_option linter.unusedVariables false
set_option maxRecDepth 100000

theorem bit_V {x : Nat} (h : x < 2 ^ 64) (i : Nat) : (V (x : Int)).getLsbD i = x.testBit i := by
  have e : (V (x : Int)).toNat = x := by
    have := toNat_V (x := (x : Int)) (by unfold In64; omega)
    omega
  rw [BitVec.getLsbD, e]

/-- Byte k of a word. -/
theorem field_byte {v : Int} (hv : In64 v) {k : Nat} (hk : k < 8) : U (fieldB (V v) (8 * k) 8) = v / 256 ^ k % 256 := by
  obtain ⟨n, rfl⟩ : ∃ n : Nat, v = n := ⟨v.toNat, by have := hv.1; omega⟩
  have hn : n < 2 ^ 64 := by have := hv.2; omega
  have e : fieldB (V n) (8 * k) 8 = V ((n / 2 ^ (8 * k) % 2 ^ 8 : Nat) : Int) := ext64 fun i hi => by
    rw [field_bit (V n) 8 (by omega), bit_V hn, bit_V (by have := Nat.mod_lt (n / 2 ^ (8 * k)) (show 0 < 2 ^ 8 by omega); omega), Nat.testBit_mod_two_pow, Nat.testBit_div_two_pow, decide_eq_true hi, Bool.true_and]
    have e1 : (8 * (k : Int)).toNat = 8 * k := by omega
    rw [e1, Nat.add_comm]
    congr 1
    rw [decide_eq_decide]; omega
  rw [e, U_V (by have := Nat.mod_lt (n / 2 ^ (8 * k)) (show 0 < 2 ^ 8 by omega); unfold In64; omega)]
  have e2 : (2 : Nat) ^ (8 * k) = 256 ^ k := by rw [Nat.pow_mul]
  rw [e2, Int.natCast_emod, Int.natCast_ediv, Int.natCast_pow]
  rfl

/-- A byte put above a number. -/
theorem put_byte {v y : Int} {k : Nat} (hk : k < 8) (h0 : 0 ≤ v) (h1 : v < 256 ^ k) (y0 : 0 ≤ y) (y1 : y ≤ 255) : U (putB (V v) (8 * k) 8 (V y)) = v + 256 ^ k * y := by
  obtain ⟨n, rfl⟩ : ∃ n : Nat, v = n := ⟨v.toNat, by omega⟩
  obtain ⟨z, rfl⟩ : ∃ z : Nat, y = z := ⟨y.toNat, by omega⟩
  have hp : (256 : Nat) ^ k = 2 ^ (8 * k) := by rw [Nat.pow_mul]
  have hn : n < 2 ^ (8 * k) := by
    rw [← hp]
    have h2 : ((n : Nat) : Int) < ((256 ^ k : Nat) : Int) := by rw [Int.natCast_pow]; exact h1
    exact Int.ofNat_lt.1 h2
  have hz : z < 2 ^ 8 := by omega
  have hle : (2 : Nat) ^ (8 * k) * 2 ^ 8 ≤ 2 ^ 64 := by rw [← Nat.pow_add]; exact Nat.pow_le_pow_right (by omega) (by omega)
  have hs : z * 2 ^ (8 * k) + n < 2 ^ 64 := by
    have : (z + 1) * 2 ^ (8 * k) ≤ 2 ^ 8 * 2 ^ (8 * k) := Nat.mul_le_mul_right _ (by omega)
    rw [Nat.mul_comm (2 ^ 8)] at this
    rw [Nat.add_mul] at this
    omega
  have hn64 : n < 2 ^ 64 := by
    have : 2 ^ (8 * k) ≤ 2 ^ (8 * k) * 2 ^ 8 := Nat.le_mul_of_pos_right _ (by omega)
    omega
  have e : putB (V n) (8 * k) 8 (V z) = V ((z * 2 ^ (8 * k) + n : Nat) : Int) := ext64 fun i hi => by
    rw [put_bit (V n) 8 (V z) (by omega), bit_V hs, bit_V hn64, bit_V (by omega), decide_eq_true hi, Bool.true_and]
    have e1 : (8 * (k : Int)).toNat = 8 * k := by omega
    rw [e1, ← Nat.shiftLeft_eq, Nat.shiftLeft_add_eq_or_of_lt hn, Nat.testBit_or, Nat.testBit_shiftLeft]
    by_cases a : 8 * k ≤ i
    · have b : n.testBit i = false := Nat.testBit_lt_two_pow (Nat.lt_of_lt_of_le hn (Nat.pow_le_pow_right (by omega) a))
      by_cases c : (i : Int) - 8 * k < 8
      · rw [if_pos ⟨a, c⟩, b, decide_eq_true a]; simp
      · rw [if_neg (fun h => c h.2), b]
        have : z.testBit (i - 8 * k) = false := Nat.testBit_lt_two_pow (Nat.lt_of_lt_of_le hz (Nat.pow_le_pow_right (by omega) (by omega)))
        rw [this]; simp
    · rw [if_neg (fun h => a h.1), decide_eq_false a]; simp
  rw [e, U_V (by unfold In64; omega), ← hp]
  rw [Int.natCast_add, Int.natCast_mul, Int.natCast_pow, Int.mul_comm, Int.add_comm]
  rfl

theorem rdN_snoc (m : Int → Int) (x : Int) (k : Nat) : rdN m x (k + 1) = rdN m x k + 256 ^ k * m (x + k) := by
  induction k generalizing x with
  | zero => simp [rdN]
  | succ k ih =>
    show m x + 256 * rdN m (x + 1) (k + 1) = (m x + 256 * rdN m (x + 1) k) + 256 ^ (k + 1) * m (x + ((k + 1 : Nat) : Int))
    rw [ih (x + 1), show x + 1 + (k : Int) = x + ((k + 1 : Nat) : Int) by omega, Int.mul_add, Int.pow_succ, Int.mul_comm (256 ^ k) 256, Int.mul_assoc, Int.add_assoc]
/-- Bytes that are 0 behind the first ones add nothing. -/
theorem rdN_zeros {m : Int → Int} {x : Int} {c d : Nat} (h : ∀ i : Nat, c ≤ i → i < c + d → m (x + i) = 0) : rdN m x (c + d) = rdN m x c := by
  induction d with
  | zero => rfl
  | succ d ih => rw [← Nat.add_assoc, rdN_snoc, ih fun i h1 h2 => h i h1 (by omega), h (c + d) (by omega) (by omega), Int.mul_zero, Int.add_zero]

end Go.Proofs.YtbcnkhfpogglmaaGreatDoor.M3

namespace Go.Proofs.YtbcnkhfpogglmaaGreatDoor.M3
open Go.RowKit Go.Maps
set_option linter.unusedVariables false
set_option maxRecDepth 100000

/-- Block g of the world holds these bytes, and may be written. -/
def HoldsU (w : World) (g : Nat) (t : TypeId) (n : Nat) (f : Nat → Int) : Prop := w.heap[g]? = some (.cells (uarr n f) t (0, 0))
theorem HoldsU.cell {w : World} {g : Nat} {t : TypeId} {n : Nat} {f : Nat → Int} (h : HoldsU w g t n f) {j : Nat} (hj : j < n) : w.cell? ⟨g, j, none⟩ = some (.int .u8 (f j)) := by
  rw [cell_of_row w g j _ t _ h]; exact uarr_get n _ j hj
theorem HoldsU.frozen {w : World} {g : Nat} {t : TypeId} {n : Nat} {f : Nat → Int} (h : HoldsU w g t n f) (j : Nat) : w.frozen? ⟨g, j, none⟩ = false := frozen_of_row w g j _ t h
theorem uarr_set (n : Nat) (f : Nat → Int) (k : Nat) (v : Int) : (uarr n f).setIfInBounds k (.int .u8 v) = uarr n fun j => if j = k then v else f j := by
  unfold uarr; rw [varr_set]
  exact varr_congr fun i _ => by by_cases e : i = k <;> simp [e]
theorem HoldsU.set {w : World} {g : Nat} {t : TypeId} {n : Nat} {f : Nat → Int} (h : HoldsU w g t n f) (k : Nat) (v : Int) : HoldsU (w.setCell ⟨g, k, none⟩ (.int .u8 v)) g t n fun j => if j = k then v else f j := by
  unfold HoldsU; rw [heap_setCell_same w g k _ t _ h, uarr_set]
theorem HoldsU.other {w : World} {g : Nat} {t : TypeId} {n : Nat} {f : Nat → Int} (h : HoldsU w g t n f) {a : Addr} (ha : g ≠ a.block) (v : Value) : HoldsU (w.setCell a v) g t n f := by
  unfold HoldsU; rw [heap_setCell_other w a g v ha]; exact h
theorem HoldsU.congr {w : World} {g : Nat} {t : TypeId} {n : Nat} {f k : Nat → Int} (h : HoldsU w g t n f) (e : ∀ i, i < n → f i = k i) : HoldsU w g t n k := by
  unfold HoldsU at *; rw [h, uarr_congr e]
theorem HoldsU.lt {w : World} {g : Nat} {t : TypeId} {n : Nat} {f : Nat → Int} (h : HoldsU w g t n f) : g < w.heap.size := (Array.getElem?_eq_some_iff.1 h).1
theorem HoldsU.setRow {w : World} {g : Nat} {t : TypeId} {n : Nat} {f : Nat → Int} (h : HoldsU w g t n f) (k : Nat → Int) : HoldsU (w.setRow g (uarr n k)) g t n k := setRow_heap w g _ _ t _ h
theorem HoldsU.keeps {S : Nat → Prop} {w w' : World} {g : Nat} {t : TypeId} {n : Nat} {f : Nat → Int} (h : HoldsU w g t n f) (o : Only S w w') (hs : ¬ S g) : HoldsU w' g t n f := o.keeps hs h

theorem below_drewN {B : Nat} {a w : World} (h : Below B a w) (n : Nat) : Below B a (w.drewN n) := ⟨h.os, h.tape, h.output, h.size, h.block⟩
theorem HoldsU.drewN {w : World} {g : Nat} {t : TypeId} {n : Nat} {f : Nat → Int} (h : HoldsU w g t n f) (k : Nat) : HoldsU (w.drewN k) g t n f := h

theorem zero8 : (#[.int .u8 0, .int .u8 0, .int .u8 0, .int .u8 0, .int .u8 0, .int .u8 0, .int .u8 0, .int .u8 0] : Array Value) = uarr 8 fun _ => 0 := rfl
theorem size8 : (Tryz.prog.info? 114).map (·.size) = some 8 := by kernel_rfl
theorem sizeU8 (w : World) : (sizeOf 5).run Tryz.prog w = .ok 1 w := Tryz.sizeOf5 w

theorem index_uarr8 (f : Nat → Int) (k : Nat) (hk : k < 8) (w : World) : (Instr.index 114 (.agg (uarr 8 f)) (.int .i64 k)).run Tryz.prog w = .ok (.int .u8 (f k)) w := by
  have hg : (uarr 8 f)[k]? = some (.int .u8 (f k)) := uarr_get 8 _ k hk
  have h1 : (0 : Int) ≤ k ∧ (k : Int) < ((8 : Nat) : Int) := by omega
  simp only [Instr.index, Sem.run_bind, asIntOf, Sem.run_pure, Result.andThen_ok, run_underlying Tryz.underlying114 w]
  rw [if_pos h1]
  simp [Sem.run_bind, sizeU8 w, part, hg]

set_option maxHeartbeats 1000000 in
set_option maxRecDepth 100000 in
theorem number_any (m : Int → Int) (x : Int) (hm : Bytey m) (w : World) :
    Calls Tryz.prog 70 #[.agg (uarr 8 fun i => m (x + i))] w fun e w' => e = .returned (.int .u64 (rdN m x 8)) ∧ Below w.heap.size w w' := by
  have h1 : HoldsU (w.alloc (.cells (uarr 8 fun i => m (x + i)) 114)) w.heap.size 114 8 (fun i => m (x + i)) := heap_alloc_new w _
  have HM := Lib.hid hm
  have HB : Hid (Below w.heap.size w (w.alloc (.cells (uarr 8 fun i => m (x + i)) 114))) := Lib.hid ((Below.refl _ _).alloc (Nat.le_refl _) _)
  have H1 := Lib.hid h1
  clear hm h1
  go_enter Tryz.func70, Tryz.ntmps70
  go_wp2_with (refine wpList_load_row rfl _ _ rfl w.heap.size rfl 114 _ _ _ H1.out Tryz.underlying114 rfl ?_ ?_; · exact size8.trans (by rw [uarr_size]))
  generalize (w.alloc (.cells (uarr 8 fun i => m (x + i)) 114)) = w1 at *
  go_loop [3, 7] (fun v i => ∃ k : Nat, k ≤ 8 ∧ i = .int .i64 k ∧ v = .int .u64 (rdN m x k)) (fun _ i => 8 - (intOf i).toNat)
  case atStart => exact ⟨0, Nat.zero_le _, rfl, rfl⟩
  case round =>
    obtain ⟨k, hk, rfl, rfl⟩ := hrel
    by_cases hlt : k < 8
    · have HI := index_uarr8 (fun i => m (x + i)) k hlt w1
      have y0 := (HM.out (x + k)).1
      have y1 := (HM.out (x + k)).2
      have r := rdN_in HM.out x k
      have HP := Lib.hid (put_byte hlt r.1 r.2 y0 y1)
      have HS := Lib.hid (rdN_snoc m x k)
      have HV := (rdN_8 HM.out x (c := k) (by omega))
      have HV2 : Hid (In64 (rdN m x k)) := Lib.hid (by unfold In64; omega)
      clear r HV
      go_wp2_with (go_at_call 116; refine (put_any _ _ _ _ HV2.out _).mono ?_; rintro e w2 ⟨rfl, rfl⟩)
      go_round
      case rel => exact ⟨k + 1, by omega, by go_num, by rw [HS.out, ← HP.out]⟩
      case measure => simp [intOf]; omega
    · obtain rfl : k = 8 := by omega
      go_wp2
      go_ret
      exact ⟨rfl, HB.out⟩

/-- The eight bytes of a word. -/
def leB (v : Int) (i : Nat) : Int := v / 256 ^ i % 256
theorem leB_in (v : Int) (i : Nat) : 0 ≤ leB v i ∧ leB v i ≤ 255 := by unfold leB; omega

set_option maxHeartbeats 1000000 in
set_option maxRecDepth 100000 in
theorem littleEnd_any (v : Int) (hv : In64 v) (w : World) :
    Calls Tryz.prog 71 #[.int .u64 v] w fun e w' => e = .returned (.agg (uarr 8 (leB v))) ∧ Below w.heap.size w w' := by
  have HV := Lib.hid hv
  clear hv
  go_enter Tryz.func71, Tryz.ntmps71
  go_wp2
  simp only [zero8]
  go_loopw [5] (fun i wr => ∃ k : Nat, k ≤ 8 ∧ i = .int .i64 k ∧ HoldsU wr w.heap.size 114 8 (fun _ => 0) ∧ HoldsU wr (w.heap.size + 1) 114 8 (fun j => if j < k then leB v j else 0) ∧ Below w.heap.size w wr)
    (fun i _ => 8 - (intOf i).toNat)
  case atStart =>
    refine ⟨0, Nat.zero_le _, rfl, heap_alloc2_old w _ _, (heap_alloc2_new w _ _).trans ?_, ((Below.refl _ _).alloc (Nat.le_refl _) _).alloc (by simp) _⟩
    simp
  case round =>
    obtain ⟨k, hk, rfl, h1, h2, hb⟩ := hrel
    by_cases hlt : k < 8
    · have hc := h2.cell hlt
      have hf := h2.frozen k
      have HL := Lib.hid (field_byte HV.out hlt)
      have l0 := (leB_in v k).1
      have l1 := (leB_in v k).2
      have HW : Hid (IntKind.u8.wrap (leB v k) = leB v k) := Lib.hid (by rw [IntKind.wrap_u8]; omega)
      have H1 := Lib.hid h1
      have H2 := Lib.hid h2
      have HB := Lib.hid hb
      clear h1 h2 hb
      go_wp2_with (go_at_call 117; refine (field_any _ _ _ HV.out _).mono ?_; rintro e w2 ⟨rfl, n, rfl⟩; rw [HL.out])
      refine ⟨⟨k + 1, by omega, by go_num, (H1.out.drewN n).other (by simp) _, ((H2.out.drewN n).set k _).congr fun i hi => ?_, (below_drewN HB.out n).setCell (by simp) _⟩, by simp [intOf]; omega⟩
      by_cases e : i = k
      · subst e; rw [if_pos rfl, if_pos (by omega)]; rfl
      · simp only [e, if_false]
        by_cases c : i < k
        · rw [if_pos c, if_pos (by omega)]
        · rw [if_neg c, if_neg (by omega)]
    · obtain rfl : k = 8 := by omega
      have h3 : HoldsU wr (w.heap.size + 1) 114 8 (leB v) := h2.congr fun i hi => by rw [if_pos hi]
      have HB := Lib.hid hb
      have H1 := Lib.hid h1
      have H3 := Lib.hid h3
      clear h2 h1 hb h3
      go_wp2_with (first
        | (refine wpList_load_row rfl _ _ rfl (w.heap.size + 1) rfl 114 _ _ _ H3.out Tryz.underlying114 rfl ?_ ?_; · exact size8.trans (by rw [uarr_size]))
        | (refine wpList_store_row rfl _ _ _ rfl w.heap.size _ rfl rfl 114 _ H1.out ?_ (by rw [uarr_size, uarr_size]) (uarr_one _ _) ?_; · exact size8.trans (by rw [uarr_size])))
      refine bodyPost_ret (v := .agg (uarr 8 (leB v))) (results_cell_row (show Tryz.f71.results = #[.cell 2 114] by kernel_rfl) _ _ w.heap.size 114 _ _ _ rfl (H1.out.setRow _) Tryz.underlying114 rfl (size8.trans (by rw [uarr_size]))) rfl ⟨rfl, below_setRow HB.out (Nat.le_refl _) _⟩

/-- All of them are 0. -/
def noughts (xs : List Int) : Bool := xs.all fun x => x == 0
theorem noughts_iff {xs : List Int} : noughts xs = true ↔ ∀ i, i < xs.length → xs.getD i 0 = 0 := by
  unfold noughts
  rw [List.all_eq_true]
  constructor
  · intro h i hi
    have := h xs[i] (List.getElem_mem hi)
    simpa [List.getD, hi] using this
  · intro h x hx
    obtain ⟨i, hi, rfl⟩ := List.getElem_of_mem hx
    have := h i hi
    simpa [List.getD, hi] using this
theorem countZero (xs : List Int) (h : Bytes255 xs) : (((Lib.countByte (Lib.bytesOf xs) (0 : Int).toNat.toUInt8 : Nat) : Int) == (xs.length : Int)) = noughts xs := by
  rw [Bool.eq_iff_iff, noughts_iff, beq_iff_eq]
  unfold Lib.countByte Lib.bytesOf
  have e : (xs.map fun n => UInt8.ofNat n.toNat).length = xs.length := by simp
  rw [← e, Int.natCast_inj, List.count_eq_length]
  constructor
  · intro hh i hi0
    have hi : i < xs.length := by simpa using hi0
    have h1 := h i hi
    have h2 := hh (UInt8.ofNat xs[i].toNat) (List.mem_map.2 ⟨xs[i], List.getElem_mem hi, rfl⟩)
    have e2 : xs.getD i 0 = xs[i] := by simp [List.getD, hi]
    rw [e2] at h1 ⊢
    have h3 := congrArg UInt8.toNat h2
    simp at h3
    omega
  · intro hh b hb
    obtain ⟨x, hx, rfl⟩ := List.mem_map.1 hb
    obtain ⟨i, hi, rfl⟩ := List.getElem_of_mem hx
    have := hh i (by simpa using hi)
    have e2 : xs.getD i 0 = xs[i] := by simp [List.getD, hi]
    rw [e2] at this
    rw [this]
    try rfl

set_option maxHeartbeats 2000000 in
set_option maxRecDepth 1000000 in
theorem count_any (xs : List Int) (a : Addr) (c b2 : Nat) (d : Nat) (w : World) (hc : ∀ i, i < xs.length → w.cell? (a.add i) = some (.int .u8 (xs.getD i 0))) (hc2 : w.cell? ⟨b2, 0, none⟩ = some (.int .u8 0)) :
    Calls Tryz.prog 158 #[.slice (some a) xs.length c, .slice (some ⟨b2, 0, none⟩) 1 d] w fun e w' => e = .returned (.int .i64 (Lib.countByte (Lib.bytesOf xs) (0 : Int).toNat.toUInt8)) ∧ w = w' := by
  go_enter Tryz.func158, Tryz.ntmps158
  go_wp2
  rw [run_callFunc_extern Tryz.func172 (by kernel_rfl) (by kernel_rfl) (by kernel_rfl) (e := Extern.BytealgCount.count) (by kernel_rfl), Lib.run_countAt w a xs.length c xs rfl hc 0]
  simp only [Result.andThen]
  rw [Oper.upon_value]
  go_wp2
  go_ret
  exact ⟨rfl, rfl⟩

theorem isNought_any (g : Nat) (v : Value) (xs : List Int) (w : World) (h : ReadsIn .u8 g w v xs) (hb : Bytes255 xs) (h0 : xs ≠ []) :
    Calls Tryz.prog 140 #[v] w fun e w' => e = .returned (.bool (noughts xs)) ∧ Below w.heap.size w w' := by
  obtain ⟨a, c, rfl, hl, h⟩ := h
  obtain ⟨off, rfl, hg, hc⟩ := h.resolve_left h0
  have hc1 : ∀ i, i < xs.length → (w.alloc (.cells #[.int .u8 0] 5)).cell? ((⟨g, off, none⟩ : Addr).add i) = some (.int .u8 (xs.getD i 0)) := fun i hi => by
    rw [add_none]
    exact (((Below.refl w.heap.size w).alloc (Nat.le_refl _) (.cells #[.int .u8 0] 5)).cell (p := ⟨g, off + i, none⟩) hg).trans (hc i hi)
  have HC := Lib.hid hc1
  have HZ := Lib.hid (countZero xs hb)
  have HL := Lib.hid hl
  clear hc hc1 hl h0 hb h
  go_enter Tryz.func140, Tryz.ntmps140
  go_wp2_with (go_at_call 158; refine (count_any xs _ c _ _ _ HC.out ?_).mono ?_; · simp [go_sem])
  rintro e w' ⟨rfl, rfl⟩
  go_wp2
  go_ret
  exact ⟨ret_bool HZ.out, (Below.refl _ _).alloc (Nat.le_refl _) _⟩

end Go.Proofs.YtbcnkhfpogglmaaGreatDoor.M3

namespace Go.Proofs.YtbcnkhfpogglmaaGreatDoor.M3
open Go.RowKit
set_option linter.unusedVariables false
set_option maxRecDepth 100000

section
variable {P : Program} {ops : Array Oper} {rest : List Oper} {o : Oper} {a : Act} {w : World} {Q : Exit → Act → World → Prop}

theorem wpList_want (hw : Region.wanted o (yielded ops a.tmps) = true) (h : o.wp P a w (wpList P ops Q rest) Q) : wpList P ops Q (o :: rest) a w := by
  simp only [wpList, hw, if_true]
  exact .inl h

theorem wpList_load_u (hw : Region.wanted o (yielded ops a.tmps) = true) (ty : TypeId) (x : Operand) (ho : o.op = .load ty x)
    (g : Nat) (hx : a.eval x = .pointer (some ⟨g, 0, none⟩)) (t : TypeId) (n : Nat) (f : Nat → Int) (e : TypeId) (hg : w.heap[g]? = some (.cells (uarr n f) t (0, 0)))
    (hu : P.underlying ty = some (.array n e)) (hi : (P.info? ty).map (·.size) = some n)
    (h : wpList P ops Q rest (a.put o.dst (.agg (uarr n f))) w) : wpList P ops Q (o :: rest) a w :=
  wpList_want hw (wp_load_row ty x ho g hx t _ _ _ hg hu rfl (by rw [uarr_size]; exact hi) h)

theorem wpList_build_u (hw : Region.wanted o (yielded ops a.tmps) = true) (t : TypeId) (ho : o.op = .build t #[]) (n : Nat) (f : Nat → Int) (hb : P.built t [] = some (uarr n f))
    (h : wpList P ops Q rest (a.put o.dst (.agg (uarr n f))) w) : wpList P ops Q (o :: rest) a w :=
  wpList_want hw (wp_build t #[] ho (by simp [hb]) (by simpa [hb] using h))

theorem wpList_eql_u (hw : Region.wanted o (yielded ops a.tmps) = true) (t ty : TypeId) (x y : Operand) (ho : o.op = .binOp .eql t x y ty) (e : TypeId) (n : Nat) (f g : Nat → Int)
    (hx : a.eval x = .agg (uarr n f)) (hy : a.eval y = .agg (uarr n g)) (ht : P.underlying t = some (.array n e)) (hs : (sizeOf e).run P w = .ok 1 w) (ha : (isAgg e).run P w = .ok false w) (he : P.underlying e = some (.int .u8))
    (hm : P.eqGuardType P.depth t = false)
    (h : wpList P ops Q rest (a.put o.dst (.bool (alike n f g))) w) : wpList P ops Q (o :: rest) a w := by
  refine wpList_want hw ?_
  unfold Oper.wp execOp
  simp only [ho, hx, hy, Sem.run_bind, run_eqGuard_agg w .eql t x y _ _ hm, run_eql_bytes w ht hs ha he f g, Result.andThen_ok, Sem.run_pure]
  exact h

/-- xs laid over f from off on. -/
def overU (f : Nat → Int) (off : Nat) (xs : List Int) (k : Nat) : Int := if off ≤ k ∧ k < off + xs.length then xs.getD (k - off) 0 else f k

theorem uarr_splice (n : Nat) (f : Nat → Int) (off : Nat) (xs : List Int) (h : off + xs.length ≤ n) :
    ((uarr n f).toList.take off ++ (xs.map (Value.int .u8) ++ (uarr n f).toList.drop (off + (xs.map (Value.int .u8)).length))).toArray = uarr n (overU f off xs) := by
  have hl : (uarr n f).toList = (List.range n).map fun i => Value.int .u8 (f i) := by unfold uarr varr; rfl
  have hr : uarr n (overU f off xs) = ((List.range n).map fun i => Value.int .u8 (overU f off xs i)).toArray := rfl
  rw [hl, hr, List.length_map]
  congr 1
  apply List.ext_getElem?
  intro k
  by_cases c : k < off
  · rw [List.getElem?_append_left (by simp; omega), List.getElem?_take, if_pos c]
    unfold overU
    simp only [List.getElem?_map]
    cases hk : (List.range n)[k]? with
    | none => rfl
    | some j =>
      have : j = k := by
        have := List.getElem?_eq_some_iff.1 hk
        obtain ⟨_, h2⟩ := this
        simpa using h2.symm
      subst this
      simp only [Option.map_some]
      rw [if_neg (by omega)]
  · rw [List.getElem?_append_right (by simp; omega)]
    simp only [List.length_take, List.length_map, List.length_range]
    rw [show min off n = off by omega]
    by_cases d : k < off + xs.length
    · rw [List.getElem?_append_left (by simp; omega)]
      have hk : k < n := by omega
      simp only [List.getElem?_map, List.getElem?_range hk, Option.map_some]
      unfold overU
      rw [if_pos ⟨by omega, d⟩]
      have : k - off < xs.length := by omega
      simp [List.getElem?_eq_getElem this, List.getD]
    · rw [List.getElem?_append_right (by simp; omega)]
      simp only [List.length_map, List.getElem?_drop]
      rw [show off + xs.length + (k - off - xs.length) = k by omega]
      simp only [List.getElem?_map]
      cases hk : (List.range n)[k]? with
      | none => rfl
      | some j =>
        have : j = k := by
          obtain ⟨_, h2⟩ := List.getElem?_eq_some_iff.1 hk
          simpa using h2.symm
        subst this
        simp only [Option.map_some]
        unfold overU
        rw [if_neg (by omega)]

theorem wpList_copy_u (hgd : o.guard = none) (d s : Operand) (dT sT : TypeId)
    (ho : o.op = .call { callee := .builtin .copy, args := #[d, s], argTypes := #[dT, sT] }) (elem : TypeId) (hu : P.underlying dT = some (.slice elem)) (hsz : (P.info? elem).map (·.size) = some 1)
    (g off dLen dCap : Nat) (ad : Addr) (sLen sCap : Nat) (hd : a.eval d = .slice (some ⟨g, off, none⟩) dLen dCap) (hs : a.eval s = .slice (some ad) sLen sCap)
    (n : Nat) (f : Nat → Int) (t : TypeId) (hg : w.heap[g]? = some (.cells (uarr n f) t (0, 0))) (xs : List Int) (hn : xs.length = Nat.min sLen dLen)
    (hsrc : ∀ j, j < xs.length → w.cell? (ad.add j) = some (.int .u8 (xs.getD j 0))) (hfit : off + xs.length ≤ n)
    (h : wpList P ops Q rest (a.put o.dst (goInt xs.length)) (w.setRow g (uarr n (overU f off xs)))) : wpList P ops Q (o :: rest) a w := by
  refine wpList_copy_own hgd d s dT sT ho elem hu hsz g off dLen dCap ad sLen sCap hd hs (uarr n f) t hg (xs.map (Value.int .u8)) (by simpa using hn) ?_ (by rw [uarr_size]; simpa using hfit) ?_ ?_
  · intro j v hj
    rw [List.getElem?_map, Option.map_eq_some_iff] at hj
    obtain ⟨x, hx, rfl⟩ := hj
    have hl := (List.getElem?_eq_some_iff.1 hx).1
    rw [hsrc j hl]
    simp [List.getD, hx]
  · intro v hv
    obtain ⟨x, _, rfl⟩ := List.mem_map.1 hv
    rfl
  · rw [uarr_splice n f off xs hfit, List.length_map]
    exact h

/-- 'p[l:]' of a pointer to an array. -/
theorem run_slice_from {t e : TypeId} {n : Nat} (ht : P.underlying t = some (.array n e)) (hs : (sizeOf e).run P w = .ok 1 w) (g l : Nat) (hl : l < n) :
    (Instr.sliceAt t (.pointer (some ⟨g, 0, none⟩)) (some (.int .i64 l)) none none).run P w = .ok (.slice (some ⟨g, l, none⟩) (n - l) (n - l)) w := by
  have e1 : ¬ n = l := by omega
  have e2 : (⟨g, 0, none⟩ : Addr).add l = ⟨g, l, none⟩ := by
    unfold Addr.add; simp
    intro h; omega
  have e3 : l ≤ n := by omega
  simp [Instr.sliceAt, run_underlying ht, Instr.sureAddr, Instr.sliceBounds, Instr.sliceBound, asIntOf, hs, e1, e2, e3, Result.andThen]
/-- 'a[:h]' of an array. -/
theorem run_slice_upto {t e : TypeId} {n : Nat} (ht : P.underlying t = some (.array n e)) (hs : (sizeOf e).run P w = .ok 1 w) (g h : Nat) (hh : h ≤ n) (hn : 0 < n) :
    (Instr.sliceAt t (.pointer (some ⟨g, 0, none⟩)) none (some (.int .i64 h)) none).run P w = .ok (.slice (some ⟨g, 0, none⟩) h n) w := by
  have e1 : ¬ n = 0 := by omega
  have e2 : (⟨g, 0, none⟩ : Addr).add 0 = ⟨g, 0, none⟩ := by unfold Addr.add; simp
  simp [Instr.sliceAt, run_underlying ht, Instr.sureAddr, Instr.sliceBounds, Instr.sliceBound, asIntOf, hs, e1, e2, hh, Result.andThen]
end

end Go.Proofs.YtbcnkhfpogglmaaGreatDoor.M3

namespace Go.Proofs.YtbcnkhfpogglmaaGreatDoor.M3
open Go.RowKit Go.Maps
set_option linter.unusedVariables false
set_option maxRecDepth 100000

theorem zero4096 : Tryz.zeroCells138 = uarr 4096 fun _ => 0 := by kernel_rfl
theorem size4096 : (Tryz.prog.info? 138).map (·.size) = some 4096 := by kernel_rfl
theorem built4096 : Tryz.prog.built 138 [] = some (uarr 4096 fun _ => 0) := by kernel_rfl
theorem guard4096 : Tryz.prog.eqGuardType Tryz.prog.depth 138 = false := by kernel_rfl
theorem size_u8 : (Tryz.prog.info? 5).map (·.size) = some 1 := by kernel_rfl

theorem putF_eq (m : Int → Int) (x : Int) (xs : List Int) (y : Int) : putF m x xs y = if x ≤ y ∧ y < x + xs.length then xs.getD (y - x).toNat 0 else m y := by
  by_cases h : x ≤ y ∧ y < x + xs.length
  · rw [if_pos h]
    have := putF_at (m := m) (x := x) (xs := xs) (i := (y - x).toNat) (by omega)
    rw [show x + ((y - x).toNat : Int) = y by omega] at this
    exact this
  · rw [if_neg h]; exact putF_out (by omega)
theorem putF_bytey {m : Int → Int} (hm : Bytey m) (x : Int) {xs : List Int} (hx : Bytes255 xs) : Bytey (putF m x xs) := by
  intro y
  rw [putF_eq]
  split
  · exact hx _ (by omega)
  · exact hm y

section
variable {w w' : World} {b mb g : Nat} {S : Nat → Prop} {m m' : Int → Int} {pg : Int → Option Nat} {i : Int}

theorem PageAt.congr (h : PageAt w g m i) (e : ∀ k : Nat, k < 4096 → m (i * 4096 + k) = m' (i * 4096 + k)) : PageAt w g m' i := by
  unfold PageAt at *; rw [h, uarr_congr e]
theorem PgOk.wrote (h : PgOk w b mb S m pg) (e : pg i = some g) (o : Only (fun k => k = g) w w') (hp : PageAt w' g m' i) (hne : ∃ k : Nat, k < 4096 ∧ ¬ m' (i * 4096 + k) = 0)
    (hout : ∀ y, y < i * 4096 ∨ i * 4096 + 4096 ≤ y → m' y = m y) : PgOk w' b mb S m' pg := by
  obtain ⟨_, k2, k3, k4, _⟩ := h.page i g e
  refine ⟨h.map.keeps o (fun h => k4 h.symm), fun q g' e' => ?_, fun q e' k hk => ?_, h.inj, h.sb, h.smb, h.ne, fun k hk => Nat.lt_of_lt_of_le (h.lt k hk) o.size⟩
  · by_cases c : q = i
    · subst c
      rw [e] at e'; cases e'
      exact ⟨hp, k2, k3, k4, hne⟩
    · obtain ⟨j1, j2, j3, j4, k, hk, j5⟩ := h.page q g' e'
      have hg : g' ≠ g := fun hh => c (h.inj q i g (hh ▸ e') e)
      refine ⟨PageAt.congr (show PageAt w' g' m q from o.keeps hg j1) fun k hk => (hout _ (by omega)).symm, j2, j3, j4, k, hk, ?_⟩
      rw [hout _ (by omega)]; exact j5
  · have c : q ≠ i := fun hh => by rw [hh, e] at e'; cases e'
    rw [hout _ (by omega)]; exact h.gone q e' k hk
theorem PgOk.laid (h : PgOk w b mb S m pg) (e : pg i = none) (o : Only (fun k => k = mb) w w') (hg : w.heap.size ≤ g) (hmap : PgMap Tryz.prog 26 w' mb fun y => if y = i then some g else pg y) (hp : PageAt w' g m' i)
    (hne : ∃ k : Nat, k < 4096 ∧ ¬ m' (i * 4096 + k) = 0) (hout : ∀ y, y < i * 4096 ∨ i * 4096 + 4096 ≤ y → m' y = m y) : PgOk w' b mb (fun k => S k ∨ k = g) m' fun y => if y = i then some g else pg y := by
  have hgl : g < w'.heap.size := (Array.getElem?_eq_some_iff.1 hp).1
  have hb := h.lt b h.sb
  have hm := h.lt mb h.smb
  refine ⟨hmap, fun q g' e' => ?_, fun q e' k hk => ?_, fun q q' g' e1 e2 => ?_, .inl h.sb, .inl h.smb, h.ne, fun k hk => ?_⟩
  · by_cases c : q = i
    · subst c
      simp only [if_true] at e'
      cases e'
      exact ⟨hp, .inr rfl, by omega, by omega, hne⟩
    · simp only [if_neg c] at e'
      obtain ⟨j1, j2, j3, j4, k, hk, j5⟩ := h.page q g' e'
      refine ⟨PageAt.congr (show PageAt w' g' m q from o.keeps j4 j1) fun k hk => (hout _ (by omega)).symm, .inl j2, j3, j4, k, hk, ?_⟩
      rw [hout _ (by omega)]; exact j5
  · have c : q ≠ i := fun hh => by simp only [hh, if_true] at e'; cases e'
    simp only [if_neg c] at e'
    rw [hout _ (by omega)]; exact h.gone q e' k hk
  · by_cases c : q = i
    · by_cases d : q' = i
      · rw [c, d]
      · simp only [if_pos c] at e1
        simp only [if_neg d] at e2
        cases e1
        have := h.lt _ (h.page q' g e2).2.1; omega
    · by_cases d : q' = i
      · simp only [if_pos d] at e2
        simp only [if_neg c] at e1
        cases e2
        have := h.lt _ (h.page q g e1).2.1; omega
      · simp only [if_neg c] at e1
        simp only [if_neg d] at e2
        exact h.inj q q' g' e1 e2
  · rcases hk with hk | rfl
    · exact Nat.lt_of_lt_of_le (h.lt k hk) o.size
    · exact hgl
theorem PgOk.struck (h : PgOk w b mb S m pg) (e : pg i = some g) (o : Only (fun k => k = g ∨ k = mb) w w') (hmap : PgMap Tryz.prog 26 w' mb fun y => if y = i then none else pg y)
    (hz : ∀ k : Nat, k < 4096 → m' (i * 4096 + k) = 0) (hout : ∀ y, y < i * 4096 ∨ i * 4096 + 4096 ≤ y → m' y = m y) : PgOk w' b mb S m' fun y => if y = i then none else pg y := by
  refine ⟨hmap, fun q g' e' => ?_, fun q e' k hk => ?_, fun q q' g' e1 e2 => ?_, h.sb, h.smb, h.ne, fun k hk => Nat.lt_of_lt_of_le (h.lt k hk) o.size⟩
  · have c : q ≠ i := fun hh => by simp only [hh, if_true] at e'; cases e'
    simp only [if_neg c] at e'
    obtain ⟨j1, j2, j3, j4, k, hk, j5⟩ := h.page q g' e'
    have hg : g' ≠ g := fun hh => c (h.inj q i g (hh ▸ e') e)
    refine ⟨PageAt.congr (show PageAt w' g' m q from o.keeps (fun hh => by rcases hh with hh | hh; exact hg hh; exact j4 hh) j1) fun k hk => (hout _ (by omega)).symm, j2, j3, j4, k, hk, ?_⟩
    rw [hout _ (by omega)]; exact j5
  · by_cases c : q = i
    · subst c; exact hz k hk
    · simp only [if_neg c] at e'
      rw [hout _ (by omega)]; exact h.gone q e' k hk
  · have c : q ≠ i := fun hh => by simp only [hh, if_true] at e1; cases e1
    have d : q' ≠ i := fun hh => by simp only [hh, if_true] at e2; cases e2
    simp only [if_neg c] at e1
    simp only [if_neg d] at e2
    exact h.inj q q' g' e1 e2
theorem PgOk.congr (h : PgOk w b mb S m pg) (e : ∀ y, m y = m' y) : PgOk w b mb S m' pg := by
  obtain rfl : m = m' := funext e; exact h
end

/-- What a call leaves that tells nothing. -/
def StoreEnd (w : World) (b : Nat) (S : Nat → Prop) (base size : Int) (m : Int → Int) (e : Ending) (w' : World) : Prop :=
  (∃ u, e = .returned u) ∧ Only S w w' ∧ ∃ S', (∀ k, S' k → S k ∨ w.heap.size ≤ k) ∧ ProgMem w' b S' base size m

/-- What is asked of the bytes and their place. -/
structure InPage (base size : Int) (i : Int) (at_ : Nat) (xs : List Int) : Prop where
  lo : base ≤ i * 4096 + at_
  hi : i * 4096 + at_ + xs.length ≤ base + size
  page : at_ + xs.length ≤ 4096
  bytes : Bytes255 xs
  ne : xs ≠ []

theorem InPage.out {base size i : Int} {at_ : Nat} {xs : List Int} (h : InPage base size i at_ xs) (m : Int → Int) : ∀ y, y < i * 4096 ∨ i * 4096 + 4096 ≤ y → putF m (i * 4096 + at_) xs y = m y := by
  intro y hy
  have := h.page
  exact putF_out (by omega)
theorem InPage.over {base size i : Int} {at_ : Nat} {xs : List Int} (h : InPage base size i at_ xs) (m : Int → Int) (k : Nat) (hk : k < 4096) : overU (fun k => m (i * 4096 + k)) at_ xs k = putF m (i * 4096 + at_) xs (i * 4096 + k) := by
  rw [putF_eq]
  unfold overU
  by_cases c : at_ ≤ k ∧ k < at_ + xs.length
  · rw [if_pos c, if_pos (by omega)]; congr 1; omega
  · rw [if_neg c, if_neg (by omega)]
theorem InPage.support {base size i : Int} {at_ : Nat} {xs : List Int} (h : InPage base size i at_ xs) {m : Int → Int} (hm : ∀ y, ¬ m y = 0 → base ≤ y ∧ y < base + size) : ∀ y, ¬ putF m (i * 4096 + at_) xs y = 0 → base ≤ y ∧ y < base + size := by
  intro y hy
  have h1 := h.lo
  have h2 := h.hi
  rw [putF_eq] at hy
  split at hy
  · omega
  · exact hm y hy
/-- Bytes that are not all 0 leave no page of noughts. -/
theorem InPage.left {base size i : Int} {at_ : Nat} {xs : List Int} (h : InPage base size i at_ xs) (m : Int → Int) (hn : noughts xs = false) : ∃ k : Nat, k < 4096 ∧ ¬ putF m (i * 4096 + at_) xs (i * 4096 + k) = 0 := by
  have h1 := h.page
  have : ¬ ∀ j, j < xs.length → xs.getD j 0 = 0 := fun hh => by rw [noughts_iff.2 hh] at hn; cases hn
  obtain ⟨j, hj⟩ := Classical.not_forall.1 this
  obtain ⟨hj, hne⟩ := Classical.not_imp.1 hj
  refine ⟨at_ + j, by omega, ?_⟩
  have := putF_at (m := m) (x := i * 4096 + at_) hj
  rw [show i * 4096 + ((at_ + j : Nat) : Int) = i * 4096 + at_ + j by omega, this]
  exact hne

end Go.Proofs.YtbcnkhfpogglmaaGreatDoor.M3

namespace Go.Proofs.YtbcnkhfpogglmaaGreatDoor.M3
open Go.RowKit Go.Maps
set_option linter.unusedVariables false
set_option maxRecDepth 100000

/-- The memory's parts, as they stand in a world. -/
structure Parts (w : World) (b mb : Nat) (S : Nat → Prop) (base size : Int) (m : Int → Int) (pg : Int → Option Nat) : Prop where
  row : w.heap[b]? = some (.cells #[.int .u64 base, .int .u64 size, .map (some mb)] 125 (0, 0))
  ok : PgOk w b mb S m pg
  bytey : Bytey m
  sup : ∀ y, ¬ m y = 0 → base ≤ y ∧ y < base + size
  al1 : base % 4096 = 0
  al2 : size % 4096 = 0
theorem Parts.mem {w : World} {b mb : Nat} {S : Nat → Prop} {base size : Int} {m : Int → Int} {pg : Int → Option Nat} (h : Parts w b mb S base size m pg) : ProgMem w b S base size m := ⟨mb, pg, h.row, h.ok, h.bytey, h.sup, h.al1, h.al2⟩
theorem ProgMem.parts {w : World} {b : Nat} {S : Nat → Prop} {base size : Int} {m : Int → Int} (h : ProgMem w b S base size m) : ∃ mb pg, Parts w b mb S base size m pg := by
  obtain ⟨mb, pg, h1, h2, h3, h4, h5, h6⟩ := h; exact ⟨mb, pg, h1, h2, h3, h4, h5, h6⟩
theorem Parts.keeps {w w' : World} {b mb : Nat} {S T : Nat → Prop} {base size : Int} {m : Int → Int} {pg : Int → Option Nat} (h : Parts w b mb S base size m pg) (o : Only T w w') (hs : ∀ i, S i → ¬ T i) : Parts w' b mb S base size m pg :=
  ⟨o.keeps (hs _ h.ok.sb) h.row, ⟨h.ok.map.keeps o (hs _ h.ok.smb), fun q g e => by
    obtain ⟨k1, k2, k3⟩ := h.ok.page q g e
    exact ⟨o.keeps (hs _ k2) k1, k2, k3⟩, h.ok.gone, h.ok.inj, h.ok.sb, h.ok.smb, h.ok.ne, fun i hi => Nat.lt_of_lt_of_le (h.ok.lt i hi) o.size⟩, h.bytey, h.sup, h.al1, h.al2⟩
theorem Parts.below {w w' : World} {b mb : Nat} {S : Nat → Prop} {base size : Int} {m : Int → Int} {pg : Int → Option Nat} (h : Parts w b mb S base size m pg) (o : Below w.heap.size w w') : Parts w' b mb S base size m pg :=
  h.keeps (Only.of_below (fun _ => False) o) (fun _ _ => id)

section
variable {w : World} {b mb gs off c : Nat} {S : Nat → Prop} {base size : Int} {m : Int → Int} {pg : Int → Option Nat} (i : Int) (at_ : Nat) (xs : List Int)

set_option maxHeartbeats 1000000 in
theorem storeIn_a (h : Parts w b mb S base size m pg) (hi : In64 i) (hv : ReadsIn .u8 gs w (.slice (some ⟨gs, off, none⟩) xs.length c) xs) (hx : InPage base size i at_ xs) (e : pg i = none) (hn : noughts xs = true) :
    Calls Tryz.prog 118 #[.pointer (some ⟨b, 0, none⟩), .int .u64 i, .int .i64 at_, .slice (some ⟨gs, off, none⟩) xs.length c] w (StoreEnd w b S base size (putF m (i * 4096 + at_) xs)) := by
  have HP := Lib.hid h
  have HV := Lib.hid hv
  have HX := Lib.hid hx
  have HN := Lib.hid hn
  have HE := Lib.hid e
  clear h hv hx hn e
  go_enter Tryz.func118, Tryz.ntmps118
  go_wp2_with fail
  refine (isNought_any gs _ xs _ HV.out HX.out.bytes HX.out.ne).mono ?_
  rintro ee w1 ⟨rfl, hb1⟩
  rw [HN.out]
  have hp := HP.out.below hb1
  obtain ⟨c0, c1, c2⟩ := ram_cells hp.row
  have hl := hp.ok.map.look pgT hi
  rw [HE.out] at hl
  simp only [ptrTo] at hl
  have HB := Lib.hid hb1
  have HQ := Lib.hid hp
  clear hb1 hp
  go_wp2
  go_end0
  refine ⟨⟨_, rfl⟩, Only.of_below _ HB.out, S, fun k hk => .inl hk, HQ.out.row |> fun r => ?_⟩
  have hm : ∀ y, putF m (i * 4096 + at_) xs y = m y := fun y => by
    rw [putF_eq]
    split
    · have h0 := noughts_iff.1 HN.out (y - (i * 4096 + at_)).toNat (by omega)
      have h1 := HQ.out.ok.gone i HE.out (y - i * 4096).toNat (by have := HX.out.page; omega)
      rw [show i * 4096 + ((y - i * 4096).toNat : Int) = y by omega] at h1
      rw [h0, h1]
    · rfl
  have : putF m (i * 4096 + at_) xs = m := funext hm
  rw [this]
  exact HQ.out.mem

/-- The source's bytes, in a later world. -/
theorem src_keeps {w w' : World} {gs off c : Nat} {xs : List Int} (hv : ReadsIn .u8 gs w (.slice (some ⟨gs, off, none⟩) xs.length c) xs) {T : Nat → Prop} (o : Only T w w') (hs : ¬ T gs) : ∀ j, j < xs.length → w'.cell? ((⟨gs, off, none⟩ : Addr).add j) = some (.int .u8 (xs.getD j 0)) := by
  intro j hj
  obtain ⟨a, cc, h1, h2, h3⟩ := hv.keeps o hs
  injection h1 with h1 _ _
  subst h1
  rcases h3 with h3 | ⟨off', h4, _, h5⟩
  · rw [h3] at hj; simp at hj
  · injection h4 with h4; injection h4 with _ h4
    subst h4
    rw [add_none]; exact h5 j hj

theorem pages_16384 (h : Parts w b mb S base size m pg) (hf : Fits base size) : ∀ q, pg q ≠ none → base / 4096 ≤ q ∧ q < base / 4096 + (16384 : Nat) := pages_in h.ok hf h.sup h.al1 h.al2

set_option maxRecDepth 100000 in
set_option maxHeartbeats 2000000 in
theorem storeIn_b (h : Parts w b mb S base size m pg) (hf : Fits base size) (hi : In64 i) (hv : ReadsIn .u8 gs w (.slice (some ⟨gs, off, none⟩) xs.length c) xs) (hs : ¬ S gs) (hx : InPage base size i at_ xs) (e : pg i = none) (hn : noughts xs = false) :
    Calls Tryz.prog 118 #[.pointer (some ⟨b, 0, none⟩), .int .u64 i, .int .i64 at_, .slice (some ⟨gs, off, none⟩) xs.length c] w (StoreEnd w b S base size (putF m (i * 4096 + at_) xs)) := by
  have HP := Lib.hid h
  have HG := Lib.hid hs
  have HV := Lib.hid hv
  have HX := Lib.hid hx
  have HN := Lib.hid hn
  have HE := Lib.hid e
  have HF := Lib.hid (pages_16384 h hf)
  have hpage := hx.page
  have hlen : 0 < xs.length := List.length_pos_iff.2 hx.ne
  clear h hv hx hn e hf hs
  go_enter Tryz.func118, Tryz.ntmps118
  go_wp2_with fail
  refine (isNought_any gs _ xs _ HV.out HX.out.bytes HX.out.ne).mono ?_
  rintro ee w1 ⟨rfl, hb1⟩
  rw [HN.out]
  have hp := HP.out.below hb1
  obtain ⟨c0, c1, c2⟩ := ram_cells hp.row
  have hl := hp.ok.map.look pgT hi
  rw [HE.out] at hl
  simp only [ptrTo] at hl
  have hb2 : Below w1.heap.size w1 (w1.alloc (.cells Tryz.zeroCells138 138)) := (Below.refl _ _).alloc (Nat.le_refl _) _
  have hp2 := hp.below hb2
  obtain ⟨d0, d1, d2⟩ := ram_cells hp2.row
  obtain ⟨w2, hput, hmap, hturn⟩ := hp2.ok.map.put pgT HF.out (by unfold maxLen; omega) hi w1.heap.size
  have ho2 := mapTurned_only (S := fun k => k = mb) hturn rfl
  have hbz : w1.heap.size < (w1.alloc (.cells Tryz.zeroCells138 138)).heap.size := by simp
  have hnew : HoldsU w2 w1.heap.size 138 4096 (fun _ => 0) := by
    refine HoldsU.keeps (S := fun k => k = mb) (w := w1.alloc (.cells Tryz.zeroCells138 138)) ?_ ho2 (by have := hp.ok.lt mb hp.ok.smb; omega)
    show _ = _
    rw [heap_alloc_new, zero4096]
  have hbel : Only (fun k => k = mb) w1 w2 := (Only.of_below _ hb2).trans ho2
  have hsrc : ∀ j, j < xs.length → w2.cell? ((⟨gs, off, none⟩ : Addr).add j) = some (.int .u8 (xs.getD j 0)) := by
    exact src_keeps HV.out ((Only.of_below (fun k => k = mb) hb1).trans hbel) (fun e => HG.out (e ▸ HP.out.ok.smb))
  have HSL := fun w => run_slice_from (w := w) Tryz.underlying138 (Tryz.sizeOf5 w) w1.heap.size at_ (by omega)
  have HB1 := Lib.hid hb1
  have HP1 := Lib.hid hp
  have HO := Lib.hid hbel
  have HMAP := Lib.hid hmap
  have HNEW := Lib.hid hnew
  have HSRC := Lib.hid hsrc
  have HS2 := Lib.hid (mapTurned_size hturn)
  clear hb1 hp hbel hmap hnew hsrc hp2 hb2 ho2 hturn hbz
  go_wp2_with (refine wpList_copy_u rfl (.tmp 31) (.tmp 32) 40 40 rfl 5 Tryz.underlying40 size_u8 w1.heap.size at_ _ _ ⟨gs, off, none⟩ _ _ rfl rfl 4096 (fun _ => 0) 138 HNEW.out xs ?_ HSRC.out (by omega) ?_)
  · show xs.length = min xs.length (4096 - at_)
    omega
  have h3 := HoldsU.setRow HNEW.out (overU (fun _ => 0) at_ xs)
  have ho3 : Only (fun k => k = w1.heap.size) w2 (w2.setRow w1.heap.size (uarr 4096 (overU (fun _ => 0) at_ xs))) := (Only.refl (fun k => k = w1.heap.size) w2).setRow (.inl rfl) _
  have HEND : Hid (StoreEnd w b S base size (putF m (i * 4096 + at_) xs) (.returned (.tuple #[])) (w2.setRow w1.heap.size (uarr 4096 (overU (fun _ => 0) at_ xs)))) := by
    refine Lib.hid ⟨⟨_, rfl⟩, ?_, fun k => S k ∨ k = w1.heap.size, fun k hk => ?_, ?_⟩
    · refine (((Only.of_below S HB1.out).step HO.out ?_).step ho3 ?_)
      · rintro k rfl; exact .inl HP.out.ok.smb
      · rintro k rfl; exact .inr HB1.out.size
    · rcases hk with hk | rfl
      · exact .inl hk
      · exact .inr HB1.out.size
    · have hpg : PageAt (w2.setRow w1.heap.size (uarr 4096 (overU (fun _ => 0) at_ xs))) w1.heap.size (putF m (i * 4096 + at_) xs) i := by
        refine HoldsU.congr h3 fun k hk => ?_
        rw [← HX.out.over m k hk]
        unfold overU
        split
        · rfl
        · exact (HP1.out.ok.gone i HE.out k hk).symm
      have hne : w1.heap.size ≠ mb := by have := HP1.out.ok.lt mb HP1.out.ok.smb; omega
      have hneb : w1.heap.size ≠ b := by have := HP1.out.ok.lt b HP1.out.ok.sb; omega
      have o4 : Only (fun k => k = mb) w1 (w2.setRow w1.heap.size (uarr 4096 (overU (fun _ => 0) at_ xs))) := HO.out.step ho3 (by rintro k rfl; exact .inr (Nat.le_refl _))
      have := PgOk.laid HP1.out.ok HE.out o4 (Nat.le_refl _) (HMAP.out.keeps ho3 (fun h => hne h.symm)) hpg (HX.out.left m HN.out) (HX.out.out m)
      exact ⟨mb, _, o4.keeps (fun h => HP1.out.ok.ne h.symm) HP1.out.row, this, putF_bytey HP1.out.bytey _ HX.out.bytes, HX.out.support HP1.out.sup, HP1.out.al1, HP1.out.al2⟩
  clear h3 ho3
  go_wp2
  go_end0
  exact HEND.out

end
end Go.Proofs.YtbcnkhfpogglmaaGreatDoor.M3

namespace Go.Proofs.YtbcnkhfpogglmaaGreatDoor.M3
open Go.RowKit Go.Maps
set_option linter.unusedVariables false
set_option maxRecDepth 100000

section
variable {w : World} {b mb gs off c : Nat} {S : Nat → Prop} {base size : Int} {m : Int → Int} {pg : Int → Option Nat} (i : Int) (at_ : Nat) (xs : List Int)

theorem Parts.row_keeps {w w' : World} {T : Nat → Prop} (h : Parts w b mb S base size m pg) (o : Only T w w') (hb : ¬ T b) : w'.heap[b]? = some (.cells #[.int .u64 base, .int .u64 size, .map (some mb)] 125 (0, 0)) := o.keeps hb h.row

theorem wrote_end {w w1 w3 : World} {g : Nat} {i : Int} {at_ : Nat} {xs : List Int} (hb1 : Below w.heap.size w w1) (hp : Parts w1 b mb S base size m pg) (e : pg i = some g) (hx : InPage base size i at_ xs)
    (h3 : HoldsU w3 g 138 4096 (overU (fun k => m (i * 4096 + k)) at_ xs)) (o3 : Only (fun k => k = g) w1 w3) (hne : ∃ k : Nat, k < 4096 ∧ ¬ putF m (i * 4096 + at_) xs (i * 4096 + k) = 0) :
    StoreEnd w b S base size (putF m (i * 4096 + at_) xs) (.returned (.tuple #[])) w3 := by
  obtain ⟨_, k2, k3, k4, _⟩ := hp.ok.page i g e
  refine ⟨⟨_, rfl⟩, (Only.of_below S hb1).step o3 (by rintro k rfl; exact .inl k2), S, fun k hk => .inl hk, ?_⟩
  have hpg : PageAt w3 g (putF m (i * 4096 + at_) xs) i := HoldsU.congr h3 fun k hk => hx.over m k hk
  exact ⟨mb, pg, hp.row_keeps o3 (fun h => k3 h.symm), PgOk.wrote hp.ok e o3 hpg hne (hx.out m), putF_bytey hp.bytey _ hx.bytes, hx.support hp.sup, hp.al1, hp.al2⟩

set_option maxRecDepth 100000 in
set_option maxHeartbeats 2000000 in
theorem storeIn_c {g : Nat} (h : Parts w b mb S base size m pg) (hi : In64 i) (hv : ReadsIn .u8 gs w (.slice (some ⟨gs, off, none⟩) xs.length c) xs) (hs : ¬ S gs) (hx : InPage base size i at_ xs) (e : pg i = some g) (hn : noughts xs = false) :
    Calls Tryz.prog 118 #[.pointer (some ⟨b, 0, none⟩), .int .u64 i, .int .i64 at_, .slice (some ⟨gs, off, none⟩) xs.length c] w (StoreEnd w b S base size (putF m (i * 4096 + at_) xs)) := by
  have HP := Lib.hid h
  have HG := Lib.hid hs
  have HV := Lib.hid hv
  have HX := Lib.hid hx
  have HN := Lib.hid hn
  have HE := Lib.hid e
  have hpage := hx.page
  have hlen : 0 < xs.length := List.length_pos_iff.2 hx.ne
  clear h hv hx hn e hs
  go_enter Tryz.func118, Tryz.ntmps118
  go_wp2_with fail
  refine (isNought_any gs _ xs _ HV.out HX.out.bytes HX.out.ne).mono ?_
  rintro ee w1 ⟨rfl, hb1⟩
  rw [HN.out]
  have hp := HP.out.below hb1
  obtain ⟨c0, c1, c2⟩ := ram_cells hp.row
  have hl := hp.ok.map.look pgT hi
  rw [HE.out] at hl
  simp only [ptrTo] at hl
  have hnew : HoldsU w1 g 138 4096 (fun k => m (i * 4096 + k)) := (hp.ok.page i g HE.out).1
  have hsrc : ∀ j, j < xs.length → w1.cell? ((⟨gs, off, none⟩ : Addr).add j) = some (.int .u8 (xs.getD j 0)) := src_keeps HV.out (Only.of_below (fun _ => False) hb1) id
  have HSL := fun w => run_slice_from (w := w) Tryz.underlying138 (Tryz.sizeOf5 w) g at_ (by omega)
  have HB1 := Lib.hid hb1
  have HP1 := Lib.hid hp
  have HNEW := Lib.hid hnew
  have HSRC := Lib.hid hsrc
  clear hb1 hp hnew hsrc
  have h3 := HoldsU.setRow HNEW.out (overU (fun k => m (i * 4096 + k)) at_ xs)
  have ho3 : Only (fun k => k = g) w1 (w1.setRow g (uarr 4096 (overU (fun k => m (i * 4096 + k)) at_ xs))) := (Only.refl (fun k => k = g) w1).setRow (.inl rfl) _
  have H3 := Lib.hid h3
  have HO3 := Lib.hid ho3
  clear h3 ho3
  go_wp2_with (refine wpList_copy_u rfl (.tmp 31) (.tmp 32) 40 40 rfl 5 Tryz.underlying40 size_u8 g at_ _ _ ⟨gs, off, none⟩ _ _ rfl rfl 4096 (fun k => m (i * 4096 + k)) 138 HNEW.out xs ?_ HSRC.out (by omega) ?_)
  · show xs.length = min xs.length (4096 - at_)
    omega
  have HEND : Hid (StoreEnd w b S base size (putF m (i * 4096 + at_) xs) (.returned (.tuple #[])) (w1.setRow g (uarr 4096 (overU (fun k => m (i * 4096 + k)) at_ xs)))) :=
    Lib.hid (wrote_end HB1.out HP1.out HE.out HX.out H3.out HO3.out (HX.out.left m HN.out))
  go_wp2
  go_end0
  exact HEND.out

end
end Go.Proofs.YtbcnkhfpogglmaaGreatDoor.M3

namespace Go.Proofs.YtbcnkhfpogglmaaGreatDoor.M3
open Go.RowKit Go.Maps
set_option linter.unusedVariables false
set_option maxRecDepth 100000

section
variable {w : World} {b mb gs off c : Nat} {S : Nat → Prop} {base size : Int} {m : Int → Int} {pg : Int → Option Nat} (i : Int) (at_ : Nat) (xs : List Int)

set_option maxRecDepth 100000 in
set_option maxHeartbeats 2000000 in
theorem storeIn_d {g : Nat} (h : Parts w b mb S base size m pg) (hi : In64 i) (hv : ReadsIn .u8 gs w (.slice (some ⟨gs, off, none⟩) xs.length c) xs) (hs : ¬ S gs) (hx : InPage base size i at_ xs) (e : pg i = some g) (hn : noughts xs = true) (hz : alike 4096 (overU (fun k => m (i * 4096 + k)) at_ xs) (fun _ => 0) = false) :
    Calls Tryz.prog 118 #[.pointer (some ⟨b, 0, none⟩), .int .u64 i, .int .i64 at_, .slice (some ⟨gs, off, none⟩) xs.length c] w (StoreEnd w b S base size (putF m (i * 4096 + at_) xs)) := by
  have HP := Lib.hid h
  have HG := Lib.hid hs
  have HV := Lib.hid hv
  have HX := Lib.hid hx
  have HN := Lib.hid hn
  have HE := Lib.hid e
  have hpage := hx.page
  have hlen : 0 < xs.length := List.length_pos_iff.2 hx.ne
  clear h hv hx hn e hs
  go_enter Tryz.func118, Tryz.ntmps118
  go_wp2_with fail
  refine (isNought_any gs _ xs _ HV.out HX.out.bytes HX.out.ne).mono ?_
  rintro ee w1 ⟨rfl, hb1⟩
  rw [HN.out]
  have hp := HP.out.below hb1
  obtain ⟨c0, c1, c2⟩ := ram_cells hp.row
  have hl := hp.ok.map.look pgT hi
  rw [HE.out] at hl
  simp only [ptrTo] at hl
  have hnew : HoldsU w1 g 138 4096 (fun k => m (i * 4096 + k)) := (hp.ok.page i g HE.out).1
  have hsrc : ∀ j, j < xs.length → w1.cell? ((⟨gs, off, none⟩ : Addr).add j) = some (.int .u8 (xs.getD j 0)) := src_keeps HV.out (Only.of_below (fun _ => False) hb1) id
  have HSL := fun w => run_slice_from (w := w) Tryz.underlying138 (Tryz.sizeOf5 w) g at_ (by omega)
  have HB1 := Lib.hid hb1
  have HP1 := Lib.hid hp
  have HNEW := Lib.hid hnew
  have HSRC := Lib.hid hsrc
  clear hb1 hp hnew hsrc
  have h3 := HoldsU.setRow HNEW.out (overU (fun k => m (i * 4096 + k)) at_ xs)
  have ho3 : Only (fun k => k = g) w1 (w1.setRow g (uarr 4096 (overU (fun k => m (i * 4096 + k)) at_ xs))) := (Only.refl (fun k => k = g) w1).setRow (.inl rfl) _
  have H3 := Lib.hid h3
  have HO3 := Lib.hid ho3
  clear h3 ho3
  have HQ : Hid (alike 4096 (overU (fun k => m (i * 4096 + k)) at_ xs) (fun _ => 0) = false) := Lib.hid hz
  have HMIN : Hid (xs.length = Nat.min xs.length (4096 - at_)) := Lib.hid (by show xs.length = min xs.length (4096 - at_); omega)
  have HFIT : Hid (at_ + xs.length ≤ 4096) := Lib.hid hpage
  clear hz
  have HEND : Hid (StoreEnd w b S base size (putF m (i * 4096 + at_) xs) (.returned (.tuple #[])) (w1.setRow g (uarr 4096 (overU (fun k => m (i * 4096 + k)) at_ xs)))) :=
    Lib.hid (wrote_end HB1.out HP1.out HE.out HX.out H3.out HO3.out (by
      have : ¬ ∀ k, k < 4096 → overU (fun k => m (i * 4096 + k)) at_ xs k = 0 := fun hh => by
        rw [alike_iff.2 hh] at HQ; exact absurd HQ.out (by simp)
      obtain ⟨k, hk⟩ := Classical.not_forall.1 this
      obtain ⟨hk, hne⟩ := Classical.not_imp.1 hk
      exact ⟨k, hk, by rw [← HX.out.over m k hk]; exact hne⟩))
  go_wp2_with (first
    | (refine wpList_copy_u rfl (.tmp 31) (.tmp 32) 40 40 rfl 5 Tryz.underlying40 size_u8 g at_ _ _ ⟨gs, off, none⟩ _ _ rfl rfl 4096 (fun k => m (i * 4096 + k)) 138 HNEW.out xs HMIN.out HSRC.out HFIT.out ?_)
    | (refine wpList_load_u rfl _ _ rfl g rfl 138 4096 (overU (fun k => m (i * 4096 + k)) at_ xs) 5 H3.out Tryz.underlying138 size4096 ?_)
    | (refine wpList_build_u rfl _ rfl 4096 (fun _ => 0) built4096 ?_)
    | (refine wpList_eql_u rfl 138 _ _ _ rfl 5 4096 (overU (fun k => m (i * 4096 + k)) at_ xs) (fun _ => 0) rfl rfl Tryz.underlying138 (Tryz.sizeOf5 _) (Tryz.isAgg5 _) Tryz.underlying5 guard4096 ?_; rw [HQ.out]))
  go_end0
  exact HEND.out

set_option maxRecDepth 100000 in
set_option maxHeartbeats 2000000 in
theorem storeIn_e {g : Nat} (h : Parts w b mb S base size m pg) (hi : In64 i) (hv : ReadsIn .u8 gs w (.slice (some ⟨gs, off, none⟩) xs.length c) xs) (hs : ¬ S gs) (hx : InPage base size i at_ xs) (e : pg i = some g) (hn : noughts xs = true) (hz : alike 4096 (overU (fun k => m (i * 4096 + k)) at_ xs) (fun _ => 0) = true) :
    Calls Tryz.prog 118 #[.pointer (some ⟨b, 0, none⟩), .int .u64 i, .int .i64 at_, .slice (some ⟨gs, off, none⟩) xs.length c] w (StoreEnd w b S base size (putF m (i * 4096 + at_) xs)) := by
  have HP := Lib.hid h
  have HG := Lib.hid hs
  have HV := Lib.hid hv
  have HX := Lib.hid hx
  have HN := Lib.hid hn
  have HE := Lib.hid e
  have hpage := hx.page
  have hlen : 0 < xs.length := List.length_pos_iff.2 hx.ne
  clear h hv hx hn e hs
  go_enter Tryz.func118, Tryz.ntmps118
  go_wp2_with fail
  refine (isNought_any gs _ xs _ HV.out HX.out.bytes HX.out.ne).mono ?_
  rintro ee w1 ⟨rfl, hb1⟩
  rw [HN.out]
  have hp := HP.out.below hb1
  obtain ⟨c0, c1, c2⟩ := ram_cells hp.row
  have hl := hp.ok.map.look pgT hi
  rw [HE.out] at hl
  simp only [ptrTo] at hl
  have hnew : HoldsU w1 g 138 4096 (fun k => m (i * 4096 + k)) := (hp.ok.page i g HE.out).1
  have hsrc : ∀ j, j < xs.length → w1.cell? ((⟨gs, off, none⟩ : Addr).add j) = some (.int .u8 (xs.getD j 0)) := src_keeps HV.out (Only.of_below (fun _ => False) hb1) id
  have HSL := fun w => run_slice_from (w := w) Tryz.underlying138 (Tryz.sizeOf5 w) g at_ (by omega)
  have HB1 := Lib.hid hb1
  have HP1 := Lib.hid hp
  have HNEW := Lib.hid hnew
  have HSRC := Lib.hid hsrc
  clear hb1 hp hnew hsrc
  have h3 := HoldsU.setRow HNEW.out (overU (fun k => m (i * 4096 + k)) at_ xs)
  have ho3 : Only (fun k => k = g) w1 (w1.setRow g (uarr 4096 (overU (fun k => m (i * 4096 + k)) at_ xs))) := (Only.refl (fun k => k = g) w1).setRow (.inl rfl) _
  have H3 := Lib.hid h3
  have HO3 := Lib.hid ho3
  clear h3 ho3
  have HQ : Hid (alike 4096 (overU (fun k => m (i * 4096 + k)) at_ xs) (fun _ => 0) = true) := Lib.hid hz
  have HMIN : Hid (xs.length = Nat.min xs.length (4096 - at_)) := Lib.hid (by show xs.length = min xs.length (4096 - at_); omega)
  have HFIT : Hid (at_ + xs.length ≤ 4096) := Lib.hid hpage
  clear hz
  have hp3 := HP1.out.row_keeps HO3.out (fun h => (HP1.out.ok.page i g HE.out).2.2.1 h.symm)
  obtain ⟨d0, d1, d2⟩ := ram_cells hp3
  have hm3 := HP1.out.ok.map.keeps HO3.out (fun h => (HP1.out.ok.page i g HE.out).2.2.2.1 h.symm)
  obtain ⟨w4, hdel, hmap, hturn⟩ := hm3.drop pgT hi 0
  have HEND : Hid (StoreEnd w b S base size (putF m (i * 4096 + at_) xs) (.returned (.tuple #[])) w4) := by
    have o4 := mapTurned_only (S := fun k => k = mb) hturn rfl
    obtain ⟨_, k2, k3, k4, _⟩ := HP1.out.ok.page i g HE.out
    have o5 : Only (fun k => k = g ∨ k = mb) w1 w4 := (HO3.out.mono (fun k hk => .inl (.inl hk))).step o4 (fun k hk => .inl (.inr hk))
    refine Lib.hid ⟨⟨_, rfl⟩, (Only.of_below S HB1.out).step o5 ?_, S, fun k hk => .inl hk, mb, _, o5.keeps ?_ HP1.out.row, PgOk.struck HP1.out.ok HE.out o5 hmap ?_ (HX.out.out m), putF_bytey HP1.out.bytey _ HX.out.bytes, HX.out.support HP1.out.sup, HP1.out.al1, HP1.out.al2⟩
    · rintro k (rfl | rfl)
      · exact .inl k2
      · exact .inl HP1.out.ok.smb
    · rintro (h | h)
      · exact k3 h.symm
      · exact HP1.out.ok.ne h.symm
    · intro k hk
      rw [← HX.out.over m k hk]
      exact alike_iff.1 HQ.out k hk
  have HD := Lib.hid hp3
  clear hp3 hm3 hmap hturn
  go_wp2_with (first
    | (refine wpList_copy_u rfl (.tmp 31) (.tmp 32) 40 40 rfl 5 Tryz.underlying40 size_u8 g at_ _ _ ⟨gs, off, none⟩ _ _ rfl rfl 4096 (fun k => m (i * 4096 + k)) 138 HNEW.out xs HMIN.out HSRC.out HFIT.out ?_)
    | (refine wpList_load_u rfl _ _ rfl g rfl 138 4096 (overU (fun k => m (i * 4096 + k)) at_ xs) 5 H3.out Tryz.underlying138 size4096 ?_)
    | (refine wpList_build_u rfl _ rfl 4096 (fun _ => 0) built4096 ?_)
    | (refine wpList_eql_u rfl 138 _ _ _ rfl 5 4096 (overU (fun k => m (i * 4096 + k)) at_ xs) (fun _ => 0) rfl rfl Tryz.underlying138 (Tryz.sizeOf5 _) (Tryz.isAgg5 _) Tryz.underlying5 guard4096 ?_; rw [HQ.out]))
  go_end0
  exact HEND.out

end
end Go.Proofs.YtbcnkhfpogglmaaGreatDoor.M3

namespace Go.Proofs.YtbcnkhfpogglmaaGreatDoor.M3
open Go.RowKit Go.Maps
set_option linter.unusedVariables false
set_option maxRecDepth 100000

theorem storeIn_any {w : World} {b gs : Nat} {S : Nat → Prop} {base size : Int} {m : Int → Int} (i : Int) (at_ : Nat) (xs : List Int) (v : Value) (h : ProgMem w b S base size m) (hf : Fits base size) (hi : In64 i) (hv : ReadsIn .u8 gs w v xs) (hs : ¬ S gs) (hx : InPage base size i at_ xs) :
    Calls Tryz.prog 118 #[.pointer (some ⟨b, 0, none⟩), .int .u64 i, .int .i64 at_, v] w (StoreEnd w b S base size (putF m (i * 4096 + at_) xs)) := by
  obtain ⟨mb, pg, hp⟩ := h.parts
  have hv2 := hv
  obtain ⟨a, c, rfl, _, h3⟩ := hv2
  obtain ⟨off, rfl, _⟩ := h3.resolve_left hx.ne
  cases hn : noughts xs
  · cases e : pg i with
    | none => exact storeIn_b i at_ xs hp hf hi hv hs hx e hn
    | some g => exact storeIn_c i at_ xs hp hi hv hs hx e hn
  · cases e : pg i with
    | none => exact storeIn_a i at_ xs hp hi hv hx e hn
    | some g =>
      cases hz : alike 4096 (overU (fun k => m (i * 4096 + k)) at_ xs) (fun _ => 0)
      · exact storeIn_d i at_ xs hp hi hv hs hx e hn hz
      · exact storeIn_e i at_ xs hp hi hv hs hx e hn hz

theorem place_at (y q : Int) (r : Nat) (h : y = q * 4096 + r) (hr : r < 4096) (hy : In64 y) (w : World) :
    Calls Tryz.prog 115 #[.int .u64 y] w fun e w' => e = .returned (.tuple #[.int .u64 q, .int .i64 r]) ∧ w = w' := by
  have h1 : y / 4096 = q := by omega
  have h2 : y % 4096 = r := by omega
  have := place_any y hy w
  rw [h1, h2] at this
  exact this

theorem putF_take (m : Int → Int) (x : Int) (xs : List Int) (k n : Nat) (h : k + n ≤ xs.length) : putF (putF m x (xs.take k)) (x + k) ((xs.drop k).take n) = putF m x (xs.take (k + n)) := by
  funext y
  rw [putF_eq, putF_eq, putF_eq]
  have e1 : ((xs.drop k).take n).length = n := by simp; omega
  have e2 : (xs.take k).length = k := by simp; omega
  have e3 : (xs.take (k + n)).length = k + n := by simp; omega
  rw [e1, e2, e3]
  by_cases a : x + k ≤ y ∧ y < x + k + n
  · rw [if_pos a, if_pos (by omega)]
    have f1 : (y - (x + k)).toNat < n := by omega
    have f2 : (y - x).toNat = k + (y - (x + k)).toNat := by omega
    rw [f2]
    simp [List.getD, List.getElem?_take, f1]
  · rw [if_neg a]
    by_cases c : x ≤ y ∧ y < x + k
    · rw [if_pos c, if_pos (by omega)]
      have f1 : (y - x).toNat < k := by omega
      simp [List.getD, List.getElem?_take, f1, show (y - x).toNat < k + n by omega]
    · rw [if_neg c, if_neg (by omega)]

/-- In the loop: the first k bytes are written. -/
def Storing (w wr : World) (b : Nat) (S : Nat → Prop) (base size : Int) (m : Int → Int) (x : Int) (xs : List Int) (k : Nat) : Prop :=
  Only S w wr ∧ ∃ S', (∀ j, S' j → S j ∨ w.heap.size ≤ j) ∧ ProgMem wr b S' base size (putF m x (xs.take k))
theorem Storing.next {e : Ending} {w wr w' : World} {b : Nat} {S S' : Nat → Prop} {base size : Int} {m : Int → Int} {x : Int} {xs : List Int} {k n : Nat} (h : k + n ≤ xs.length) (ho : Only S w wr) (hS : ∀ j, S' j → S j ∨ w.heap.size ≤ j)
    (hs : StoreEnd wr b S' base size (putF (putF m x (xs.take k)) (x + k) ((xs.drop k).take n)) e w') : Storing w w' b S base size m x xs (k + n) := by
  obtain ⟨_, o2, S2, hS2, hM⟩ := hs
  rw [putF_take m x xs k n h] at hM
  refine ⟨ho.step o2 hS, S2, fun j hj => ?_, hM⟩
  rcases hS2 j hj with hj | hj
  · exact hS j hj
  · exact .inr (Nat.le_trans ho.size hj)

/-- A piece of a slice. -/
theorem ReadsIn.piece {w : World} {gs off c c' : Nat} {xs : List Int} (h : ReadsIn .u8 gs w (.slice (some ⟨gs, off, none⟩) xs.length c) xs) (k n : Nat) (hk : k + n ≤ xs.length) (hn : 0 < n) :
    ReadsIn .u8 gs w (.slice (some ⟨gs, off + k, none⟩) n c') ((xs.drop k).take n) := by
  obtain ⟨a, cc, h1, h2, h3⟩ := h
  injection h1 with h1 _ _
  subst h1
  have e1 : ((xs.drop k).take n).length = n := by simp; omega
  refine ⟨_, c', by rw [e1], by omega, .inr ⟨off + k, rfl, ?_, fun j hj => ?_⟩⟩
  · rcases h3 with h3 | ⟨o, _, h4, _⟩
    · rw [h3] at hk; simp at hk; omega
    · exact h4
  · rcases h3 with h3 | ⟨o, h5, _, h4⟩
    · rw [h3] at hk; simp at hk; omega
    · injection h5 with h5; injection h5 with _ h5
      subst h5
      rw [e1] at hj
      have := h4 (k + j) (by omega)
      rw [show off + k + j = off + (k + j) by omega, this]
      simp [List.getD, List.getElem?_take, hj]

set_option maxRecDepth 100000 in
set_option maxHeartbeats 2000000 in
theorem store_some {w : World} {b gs off c : Nat} {S : Nat → Prop} {base size : Int} {m : Int → Int} (x : Int) (xs : List Int) (h : ProgMem w b S base size m) (hf : Fits base size) (hx0 : base ≤ x) (hx1 : x + xs.length ≤ base + size)
    (hv : ReadsIn .u8 gs w (.slice (some ⟨gs, off, none⟩) xs.length c) xs) (hc : xs.length ≤ c) (hb : Bytes255 xs) (hs : ¬ S gs) :
    Calls Tryz.prog 72 #[.pointer (some ⟨b, 0, none⟩), .int .u64 x, .slice (some ⟨gs, off, none⟩) xs.length c] w (StoreEnd w b S base size (putF m x xs)) := by
  obtain ⟨f1, f2, f3, f4⟩ := hf
  have HF : Hid (Fits base size) := Lib.hid ⟨f1, f2, f3, f4⟩
  have hml : xs.length ≤ maxLen := by obtain ⟨_, _, h1, h2, _⟩ := hv; exact h2
  unfold maxLen at hml
  have hgs : xs = [] ∨ gs < w.heap.size := by
    obtain ⟨_, _, _, _, h3⟩ := hv
    rcases h3 with h3 | ⟨_, _, h3, _⟩
    · exact .inl h3
    · exact .inr h3
  have HV := Lib.hid hv
  have HB := Lib.hid hb
  have HG := Lib.hid hs
  have HGS := Lib.hid hgs
  have HP : Hid (Storing w w b S base size m x xs 0) := Lib.hid ⟨Only.refl _ _, S, fun j hj => .inl hj, by simpa [putF] using h⟩
  clear hv hb hs h hgs
  go_enter Tryz.func72, Tryz.ntmps72
  go_wp2
  go_loopw [1, 2] (fun u v wr => ∃ (k L C : Nat) (A : Option Addr), k + L = xs.length ∧ L ≤ C ∧ u = .int .u64 (x + k) ∧ v = .slice A L C ∧ (0 < L → A = some ⟨gs, off + k, none⟩) ∧ Storing w wr b S base size m x xs k)
    (fun _ v _ => match v with | .slice _ n _ => n | _ => 0)
  case atStart => exact ⟨0, xs.length, c, _, by omega, hc, by rw [Int.natCast_zero, Int.add_zero], rfl, fun _ => rfl, HP.out⟩
  case round =>
    obtain ⟨k, L, C, A, hkL, hLC, rfl, rfl, hA, hst⟩ := hrel
    by_cases h0 : 0 < L
    · obtain rfl := hA h0
      obtain ⟨ho, S', hS', hM⟩ := hst
      obtain ⟨q, r, hqr, hr⟩ : ∃ (q : Int) (r : Nat), x + k = q * 4096 + r ∧ r < 4096 := ⟨(x + k) / 4096, ((x + k) % 4096).toNat, by omega, by omega⟩
      have hgs2 : gs < w.heap.size := by
        rcases HGS.out with h1 | h1
        · rw [h1] at hkL; simp at hkL; omega
        · exact h1
      have hsg : ¬ S' gs := fun hh => by
        rcases hS' gs hh with h1 | h1
        · exact HG.out h1
        · omega
      have hvr := HV.out.keeps ho HG.out
      have HO := Lib.hid ho
      have HS := Lib.hid hS'
      have HM := Lib.hid hM
      have HSG := Lib.hid hsg
      have HVR := Lib.hid hvr
      have HQR := Lib.hid hqr
      have hx64 : x + k ≤ 9223372036854775808 := by omega
      have hxp : 0 ≤ x + k := by omega
      have hqi : Hid (In64 q) := Lib.hid (by unfold In64; omega)
      have hxi : Hid (In64 (x + k)) := Lib.hid (by unfold In64; omega)
      clear ho hS' hM hsg hvr hqr hA
      obtain ⟨n4, hn4⟩ : ∃ n4 : Nat, r + n4 = 4096 := ⟨4096 - r, by omega⟩
      have e4 : (4096 : Int) - r = n4 := by omega
      by_cases hlt : n4 < L
      · have hcap : ¬ C = n4 := by omega
        have hle : n4 ≤ C := by omega
        have hpos : 0 < n4 := by omega
        have emin : min (L : Int) (n4 : Int) = n4 := by omega
        have HIN : Hid (InPage base size q r ((xs.drop k).take n4)) := by
          have e1 : ((xs.drop k).take n4).length = n4 := by simp; omega
          refine Lib.hid ⟨by rw [← HQR.out]; omega, by rw [← HQR.out, e1]; omega, by rw [e1]; omega, fun i hi => ?_, fun hh => by rw [hh] at e1; simp at e1; omega⟩
          rw [e1] at hi
          have := HB.out (k + i) (by omega)
          simpa [List.getD, List.getElem?_take, hi] using this
        have HPC : ∀ c', Hid (ReadsIn .u8 gs wr (.slice (some ⟨gs, off + k, none⟩) n4 c') ((xs.drop k).take n4)) := fun c' => Lib.hid (HVR.out.piece k n4 (by omega) hpos)
        go_wp2_with (first
          | (go_at_call 115; refine (place_at (x + k) q r HQR.out hr hxi.out _).mono ?_; rintro e w2 ⟨rfl, rfl⟩))
        refine (storeIn_any q r ((xs.drop k).take n4) _ HM.out HF.out hqi.out (HPC _).out HSG.out HIN.out).mono ?_
        rintro e w2 hE
        rw [← HQR.out] at hE
        obtain ⟨u, rfl⟩ := hE.1
        have HN := Lib.hid (Storing.next (by omega) HO.out HS.out hE)
        have ex : x + k + n4 ≤ 9223372036854775808 := by omega
        clear hE
        go_wp2
        go_roundw
        case rel => exact ⟨k + n4, L - n4, C - n4, _, by omega, by omega, by rw [Int.natCast_add, Int.add_assoc], rfl, fun _ => by rw [Nat.add_assoc], HN.out⟩
        case measure => simp; omega
      · have hle : L ≤ C := hLC
        have emin : min (L : Int) (n4 : Int) = L := by omega
        have HIN : Hid (InPage base size q r ((xs.drop k).take L)) := by
          have e1 : ((xs.drop k).take L).length = L := by simp; omega
          refine Lib.hid ⟨by rw [← HQR.out]; omega, by rw [← HQR.out, e1]; omega, by rw [e1]; omega, fun i hi => ?_, fun hh => by rw [hh] at e1; simp at e1; omega⟩
          rw [e1] at hi
          have := HB.out (k + i) (by omega)
          simpa [List.getD, List.getElem?_take, hi] using this
        have HPC : ∀ c', Hid (ReadsIn .u8 gs wr (.slice (some ⟨gs, off + k, none⟩) L c') ((xs.drop k).take L)) := fun c' => Lib.hid (HVR.out.piece k L (by omega) h0)
        go_wp2_with (first
          | (go_at_call 115; refine (place_at (x + k) q r HQR.out hr hxi.out _).mono ?_; rintro e w2 ⟨rfl, rfl⟩))
        refine (storeIn_any q r ((xs.drop k).take L) _ HM.out HF.out hqi.out (HPC _).out HSG.out HIN.out).mono ?_
        rintro e w2 hE
        rw [← HQR.out] at hE
        obtain ⟨u, rfl⟩ := hE.1
        have HN := Lib.hid (Storing.next (by omega) HO.out HS.out hE)
        have ex : x + k + L ≤ 9223372036854775808 := by omega
        clear hE
        by_cases hcap : C = L
        · subst hcap
          go_wp2
          go_roundw
          case rel => exact ⟨k + C, 0, 0, some ⟨gs, off + k, none⟩, by omega, by omega, by rw [Int.natCast_add, Int.add_assoc], by simp, fun h => absurd h (by omega), HN.out⟩
          case measure => simp; omega
        · go_wp2
          go_roundw
          case rel => exact ⟨k + L, 0, C - L, some ⟨gs, off + k + L, none⟩, by omega, by omega, by rw [Int.natCast_add, Int.add_assoc], by simp, fun h => absurd h (by omega), HN.out⟩
          case measure => simp; omega
    · obtain rfl : L = 0 := by omega
      obtain rfl : k = xs.length := by omega
      rw [Storing, List.take_length] at hst
      have HST := Lib.hid hst
      clear hst
      go_wp2
      go_end0
      exact ⟨⟨_, rfl⟩, HST.out⟩

end Go.Proofs.YtbcnkhfpogglmaaGreatDoor.M3

namespace Go.Proofs.YtbcnkhfpogglmaaGreatDoor.M3
open Go.RowKit Go.Maps
set_option linter.unusedVariables false
set_option maxRecDepth 100000

/-- The bytes of m from x on, laid over f from off on, k of them. -/
def readU (f : Nat → Int) (off : Nat) (m : Int → Int) (x : Int) (k : Nat) (j : Nat) : Int := if off ≤ j ∧ j < off + k then m (x + ((j - off : Nat) : Int)) else f j
theorem readU_zero (f : Nat → Int) (off : Nat) (m : Int → Int) (x : Int) : readU f off m x 0 = f := by
  funext j; unfold readU; rw [if_neg (by omega)]
theorem readU_step (f : Nat → Int) (off : Nat) (m : Int → Int) (x : Int) (k n : Nat) : overU (readU f off m x k) (off + k) (bytesL m (x + k) n) = readU f off m x (k + n) := by
  funext j
  unfold overU
  rw [bytesL_len]
  by_cases c : off + k ≤ j ∧ j < off + k + n
  · rw [if_pos c, bytesL_get _ _ _ _ (by omega)]
    unfold readU
    rw [if_pos (by omega)]
    congr 1; omega
  · rw [if_neg c]
    unfold readU
    by_cases d : off ≤ j ∧ j < off + k
    · rw [if_pos d, if_pos (by omega)]
    · rw [if_neg d, if_neg (by omega)]
/-- Where the bytes are 0 nothing need be laid. -/
theorem readU_skip {f : Nat → Int} {off : Nat} {m : Int → Int} {x : Int} {k n : Nat} (hf : ∀ j, off ≤ j → j < off + k + n → f j = 0) (hm : ∀ j : Nat, j < n → m (x + k + j) = 0) : readU f off m x (k + n) = readU f off m x k := by
  funext j
  unfold readU
  by_cases d : off ≤ j ∧ j < off + k
  · rw [if_pos d, if_pos (by omega)]
  · rw [if_neg d]
    by_cases c : off ≤ j ∧ j < off + (k + n)
    · rw [if_pos c, hf j (by omega) (by omega)]
      have := hm (j - off - k) (by omega)
      rw [show x + ((j - off : Nat) : Int) = x + k + ((j - off - k : Nat) : Int) by omega, this]
    · rw [if_neg c]

/-- What a call leaves that turns block gd alone. -/
def LoadEnd (w : World) (gd : Nat) (t : TypeId) (n : Nat) (f : Nat → Int) (e : Ending) (w' : World) : Prop :=
  (∃ u, e = .returned u) ∧ Only (fun i => i = gd) w w' ∧ HoldsU w' gd t n f

set_option maxRecDepth 100000 in
set_option maxHeartbeats 4000000 in
theorem load_some {w : World} {b gd off L0 c n : Nat} {t : TypeId} {S : Nat → Prop} {base size : Int} {m : Int → Int} {f : Nat → Int} {a0 : Option Addr} (x : Int) (h : ProgMem w b S base size m) (hf : Fits base size) (hx0 : 0 < L0 → base ≤ x) (hx1 : 0 < L0 → x + L0 ≤ base + size) (hx : In64 x)
    (hd : HoldsU w gd t n f) (ha : 0 < L0 → a0 = some ⟨gd, off, none⟩) (hn : off + L0 ≤ n) (hc : L0 ≤ c) (hL : L0 ≤ 9223372036854775807) (hz : ∀ j, off ≤ j → j < off + L0 → f j = 0) (hs : ¬ S gd) :
    Calls Tryz.prog 69 #[.pointer (some ⟨b, 0, none⟩), .int .u64 x, .slice a0 L0 c] w (LoadEnd w gd t n (readU f off m x L0)) := by
  obtain ⟨f1, f2, f3, f4⟩ := hf
  obtain ⟨mb, pg, hp⟩ := h.parts
  have HP := Lib.hid hp
  have HG := Lib.hid hs
  have HZ := Lib.hid hz
  have HX0 := Lib.hid hx0
  have HX1 := Lib.hid hx1
  have HD := Lib.hid hd
  have xl := hx.1
  have xh := hx.2
  clear h hp hs hz hd hx hx0 hx1
  go_enter Tryz.func69, Tryz.ntmps69
  go_wp2
  go_loopw [1, 2] (fun u v wr => ∃ (k L C : Nat) (A : Option Addr), k + L = L0 ∧ L ≤ C ∧ u = .int .u64 (x + k) ∧ v = .slice A L C ∧ (0 < L → A = some ⟨gd, off + k, none⟩) ∧ Only (fun i => i = gd) w wr ∧ HoldsU wr gd t n (readU f off m x k))
    (fun _ v _ => match v with | .slice _ n _ => n | _ => 0)
  case atStart => exact ⟨0, L0, c, _, by omega, hc, by rw [Int.natCast_zero, Int.add_zero], rfl, ha, Only.refl _ _, by rw [readU_zero]; exact HD.out⟩
  case round =>
    obtain ⟨k, L, C, A, hkL, hLC, rfl, rfl, hA, ho, hr⟩ := hrel
    by_cases h0 : 0 < L
    · obtain rfl := hA h0
      have x0 := HX0.out (by omega)
      have x1 := HX1.out (by omega)
      obtain ⟨q, r, hqr, hr4⟩ : ∃ (q : Int) (r : Nat), x + k = q * 4096 + r ∧ r < 4096 := ⟨(x + k) / 4096, ((x + k) % 4096).toNat, by omega, by omega⟩
      have hp := HP.out.keeps ho (fun i hi e => HG.out (e ▸ hi))
      obtain ⟨c0, c1, c2⟩ := ram_cells hp.row
      have HO := Lib.hid ho
      have HQR := Lib.hid hqr
      have HR := Lib.hid hr
      have HQ := Lib.hid hp
      have hx64 : x + k ≤ 9223372036854775808 := by omega
      have hxp : 0 ≤ x + k := by omega
      have hqi : In64 q := by unfold In64; omega
      have hxi : Hid (In64 (x + k)) := Lib.hid (by unfold In64; omega)
      have hl := hp.ok.map.look pgT hqi
      clear ho hqr hr hp hA hqi
      obtain ⟨n4, hn4⟩ : ∃ n4 : Nat, r + n4 = 4096 := ⟨4096 - r, by omega⟩
      have e4 : (4096 : Int) - r = n4 := by omega
      obtain ⟨d, hd1, hd2, hd3, emin⟩ : ∃ d : Nat, 0 < d ∧ d ≤ L ∧ d ≤ n4 ∧ min (L : Int) (n4 : Int) = d := by
        by_cases hlt : n4 < L
        · exact ⟨n4, by omega, by omega, by omega, by omega⟩
        · exact ⟨L, by omega, by omega, by omega, by omega⟩
      have hdC : d ≤ C := by omega
      have ex : x + k + d ≤ 9223372036854775808 := by omega
      cases hpg : pg q with
      | none =>
        rw [hpg] at hl
        simp only [ptrTo] at hl
        have HN : Hid (HoldsU wr gd t n (readU f off m x (k + d))) := by
          rw [readU_skip (fun j h1 h2 => HZ.out j h1 (by omega)) (fun j hj => by
            have := HQ.out.ok.gone q hpg (r + j) (by omega)
            rw [HQR.out, show q * 4096 + (r : Int) + (j : Int) = q * 4096 + ((r + j : Nat) : Int) by omega]
            exact this)]
          exact Lib.hid HR.out
        clear hpg
        by_cases hcap : C = d
        · go_wp2_with (first
            | (go_at_call 115; refine (place_at (x + k) q r HQR.out hr4 hxi.out _).mono ?_; rintro e w2 ⟨rfl, rfl⟩))
          go_roundw
          case rel => exact ⟨k + d, L - d, C - d, some ⟨gd, off + k, none⟩, by omega, by omega, by rw [Int.natCast_add, Int.add_assoc], by rw [hcap, Nat.sub_self], fun h => absurd h (by omega), HO.out, HN.out⟩
          case measure => simp; omega
        · go_wp2_with (first
            | (go_at_call 115; refine (place_at (x + k) q r HQR.out hr4 hxi.out _).mono ?_; rintro e w2 ⟨rfl, rfl⟩))
          go_roundw
          case rel => exact ⟨k + d, L - d, C - d, some ⟨gd, off + k + d, none⟩, by omega, by omega, by rw [Int.natCast_add, Int.add_assoc], rfl, fun h => by rw [Nat.add_assoc], HO.out, HN.out⟩
          case measure => simp; omega
      | some g =>
        rw [hpg] at hl
        simp only [ptrTo] at hl
        have HPG := Lib.hid (HQ.out.ok.page q g hpg).1
        have HSL := fun w => run_slice_from (w := w) Tryz.underlying138 (Tryz.sizeOf5 w) g r hr4
        clear hpg
        have HXL : Hid ((bytesL m (x + k) d).length = Nat.min (4096 - r) d) := Lib.hid (by rw [bytesL_len]; show d = min (4096 - r) d; omega)
        have HSRC : Hid (∀ j, j < (bytesL m (x + k) d).length → wr.drew.cell? ((⟨g, r, none⟩ : Addr).add j) = some (.int .u8 ((bytesL m (x + k) d).getD j 0))) := by
          refine Lib.hid fun j hj => ?_
          rw [bytesL_len] at hj
          rw [add_none, bytesL_get _ _ _ _ hj, HQR.out]
          have := HoldsU.cell (show HoldsU wr.drew g 138 4096 (fun i => m (q * 4096 + i)) from HPG.out) (j := r + j) (by omega)
          rw [show q * 4096 + (r : Int) + (j : Int) = q * 4096 + ((r + j : Nat) : Int) by omega]
          exact this
        have HRD : Hid (HoldsU wr.drew gd t n (readU f off m x k)) := Lib.hid HR.out
        have HFIT : Hid (off + k + (bytesL m (x + k) d).length ≤ n) := Lib.hid (by rw [bytesL_len]; omega)
        have HN : Hid (HoldsU (wr.drew.setRow gd (uarr n (overU (readU f off m x k) (off + k) (bytesL m (x + k) d)))) gd t n (readU f off m x (k + d))) := by
          have := HoldsU.setRow HRD.out (overU (readU f off m x k) (off + k) (bytesL m (x + k) d))
          rw [readU_step] at this ⊢
          exact Lib.hid this
        have HO2 : Hid (Only (fun i => i = gd) w (wr.drew.setRow gd (uarr n (overU (readU f off m x k) (off + k) (bytesL m (x + k) d))))) := Lib.hid ((HO.out.drewN 1).setRow (.inl rfl) _)
        go_wp2_with (first
          | (go_at_call 115; refine (place_at (x + k) q r HQR.out hr4 hxi.out _).mono ?_; rintro e w2 ⟨rfl, rfl⟩))
        go_still_tail 7, (by kernel_rfl)
        change wpList _ _ _ _ _ wr.drew
        refine wpList_copy_u rfl (.tmp 33) (.tmp 37) 40 40 rfl 5 Tryz.underlying40 size_u8 gd (off + k) d C ⟨g, r, none⟩ (4096 - r) (4096 - r) rfl rfl n (readU f off m x k) t HRD.out (bytesL m (x + k) d) HXL.out HSRC.out HFIT.out ?_
        clear HSRC HRD HXL HFIT
        generalize wr.drew.setRow gd (uarr n (overU (readU f off m x k) (off + k) (bytesL m (x + k) d))) = w9 at *
        generalize (bytesL m (x + k) d).length = nl
        by_cases hcap : C = d
        · go_wp2
          go_roundw
          case rel => exact ⟨k + d, L - d, C - d, some ⟨gd, off + k, none⟩, by omega, by omega, by rw [Int.natCast_add, Int.add_assoc], by rw [hcap, Nat.sub_self], fun h => absurd h (by omega), HO2.out, HN.out⟩
          case measure => simp; omega
        · go_wp2
          go_roundw
          case rel => exact ⟨k + d, L - d, C - d, some ⟨gd, off + k + d, none⟩, by omega, by omega, by rw [Int.natCast_add, Int.add_assoc], rfl, fun h => by rw [Nat.add_assoc], HO2.out, HN.out⟩
          case measure => simp; omega
    · obtain rfl : L = 0 := by omega
      obtain rfl : k = L0 := by omega
      have HO := Lib.hid ho
      have HR := Lib.hid hr
      clear ho hr
      go_wp2
      go_end0
      exact ⟨⟨_, rfl⟩, HO.out, HR.out⟩

end Go.Proofs.YtbcnkhfpogglmaaGreatDoor.M3

namespace Go.Proofs.YtbcnkhfpogglmaaGreatDoor.M3
open Go.RowKit Go.Maps
set_option linter.unusedVariables false
set_option maxRecDepth 100000

theorem okN_cases {n : Int} (h : okN n = true) : ∃ N : Nat, n = N ∧ 0 < N ∧ N ≤ 8 := by
  unfold okN at h
  rw [decide_eq_true_eq] at h
  exact ⟨n.toNat, by omega, by omega, by omega⟩
theorem hasZ_in {base size x : Int} {N : Nat} (h : hasZ base size x N = true) (hN : 0 < N) : base ≤ x ∧ x + N ≤ base + size := by
  unfold hasZ at h
  rw [decide_eq_true_eq] at h
  omega

/-- m between x and x + N, 0 elsewhere. -/
def cutM (m : Int → Int) (x : Int) (N : Nat) (y : Int) : Int := if x ≤ y ∧ y < x + N then m y else 0
theorem cutM_bytey {m : Int → Int} (h : Bytey m) (x : Int) (N : Nat) : Bytey (cutM m x N) := by
  intro y; unfold cutM; split
  · exact h y
  · omega
theorem cutM_read (m : Int → Int) (x : Int) {N : Nat} (h : N ≤ 8) : rdN (cutM m x N) x 8 = rdN m x N := by
  obtain ⟨d, hd⟩ : ∃ d, 8 = N + d := ⟨8 - N, by omega⟩
  rw [hd, rdN_zeros fun i h1 h2 => by unfold cutM; rw [if_neg (by omega)]]
  exact rdN_congr fun y h1 h2 => by unfold cutM; rw [if_pos ⟨h1, h2⟩]
theorem cutM_readU (m : Int → Int) (x : Int) (N : Nat) : readU (fun _ => 0) 0 m x N = fun i : Nat => cutM m x N (x + (i : Int)) := by
  funext j
  unfold readU cutM
  by_cases c : j < N
  · rw [if_pos ⟨by omega, by omega⟩, if_pos (by omega)]; congr 1
  · rw [if_neg (by omega), if_neg (by omega)]

set_option maxRecDepth 100000 in
set_option maxHeartbeats 2000000 in
theorem progRead_any {w : World} {b : Nat} {S : Nat → Prop} {base size : Int} {m : Int → Int} (x n : Int) (h : ProgMem w b S base size m) (hf : Fits base size) (hx : In64 x) (hn : In63 n) :
    Calls Tryz.prog 25 #[.pointer (some ⟨b, 0, none⟩), .int .u64 x, .int .i64 n] w (ReadEnd w (readV base size m x n)) := by
  have HP := Lib.hid h
  have HF := Lib.hid hf
  have HX := Lib.hid hx
  have HN := Lib.hid hn
  clear h hf hx hn
  cases hk : okN n
  · have H := Lib.hid hk
    have HE : Hid (readV base size m x n = (0, false)) := Lib.hid (by unfold readV; rw [hk]; rfl)
    clear hk
    rw [HE.out]
    go_enter Tryz.func25, Tryz.ntmps25
    go_wp2_with (go_at_call 68; refine (isLength_any _ _).mono ?_; rintro e w' ⟨rfl, rfl⟩; rw [H.out])
    go_ret2
    exact ⟨rfl, Below.refl _ _⟩
  · cases hz : hasZ base size x n
    · have H := Lib.hid hk
      have HZ := Lib.hid hz
      have HE : Hid (readV base size m x n = (0, false)) := Lib.hid (by unfold readV; rw [hk, hz]; rfl)
      clear hk hz
      rw [HE.out]
      go_enter Tryz.func25, Tryz.ntmps25
      go_wp2_with (first
        | (go_at_call 68; refine (isLength_any _ _).mono ?_; rintro e w' ⟨rfl, rfl⟩; rw [H.out])
        | (go_at_call 36; refine (progHas_any _ _ HP.out HF.out HX.out HN.out).mono ?_; rintro e w' ⟨rfl, rfl⟩; rw [HZ.out]))
      go_ret2
      exact ⟨rfl, Below.refl _ _⟩
    · obtain ⟨N, rfl, hN0, hN8⟩ := okN_cases hk
      have HI := Lib.hid (hasZ_in hz hN0)
      have H := Lib.hid hk
      have HZ := Lib.hid hz
      have HE : Hid (readV base size m x N = (rdN m x N, true)) := Lib.hid (by unfold readV; rw [hk, hz]; rfl)
      clear hk hz
      rw [HE.out]
      have HSL := fun w' => run_slice_upto (w := w') Tryz.underlying114 (Tryz.sizeOf5 w') w.heap.size N hN8 (by omega)
      have hb1 : Below w.heap.size w (w.alloc (.cells #[.int .u8 0, .int .u8 0, .int .u8 0, .int .u8 0, .int .u8 0, .int .u8 0, .int .u8 0, .int .u8 0] 114)) := (Below.refl _ _).alloc (Nat.le_refl _) _
      have hu : HoldsU (w.alloc (.cells #[.int .u8 0, .int .u8 0, .int .u8 0, .int .u8 0, .int .u8 0, .int .u8 0, .int .u8 0, .int .u8 0] 114)) w.heap.size 114 8 (fun _ => 0) := heap_alloc_new w _
      have HU := Lib.hid hu
      have HB1 := Lib.hid hb1
      have HP1 := Lib.hid (HP.out.keeps (Only.of_below (fun _ => False) hb1) (fun _ _ => id))
      have HG : Hid (¬ S w.heap.size) := Lib.hid (fun hs => by obtain ⟨mb, pg, hp⟩ := HP.out.parts; have := hp.ok.lt _ hs; omega)
      clear hu hb1
      go_enter Tryz.func25, Tryz.ntmps25
      go_wp2_with (first
        | (go_at_call 68; refine (isLength_any _ _).mono ?_; rintro e w' ⟨rfl, rfl⟩; rw [H.out])
        | (go_at_call 36; refine (progHas_any _ _ HP.out HF.out HX.out HN.out).mono ?_; rintro e w' ⟨rfl, rfl⟩; rw [HZ.out]))
      refine (load_some (off := 0) x HP1.out HF.out (fun _ => HI.out.1) (fun _ => HI.out.2) HX.out HU.out (fun _ => rfl) (by omega) (by omega) (by omega) (fun _ _ _ => rfl) HG.out).mono ?_
      rintro e w2 ⟨⟨u, rfl⟩, ho, hr⟩
      rw [cutM_readU] at hr
      have HR := Lib.hid hr
      have HO := Lib.hid (HB1.out.trans (ho.below (B := w.heap.size) (by rintro k rfl; exact Nat.le_refl _) HB1.out.size))
      have HBY : Hid (Bytey (cutM m x N)) := Lib.hid (cutM_bytey (by obtain ⟨mb, pg, hp⟩ := HP.out.parts; exact hp.bytey) x N)
      have HRD := Lib.hid (cutM_read m x hN8)
      clear ho hr
      go_wp2_with (first
        | (refine wpList_load_u rfl _ _ rfl w.heap.size rfl 114 8 (fun i : Nat => cutM m x N (x + (i : Int))) 5 HR.out Tryz.underlying114 size8 ?_)
        | (go_at_call 70; refine (number_any (cutM m x N) x HBY.out _).mono ?_; rintro e w3 ⟨rfl, hb3⟩; rw [HRD.out]))
      go_ret2
      exact ⟨rfl, HO.out.trans (hb3.mono HO.out.size)⟩

end Go.Proofs.YtbcnkhfpogglmaaGreatDoor.M3

namespace Go.Proofs.YtbcnkhfpogglmaaGreatDoor.M3
open Go.RowKit Go.Maps
set_option linter.unusedVariables false
set_option maxRecDepth 100000

/-- The first N bytes of a word. -/
def leL (v : Int) (N : Nat) : List Int := (List.range N).map (leB v)
theorem leL_len (v : Int) (N : Nat) : (leL v N).length = N := by unfold leL; simp
theorem leL_get (v : Int) {N i : Nat} (h : i < N) : (leL v N).getD i 0 = leB v i := by unfold leL; simp [List.getD, h]
theorem leL_bytes (v : Int) (N : Nat) : Bytes255 (leL v N) := fun i hi => by
  rw [leL_len] at hi; rw [leL_get v hi]; exact leB_in v i
theorem putF_leL (m : Int → Int) (x v : Int) (N : Nat) : putF m x (leL v N) = wrN m x v N := by
  funext y
  rw [putF_eq, leL_len]
  by_cases c : x ≤ y ∧ y < x + N
  · rw [if_pos c, leL_get v (by omega)]
    have := wrN_at (m := m) (x := x) (v := v) (c := N) (i := (y - x).toNat) (by omega)
    rw [show x + ((y - x).toNat : Int) = y by omega] at this
    rw [this]; rfl
  · rw [if_neg c, wrN_out (by omega)]

/-- What Write and Put leave, out of what store leaves. -/
theorem prog_end {w w1 w2 : World} {b : Nat} {S : Nat → Prop} {base size : Int} {m : Int → Int} {e : Ending} (hb : Below w.heap.size w w1) (h : StoreEnd w1 b S base size m e w2) : ProgEnd ProgMem w b S base size m true (.returned (.bool true)) w2 := by
  obtain ⟨_, ho, S', hS, hM⟩ := h
  refine ⟨rfl, (Only.of_below S hb).trans ho, S', fun k hk => ?_, hM⟩
  rcases hS k hk with h1 | h1
  · exact .inl h1
  · exact .inr (Nat.le_trans hb.size h1)
theorem prog_no {w w1 : World} {b : Nat} {S : Nat → Prop} {base size : Int} {m : Int → Int} (h : ProgMem w b S base size m) (hb : Below w.heap.size w w1) : ProgEnd ProgMem w b S base size m false (.returned (.bool false)) w1 :=
  ⟨rfl, Only.of_below S hb, S, fun k hk => .inl hk, h.keeps (Only.of_below (fun _ => False) hb) (fun _ _ => id)⟩

set_option maxRecDepth 100000 in
set_option maxHeartbeats 2000000 in
theorem progWrite_any {w : World} {b : Nat} {S : Nat → Prop} {base size : Int} {m : Int → Int} (x n v : Int) (h : ProgMem w b S base size m) (hf : Fits base size) (hx : In64 x) (hn : In63 n) (hv : In64 v) :
    Calls Tryz.prog 26 #[.pointer (some ⟨b, 0, none⟩), .int .u64 x, .int .i64 n, .int .u64 v] w (ProgEnd ProgMem w b S base size (writeM base size m x n v) (okN n && hasZ base size x n)) := by
  have HP := Lib.hid h
  have HF := Lib.hid hf
  have HX := Lib.hid hx
  have HN := Lib.hid hn
  have HV := Lib.hid hv
  clear h hf hx hn hv
  cases hk : okN n
  · have H := Lib.hid hk
    have HE : Hid (writeM base size m x n v = m) := Lib.hid (by unfold writeM; rw [hk]; rfl)
    clear hk
    rw [HE.out, Bool.false_and]
    go_enter Tryz.func26, Tryz.ntmps26
    go_wp2_with (go_at_call 68; refine (isLength_any _ _).mono ?_; rintro e w' ⟨rfl, rfl⟩; rw [H.out])
    go_ret
    exact prog_no HP.out (Below.refl _ _)
  · rw [Bool.true_and]
    cases hz : hasZ base size x n
    · have H := Lib.hid hk
      have HZ := Lib.hid hz
      have HE : Hid (writeM base size m x n v = m) := Lib.hid (by unfold writeM; rw [hk, hz]; rfl)
      clear hk hz
      rw [HE.out]
      go_enter Tryz.func26, Tryz.ntmps26
      go_wp2_with (first
        | (go_at_call 68; refine (isLength_any _ _).mono ?_; rintro e w' ⟨rfl, rfl⟩; rw [H.out])
        | (go_at_call 36; refine (progHas_any _ _ HP.out HF.out HX.out HN.out).mono ?_; rintro e w' ⟨rfl, rfl⟩; rw [HZ.out]))
      go_ret
      exact prog_no HP.out (Below.refl _ _)
    · obtain ⟨N, rfl, hN0, hN8⟩ := okN_cases hk
      have HI := Lib.hid (hasZ_in hz hN0)
      have H := Lib.hid hk
      have HZ := Lib.hid hz
      have HE : Hid (writeM base size m x N v = wrN m x v N) := Lib.hid (by unfold writeM; rw [hk, hz]; rfl)
      clear hk hz
      rw [HE.out, ← putF_leL]
      go_enter Tryz.func26, Tryz.ntmps26
      go_wp2_with (first
        | (go_at_call 68; refine (isLength_any _ _).mono ?_; rintro e w' ⟨rfl, rfl⟩; rw [H.out])
        | (go_at_call 36; refine (progHas_any _ _ HP.out HF.out HX.out HN.out).mono ?_; rintro e w' ⟨rfl, rfl⟩; rw [HZ.out]))
      refine (littleEnd_any v HV.out _).mono ?_
      rintro e w1 ⟨rfl, hb1⟩
      have hb2 : Below w.heap.size w (w1.alloc (.cells #[.int .u8 0, .int .u8 0, .int .u8 0, .int .u8 0, .int .u8 0, .int .u8 0, .int .u8 0, .int .u8 0] 114)) := hb1.alloc hb1.size _
      have hu : HoldsU (w1.alloc (.cells #[.int .u8 0, .int .u8 0, .int .u8 0, .int .u8 0, .int .u8 0, .int .u8 0, .int .u8 0, .int .u8 0] 114)) w1.heap.size 114 8 (fun _ => 0) := heap_alloc_new w1 _
      have hsl := fun w' => run_slice_upto (w := w') Tryz.underlying114 (Tryz.sizeOf5 w') w1.heap.size N hN8 (by omega)
      have HU := Lib.hid hu
      have HU2 := Lib.hid (hu.setRow (leB v))
      have HB2 := Lib.hid (below_setRow hb2 hb1.size (uarr 8 (leB v)))
      have HSZ := Lib.hid hb1.size
      clear hu hb2 hb1
      go_wp2_with (refine wpList_store_row rfl _ _ _ rfl w1.heap.size _ rfl rfl 114 _ HU.out ?_ (by rw [uarr_size, uarr_size]) (uarr_one _ _) ?_; · exact size8.trans (by rw [uarr_size]))
      generalize ((w1.alloc (.cells #[.int .u8 0, .int .u8 0, .int .u8 0, .int .u8 0, .int .u8 0, .int .u8 0, .int .u8 0, .int .u8 0] 114)).setRow w1.heap.size (uarr 8 (leB v))) = w2 at *
      have HG : Hid (¬ S w1.heap.size) := Lib.hid (fun hs => by obtain ⟨mb, pg, hp⟩ := HP.out.parts; have := hp.ok.lt _ hs; have := HSZ.out; omega)
      have hr : ReadsIn .u8 w1.heap.size w2 (.slice (some ⟨w1.heap.size, 0, none⟩) (leL v N).length 8) (leL v N) := by
        refine ⟨_, _, rfl, by rw [leL_len]; unfold maxLen; omega, .inr ⟨0, rfl, HU2.out.lt, fun i hi => ?_⟩⟩
        rw [leL_len] at hi
        rw [leL_get v hi, Nat.zero_add]
        exact HU2.out.cell (by omega)
      have hcall := store_some x (leL v N) (HP.out.keeps (Only.of_below (fun _ => False) HB2.out) (fun _ _ => id)) HF.out HI.out.1 (by rw [leL_len]; exact HI.out.2) hr (by rw [leL_len]; exact hN8) (leL_bytes v N) HG.out
      rw [leL_len] at hcall
      refine hcall.mono ?_
      rintro e w3 hE
      obtain ⟨u, rfl⟩ := hE.1
      have HEND := Lib.hid (prog_end HB2.out hE)
      clear hE hr hcall
      go_wp2
      go_ret
      exact HEND.out

end Go.Proofs.YtbcnkhfpogglmaaGreatDoor.M3

namespace Go.Proofs.YtbcnkhfpogglmaaGreatDoor.M3
open Go.RowKit Go.Maps
set_option linter.unusedVariables false
set_option maxRecDepth 100000

theorem newProg_mem {w : World} {base size : Int} (h1 : base % 4096 = 0) (h2 : size % 4096 = 0) :
    ProgMem ((w.alloc (.map #[] 0)).alloc (.cells #[.int .u64 base, .int .u64 size, .map (some w.heap.size)] 125)) (w.heap.size + 1) (fun i => i = w.heap.size ∨ i = w.heap.size + 1) base size fun _ => 0 := by
  have hb : Below (w.alloc (.map #[] 0)).heap.size (w.alloc (.map #[] 0)) ((w.alloc (.map #[] 0)).alloc (.cells #[.int .u64 base, .int .u64 size, .map (some w.heap.size)] 125)) := (Below.refl _ _).alloc (Nat.le_refl _) _
  have hs : (w.alloc (.map #[] 0)).heap.size = w.heap.size + 1 := World.size_alloc _ _
  refine ⟨w.heap.size, fun _ => none, ?_, ⟨(PgMap.made Tryz.prog 26 w).keeps (Only.of_below (fun _ => False) hb) id, (by simp), (by simp), (by simp), .inr rfl, .inl rfl, (by omega), fun i hi => ?_⟩, fun y => ⟨Int.le_refl _, by show (0 : Int) ≤ 255; omega⟩, fun y hy => absurd rfl hy, h1, h2⟩
  · have := heap_alloc_new (w.alloc (.map #[] 0)) (.cells #[.int .u64 base, .int .u64 size, .map (some w.heap.size)] 125)
    rwa [hs] at this
  · rw [World.size_alloc, hs]; rcases hi with rfl | rfl <;> omega

set_option maxHeartbeats 1000000 in
theorem progNew_any (base size : Int) (w : World) (hb : In64 base) (hs : In64 size) :
    Calls Tryz.prog 28 #[.int .u64 base, .int .u64 size] w (ProgNew ProgMem w base size (newOk base size)) := by
  have hmm := @run_makeMap Tryz.prog
  have HB := Lib.hid hb
  have HS := Lib.hid hs
  have s0 := hs.1
  have b0 := hb.1
  have s1 := hs.2
  have b1 := hb.2
  clear hb hs
  have NO : ∀ (ww : World), newOk base size = false → Below w.heap.size w ww → ProgNew ProgMem w base size (newOk base size) (.returned (.tuple #[.pointer none, .int .i64 1])) ww := fun ww h hb => ⟨hb, .inl ⟨h, rfl⟩⟩
  have HNO := Lib.hid NO
  clear NO
  cases e1 : (base % 4096 == 0)
  · have HK : Hid (newOk base size = false) := Lib.hid (by unfold newOk; rw [decide_eq_false]; simp at e1; omega)
    have E1 := Lib.hid e1
    clear e1
    go_enter Tryz.func28, Tryz.ntmps28
    go_wp2_with (go_at_call 75; refine (isWhole_any base HB.out _).mono ?_; rintro e w' ⟨rfl, rfl⟩; rw [E1.out])
    go_ret2
    exact HNO.out _ HK.out (Below.refl _ _)
  cases e2 : (size % 4096 == 0)
  · have HK : Hid (newOk base size = false) := Lib.hid (by unfold newOk; rw [decide_eq_false]; simp at e2; omega)
    have E1 := Lib.hid e1
    have E2 := Lib.hid e2
    clear e1 e2
    go_enter Tryz.func28, Tryz.ntmps28
    go_wp2_with fail
    refine (isWhole_any base HB.out _).mono ?_
    rintro e w' ⟨rfl, rfl⟩
    rw [E1.out]
    go_wp2_with fail
    refine (isWhole_any size HS.out _).mono ?_
    rintro e w' ⟨rfl, rfl⟩
    rw [E2.out]
    go_wp2
    go_ret2
    exact HNO.out _ HK.out (Below.refl _ _)
  have E1 := Lib.hid e1
  have E2 := Lib.hid e2
  have F1 : base % 4096 = 0 := by simpa using e1
  have F2 : size % 4096 = 0 := by simpa using e2
  clear e1 e2
  by_cases c3 : size = 0
  · have HK : Hid (newOk base size = false) := Lib.hid (by unfold newOk; rw [decide_eq_false]; omega)
    subst c3
    clear F1 F2
    go_enter Tryz.func28, Tryz.ntmps28
    go_wp2_with fail
    refine (isWhole_any base HB.out _).mono ?_
    rintro e w' ⟨rfl, rfl⟩
    rw [E1.out]
    go_wp2_with fail
    refine (isWhole_any 0 HS.out _).mono ?_
    rintro e w' ⟨rfl, rfl⟩
    rw [E2.out]
    go_wp2
    go_ret2
    exact HNO.out _ HK.out (Below.refl _ _)
  have c3b : (size == 0) = false := by simpa using c3
  have F1 := Lib.hid F1
  have F2 := Lib.hid F2
  have F3 := Lib.hid c3
  clear c3
  by_cases c4 : size ≤ 67108864
  · have d1 : 0 ≤ 9223372036854775808 - size := by omega
    have d2 : 9223372036854775808 - size ≤ 18446744073709551615 := by omega
    by_cases c5 : base ≤ 9223372036854775808 - size
    · have HK : Hid (newOk base size = true) := Lib.hid (by unfold newOk; rw [decide_eq_true_eq]; have := F1.out; have := F2.out; have := F3.out; omega)
      have HEND := Lib.hid (newProg_mem (w := w) F1.out F2.out)
      clear F1 F2 F3
      go_enter Tryz.func28, Tryz.ntmps28
      go_wp2_with fail
      refine (isWhole_any base HB.out _).mono ?_
      rintro e w' ⟨rfl, rfl⟩
      rw [E1.out]
      go_wp2_with fail
      refine (isWhole_any size HS.out _).mono ?_
      rintro e w' ⟨rfl, rfl⟩
      rw [E2.out]
      go_wp2
      go_ret2
      exact ⟨((Below.refl _ _).alloc (Nat.le_refl _) _).alloc (by simp) _, .inr ⟨HK.out, w.heap.size + 1, _, rfl, by rintro i (rfl | rfl) <;> omega, HEND.out⟩⟩
    · have HK : Hid (newOk base size = false) := Lib.hid (by unfold newOk; rw [decide_eq_false]; omega)
      clear F1 F2 F3
      go_enter Tryz.func28, Tryz.ntmps28
      go_wp2_with fail
      refine (isWhole_any base HB.out _).mono ?_
      rintro e w' ⟨rfl, rfl⟩
      rw [E1.out]
      go_wp2_with fail
      refine (isWhole_any size HS.out _).mono ?_
      rintro e w' ⟨rfl, rfl⟩
      rw [E2.out]
      go_wp2
      go_ret2
      exact HNO.out _ HK.out (Below.refl _ _)
  · have HK : Hid (newOk base size = false) := Lib.hid (by unfold newOk; rw [decide_eq_false]; omega)
    clear F1 F2 F3
    go_enter Tryz.func28, Tryz.ntmps28
    go_wp2_with fail
    refine (isWhole_any base HB.out _).mono ?_
    rintro e w' ⟨rfl, rfl⟩
    rw [E1.out]
    go_wp2_with fail
    refine (isWhole_any size HS.out _).mono ?_
    rintro e w' ⟨rfl, rfl⟩
    rw [E2.out]
    go_wp2
    go_ret2
    exact HNO.out _ HK.out (Below.refl _ _)

end Go.Proofs.YtbcnkhfpogglmaaGreatDoor.M3

namespace Go.Proofs.YtbcnkhfpogglmaaGreatDoor.M3
open Go.RowKit Go.Maps
set_option linter.unusedVariables false
set_option maxRecDepth 100000

/-- m without the pages that are still to come. -/
def maskM (left : Lit → Bool) (m : Int → Int) (y : Int) : Int := if left (.int .u64 (y / 4096)) = true then 0 else m y

/-- What Twin leaves. -/
def ProgTwin (w : World) (base size : Int) (m : Int → Int) (e : Ending) (w' : World) : Prop :=
  Below w.heap.size w w' ∧ ∃ b' S', e = .returned (.pointer (some ⟨b', 0, none⟩)) ∧ (∀ i, S' i → w.heap.size ≤ i) ∧ ProgMem w' b' S' base size m

theorem PgOk.keeps {w w' : World} {b mb : Nat} {S T : Nat → Prop} {m : Int → Int} {pg : Int → Option Nat} (h : PgOk w b mb S m pg) (o : Only T w w') (hs : ∀ i, S i → ¬ T i) : PgOk w' b mb S m pg :=
  ⟨h.map.keeps o (hs _ h.smb), fun q g e => by
    obtain ⟨k1, k2, k3⟩ := h.page q g e
    exact ⟨o.keeps (hs _ k2) k1, k2, k3⟩, h.gone, h.inj, h.sb, h.smb, h.ne, fun i hi => Nat.lt_of_lt_of_le (h.lt i hi) o.size⟩

theorem sameKey_u64 (a b : Int) : (Lit.int .u64 a).sameKey (.int .u64 b) = (a == b) := by rw [Bool.eq_iff_iff]; simp [Lit.sameKey]
theorem maskM_page (left : Lit → Bool) (m : Int → Int) (x : Int) (k : Nat) (hk : k < 4096) : maskM (fun z => left z && !z.sameKey (.int .u64 x)) m (x * 4096 + k) = m (x * 4096 + k) := by
  unfold maskM
  rw [show (x * 4096 + (k : Int)) / 4096 = x by omega]
  simp [sameKey_u64]

/-- Between two rounds. -/
def Twinning (w wr : World) (mb r n : Nat) (D : DataW Unit) (bt mt : Nat) (base size : Int) (m : Int → Int) (left : Lit → Bool) (cnt : Nat) : Prop :=
  wr.ranges Tryz.prog 26 ptrElem mb r n D left cnt ∧ Below w.heap.size w wr ∧ wr.heap[bt]? = some (.cells #[.int .u64 base, .int .u64 size, .map (some mt)] 125 (0, 0)) ∧
  ∃ S' pt, PgOk wr bt mt S' (maskM left m) pt ∧ (∀ k, S' k → w.heap.size ≤ k) ∧ ¬ S' r

/-- What is read of an entry that has come. -/
theorem entry_is {D : DataW Unit} {pg : Int → Option Nat} (h2 : ∀ q, D.atKey (.int .u64 q) (encP none) = encP (pg q)) (h3 : ∀ kl, Maps.has D kl = true → ∃ q, In64 q ∧ kl = .int .u64 q ∧ pg q ≠ none)
    {x : Int} {c : Option Nat} {kl : Lit} {y : DataW Unit × List MemPlace} (hkey : keyOf Tryz.prog 26 (.int .u64 x) = some kl) (hv : ptrElem (ptrTo c) = some y) (hat : ∀ zd, D.atKey kl zd = y.1) :
    In64 x ∧ kl = .int .u64 x ∧ ∃ g, c = some g ∧ pg x = some g := by
  obtain ⟨x', e1, rfl, hw⟩ := Maps.keyOf_int_inv Tryz.underlying26 hkey
  injection e1 with _ e1
  subst e1
  rw [ptrElem_to] at hv
  cases hv
  have e2 : pg x = c := encP_inj ((h2 x).symm.trans (hat _))
  obtain ⟨q, _, e3, e4⟩ := h3 _ (Maps.has_true_of_atKey hat)
  injection e3 with _ e3
  subst e3
  refine ⟨wf_u64_in hw, rfl, ?_⟩
  cases c with
  | none => exact absurd e2 e4
  | some g => exact ⟨g, rfl, e2⟩

theorem mask_start {w : World} {b mb : Nat} {S : Nat → Prop} {base size : Int} {m : Int → Int} {pg : Int → Option Nat} (hp : Parts w b mb S base size m pg) {D : DataW Unit} (h2 : ∀ q, D.atKey (.int .u64 q) (encP none) = encP (pg q)) (y : Int) : (0 : Int) = maskM (Maps.has D) m y := by
  unfold maskM
  cases e : Maps.has D (.int .u64 (y / 4096)) with
  | true => rw [if_pos rfl]
  | false =>
    have := Maps.atKey_of_not_has (H := Unit) (D := D) e (encP none)
    rw [h2] at this
    have h0 := hp.ok.gone _ (encP_inj this) (y % 4096).toNat (by omega)
    rw [show y / 4096 * 4096 + ((y % 4096).toNat : Int) = y by omega] at h0
    rw [h0]; rfl

/-- A page has been copied. -/
theorem Twinning.next {w w1 w4 : World} {b mb r n bt mt : Nat} {S : Nat → Prop} {base size : Int} {m : Int → Int} {pg : Int → Option Nat} {D : DataW Unit} {left : Lit → Bool} {cnt1 g0 : Nat} {x : Int} {S' : Nat → Prop} {pt : Int → Option Nat}
    (hp : Parts w1 b mb S base size m pg) (hok : PgOk w1 bt mt S' (maskM left m) pt) (hS : ∀ k, S' k → w.heap.size ≤ k) (hr : ¬ S' r) (hb1 : Below w.heap.size w w1) (hlk : left (.int .u64 x) = true) (e : pg x = some g0)
    (o4 : Only (fun k => k = mt) w1 w4) (hmap : PgMap Tryz.prog 26 w4 mt fun y => if y = x then some w1.heap.size else pt y) (hpage : PageAt w4 w1.heap.size m x)
    (hbt : w1.heap[bt]? = some (.cells #[.int .u64 base, .int .u64 size, .map (some mt)] 125 (0, 0))) (hrl : r < w1.heap.size) (hmb : mb < w.heap.size)
    (hrg : w1.ranges Tryz.prog 26 ptrElem mb r n D (fun z => left z && !z.sameKey (.int .u64 x)) cnt1) :
    Twinning w w4 mb r n D bt mt base size m (fun z => left z && !z.sameKey (.int .u64 x)) cnt1 := by
  have hmt : mt ≠ mb := by have := hS _ hok.smb; omega
  have hmr : mt ≠ r := fun h => hr (h ▸ hok.smb)
  have hg4 : w1.grownBy w4 (some mt) := ⟨o4.os, o4.tape, o4.output, o4.size, fun i hi hn => o4.block i hi (fun h => hn (by rw [h]))⟩
  refine ⟨hrg.kept hg4 (by simpa using hmt.symm) (by simpa using hmr.symm), hb1.trans (o4.below (by rintro k rfl; exact hS _ hok.smb) hb1.size), o4.keeps (fun h => hok.ne h.symm) hbt, _, _, PgOk.laid hok ?_ o4 (Nat.le_refl _) hmap (PageAt.congr hpage fun k hk => ?_) ?_ (fun y hy => ?_), ?_, ?_⟩
  · cases e2 : pt x with
    | none => rfl
    | some g =>
      obtain ⟨_, _, _, _, k, hk, hne⟩ := hok.page x g e2
      refine absurd ?_ hne
      unfold maskM
      rw [show (x * 4096 + (k : Int)) / 4096 = x by omega, if_pos hlk]
  · exact (maskM_page left m x k hk).symm
  · obtain ⟨_, _, _, _, k, hk, hne⟩ := hp.ok.page x g0 e
    exact ⟨k, hk, by rw [maskM_page left m x k hk]; exact hne⟩
  · unfold maskM
    have : (y / 4096 == x) = false := by rw [beq_eq_false_iff_ne]; omega
    simp only [sameKey_u64, this, Bool.not_false, Bool.and_true]
  · rintro k (hk | rfl)
    · exact hS k hk
    · exact hb1.size
  · rintro (hk | hk)
    · exact hr hk
    · omega

theorem PgMap.len {P : Program} {t k e : TypeId} {w : World} {mb : Nat} {pg : Int → Option Nat} (h : PgMap P k w mb pg) (T : PgT P t k e) : ∃ sz : Nat, ∀ (w' : World) ty, w'.heap[mb]? = w.heap[mb]? → (Builtin.len_ #[t] ty #[.map (some mb)]).run P w' = .ok (.int .i64 sz) w' := by
  obtain ⟨n, D, ⟨es, clock, hb, r⟩, _⟩ := h
  exact ⟨_, fun w' ty e => World.ownsMap.len (w := w') ⟨es, clock, by rw [e]; exact hb, r⟩ T.ht ty⟩

set_option maxRecDepth 100000 in
set_option maxHeartbeats 4000000 in
theorem progTwin_any {w : World} {b : Nat} {S : Nat → Prop} {base size : Int} {m : Int → Int} (h : ProgMem w b S base size m) (hf : Fits base size) :
    Calls Tryz.prog 47 #[.pointer (some ⟨b, 0, none⟩)] w (ProgTwin w base size m) := by
  obtain ⟨mb, pg, hp⟩ := h.parts
  obtain ⟨c0, c1, c2⟩ := ram_cells hp.row
  obtain ⟨sz, hlen⟩ := hp.ok.map.len pgT
  have hmk : ∀ w, (Instr.makeMap 122 (some (.int .i64 sz))).run Tryz.prog w = .ok (.map (some w.heap.size)) (w.alloc (.map #[] 0)) := fun w => by
    simp [Instr.makeMap, run_underlying Tryz.underlying122, asInt, asIntOf, newObj, Result.andThen]
    rfl
  have HL := Lib.hid hlen
  have hmbl : mb < w.heap.size := hp.ok.lt mb hp.ok.smb
  have hL0 : (Builtin.len_ #[122] 3 #[.map (some mb)]).run Tryz.prog w.drew = .ok (.int .i64 sz) w.drew := hlen _ _ rfl
  have hL1 : ∀ o, (Builtin.len_ #[122] 3 #[.map (some mb)]).run Tryz.prog (w.alloc o).drew = .ok (.int .i64 sz) (w.alloc o).drew := fun o => hlen _ _ (Below.heap_alloc w o mb hmbl)
  have hL2 : ∀ o o', (Builtin.len_ #[122] 3 #[.map (some mb)]).run Tryz.prog ((w.alloc o).alloc o').drew = .ok (.int .i64 sz) ((w.alloc o).alloc o').drew := fun o o' => hlen _ _ ((Below.heap_alloc _ o' mb (by simp; omega)).trans (Below.heap_alloc w o mb hmbl))
  clear hmbl
  have HP := Lib.hid hp
  have HF := Lib.hid hf
  clear h hp hf hlen
  go_enter Tryz.func47, Tryz.ntmps47
  go_wp2_with fail
  go_region_held3 (fun w' => w'.cell? ⟨b, 0, none⟩ = some (.int .u64 base) ∧ w'.cell? ⟨b, 1, none⟩ = some (.int .u64 size) ∧ w'.cell? ⟨b, 2, none⟩ = some (.map (some mb)) ∧ (Builtin.len_ #[122] 3 #[.map (some mb)]).run Tryz.prog w' = .ok (.int .i64 sz) w')
    (go_keep)
    (fail)
  rename (_ ∧ _ ∧ _ ∧ _) => hheld
  clear hheld hL0 hL1 hL2 HL hmk c0 c1 c2
  have hb3 : Below w.heap.size w (((w.alloc (.map #[] 0)).alloc (.cells #[.int .u64 base, .int .u64 size, .map (some w.heap.size)] 125)).drew) := (((Below.refl _ _).alloc (Nat.le_refl _) _).alloc (by simp) _).drew
  obtain ⟨mb', pt0, hrow3, hok3, hrest3⟩ : ProgMem (((w.alloc (.map #[] 0)).alloc (.cells #[.int .u64 base, .int .u64 size, .map (some w.heap.size)] 125)).drew) (w.heap.size + 1) (fun i => i = w.heap.size ∨ i = w.heap.size + 1) base size (fun _ => 0) := (newProg_mem (w := w) HP.out.al1 HP.out.al2).keeps (Only.refl (fun _ => False) _ |>.drewN 1) (fun _ _ => id)
  generalize (((w.alloc (.map #[] 0)).alloc (.cells #[.int .u64 base, .int .u64 size, .map (some w.heap.size)] 125)).drew) = w3 at *
  have hp3 := HP.out.below hb3
  obtain ⟨c0, c1, c2⟩ := ram_cells hp3.row
  obtain ⟨n, D, hown, h2, h3⟩ := hp3.ok.map
  have HB3 := Lib.hid hb3
  have HROW := Lib.hid hrow3
  have HOK := Lib.hid hok3
  have HP3 := Lib.hid hp3
  have H2 := Lib.hid h2
  have H3 := Lib.hid h3
  clear hb3 hrow3 hok3 hp3 h2 h3 hrest3
  go_wp2_with (at_range; refine wpList_range_own _ rfl _ 122 rfl 26 123 (int_keyed Tryz.underlying26) Tryz.underlying122 ptrElem mb n D rfl hown ?_; intro w0 hrg0 hg0 hs0)
  try go_frame
  have hstart : Twinning w w0 mb w3.heap.size n D (w.heap.size + 1) mb' base size m (Maps.has D) (Maps.size D) := by
    have hsz := HB3.out.size
    have ob : Only (fun _ => False) w3 w0 := ⟨hg0.os, hg0.tape, hg0.output, hg0.size, fun i hi _ => hg0.block i hi (by simp)⟩
    refine ⟨hrg0, HB3.out.trans (ob.below (fun _ h => h.elim) hsz), ob.keeps id HROW.out, _, pt0, (PgOk.keeps HOK.out ob (fun _ _ => id)).congr fun y => mask_start HP3.out H2.out y, ?_, ?_⟩
    · rintro k (rfl | rfl) <;> omega
    · intro hk
      have := HOK.out.lt _ hk
      omega
  have HST := Lib.hid hstart
  clear hstart hrg0 hg0 hs0
  go_loopw [4] (fun _ wr => ∃ left cnt, Twinning w wr mb w3.heap.size n D (w.heap.size + 1) mb' base size m left cnt) (fun _ wr => wr.rangeLeft mb w3.heap.size)
  case atStart => exact ⟨_, _, HST.out⟩
  case round =>
    obtain ⟨left, cnt, hrg, hbel, hbt, S', pt, hok, hS', hr'⟩ := hrel
    have HBT := Lib.hid hbt
    have HBEL := Lib.hid hbel
    have HOK1 := Lib.hid hok
    have HS1 := Lib.hid hS'
    have HR1 := Lib.hid hr'
    clear hbt hbel hok hS' hr'
    go_wp2_with (at_next; refine wpList_next_ranges _ rfl _ rfl 26 (int_keyed Tryz.underlying26) ptrElem (Value.int .u64) ptrTo (fun key kl hk => (by obtain ⟨x, hx, _⟩ := Maps.keyOf_int_inv Tryz.underlying26 hk; exact ⟨x, hx⟩)) (fun v y hv => (by obtain ⟨o, ho, _⟩ := ptrElem_inv hv; exact ⟨o, ho⟩)) mb w3.heap.size n D left cnt rfl hrg ?_ ?_)
    · intro h0 hl0
      have hm : maskM left m = m := by funext y; unfold maskM; rw [hl0]; rfl
      have HEND : Hid (ProgTwin w base size m (.returned (.pointer (some ⟨w.heap.size + 1, 0, none⟩))) wr) := by
        have hok := HOK1.out
        rw [hm] at hok
        exact Lib.hid ⟨HBEL.out, _, S', rfl, HS1.out, mb', pt, HBT.out, hok, HP.out.bytey, HP.out.sup, HP.out.al1, HP.out.al2⟩
      clear h0 hl0 hm hrg
      go_wp2
      go_ret
      exact HEND.out
    · intro x c kl yd yp w1 cnt1 hkey hlk hv hat hrg1 hlt hg1 hs1 hen
      obtain ⟨hx64, rfl, g0, rfl, epg⟩ := entry_is H2.out H3.out hkey hv hat
      simp only [ptrTo] at hen ⊢
      have ob1 : Only (fun k => k = w3.heap.size) wr w1 := ⟨hg1.os, hg1.tape, hg1.output, hg1.size, fun i hi hn => hg1.block i hi (fun h => hn (by injection h))⟩
      have hsz3 := HB3.out.size
      have hb1 : Below w.heap.size w w1 := HBEL.out.trans (ob1.below (by rintro k rfl; exact hsz3) HBEL.out.size)
      have hp1 := HP.out.below hb1
      have hpage : HoldsU w1 g0 138 4096 (fun k => m (x * 4096 + k)) := (hp1.ok.page x g0 epg).1
      have hok1 := HOK1.out.keeps ob1 (fun i hi h => HR1.out (h ▸ hi))
      have hbt1 := ob1.keeps (fun h => HR1.out (h ▸ HOK1.out.sb)) HBT.out
      have hnewb : HoldsU (w1.alloc (.cells Tryz.zeroCells138 138)) w1.heap.size 138 4096 (fun _ => 0) := by
        show _ = _
        rw [heap_alloc_new, zero4096]
      have hb2 : Below w1.heap.size w1 (w1.alloc (.cells Tryz.zeroCells138 138)) := (Below.refl _ _).alloc (Nat.le_refl _) _
      have hrow2 := hnewb.setRow (fun k => m (x * 4096 + k))
      have hb2' : Below w1.heap.size w1 ((w1.alloc (.cells Tryz.zeroCells138 138)).setRow w1.heap.size (uarr 4096 fun k => m (x * 4096 + k))) := below_setRow hb2 (Nat.le_refl _) _
      have ho2 := Only.of_below (fun _ => False) hb2'
      have hbt2 := ho2.keeps id hbt1
      obtain ⟨e0, e1, e2⟩ := ram_cells hbt2
      have hok2 := hok1.keeps ho2 (fun _ _ => id)
      have hNp : ∀ q, pt q ≠ none → base / 4096 ≤ q ∧ q < base / 4096 + (16384 : Nat) := pages_in hok1 HF.out (fun y hy => HP.out.sup y (fun h0 => hy (by unfold maskM; split <;> first | rfl | exact h0))) HP.out.al1 HP.out.al2
      obtain ⟨w4, hput, hmap4, hturn⟩ := hok2.map.put pgT hNp (by unfold maxLen; omega) hx64 w1.heap.size
      have HNB := Lib.hid hnewb
      have HPG := Lib.hid hpage
      have HNX : Hid (Twinning w w4 mb w3.heap.size n D (w.heap.size + 1) mb' base size m (fun z => left z && !z.sameKey (.int .u64 x)) cnt1) := by
        have o4 := mapTurned_only (S := fun k => k = mb') hturn rfl
        have hlt1 : w1.heap.size ≠ mb' := by have := hok1.lt _ hok1.smb; omega
        refine Lib.hid (Twinning.next hp1 hok1 HS1.out HR1.out hb1 hlk epg ((Only.of_below (fun k => k = mb') hb2').trans o4) hmap4 ?_ hbt1 ?_ ?_ hrg1)
        · exact HoldsU.keeps hrow2 o4 hlt1
        · have := hrg.lt; have := hg1.size; omega
        · exact HP.out.ok.lt _ HP.out.ok.smb
      have HLT := Lib.hid hlt
      have HLE := Lib.hid hrg.left_eq
      clear hkey hlk hv hat hrg1 hlt hg1 hs1 ob1 hsz3 hb1 hp1 hpage hok1 hbt1 hnewb hb2 hrow2 hb2' ho2 hbt2 hok2 hNp hmap4 hturn hrg epg
      go_wp2_with (first
        | (refine wpList_load_u rfl _ _ rfl g0 rfl 138 4096 (fun k => m (x * 4096 + k)) 5 HPG.out Tryz.underlying138 size4096 ?_)
        | (refine wpList_store_row rfl _ _ _ rfl w1.heap.size _ rfl rfl 138 _ HNB.out ?_ (by rw [uarr_size, uarr_size]) (uarr_one _ _) ?_; · exact size4096.trans (by rw [uarr_size])))
      refine ⟨⟨_, _, HNX.out⟩, ?_⟩
      rw [HNX.out.1.left_eq, HLE.out]
      exact HLT.out

end Go.Proofs.YtbcnkhfpogglmaaGreatDoor.M3

namespace Go.Proofs.YtbcnkhfpogglmaaGreatDoor.M3
open Go.RowKit Go.Maps Go.Sort Go.Shelf
set_option linter.unusedVariables false
set_option maxRecDepth 100000

/-- What has come so far: no number twice; those of the map that are no longer to come. -/
def CollU (D : DataW Unit) (left : Lit → Bool) (ss : List Int) : Prop := ss.Nodup ∧ ∀ x, x ∈ ss ↔ Maps.has D (.int .u64 x) = true ∧ left (.int .u64 x) = false
theorem CollU.start (D : DataW Unit) : CollU D (Maps.has D) [] := ⟨List.nodup_nil, fun x => by cases Maps.has D (.int .u64 x) <;> simp⟩
theorem CollU.step {D : DataW Unit} {left : Lit → Bool} {ss : List Int} (h : CollU D left ss) {x : Int} (hh : Maps.has D (.int .u64 x) = true) (hl : left (.int .u64 x) = true) : CollU D (fun z => left z && !z.sameKey (.int .u64 x)) (ss ++ [x]) := by
  have hn : x ∉ ss := fun hx => by have := ((h.2 x).1 hx).2; rw [hl] at this; cases this
  refine ⟨List.nodup_append.2 ⟨h.1, by simp, fun a ha b hb => ?_⟩, fun y => ?_⟩
  · simp only [List.mem_singleton] at hb
    subst hb
    exact fun e => hn (e ▸ ha)
  · by_cases c : y = x
    · subst c; simp [hh, sameKey_u64]
    · have e : (y == x) = false := by simpa using c
      simp [h.2 y, sameKey_u64, e, c]
/-- All numbers of the map, each once. -/
def AllU (D : DataW Unit) (ss : List Int) : Prop := ss.Nodup ∧ ∀ x, x ∈ ss ↔ Maps.has D (.int .u64 x) = true

set_option maxRecDepth 100000 in
set_option maxHeartbeats 1000000 in
theorem keysIter_in (n : Nat) (hn : 1 ≤ n) (l Bm mb nn : Nat) (D : DataW Unit) (J : List Int → World → Prop) (W : World) (hJ : AbidesFrom W.heap.size J)
    (hY : ∀ pre x W1, J pre W1 → pre.length < Maps.size D → YieldAt Fence.wide (n - 1) Tryz.prog l #[.int .u64 x] W1 fun e W' => e = .returned (.bool true) ∧ J (pre ++ [x]) W' ∧ KeepsWalks W1 W')
    (hm : W.cell? ⟨Bm, 0, none⟩ = some (.map (some mb))) (hown : W.ownsMap Tryz.prog 26 ptrElem mb nn D) (h0 : J [] W) :
    CallsIn Fence.wide n Tryz.prog 121 #[.func (.yield l) #[] #[], .pointer (some ⟨Bm, 0, none⟩)] W fun e W' => (∃ v, e = .returned v) ∧ ∃ ss, AllU D ss ∧ J ss W' := by
  refine callsIn_of_wp Tryz.func121 rfl trivial ?_ rfl
  simp only [Tryz.ntmps121, List.size_toArray, List.length_cons, List.length_nil, Nat.reduceAdd, Nat.reduceSub, Array.replicate_succ, Array.replicate_zero, List.push_toArray, List.append_toArray, List.nil_append, List.cons_append]
  gi_wp2_with (first
    | (gi_at_range; refine wpListIn_range_own _ rfl _ 122 rfl 26 123 (int_keyed Tryz.underlying26) Tryz.underlying122 _ mb nn _ rfl hown ?_; intro w0 hrg0 hg0 hs0)
    | gi_in)
  try go_frame
  gi_loopw [3] (fun _ wr => ∃ (left : Lit → Bool) (cnt : Nat) (ss : List Int), wr.ranges Tryz.prog 26 ptrElem mb W.heap.size nn D left cnt ∧ ss.length + cnt ≤ Maps.size D ∧ CollU D left ss ∧ J ss wr)
    (fun _ wr => wr.rangeLeft mb W.heap.size)
  case atStart => exact ⟨_, _, [], hrg0, by simp, CollU.start D, hJ [] W w0 none h0 hg0 (fun r e => by cases e)⟩
  case round =>
    obtain ⟨left, cnt, ss, hrg, hcs, hC, hJs⟩ := hrel
    gi_wp2_with (first
      | (gi_at_next; refine wpListIn_next_ranges _ rfl _ rfl 26 (int_keyed Tryz.underlying26) ptrElem (Value.int .u64) id (fun key kl hk => (by obtain ⟨x, hx, _⟩ := Maps.keyOf_int_inv Tryz.underlying26 hk; exact ⟨x, hx⟩)) (fun v _ _ => ⟨v, rfl⟩) mb W.heap.size nn _ _ _ rfl hrg ?_ ?_)
      | gi_in)
    · intro hc0 hl0
      gi_wp2
      go_end0
      exact ⟨⟨_, rfl⟩, ss, ⟨hC.1, fun x => by rw [hC.2 x, hl0]; simp⟩, hJs⟩
    · intro x c kl yd yp w2 cnt2 hkey hlk hv hat hrg2 hlt hg2 hs2 hen
      obtain ⟨x', ex, rfl, _⟩ := Maps.keyOf_int_inv Tryz.underlying26 hkey
      injection ex with _ ex
      subst ex
      have hJ2 : J ss w2 := hJ ss wr w2 (some W.heap.size) hJs hg2 (fun r e => by cases e; exact ⟨Nat.le_refl _, hrg.iter_walk⟩)
      obtain ⟨fn, tmps, assign, body, hy, hR⟩ := hY ss x w2 hJ2 (by omega)
      have hhas := Maps.has_true_of_atKey hat
      clear hs2
      gi_wp2
      refine hR.mono ?_
      rintro e W3 ⟨rfl, hJ3, hk3⟩
      gi_wp2
      have hrg3 := hrg2.of_walks hk3
      go_roundw
      case rel => exact ⟨_, cnt2, ss ++ [x], hrg3, by simp; omega, hC.step hhas hlk, hJ3⟩
      case measure => rw [hrg3.left_eq, hrg.left_eq]; exact hlt

/-- The iterator over a map's numbers, in later worlds too. -/
theorem keys_gives (n : Nat) (hn : 1 ≤ n) (Bm mb nn : Nat) (D : DataW Unit) (w : World) (hBm : Bm < w.heap.size) (hm : w.cell? ⟨Bm, 0, none⟩ = some (.map (some mb))) (hown : w.ownsMap Tryz.prog 26 ptrElem mb nn D) :
    SeqGives Fence.wide n Tryz.prog 121 #[.pointer (some ⟨Bm, 0, none⟩)] (Value.int .u64) (AllU D) (Maps.size D) w := fun l J W hW hJ hY h0 => by
  have hown' : W.ownsMap Tryz.prog 26 ptrElem mb nn D := by
    have hbl := hown.lt
    obtain ⟨es, clock, hb, r⟩ := hown
    exact ⟨es, clock, (hW.block mb hbl).trans hb, r⟩
  exact keysIter_in n hn l Bm mb nn D J W hJ hY ((hW.cell (p := ⟨Bm, 0, none⟩) hBm).trans hm) hown' h0

theorem keys_any (mb : Option Nat) (w : World) :
    Calls Tryz.prog 74 #[.map mb] w fun e w' =>
      e = .returned (.func (.func 121) #[] #[.pointer (some ⟨w.heap.size, 0, none⟩)]) ∧ w' = w.alloc (.cells #[.map mb] 122) := by
  go_enter Tryz.func74, Tryz.ntmps74
  go_wp2
  go_ret
  exact ⟨rfl, rfl⟩

end Go.Proofs.YtbcnkhfpogglmaaGreatDoor.M3

namespace Go.Proofs.YtbcnkhfpogglmaaGreatDoor.M3
open Go.RowKit Go.Maps Go.Sort Go.Shelf
set_option linter.unusedVariables false
set_option maxRecDepth 100000

/-- The two codes of the first range over a function. -/
def rfOf (c : Code) : Code × Code := match c with
  | .seq _ (.seq (.seq _ (.block _ (.rangeFunc _ _ a b))) _) => (a, b)
  | _ => (.ret, .ret)
/-- The loop's codes in AppendSeq. -/
def IsRf (a b : Code) : Prop := rfOf (Tryz.f141.body.getD .ret) = (a, b)

/-- The loop's record: the slice is boxed in block Bs; sv: the iterator's value. -/
def apRec (ca cb : Code) (fn : FuncId) (sv : Value) (Bs D : Nat) (st : LoopState) (pend : Option Code) : Loop :=
  { state := st, pending := pend, fn, tmps := #[.slice none 0 0, sv, .pointer (some ⟨Bs, 0, none⟩), undef, .slice none 0 0, undef, sv, undef, undef, undef, undef, undef, undef], params := #[7], assign := ca, body := cb, defers := D }

/-- Between two rounds: the box holds a slice of one's own with what has come. -/
structure Collecting (ca cb : Code) (w0 : World) (fn : FuncId) (sv : Value) (Bs l D : Nat) (ss : List Int) (W : World) : Prop where
  box : ∃ v, W.heap[Bs]? = some (.cells #[v] 54 (0, 0)) ∧ W.ownsRow w0.heap.size 26 1 v ss.length (ss.map (Value.int .u64)) ∧ (v = .slice none 0 0 ↔ ss = [])
  loop : W.heap[l]? = some (.loop (apRec ca cb fn sv Bs D .ready none))
  defers : W.heap[D]? = some (.deferred (some []))
  below : Below w0.heap.size w0 W

theorem collecting_abides (ca cb : Code) (w0 : World) (fn : FuncId) (sv : Value) (Bs l D B : Nat) (hB : w0.heap.size ≤ B) : AbidesFrom B (Collecting ca cb w0 fn sv Bs l D) := fun s W W' row h hg hrow => by
  have hr2 : ∀ r, row = some r → ∃ o : Obj, W.heap[r]? = some o ∧ o.isWalk = true := fun r e => (hrow r e).2
  obtain ⟨v, hv, hr, hn⟩ := h.box
  exact ⟨⟨v, (grownBy_keeps hg hr2 hv rfl).trans hv, ownsRow_abides_a hr hg hr2, hn⟩, (grownBy_keeps hg hr2 h.loop rfl).trans h.loop, (grownBy_keeps hg hr2 h.defers rfl).trans h.defers,
    h.below.grown hg h.below.size (fun k e => Nat.le_trans hB (hrow k e).1)⟩

theorem u64_ne : (54 : TypeId) ≠ 26 := by decide
theorem box_ne {v : Value} (cur : Array Value) : (Obj.cells #[v] 54 (0, 0)) ≠ .cells cur 26 (0, 0) := fun e => u64_ne (Obj.cells.inj e).2.1

set_option maxRecDepth 100000 in
set_option maxHeartbeats 2000000 in
theorem collect_yield {ca cb : Code} (hcode : IsRf ca cb) (m : Nat) (w0 : World) (fn : FuncId) (sv : Value) (Bs l D : Nat) (hBl : Bs ≠ l) (hDl : D ≠ l) (hDB : D ≠ Bs) (h0B : w0.heap.size ≤ Bs) (h0l : w0.heap.size ≤ l)
    (N : Nat) (hN : N ≤ 1000000) (ss : List Int) (x : Int) (W : World) (h : Collecting ca cb w0 fn sv Bs l D ss W) (hlen : ss.length < N) :
    YieldAt Fence.wide m Tryz.prog l #[.int .u64 x] W fun e W' => e = .returned (.bool true) ∧ Collecting ca cb w0 fn sv Bs l D (ss ++ [x]) W' ∧ KeepsWalks W W' := by
  obtain ⟨i0, hi, hz0, hz1, hz2⟩ := info_parts info_u64
  obtain ⟨v, hv, hrow, _⟩ := h.box
  refine ⟨fn, #[.slice none 0 0, sv, .pointer (some ⟨Bs, 0, none⟩), undef, .slice none 0 0, undef, sv, .int .u64 x, undef, undef, undef, undef, undef], ca, cb, by simpa [apRec] using run_yield (P := Tryz.prog) (args := #[.int .u64 x]) h.loop rfl, roundIn_of_wpIn trivial ?_⟩
  have hl : l < W.heap.size := (Array.getElem?_eq_some_iff.1 h.loop).1
  have hbr := run_beginRound (P := Tryz.prog) h.loop rfl
  obtain ⟨W2, hW2⟩ : ∃ W2, W.putObj l (.loop { apRec ca cb fn sv Bs D .ready none with state := .busy }) = W2 := ⟨_, rfl⟩
  rw [hW2] at hbr
  have hg2 : W.grownBy W2 (some l) := by rw [← hW2]; exact grownBy_putObj_a _ _ _
  have hk2 : KeepsWalks W W2 := by rw [← hW2]; exact KeepsWalks.putObj _ h.loop rfl
  have hv2 : W2.heap[Bs]? = some (.cells #[v] 54 (0, 0)) := by rw [← hW2]; exact (World.putObj_heap_other hBl).trans hv
  have hK2 : W2.heap[D]? = some (.deferred (some [])) := by rw [← hW2]; exact (World.putObj_heap_other hDl).trans h.defers
  have hL2 : W2.heap[l]? = some (.loop { apRec ca cb fn sv Bs D .ready none with state := .busy }) := by rw [← hW2]; exact World.putObj_heap_same hl
  have hrow2 : W2.ownsRow w0.heap.size 26 1 v ss.length (ss.map (Value.int .u64)) := hrow.kept hg2 (ownsRow_ne_a hrow h.loop (fun cur e => by cases e))
  have hb2 : Below w0.heap.size w0 W2 := h.below.grown hg2 h.below.size (fun k e => by cases e; exact h0l)
  obtain ⟨hc2, hf2⟩ := cell_of_box_a hv2
  have hBlt : Bs < W2.heap.size := (Array.getElem?_eq_some_iff.1 hv2).1
  have hl2 : l < W2.heap.size := (Array.getElem?_eq_some_iff.1 hL2).1
  have hDlt : D < W2.heap.size := (Array.getElem?_eq_some_iff.1 hK2).1
  have ne_of : ∀ {j : Nat} {o : Obj}, W2.heap[j]? = some o → (∀ cur, o ≠ .cells cur 26 (0, 0)) → some j ≠ v.ownBlock := fun hj hno => by
    rcases ownsRow_ne_a hrow2 hj hno with e | e
    · rw [e]; simp
    · exact fun e' => e e'.symm
  clear hW2
  simp only [IsRf, rfOf, Tryz.f141, Option.getD, Prod.mk.injEq] at hcode
  obtain ⟨hca, hcb⟩ := hcode
  generalize hP : (fun (e : Ending) (W' : World) => e = Ending.returned (.bool true) ∧ Collecting ca cb w0 fn sv Bs l D (ss ++ [x]) W' ∧ KeepsWalks W W') = R
  rw [← hca]
  have HCA := Lib.hid hca
  have HP := Lib.hid hP
  have HL2 := Lib.hid hL2
  clear hca hP hL2
  have HCB := Lib.hid hcb
  clear hcb
  gi_wp2_with gi_round_op_a
  rw [← HCB.out]
  gi_wp2_with (first
    | (gi_at_builtin; refine wpListIn_append_own _ rfl _ _ 54 rfl w0.heap.size 26 i0 (.int .u64 0) 1 8 Tryz.underlying54 hi hz0 hz1 hz2 rfl (by decide) _ _ _ rfl (hrow2.alloc _) ⟨W2.heap.size, 0, none⟩ 1 1 [.int .u64 x] rfl rfl (cell_one_new _ _ _) (by simp [Value.oneCell']) (by unfold maxLen; omega) (by omega) (by have := hb2.size; simp; omega) ?_; intro v' w3 hown' hg3 hnil3
       have hv3 : w3.heap[Bs]? = some (.cells #[v] 54 (0, 0)) := (hg3.block Bs (by simp; omega) (ne_of hv2 (fun cur => box_ne cur))).trans ((Below.heap_alloc _ _ Bs hBlt).trans hv2)
       obtain ⟨hc3, hf3⟩ := cell_of_box_a hv3
       obtain ⟨g', cap', cur', rfl, hbase', hgb', hr1, hr2, hr3, hr4⟩ : ∃ g' cap' cur', v' = .slice (some ⟨g', 0, none⟩) (ss.length + 1) cap' ∧ w0.heap.size ≤ g' ∧ w3.heap[g']? = some (.cells cur' 26 (0, 0)) ∧ ss.length + 1 ≤ cap' ∧ cap' ≤ maxLen ∧ cur'.size = cap' * 1 ∧ cur'.toList.take ((ss.length + 1) * 1) = ss.map (Value.int .u64) ++ [.int .u64 x] := by
         rcases hown'.2 with ⟨_, h0⟩ | h'
         · exact absurd h0 (by omega)
         · exact h'
       go_frame)
    | gi_round_op_a)
  have hL2 := HL2.out
  have hg3' : (W2.alloc (.cells #[.int .u64 x] 26)).grownBy w3 v.ownBlock := hg3
  have hL3 : w3.heap[l]? = some (.loop { apRec ca cb fn sv Bs D .ready none with state := .busy }) := (hg3'.block l (by simp; omega) (ne_of hL2 (fun cur e => by cases e))).trans ((Below.heap_alloc _ _ l hl2).trans hL2)
  have hK3 : w3.heap[D]? = some (.deferred (some [])) := (hg3'.block D (by simp; omega) (ne_of hK2 (fun cur e => by cases e))).trans ((Below.heap_alloc _ _ D hDlt).trans hK2)
  obtain ⟨w4, hw4⟩ : ∃ w4, w3.setCell ⟨Bs, 0, none⟩ (.slice (some ⟨g', 0, none⟩) (ss.length + 1) cap') = w4 := ⟨_, rfl⟩
  rw [hw4]
  have hg4 : w3.grownBy w4 (some Bs) := by rw [← hw4]; exact grownBy_setCell0_a _ _ _
  have hv4 : w4.heap[Bs]? = some (.cells #[.slice (some ⟨g', 0, none⟩) (ss.length + 1) cap'] 54 (0, 0)) := by rw [← hw4]; exact heap_setCell_box_a _ hv3
  have hL4 : w4.heap[l]? = some (.loop { apRec ca cb fn sv Bs D .ready none with state := .busy }) := (hg4.block l (Array.getElem?_eq_some_iff.1 hL3).1 (fun e => hBl (by cases e; rfl))).trans hL3
  have hK4 : w4.heap[D]? = some (.deferred (some [])) := (hg4.block D (Array.getElem?_eq_some_iff.1 hK3).1 (fun e => hDB (by cases e; rfl))).trans hK3
  have hrow4 := hown'.kept hg4 (ownsRow_ne_a hown' hv3 (fun cur => box_ne cur))
  have hl4 : l < w4.heap.size := (Array.getElem?_eq_some_iff.1 hL4).1
  have hb3 : Below w0.heap.size w0 w3 := (hb2.alloc hb2.size _).grown hg3' (by have := hb2.size; simp; omega) (fun k e => (hrow2.lt k e).1)
  have hb4 : Below w0.heap.size w0 w4 := hb3.grown hg4 hb3.size (fun k e => by cases e; exact h0B)
  have hk4 : KeepsWalks W w4 := ((hk2.trans (KeepsWalks.alloc _ _)).trans (KeepsWalks.of_grownBy hg3' (ownsRow_not_walk_a (hrow2.alloc _)))).trans (by rw [← hw4]; exact KeepsWalks.setCell _ _ _)
  clear hw4
  rw [← HP.out]
  refine ⟨_, _, run_endRound none hL4, rfl, ⟨⟨_, (World.putObj_heap_other hBl).trans hv4, ?_, by simp⟩, World.putObj_heap_same hl4, (World.putObj_heap_other hDl).trans hK4, hb4.grown (grownBy_putObj_a _ _ _) hb4.size (fun k e => by cases e; exact h0l)⟩, hk4.trans (KeepsWalks.putObj _ hL4 rfl)⟩
  have := hrow4.kept (grownBy_putObj_a w4 l (.loop { { apRec ca cb fn sv Bs D .ready none with state := .busy } with state := if (none : Option Code).isNone then .ready else .done, pending := none })) (ownsRow_ne_a hrow4 hL4 (fun cur e => by cases e))
  simpa using this

set_option maxRecDepth 100000 in
set_option maxHeartbeats 2000000 in
theorem appendSeq_in (n : Nat) (hn : 2 ≤ n) (g : Nat) (lb : Array Value) (eg : ∀ args w, (callFunc g args).run Tryz.prog w = .ok (.enter g args) w) (S : List Int → Prop) (N : Nat) (hN : N ≤ 1000000) (w : World) (hseq : SeqGives Fence.wide (n - 1) Tryz.prog g lb (Value.int .u64) S N w) :
    CallsIn Fence.wide n Tryz.prog 141 #[.slice none 0 0, .func (.func g) #[] lb] w fun e w' => ∃ (v : Value) (ss : List Int), e = .returned v ∧ S ss ∧ w'.ownsRow w.heap.size 26 1 v ss.length (ss.map (Value.int .u64)) ∧ (v = .slice none 0 0 ↔ ss = []) ∧ Below w.heap.size w w' := by
  have h1 : 1 ≤ n := by omega
  refine callsIn_of_wp_marks Tryz.func141 rfl trivial ?_ rfl
  simp only [Tryz.ntmps141, List.size_toArray, List.length_cons, List.length_nil, Nat.reduceAdd, Nat.reduceSub, Array.replicate_succ, Array.replicate_zero, List.push_toArray, List.append_toArray, List.nil_append, List.cons_append]
  gi_wp2
  refine wpIn_rangeFunc ?_
  intro fn hfn
  generalize hA : Code.region 2 _ false = ca
  generalize hB : Code.block 1 _ = cb
  have hcode : IsRf ca cb := by rw [← hA, ← hB]; rfl
  clear hA hB
  obtain ⟨W0, hW0⟩ : ∃ W0, w.alloc (.cells #[.slice none 0 0] 54) = W0 := ⟨_, rfl⟩
  have hs0 : W0.heap.size = w.heap.size + 1 := by rw [← hW0]; simp
  have hv0 : W0.heap[w.heap.size]? = some (.cells #[.slice none 0 0] 54 (0, 0)) := by rw [← hW0]; exact World.alloc_heap_new w _
  have hb0 : Below w.heap.size w W0 := by rw [← hW0]; exact (Below.refl _ w).alloc (Nat.le_refl _) _
  rw [hW0]
  obtain ⟨W1, hW1⟩ : ∃ W1, (W0.alloc (.deferred (some []))).alloc (.loop (apRec ca cb fn (.func (.func g) #[] lb) w.heap.size W0.heap.size .ready none)) = W1 := ⟨_, rfl⟩
  have hold : ∀ k, k < W0.heap.size → W1.heap[k]? = W0.heap[k]? := fun k hk => by
    rw [← hW1]; exact (Below.heap_alloc _ _ k (by simp; omega)).trans (Below.heap_alloc _ _ k hk)
  have hb1 : Below w.heap.size w W1 := by rw [← hW1]; exact (hb0.alloc hb0.size _).alloc (by have := hb0.size; simp; omega) _
  have hs1 : W1.heap.size = W0.heap.size + 2 := by rw [← hW1]; simp
  have hM : Collecting ca cb w fn (.func (.func g) #[] lb) w.heap.size (W0.heap.size + 1) W0.heap.size [] W1 :=
    ⟨⟨_, (hold w.heap.size (by omega)).trans hv0, ⟨rfl, .inl ⟨rfl, rfl⟩⟩, by simp⟩,
     by rw [← hW1]; have := World.alloc_heap_new (W0.alloc (.deferred (some []))) (.loop (apRec ca cb fn (.func (.func g) #[] lb) w.heap.size W0.heap.size .ready none)); rwa [World.size_alloc] at this,
     by rw [← hW1]; exact (Below.heap_alloc _ _ _ (by simp)).trans (World.alloc_heap_new W0 _), hb1⟩
  refine ⟨W0.heap.size + 1, [{ target := .collected W0.heap.size, args := #[] }], W1, { target := .fn (.func g) lb, args := #[.func (.yield (W0.heap.size + 1)) #[] #[]] }, W1, g,
    #[.func (.yield (W0.heap.size + 1)) #[] #[]] ++ lb, W1, ?_, ?_, ?_, ?_, fun _ => h1, ?_⟩
  · rw [← hW1]; exact run_enterLoop_outer _ _ _ _ _
  · simp [resolve, go_sem]
  · intro f' hf'; trivial
  · simp [invoke, go_sem, eg]
  · refine (hseq (W0.heap.size + 1) (Collecting ca cb w fn (.func (.func g) #[] lb) w.heap.size (W0.heap.size + 1) W0.heap.size) W1 hb1 (collecting_abides ca cb _ _ _ _ _ _ _ hb1.size)
      (fun pre x W hJ hl => collect_yield hcode (n - 1 - 1) w fn _ w.heap.size (W0.heap.size + 1) W0.heap.size (by omega) (by omega) (by omega) (Nat.le_refl _) (by omega) N hN pre x W hJ hl) hM).mono ?_
    rintro e W2 ⟨⟨v0, rfl⟩, ss, hS, h2⟩
    obtain ⟨v, hv, hrow, hnil⟩ := h2.box
    have hend := run_endLoop (P := Tryz.prog) h2.loop (by simp [apRec])
    obtain ⟨W3, hW3⟩ : ∃ W3, W2.putObj (W0.heap.size + 1) (.loop { apRec ca cb fn (.func (.func g) #[] lb) w.heap.size W0.heap.size .ready none with state := .exhausted }) = W3 := ⟨_, rfl⟩
    rw [hW3] at hend
    have hg3 : W2.grownBy W3 (some (W0.heap.size + 1)) := by rw [← hW3]; exact grownBy_putObj_a _ _ _
    have hv3 : W3.heap[w.heap.size]? = some (.cells #[v] 54 (0, 0)) := by rw [← hW3]; exact (World.putObj_heap_other (by omega)).trans hv
    have hK3 : W3.heap[W0.heap.size]? = some (.deferred (some [])) := by rw [← hW3]; exact (World.putObj_heap_other (by omega)).trans h2.defers
    have hrow3 := hrow.kept hg3 (ownsRow_ne_a hrow h2.loop (fun cur e => by cases e))
    have hb3 : Below w.heap.size w W3 := h2.below.grown hg3 h2.below.size (fun k e => by cases e; omega)
    obtain ⟨hc3, hf3⟩ := cell_of_box_a hv3
    clear hW3
    refine ⟨none, W3, hend, ?_⟩
    gi_wp2
    rw [← hs0]
    refine ⟨by simp, .inl ⟨_, _, rfl, run_takeDeferred hK3, ?_⟩⟩
    exact ⟨_, results_tmp rfl _ _ _, v, ss, rfl, hS, hrow3.kept (grownBy_putObj_a _ _ _) (ownsRow_ne_a hrow3 hK3 (fun cur e => by cases e)), hnil, hb3.grown (grownBy_putObj_a _ _ _) hb3.size (fun k e => by cases e; omega)⟩

set_option maxHeartbeats 1000000 in
theorem collect_in (n : Nat) (hn : 3 ≤ n) (g : Nat) (lb : Array Value) (eg : ∀ args w, (callFunc g args).run Tryz.prog w = .ok (.enter g args) w) (S : List Int → Prop) (N : Nat) (hN : N ≤ 1000000) (w : World) (hseq : SeqGives Fence.wide (n - 1 - 1) Tryz.prog g lb (Value.int .u64) S N w) :
    CallsIn Fence.wide n Tryz.prog 119 #[.func (.func g) #[] lb] w fun e w' => ∃ (v : Value) (ss : List Int), e = .returned v ∧ S ss ∧ w'.ownsRow w.heap.size 26 1 v ss.length (ss.map (Value.int .u64)) ∧ (v = .slice none 0 0 ↔ ss = []) ∧ Below w.heap.size w w' := by
  have hf : Fence.wide.fn 141 := trivial
  refine callsIn_of_wp Tryz.func119 rfl trivial ?_ rfl
  simp only [Tryz.ntmps119, List.size_toArray, List.length_cons, List.length_nil, Nat.reduceAdd, Nat.reduceSub, Array.replicate_succ, Array.replicate_zero, List.push_toArray, List.append_toArray, List.nil_append, List.cons_append]
  gi_wp2_with fail
  refine ⟨fun _ => by omega, (appendSeq_in (n - 1) (by omega) g lb eg S N hN _ hseq).mono ?_⟩
  rintro e w' ⟨v, ss, rfl, hS, hrow, hnil, hb⟩
  gi_wp2
  go_ret
  exact ⟨v, ss, rfl, hS, hrow, hnil, hb⟩

/-- Collect over a map's numbers. -/
theorem collect_keys (Bm mb nn : Nat) (D : DataW Unit) (w : World) (hBm : Bm < w.heap.size) (hm : w.cell? ⟨Bm, 0, none⟩ = some (.map (some mb))) (hown : w.ownsMap Tryz.prog 26 ptrElem mb nn D) (hN : Maps.size D ≤ 1000000) :
    Calls Tryz.prog 119 #[.func (.func 121) #[] #[.pointer (some ⟨Bm, 0, none⟩)]] w fun e w' =>
      ∃ (v : Value) (ss : List Int), e = .returned v ∧ AllU D ss ∧ w'.ownsRow w.heap.size 26 1 v ss.length (ss.map (Value.int .u64)) ∧ (v = .slice none 0 0 ↔ ss = []) ∧ Below w.heap.size w w' :=
  (callsIn_wide (n := 3)).1 (collect_in 3 (by omega) _ _ (enters_of Tryz.func121 (by kernel_rfl) rfl) (AllU D) (Maps.size D) hN w (keys_gives 1 (by omega) Bm mb nn D w hBm hm hown))

end Go.Proofs.YtbcnkhfpogglmaaGreatDoor.M3

namespace Go.Proofs.YtbcnkhfpogglmaaGreatDoor.M3
open Go.RowKit Go.Maps Go.Sort
set_option linter.unusedVariables false
set_option maxRecDepth 100000

theorem isNaN_any (x : Int) (w : World) : Calls Tryz.prog 179 #[.int .u64 x] w fun e w' => e = .returned (.bool false) ∧ w = w' := by
  go_enter Tryz.func179, Tryz.ntmps179
  go_wp2
  go_ret
  exact ⟨rfl, rfl⟩
theorem less_any (x y : Int) (w : World) : Calls Tryz.prog 165 #[.int .u64 x, .int .u64 y] w fun e w' => e = .returned (.bool (ltInt x y)) ∧ w' = w := by
  go_enter Tryz.func165, Tryz.ntmps165
  go_wp2_with (go_at_call 179; refine (isNaN_any _ _).mono ?_; rintro e w' ⟨rfl, rfl⟩)
  go_ret
  exact ⟨rfl, rfl⟩

section
variable {α : Type} [Inhabited α] (lt : α → α → Bool)
theorem inner_go (a j : Nat) (d : Array α) (hj : a < j) (hl : lt d[j]! d[j - 1]! = true) : insInner lt a j d = insInner lt a (j - 1) (swp d j (j - 1)) := by
  obtain ⟨k, rfl⟩ : ∃ k, j = k + 1 := ⟨j - 1, by omega⟩
  rw [Nat.add_sub_cancel] at hl ⊢
  rw [insInner]
  simp [hj, hl]
theorem inner_stop (a j : Nat) (d : Array α) (h : j ≤ a ∨ lt d[j]! d[j - 1]! = false) : insInner lt a j d = d := by
  cases j with
  | zero => rw [insInner]
  | succ k =>
    rw [insInner]
    rw [Nat.add_sub_cancel] at h
    rcases h with h | h
    · simp [show ¬ a < k + 1 by omega]
    · simp [h]
theorem outer_go (a b i : Nat) (d : Array α) (h : i < b) : insOuter lt a b i d = insOuter lt a b (i + 1) (insInner lt a i d) := by rw [insOuter, if_pos h]
theorem outer_stop (a b i : Nat) (d : Array α) (h : ¬ i < b) : insOuter lt a b i d = d := by rw [insOuter, if_neg h]
end

/-- Block g holds those numbers from its beginning on, d of them, and may be written. -/
theorem row_drewN (w : World) (m q blk off : Nat) (d : Array Int) : (putRow (Value.int .u64) (Sort.ahead w m) blk off d).drewN q = putRow (Value.int .u64) (Sort.ahead w (m + q)) blk off d := by
  show Sort.ahead (putRow (Value.int .u64) (Sort.ahead w m) blk off d) q = _
  rw [putRow_ahead (Value.int .u64) w m, ahead_ahead, ← putRow_ahead]
theorem row_swapped (w : World) (m q blk off : Nat) (d : Array Int) (j k : Nat) (hj : j < d.size) (hk : k < d.size) :
    (((putRow (Value.int .u64) (Sort.ahead w m) blk off d).drewN q).setCell ⟨blk, off + j, none⟩ (.int .u64 d[k]!)).setCell ⟨blk, off + k, none⟩ (.int .u64 d[j]!) = putRow (Value.int .u64) (Sort.ahead w (m + q)) blk off (swp d j k) := by
  rw [row_drewN]
  exact putRow_swp (Value.int .u64) _ blk off d j k hj hk

/-- What the sort leaves. -/
def SortEnd (w : World) (blk off : Nat) (d : Array Int) (e : Ending) (w' : World) : Prop := e = .returned (.tuple #[]) ∧ ∃ n, w' = putRow (Value.int .u64) (Sort.ahead w n) blk off d

set_option maxHeartbeats 2000000 in
theorem insertion_any (blk off cap b : Nat) (d : Array Int) (w : World) (hH : Holds (Value.int .u64) w blk off d) (hb : b ≤ d.size) (hsz : d.size < 1000000) :
    Calls Tryz.prog 159 #[.slice (some ⟨blk, off, none⟩) d.size cap, .int .i64 (0 : Nat), .int .i64 b] w (SortEnd w blk off (Sort.insertionSort ltInt d 0 b)) := by
  go_enter Tryz.func159, Tryz.ntmps159
  go_wp2
  go_loopw [6] (fun vi wr => ∃ (i n : Nat) (dk : Array Int), vi = .int .i64 i ∧ 0 < i ∧ i ≤ b + 1 ∧ dk.size = d.size ∧ wr = putRow (Value.int .u64) (Sort.ahead w n) blk off dk ∧ insOuter ltInt 0 b i dk = insOuter ltInt 0 b 1 d)
    (fun vi _ => b + 1 - (intOf vi).toNat)
  case atStart => exact ⟨1, 0, d, by go_num, by omega, by omega, rfl, (putRow_self _ _ _ _ _ hH).symm, rfl⟩
  case round =>
    obtain ⟨i, n, dk, rfl, hai, hib, hsk, hwr, hO⟩ := hrel
    have HO := Lib.hid hO
    clear hO
    by_cases hlt : i < b
    · go_wp2
      go_loopw [7] (fun vj wr2 => ∃ (j m : Nat) (dj : Array Int), vj = .int .i64 j ∧ j ≤ i ∧ dj.size = d.size ∧ wr2 = putRow (Value.int .u64) (Sort.ahead w m) blk off dj ∧ insInner ltInt 0 j dj = insInner ltInt 0 i dk)
        (fun vj _ => (intOf vj).toNat)
      case atStart => exact ⟨i, n, dk, rfl, Nat.le_refl _, hsk, rfl, rfl⟩
      case round =>
        obtain ⟨j, m, dj, rfl, hji, hsj, hw2, hI⟩ := hrel
        obtain ⟨G, hG⟩ : ∃ G : Nat → Int, ∀ t, G t = dj[t]! := ⟨fun t => dj[t]!, fun _ => rfl⟩
        have hcw : ∀ t, t < d.size → wr.cell? ⟨blk, off + t, none⟩ = some (.int .u64 (G t)) := fun t ht => by
          rw [hw2, hG]; exact cell?_putRow _ _ _ _ d dj (holds_ahead _ _ _ _ _ _ hH) hsj t (by omega)
        have hfw : ∀ t, t < d.size → wr.frozen? ⟨blk, off + t, none⟩ = false := fun t ht => by
          rw [hw2, frozen?_putRow]; exact ((holds_ahead _ _ m _ _ _ hH) t ht).2
        have HW := Lib.hid hw2
        have HG := Lib.hid hG
        have HI := Lib.hid hI
        have HH := Lib.hid hH
        have HWR := Lib.hid hwr
        have OUT : Hid ((j = 0 ∨ ltInt dj[j]! dj[j - 1]! = false) → ∀ q, ∃ (i' n' : Nat) (dk' : Array Int), Value.int .i64 ((i : Int) + 1) = .int .i64 (i' : Nat) ∧ 0 < i' ∧ i' ≤ b + 1 ∧ dk'.size = d.size ∧
            wr.drewN q = putRow (Value.int .u64) (Sort.ahead w n') blk off dk' ∧ insOuter ltInt 0 b i' dk' = insOuter ltInt 0 b 1 d) := Lib.hid fun hs q =>
          ⟨i + 1, m + q, dj, by go_num, by omega, by omega, hsj, by rw [HW.out]; exact row_drewN _ _ _ _ _ _,
            by rw [← HO.out, outer_go _ _ _ _ _ hlt, ← HI.out, inner_stop _ _ _ _ (hs.imp (by omega) id)]⟩
        clear hw2 hG hI hH hwr
        go_wp2
        by_cases hja : 0 < j
        · go_quiet (first | (go_at_call 165; refine Calls.quiet_of_same (less_any _ _ _)))
          go_wp2
          · have hl : ltInt (G j) (G (j - 1)) = true := by assumption
            go_region
            all_goals go_wp2
            go_roundw
            case rel =>
              refine ⟨j - 1, m + (nq + 1), swp dj j (j - 1), by congr 1; omega, by omega, by rw [size_swp]; exact hsj, ?_, ?_⟩
              · rw [HW.out, HG.out, HG.out]
                exact row_swapped w m (nq + 1) blk off dj j (j - 1) (by omega) (by omega)
              · rw [← HI.out, inner_go ltInt 0 j dj hja (by rw [← HG.out, ← HG.out]; exact hl)]
            case measure => simp [intOf]; omega
          · have hl : ltInt (G j) (G (j - 1)) = false := by assumption
            go_roundw
            case rel => exact OUT.out (Or.inr (by rw [← HG.out, ← HG.out]; exact hl)) nq
            case measure => simp [intOf]; omega
        · have hd : decide ((0 : Int) < (j : Int)) = false := by simpa using hja
          go_quiet (first | (go_at_call 165; refine Calls.quiet_of_same (less_any _ _ _)))
          go_wp2
          go_roundw
          case rel => exact OUT.out (Or.inl (by omega)) nq
          case measure => simp [intOf]; omega
    · have HWR := Lib.hid hwr
      clear hwr
      go_wp2
      go_end0
      exact ⟨rfl, n, by unfold Sort.insertionSort; rw [← HO.out, outer_stop _ _ _ _ _ hlt, HWR.out]⟩

end Go.Proofs.YtbcnkhfpogglmaaGreatDoor.M3

namespace Go.Proofs.YtbcnkhfpogglmaaGreatDoor.M3
open Go.RowKit Go.Maps Go.Sort
set_option linter.unusedVariables false
set_option maxRecDepth 100000

/-- Some number is told; the world is as it was. -/
def SomeInt (w : World) (e : Ending) (w' : World) : Prop := (∃ k : Int, e = .returned (.int .i64 k)) ∧ w = w'

set_option maxRecDepth 1000000 in
set_option maxHeartbeats 2000000 in
theorem len64_few (n : Nat) (h : n ≤ 12) (w : World) : Calls Tryz.prog 169 #[.int .u64 n] w (SomeInt w) := by
  have : n = 0 ∨ n = 1 ∨ n = 2 ∨ n = 3 ∨ n = 4 ∨ n = 5 ∨ n = 6 ∨ n = 7 ∨ n = 8 ∨ n = 9 ∨ n = 10 ∨ n = 11 ∨ n = 12 := by omega
  rcases this with rfl | rfl | rfl | rfl | rfl | rfl | rfl | rfl | rfl | rfl | rfl | rfl | rfl
  all_goals
    go_enter Tryz.func169, Tryz.ntmps169
    go_wp2
    go_ret
    exact ⟨⟨_, rfl⟩, rfl⟩

theorem bitsLen_few (n : Nat) (h : n ≤ 12) (w : World) : Calls Tryz.prog 143 #[.int .u64 n] w (SomeInt w) := by
  go_enter Tryz.func143, Tryz.ntmps143
  go_wp2_with (go_at_call 169; refine (len64_few n h _).mono ?_; rintro e w' ⟨⟨k, rfl⟩, rfl⟩)
  go_ret
  exact ⟨⟨_, rfl⟩, rfl⟩

/-- Nothing is told; the world is as it was. -/
def Nothing (w : World) (e : Ending) (w' : World) : Prop := e = .returned (.tuple #[]) ∧ w = w'

theorem insertion_none (a : Option Addr) (cap : Nat) (w : World) : Calls Tryz.prog 159 #[.slice a 0 cap, .int .i64 0, .int .i64 0] w (Nothing w) := by
  go_enter Tryz.func159, Tryz.ntmps159
  go_wp2
  refine wp_loop_rounds 1 ?_
  rw [rounds_succ]
  go_wp2
  go_end0
  exact ⟨rfl, rfl⟩

set_option maxRecDepth 100000 in
set_option maxHeartbeats 1000000 in
theorem pdq_few (blk off cap : Nat) (d : Array Int) (limit : Int) (w : World) (hH : Holds (Value.int .u64) w blk off d) (hsz : d.size ≤ 12) :
    Calls Tryz.prog 142 #[.slice (some ⟨blk, off, none⟩) d.size cap, .int .i64 0, .int .i64 d.size, .int .i64 limit] w (SortEnd w blk off (Sort.insertionSort ltInt d 0 d.size)) := by
  have HH := Lib.hid hH
  clear hH
  go_enter Tryz.func142, Tryz.ntmps142
  go_wp2
  refine wp_loop_rounds 1 ?_
  rw [rounds_succ]
  go_wp2_with (go_at_call 159; refine (insertion_any blk off cap d.size d _ HH.out (Nat.le_refl _) (by omega)).mono ?_; rintro e w' hE; obtain ⟨rfl, n, rfl⟩ := hE)
  go_end0
  exact ⟨rfl, n, rfl⟩

set_option maxRecDepth 100000 in
theorem pdq_none (a : Option Addr) (cap : Nat) (limit : Int) (w : World) :
    Calls Tryz.prog 142 #[.slice a 0 cap, .int .i64 0, .int .i64 0, .int .i64 limit] w (Nothing w) := by
  go_enter Tryz.func142, Tryz.ntmps142
  go_wp2
  refine wp_loop_rounds 1 ?_
  rw [rounds_succ]
  go_wp2_with fail
  refine (insertion_none _ _ _).mono ?_
  rintro e w' hE
  obtain ⟨rfl, rfl⟩ := hE
  go_wp2
  go_end0
  exact ⟨rfl, rfl⟩

theorem sort_few (blk off cap : Nat) (d : Array Int) (w : World) (hH : Holds (Value.int .u64) w blk off d) (hsz : d.size ≤ 12) :
    Calls Tryz.prog 120 #[.slice (some ⟨blk, off, none⟩) d.size cap] w (SortEnd w blk off (Sort.insertionSort ltInt d 0 d.size)) := by
  have HH := Lib.hid hH
  clear hH
  go_enter Tryz.func120, Tryz.ntmps120
  go_wp2_with (first
    | (go_at_call 143; refine (bitsLen_few d.size hsz _).mono ?_; rintro e w' ⟨⟨k, rfl⟩, rfl⟩)
    | (go_at_call 142; refine (pdq_few blk off cap d _ _ HH.out hsz).mono ?_; rintro e w' hE; obtain ⟨rfl, n, rfl⟩ := hE))
  go_end0
  exact ⟨rfl, n, rfl⟩
theorem sort_none (a : Option Addr) (cap : Nat) (w : World) :
    Calls Tryz.prog 120 #[.slice a 0 cap] w (Nothing w) := by
  go_enter Tryz.func120, Tryz.ntmps120
  go_wp2_with (first
    | (go_at_call 143; refine (bitsLen_few 0 (by omega) _).mono ?_; rintro e w' ⟨⟨k, rfl⟩, rfl⟩)
    | (go_at_call 142; refine (pdq_none _ _ _ _).mono ?_; rintro e w' hE; obtain ⟨rfl, rfl⟩ := hE))
  go_end0
  exact ⟨rfl, rfl⟩

theorem swoInt : SWO ltInt := ⟨fun x => by simp [ltInt], fun x y z h k => by simp [ltInt] at *; omega, fun x y z h k => by simp [ltInt] at *; omega⟩

/-- What the sort makes of numbers that differ. -/
def sortedOf (ss : List Int) : List Int := (Sort.insertionSort ltInt ss.toArray 0 ss.length).toList
theorem sortedOf_is {ss : List Int} (hn : ss.Nodup) : (sortedOf ss).length = ss.length ∧ (∀ x, x ∈ sortedOf ss ↔ x ∈ ss) ∧ Rises (sortedOf ss) := by
  obtain ⟨⟨h1, _, h3⟩, h4⟩ := insertionSort_holds swoInt ss.toArray 0 ss.length (Nat.zero_le _) (by simp)
  have hs : (Sort.insertionSort ltInt ss.toArray 0 ss.length).size = ss.length := by rw [h1]; simp
  have hp : (sortedOf ss).Perm ss := by
    have e0 : ∀ (X : Array Int) (n : Nat), X.size = n → X.extract 0 n = X := by rintro X n rfl; simp
    have e1 := e0 _ _ hs
    have e2 : ss.toArray.extract 0 ss.length = ss.toArray := by simp
    rw [e1, e2] at h3
    simpa [sortedOf] using h3
  refine ⟨hp.length_eq, fun x => hp.mem_iff, ?_⟩
  have hnd : (sortedOf ss).Nodup := hp.nodup_iff.2 hn
  unfold Rises
  rw [List.pairwise_iff_getElem]
  intro i j hi hj hij
  have hi' : i < ss.length := by rw [← hp.length_eq]; exact hi
  have hj' : j < ss.length := by rw [← hp.length_eq]; exact hj
  have h5 := h4 i j (Nat.zero_le _) hij hj'
  rw [getElem!_pos _ i (by omega), getElem!_pos _ j (by omega)] at h5
  have h6 : (sortedOf ss)[i] ≠ (sortedOf ss)[j] := List.pairwise_iff_getElem.1 hnd i j hi hj hij
  have e1 : (sortedOf ss)[i] = (Sort.insertionSort ltInt ss.toArray 0 ss.length)[i]'(by omega) := rfl
  have e2 : (sortedOf ss)[j] = (Sort.insertionSort ltInt ss.toArray 0 ss.length)[j]'(by omega) := rfl
  rw [e1, e2] at h6 ⊢
  simp [ltInt] at h5
  omega

end Go.Proofs.YtbcnkhfpogglmaaGreatDoor.M3

namespace Go.Proofs.YtbcnkhfpogglmaaGreatDoor.M3
open Go.RowKit Go.Maps Go.Sort
set_option linter.unusedVariables false
set_option maxRecDepth 100000

/-- Block g holds those numbers, in an array of cap words. -/
def RowN (w : World) (g : Nat) (xs : List Int) (cap : Nat) : Prop :=
  ∃ cur, w.heap[g]? = some (.cells cur 26 (0, 0)) ∧ cur.size = cap ∧ xs.length ≤ cap ∧ cap ≤ maxLen ∧ ∀ i, i < xs.length → cur[i]? = some (.int .u64 (xs.getD i 0))
theorem RowN.cell {w : World} {g cap : Nat} {xs : List Int} (h : RowN w g xs cap) {i : Nat} (hi : i < xs.length) : w.cell? ⟨g, i, none⟩ = some (.int .u64 (xs.getD i 0)) := by
  obtain ⟨cur, h1, _, _, _, h2⟩ := h
  rw [cell_of_row w g i _ _ _ h1]; exact h2 i hi
theorem RowN.frozen {w : World} {g cap : Nat} {xs : List Int} (h : RowN w g xs cap) (i : Nat) : w.frozen? ⟨g, i, none⟩ = false := by
  obtain ⟨cur, h1, _⟩ := h; exact frozen_of_row w g i _ _ h1
theorem RowN.set {w : World} {g cap : Nat} {xs : List Int} (h : RowN w g xs cap) (k : Nat) (v : Int) : RowN (w.setCell ⟨g, k, none⟩ (.int .u64 v)) g (xs.set k v) cap := by
  obtain ⟨cur, h1, h2, h3, h4, h5⟩ := h
  refine ⟨_, heap_setCell_same w g k cur _ _ h1, by simpa using h2, by simpa using h3, h4, fun i hi => ?_⟩
  have hi' : i < xs.length := by simpa using hi
  by_cases e : k = i
  · subst e
    have : k < cur.size := by omega
    simp [List.getD, hi', this]
  · rw [Array.getElem?_setIfInBounds_ne (by omega), h5 i hi']
    simp [List.getD, List.getElem?_set, e]
theorem RowN.own {w : World} {g cap B : Nat} {xs : List Int} (h : RowN w g xs cap) (hB : B ≤ g) : w.ownsRow B 26 1 (.slice (some ⟨g, 0, none⟩) xs.length cap) xs.length (xs.map (Value.int .u64)) := by
  obtain ⟨cur, h1, h2, h3, h4, h5⟩ := h
  refine ⟨by simp, .inr ⟨g, cap, cur, rfl, hB, h1, h3, h4, by omega, ?_⟩⟩
  apply List.ext_getElem?
  intro i
  rw [List.getElem?_take]
  by_cases c : i < xs.length
  · rw [if_pos (by omega), Array.getElem?_toList, h5 i c]
    simp [List.getD, c]
  · rw [if_neg (by omega), List.getElem?_eq_none (by rw [List.length_map]; omega)]

theorem row_sorted {w : World} {g n cap : Nat} {cur : Array Value} {ts : List Int} (hb : w.heap[g]? = some (.cells cur 26 (0, 0))) (hc : cur.size = cap) (h1 : ts.length ≤ cap) (h2 : cap ≤ maxLen) :
    RowN (putRow (Value.int .u64) (Sort.ahead w n) g 0 ts.toArray) g ts cap := by
  refine ⟨putCells (Value.int .u64) 0 ts.toArray cur, by simp [putRow, mapBlock, Sort.ahead, Array.getElem?_modify, hb, onCells], by simp [putCells, hc], h1, h2, fun i hi => ?_⟩
  have : i < cur.size := by omega
  simp [putCells, hi, this, List.getD]

/-- What Sorted leaves. -/
def SortedEnd (w : World) (D : DataW Unit) (e : Ending) (w' : World) : Prop :=
  Below w.heap.size w w' ∧ ∃ ss, AllU D ss ∧ ((ss = [] ∧ e = .returned (.slice none 0 0)) ∨ ∃ g cap, e = .returned (.slice (some ⟨g, 0, none⟩) ss.length cap) ∧ w.heap.size ≤ g ∧ RowN w' g (sortedOf ss) cap)

theorem allU_few {w : World} {mb nn : Nat} {D : DataW Unit} (hown : w.ownsMap Tryz.prog 26 ptrElem mb nn D) {N : Nat} {lo : Int} (hN : ∀ q, Maps.has D (.int .u64 q) = true → lo ≤ q ∧ q < lo + N) {ss : List Int} (h : AllU D ss) : ss.length ≤ N :=
  nodup_le N lo ss h.1 fun x hx => hN x ((h.2 x).1 hx)

set_option maxHeartbeats 1000000 in
theorem sorted_few (Bm mb nn : Nat) (D : DataW Unit) (w : World) (hBm : Bm < w.heap.size) (hm : w.cell? ⟨Bm, 0, none⟩ = some (.map (some mb))) (hown : w.ownsMap Tryz.prog 26 ptrElem mb nn D) (hs : Maps.size D ≤ 1000000) (lo : Int) (hN : ∀ q, Maps.has D (.int .u64 q) = true → lo ≤ q ∧ q < lo + (12 : Nat)) :
    Calls Tryz.prog 73 #[.func (.func 121) #[] #[.pointer (some ⟨Bm, 0, none⟩)]] w (SortedEnd w D) := by
  have HN := Lib.hid hN
  have HW := Lib.hid hown
  have HM := Lib.hid hm
  clear hN hown hm
  go_enter Tryz.func73, Tryz.ntmps73
  go_wp2_with fail
  refine (collect_keys Bm mb nn D _ hBm HM.out HW.out hs).mono ?_
  rintro e W ⟨v, ss, rfl, hS, hrow, hnil, hb⟩
  have hl := allU_few HW.out HN.out hS
  have HB := Lib.hid hb
  have HS := Lib.hid hS
  rcases hrow.2 with ⟨rfl, hz⟩ | ⟨g, cap, cur, rfl, hbase, hgb, r1, r2, r3, r4⟩
  · have hss : ss = [] := List.eq_nil_of_length_eq_zero hz
    subst hss
    clear hrow hnil hb hS
    go_wp2_with fail
    refine (sort_none none 0 W).mono ?_
    rintro e w' hE
    obtain ⟨rfl, rfl⟩ := hE
    go_wp2
    go_ret
    exact ⟨HB.out, [], HS.out, .inl ⟨rfl, rfl⟩⟩
  · have hH : Holds (Value.int .u64) W g 0 ss.toArray := by
      intro j hj
      have hj' : j < ss.length := by simpa using hj
      refine ⟨?_, by simp [World.frozen?, hgb]⟩
      have h1 : (cur.toList.take (ss.length * 1))[j]? = (ss.map (Value.int .u64))[j]? := by rw [r4]
      rw [List.getElem?_take, if_pos (by omega), Array.getElem?_toList] at h1
      rw [Nat.zero_add, cell_of_row W g j _ _ _ hgb, h1]
      simp [hj']
    have hcall := sort_few g 0 cap ss.toArray W hH (by simpa using hl)
    have HROW : ∀ n, Hid (RowN (putRow (Value.int .u64) (Sort.ahead W n) g 0 (Sort.insertionSort ltInt ss.toArray 0 ss.toArray.size)) g (sortedOf ss) cap) := fun n => by
      have hs := (sortedOf_is HS.out.1).1
      have := row_sorted (n := n) (ts := sortedOf ss) hgb (by omega) (by omega) r2
      refine Lib.hid ?_
      simpa [sortedOf] using this
    have HBL : ∀ n, Hid (Below w.heap.size w (putRow (Value.int .u64) (Sort.ahead W n) g 0 (Sort.insertionSort ltInt ss.toArray 0 ss.toArray.size))) := fun n => by
      refine Lib.hid (HB.out.trans ⟨rfl, rfl, rfl, by simp, fun k hk => ?_⟩)
      have : g ≠ k := by omega
      simp [putRow, mapBlock, Sort.ahead, Array.getElem?_modify, this]
    clear hrow hnil hb hS hH
    rw [show ss.toArray.size = ss.length by simp] at hcall
    rw [show ss.toArray.size = ss.length by simp] at HROW HBL
    go_wp2_with fail
    refine hcall.mono ?_
    rintro e w' hE
    obtain ⟨rfl, n, rfl⟩ := hE
    have H1 := HROW n
    have H2 := HBL n
    clear HROW HBL hcall
    generalize putRow (Value.int .u64) (Sort.ahead W n) g 0 (Sort.insertionSort ltInt ss.toArray 0 ss.length) = w9 at *
    go_wp2
    go_ret
    exact ⟨H2.out, ss, HS.out, .inr ⟨g, cap, rfl, hbase, H1.out⟩⟩

theorem size_1000000 {w : World} {b mb : Nat} {S : Nat → Prop} {base size : Int} {m : Int → Int} {pg : Int → Option Nat} (hp : Parts w b mb S base size m pg) (hf : Fits base size) :
    ∃ n D, w.ownsMap Tryz.prog 26 ptrElem mb n D ∧ Maps.size D ≤ 1000000 ∧ (∀ q, D.atKey (.int .u64 q) (encP none) = encP (pg q)) ∧ ∀ kl, Maps.has D kl = true → ∃ q, In64 q ∧ kl = .int .u64 q ∧ pg q ≠ none := by
  obtain ⟨n, D, h1, h2, h3, h4, h5⟩ := hp.ok.map.size_le Tryz.underlying26 (pages_16384 hp hf)
  exact ⟨n, D, h3, by omega, h4, h5⟩

/-- The numbers of the map are those of the pages that are not all 0. -/
theorem has_page {w : World} {b mb : Nat} {S : Nat → Prop} {base size : Int} {m : Int → Int} {pg : Int → Option Nat} (hp : Parts w b mb S base size m pg) {D : DataW Unit} (h2 : ∀ q, D.atKey (.int .u64 q) (encP none) = encP (pg q))
    (h3 : ∀ kl, Maps.has D kl = true → ∃ q, In64 q ∧ kl = .int .u64 q ∧ pg q ≠ none) (q : Int) : Maps.has D (.int .u64 q) = true ↔ ∃ y, ¬ m y = 0 ∧ y / 4096 = q := by
  constructor
  · intro h
    obtain ⟨q', _, e, hne⟩ := h3 _ h
    injection e with _ e
    subst e
    cases e2 : pg q with
    | none => exact absurd e2 hne
    | some g =>
      obtain ⟨_, _, _, _, i, hi, hy⟩ := hp.ok.page q g e2
      exact ⟨_, hy, by omega⟩
  · rintro ⟨y, hy, rfl⟩
    cases e : Maps.has D (.int .u64 (y / 4096)) with
    | true => rfl
    | false =>
      have := Maps.atKey_of_not_has (H := Unit) (D := D) e (encP none)
      rw [h2] at this
      have h0 := hp.ok.gone _ (encP_inj this) (y % 4096).toNat (by omega)
      rw [show y / 4096 * 4096 + ((y % 4096).toNat : Int) = y by omega] at h0
      exact absurd h0 hy

/-- The first k of them are multiplied. -/
def mulTo (ys : List Int) (k : Nat) : List Int := (List.range ys.length).map fun i => if i < k then ys.getD i 0 * 4096 else ys.getD i 0
theorem mulTo_len (ys : List Int) (k : Nat) : (mulTo ys k).length = ys.length := by unfold mulTo; simp
theorem mulTo_get (ys : List Int) (k i : Nat) (h : i < ys.length) : (mulTo ys k).getD i 0 = if i < k then ys.getD i 0 * 4096 else ys.getD i 0 := by
  unfold mulTo; simp [List.getD, h]
theorem list_ext {xs ys : List Int} (h : xs.length = ys.length) (e : ∀ i, i < xs.length → xs.getD i 0 = ys.getD i 0) : xs = ys := by
  apply List.ext_getElem h
  intro i h1 h2
  have := e i h1
  simpa [List.getD, h1, h2] using this
theorem mulTo_zero (ys : List Int) : mulTo ys 0 = ys := list_ext (mulTo_len ys 0) fun i hi => by
  rw [mulTo_len] at hi
  rw [mulTo_get ys 0 i hi, if_neg (by omega)]
theorem mulTo_set (ys : List Int) (k : Nat) (h : k < ys.length) : (mulTo ys k).set k (ys.getD k 0 * 4096) = mulTo ys (k + 1) := list_ext (by simp [mulTo_len]) fun i hi => by
  have hi' : i < ys.length := by simpa [mulTo_len] using hi
  rw [mulTo_get ys (k + 1) i hi']
  by_cases e : k = i
  · subst e
    rw [if_pos (by omega)]
    simp [List.getD, mulTo_len, h]
  · have : ((mulTo ys k).set k (ys.getD k 0 * 4096)).getD i 0 = (mulTo ys k).getD i 0 := by simp [List.getD, List.getElem?_set, e]
    rw [this, mulTo_get ys k i hi']
    by_cases c : i < k
    · rw [if_pos c, if_pos (by omega)]
    · rw [if_neg c, if_neg (by omega)]
theorem mulTo_all (ys : List Int) : mulTo ys ys.length = ys.map (· * 4096) := list_ext (by simp [mulTo_len]) fun i hi => by
  rw [mulTo_len] at hi
  rw [mulTo_get ys _ i hi, if_pos hi]
  simp [List.getD, hi]

/-- What Pages tells, out of the sorted numbers. -/
theorem pages_told {D : DataW Unit} {m : Int → Int} {ss : List Int} (hS : AllU D ss) (hh : ∀ q, Maps.has D (.int .u64 q) = true ↔ ∃ y, ¬ m y = 0 ∧ y / 4096 = q) :
    Rises ((sortedOf ss).map (· * 4096)) ∧ ∀ p, p ∈ (sortedOf ss).map (· * 4096) ↔ ∃ y, ¬ m y = 0 ∧ pageOf y = p := by
  obtain ⟨_, h2, h3⟩ := sortedOf_is hS.1
  refine ⟨?_, fun p => ?_⟩
  · unfold Rises at *
    rw [List.pairwise_map]
    exact h3.imp fun h => by omega
  · rw [List.mem_map]
    constructor
    · rintro ⟨q, hq, rfl⟩
      obtain ⟨y, hy, e⟩ := (hh q).1 ((hS.2 q).1 ((h2 q).1 hq))
      exact ⟨y, hy, by unfold pageOf; rw [e]⟩
    · rintro ⟨y, hy, rfl⟩
      exact ⟨y / 4096, (h2 _).2 ((hS.2 _).2 ((hh _).2 ⟨y, hy, rfl⟩)), rfl⟩

set_option maxHeartbeats 1000000 in
theorem progPages_few {w : World} {b : Nat} {S : Nat → Prop} {base size : Int} {m : Int → Int} (h : ProgMem w b S base size m) (hf : Fits base size) (hs : size ≤ 49152) :
    Calls Tryz.prog 27 #[.pointer (some ⟨b, 0, none⟩)] w (PagesEnd w m) := by
  obtain ⟨mb, pg, hp⟩ := h.parts
  obtain ⟨c0, c1, c2⟩ := ram_cells hp.row
  obtain ⟨n, D, hown, hsz, h2, h3⟩ := size_1000000 hp hf
  have hN : ∀ q, Maps.has D (.int .u64 q) = true → base / 4096 ≤ q ∧ q < base / 4096 + (12 : Nat) := fun q hq => by
    obtain ⟨y, hy, rfl⟩ := (has_page hp h2 h3 q).1 hq
    have := hp.sup y hy
    have := hp.al1
    omega
  have HU : Hid (∀ q, Maps.has D (.int .u64 q) = true → 0 ≤ q ∧ q * 4096 ≤ 9223372036854775807) := Lib.hid fun q hq => by
    obtain ⟨y, hy, rfl⟩ := (has_page hp h2 h3 q).1 hq
    have := hp.sup y hy
    unfold Fits at hf
    omega
  have HH := Lib.hid (has_page hp h2 h3)
  have hb1 : Below w.heap.size w (w.alloc (.cells #[.map (some mb)] 122)) := (Below.refl _ _).alloc (Nat.le_refl _) _
  have hm1 : (w.alloc (.cells #[.map (some mb)] 122)).cell? ⟨w.heap.size, 0, none⟩ = some (.map (some mb)) := by
    rw [cell_of_row _ _ 0 _ _ _ (heap_alloc_new w _)]; rfl
  have hown1 : (w.alloc (.cells #[.map (some mb)] 122)).ownsMap Tryz.prog 26 ptrElem mb n D := hown.alloc _
  have hcall := sorted_few w.heap.size mb n D (w.alloc (.cells #[.map (some mb)] 122)) (by simp) hm1 hown1 hsz _ hN
  have HB1 := Lib.hid hb1
  have HCALL := Lib.hid hcall
  clear hcall hown1 hm1 hb1 hN h2 h3 hown hsz hp h hf
  go_enter Tryz.func27, Tryz.ntmps27
  go_wp2_with (go_at_call 74; refine (keys_any _ _).mono ?_; rintro e w' ⟨rfl, rfl⟩)
  refine HCALL.out.mono ?_
  rintro e w1 ⟨hb, ss, hS, hor⟩
  have HB := Lib.hid (HB1.out.trans (hb.mono (by simp)))
  have HS := Lib.hid hS
  have hge : w.heap.size ≤ (w.alloc (.cells #[.map (some mb)] 122)).heap.size := by simp
  clear hb hS HCALL c0 c1 c2
  rcases hor with ⟨rfl, rfl⟩ | ⟨g, cap, rfl, hg, hrow⟩
  · go_wp2
    refine wp_loop_rounds 1 ?_
    rw [rounds_succ]
    go_wp2
    go_ret
    refine ⟨HB.out, none, 0, 0, [], rfl, World.ownsRow_nil _ _ _ _, List.Pairwise.nil, fun p => ⟨fun h => by simp at h, ?_⟩⟩
    rintro ⟨y, hy, rfl⟩
    have := (HS.out.2 (y / 4096)).2 ((HH.out _).2 ⟨y, hy, rfl⟩)
    simp at this
  · have hlen := (sortedOf_is HS.out.1).1
    have HTOLD := Lib.hid (pages_told HS.out HH.out)
    have HQ : Hid (∀ i, i < ss.length → 0 ≤ (sortedOf ss).getD i 0 ∧ (sortedOf ss).getD i 0 * 4096 ≤ 9223372036854775807) := Lib.hid fun i hi => by
      refine HU.out _ ((HS.out.2 _).1 (((sortedOf_is HS.out.1).2.1 _).1 ?_))
      have : i < (sortedOf ss).length := by omega
      simp [List.getD, this]
    have hml : ss.length ≤ maxLen := by
      obtain ⟨_, _, _, h3, h4, _⟩ := hrow
      omega
    unfold maxLen at hml
    generalize hys : sortedOf ss = ys at *
    have HL := Lib.hid hlen
    have HY := Lib.hid hys
    have hg2 : w.heap.size ≤ g := Nat.le_trans hge hg
    have HROW : Hid (RowN w1 g (mulTo ys 0) cap) := by rw [mulTo_zero]; exact Lib.hid hrow
    clear hlen hys hrow hg hge HU HH HB1
    go_wp2
    go_loopw [15] (fun i wr => ∃ k : Nat, k ≤ ss.length ∧ i = .int .i64 k ∧ RowN wr g (mulTo ys k) cap ∧ Below w.heap.size w wr) (fun i _ => ss.length - (intOf i).toNat)
    case atStart => exact ⟨0, Nat.zero_le _, rfl, HROW.out, HB.out⟩
    case round =>
      obtain ⟨k, hk, rfl, hr, hb⟩ := hrel
      by_cases hlt : k < ss.length
      · have hky : k < ys.length := by rw [HL.out]; exact hlt
        have hc := hr.cell (i := k) (by rw [mulTo_len]; exact hky)
        rw [mulTo_get ys k k hky, if_neg (by omega)] at hc
        have hf := hr.frozen k
        have hq := HQ.out k hlt
        have HNEXT : Hid (RowN (wr.setCell ⟨g, k, none⟩ (.int .u64 (ys.getD k 0 * 4096))) g (mulTo ys (k + 1)) cap) := by
          have := hr.set k (ys.getD k 0 * 4096)
          rw [mulTo_set ys k hky] at this
          exact Lib.hid this
        have HBB := Lib.hid (hb.setCell (p := ⟨g, k, none⟩) hg2 (.int .u64 (ys.getD k 0 * 4096)))
        generalize ys.getD k 0 = y at *
        have hq1 := hq.1
        have hq2 : y * 4096 ≤ 18446744073709551615 := by omega
        have hq3 : 0 ≤ y * 4096 := by omega
        clear hr hb hky hq
        go_wp2
        go_roundw
        case rel => exact ⟨k + 1, by omega, by go_num, HNEXT.out, HBB.out⟩
        case measure => simp [intOf]; omega
      · obtain rfl : k = ss.length := by omega
        have HB2 := Lib.hid hb
        have HR2 := Lib.hid hr
        clear hb hr
        go_wp2
        go_ret
        have e1 : mulTo ys ss.length = ys.map (· * 4096) := by rw [← HL.out]; exact mulTo_all ys
        have hown := HR2.out.own hg2
        rw [mulTo_len, HL.out, e1] at hown
        exact ⟨HB2.out, _, _, _, ys.map (· * 4096), rfl, by rw [List.length_map, HL.out]; exact hown, HTOLD.out.1, HTOLD.out.2⟩

end Go.Proofs.YtbcnkhfpogglmaaGreatDoor.M3

namespace Go.Proofs.YtbcnkhfpogglmaaGreatDoor.M3
open Go.RowKit Go.Maps
set_option linter.unusedVariables false
set_option maxRecDepth 100000

section
variable {P : Program} {ops : Array Oper} {rest : List Oper} {o : Oper} {a : Act} {w : World} {Q : Act → Prop}
theorem wpStill_load_u (hw : Region.wanted o (yielded ops a.tmps) = true) (ty : TypeId) (x : Operand) (ho : o.op = .load ty x) (g : Nat) (hx : a.eval x = .pointer (some ⟨g, 0, none⟩)) (t : TypeId) (n : Nat) (f : Nat → Int) (e : TypeId)
    (hg : w.heap[g]? = some (.cells (uarr n f) t (0, 0))) (hu : P.underlying ty = some (.array n e)) (hi : (P.info? ty).map (·.size) = some n) (h : wpStill P ops w Q rest (a.put o.dst (.agg (uarr n f)))) : wpStill P ops w Q (o :: rest) a := by
  simp only [wpStill, hw, if_true]
  unfold Oper.still execOp
  simp only [ho, hx, Instr.loadAt, Instr.sureAddr, Sem.run_bind, Sem.run_pure, Result.andThen_ok, run_loadVar_row w g t ty (uarr n f) (0, 0) (.array n e) hg hu rfl (by rw [uarr_size]; exact hi)]
  exact ⟨rfl, h⟩
theorem wpStill_eql_u (hw : Region.wanted o (yielded ops a.tmps) = true) (t ty : TypeId) (x y : Operand) (ho : o.op = .binOp .eql t x y ty) (e : TypeId) (n : Nat) (f g : Nat → Int)
    (hx : a.eval x = .agg (uarr n f)) (hy : a.eval y = .agg (uarr n g)) (ht : P.underlying t = some (.array n e)) (hs : (sizeOf e).run P w = .ok 1 w) (ha : (isAgg e).run P w = .ok false w) (he : P.underlying e = some (.int .u8))
    (hm : P.eqGuardType P.depth t = false) (h : wpStill P ops w Q rest (a.put o.dst (.bool (alike n f g)))) : wpStill P ops w Q (o :: rest) a := by
  simp only [wpStill, hw, if_true]
  unfold Oper.still execOp
  simp only [ho, hx, hy, Sem.run_bind, run_eqGuard_agg w .eql t x y _ _ hm, run_eql_bytes w ht hs ha he f g, Result.andThen_ok, Sem.run_pure]
  exact ⟨rfl, h⟩
end

set_option maxRecDepth 100000 in
set_option maxHeartbeats 1000000 in
theorem samePage_any {w : World} {g g' : Nat} {f f' : Nat → Int} (h : HoldsU w g 138 4096 f) (h' : HoldsU w g' 138 4096 f') :
    Calls Tryz.prog 94 #[.pointer (some ⟨g, 0, none⟩), .pointer (some ⟨g', 0, none⟩)] w fun e w' => e = .returned (.bool (alike 4096 f f')) ∧ w' = w.drew := by
  have H := Lib.hid h
  have H' := Lib.hid h'
  clear h h'
  go_enter Tryz.func94, Tryz.ntmps94
  go_wp2_with fail
  refine wp_region_still_lit (by kernel_rfl) (by kernel_rfl) ?_
  still_step
  still_step
  refine wpStill_load_u rfl _ _ rfl g rfl 138 4096 f 5 H.out Tryz.underlying138 size4096 ?_
  still_step
  still_step
  refine wpStill_load_u rfl _ _ rfl g' rfl 138 4096 f' 5 H'.out Tryz.underlying138 size4096 ?_
  refine wpStill_eql_u rfl 138 _ _ _ rfl 5 4096 f f' rfl rfl Tryz.underlying138 (Tryz.sizeOf5 _) (Tryz.isAgg5 _) Tryz.underlying5 guard4096 ?_
  still_step
  refine wpStill_nil ?_
  go_wp2
  go_ret
  exact ⟨rfl, rfl⟩

theorem PgMap.look_ok {P : Program} {t k e : TypeId} {w : World} {mb : Nat} {pg : Int → Option Nat} (h : PgMap P k w mb pg) (T : PgT P t k e) {q : Int} (hq : In64 q) :
    (Instr.lookup t (.map (some mb)) (.int .u64 q) true).run P w = .ok (.tuple #[ptrTo (pg q), .bool (pg q).isSome]) w := by
  obtain ⟨n, D, h1, h2, h3⟩ := h
  obtain ⟨v, ps, hr, hv⟩ := h1.look_ok (int_keyed T.hk) T.ht (T.hz w) (ptrElem_to none) (keyOf_int_mk T.hk (wf_u64 hq))
  obtain ⟨o, rfl, ho⟩ := ptrElem_inv hv
  injection ho with ho _
  rw [h2 q] at ho
  have e := encP_inj ho
  rw [hr, e]
  have : Maps.has D (.int .u64 q) = o.isSome := by
    cases c : Maps.has D (.int .u64 q) with
    | true =>
      obtain ⟨q', _, e1, hne⟩ := h3 _ c
      injection e1 with _ e1
      subst e1
      rw [e] at hne
      cases o with
      | none => exact absurd rfl hne
      | some g => rfl
    | false =>
      have := Maps.atKey_of_not_has (H := Unit) (D := D) c (encP none)
      rw [h2 q, e] at this
      cases o with
      | none => rfl
      | some g => exact absurd (encP_inj this) (by simp)
  rw [this]

theorem nodup_sub {l1 l2 : List Int} (h : l1.Nodup) (hs : ∀ x ∈ l1, x ∈ l2) : l1.length ≤ l2.length := by
  induction l1 generalizing l2 with
  | nil => simp
  | cons a l1 ih =>
    rw [List.nodup_cons] at h
    have h1 := List.length_erase_of_mem (hs a (by simp))
    have h2 := ih (l2 := l2.erase a) h.2 fun x hx => (List.mem_erase_of_ne (fun e => h.1 (by rw [← e]; exact hx))).2 (hs x (by simp [hx]))
    have h3 := List.length_pos_of_mem (hs a (by simp))
    simp only [List.length_cons]
    omega
theorem nodup_all {l1 l2 : List Int} (h : l1.Nodup) (hs : ∀ x ∈ l1, x ∈ l2) (hl : l2.length ≤ l1.length) : ∀ x ∈ l2, x ∈ l1 := by
  intro x hx
  by_cases c : x ∈ l1
  · exact c
  · have := nodup_sub (l1 := x :: l1) (l2 := l2) (List.nodup_cons.2 ⟨c, h⟩) fun y hy => by
      rcases List.mem_cons.1 hy with rfl | hy
      · exact hx
      · exact hs y hy
    simp only [List.length_cons] at this
    omega

/-- A map's numbers as a list, as long as the map. -/
theorem keys_list {w : World} {mb n : Nat} {D : DataW Unit} (h : w.ownsMap Tryz.prog 26 ptrElem mb n D) (h3 : ∀ kl, Maps.has D kl = true → ∃ q, kl = .int .u64 q) : ∃ ss, AllU D ss ∧ ss.length = Maps.size D := by
  obtain ⟨l, rfl, hp, hk⟩ := h.entries (int_keyed Tryz.underlying26)
  have hkey : ∀ p ∈ l, ∃ q, p.1 = .int .u64 q := fun p hpm => h3 p.1 (by
    show (l.any fun r => r.1.sameKey p.1) = true
    rw [List.any_eq_true]
    exact ⟨p, hpm, WideAt.sameKey_self (hk p hpm)⟩)
  let f : Lit × DataW Unit → Int := fun p => match p.1 with | .int _ q => q | _ => 0
  refine ⟨l.map f, ⟨?_, fun x => ?_⟩, by simp [Maps.size]⟩
  · rw [List.Nodup, List.pairwise_map]
    refine List.Pairwise.imp_of_mem ?_ hp
    intro a b ha hb hne he
    obtain ⟨q1, e1⟩ := hkey a ha
    obtain ⟨q2, e2⟩ := hkey b hb
    apply hne
    simp only [f, e1, e2] at he
    rw [e1, e2, he]
  · rw [List.mem_map]
    show _ ↔ (l.any fun r => r.1.sameKey (.int .u64 x)) = true
    rw [List.any_eq_true]
    constructor
    · rintro ⟨p, hpm, rfl⟩
      obtain ⟨q, e⟩ := hkey p hpm
      exact ⟨p, hpm, by simp only [f, e]; rw [sameKey_u64]; simp⟩
    · rintro ⟨p, hpm, hs⟩
      obtain ⟨q, e⟩ := hkey p hpm
      rw [e, sameKey_u64] at hs
      exact ⟨p, hpm, by simp only [f, e]; simpa using hs⟩

end Go.Proofs.YtbcnkhfpogglmaaGreatDoor.M3
namespace Go.Proofs.YtbcnkhfpogglmaaGreatDoor.M3
open Go.RowKit Go.Maps
set_option linter.unusedVariables false

/-- What is told of two memories that are the same or not. -/
def SameTold (w : World) (p : Prop) (e : Ending) (w' : World) : Prop := Below w.heap.size w w' ∧ ∃ r : Bool, e = .returned (.bool r) ∧ (r = true ↔ p)

/-- The pages that have been asked for are alike. -/
def Alikes (D : DataW Unit) (left : Lit → Bool) (pb : Int → Option Nat) (ma mb : Int → Int) : Prop :=
  ∀ q, Maps.has D (.int .u64 q) = true → left (.int .u64 q) = false → pb q ≠ none ∧ ∀ k : Nat, k < 4096 → ma (q * 4096 + k) = mb (q * 4096 + k)

set_option maxRecDepth 100000 in
set_option maxHeartbeats 4000000 in
theorem equalFunc_any {w : World} {b1 m1 b2 m2 : Nat} {S1 S2 : Nat → Prop} {base1 size1 base2 size2 : Int} {ma mb : Int → Int} {pa pb : Int → Option Nat} (hp : Parts w b1 m1 S1 base1 size1 ma pa) (hq : Parts w b2 m2 S2 base2 size2 mb pb) :
    Calls Tryz.prog 93 #[.map (some m1), .map (some m2), .func (.func 94) #[] #[]] w (SameTold w (∀ y, ma y = mb y)) := by
  obtain ⟨n1, D1, hown1, h12, h13⟩ := hp.ok.map
  obtain ⟨n2, D2, hown2, h22, h23⟩ := hq.ok.map
  obtain ⟨ss1, hS1, hl1⟩ := keys_list hown1 fun kl h => by obtain ⟨q, _, e, _⟩ := h13 kl h; exact ⟨q, e⟩
  obtain ⟨ss2, hS2, hl2⟩ := keys_list hown2 fun kl h => by obtain ⟨q, _, e, _⟩ := h23 kl h; exact ⟨q, e⟩
  have hlen1 := fun ty => hown1.len Tryz.underlying122 ty
  have hlen2 := fun ty => hown2.len Tryz.underlying122 ty
  rw [← hl1] at hlen1
  rw [← hl2] at hlen2
  have HP := Lib.hid hp
  have HQ := Lib.hid hq
  have H12 := Lib.hid h12
  have H13 := Lib.hid h13
  have HS1 := Lib.hid hS1
  have HS2 := Lib.hid hS2
  have HA1 := Lib.hid (has_page hp h12 h13)
  have HA2 := Lib.hid (has_page hq h22 h23)
  clear hp hq h12 h13 h22 h23 hS1 hS2 hl1 hl2
  by_cases hne : ss1.length = ss2.length
  · have HL := Lib.hid hne
    have hb : ((ss1.length : Int) != (ss2.length : Int)) = false := by rw [hne]; simp
    clear hne
    go_enter Tryz.func93, Tryz.ntmps93
    go_wp2_with (at_range; refine wpList_range_own _ rfl _ 122 rfl 26 123 (int_keyed Tryz.underlying26) Tryz.underlying122 ptrElem m1 n1 D1 rfl hown1 ?_; intro w0 hrg0 hg0 hs0)
    try go_frame
    have hstart : w0.ranges Tryz.prog 26 ptrElem m1 w.heap.size n1 D1 (Maps.has D1) (Maps.size D1) ∧ Below w.heap.size w w0 ∧ Alikes D1 (Maps.has D1) pb ma mb := ⟨hrg0, (Below.refl _ w).grown hg0 (Nat.le_refl _) (fun _ h => by cases h), fun q h1 h2 => by rw [h1] at h2; cases h2⟩
    have HST := Lib.hid hstart
    clear hstart hrg0 hg0 hs0 hlen1 hlen2 hb
    go_loopw [7] (fun _ wr => ∃ left cnt, wr.ranges Tryz.prog 26 ptrElem m1 w.heap.size n1 D1 left cnt ∧ Below w.heap.size w wr ∧ Alikes D1 left pb ma mb) (fun _ wr => wr.rangeLeft m1 w.heap.size)
    case atStart => exact ⟨_, _, HST.out⟩
    case round =>
      obtain ⟨left, cnt, hrg, hbel, hal⟩ := hrel
      have HBEL := Lib.hid hbel
      have HAL := Lib.hid hal
      clear hbel hal
      go_wp2_with (at_next; refine wpList_next_ranges _ rfl _ rfl 26 (int_keyed Tryz.underlying26) ptrElem (Value.int .u64) ptrTo (fun key kl hk => (by obtain ⟨x, hx, _⟩ := Maps.keyOf_int_inv Tryz.underlying26 hk; exact ⟨x, hx⟩)) (fun v y hv => (by obtain ⟨o, ho, _⟩ := ptrElem_inv hv; exact ⟨o, ho⟩)) m1 w.heap.size n1 D1 left cnt rfl hrg ?_ ?_)
      · intro h0 hl0
        have hall : ∀ y, ma y = mb y := by
          have hsub : ∀ x ∈ ss1, x ∈ ss2 := fun x hx => by
            have h1 := (HS1.out.2 x).1 hx
            obtain ⟨h2, h3⟩ := HAL.out x h1 (hl0 _)
            obtain ⟨y, hy, e⟩ := (HA1.out x).1 h1
            refine (HS2.out.2 x).2 ((HA2.out x).2 ⟨y, ?_, e⟩)
            have := h3 (y % 4096).toNat (by omega)
            rw [show x * 4096 + ((y % 4096).toNat : Int) = y by omega] at this
            rw [← this]; exact hy
          have hsup := nodup_all HS1.out.1 hsub (by have := HL.out; omega)
          intro y
          by_cases c : ma y = 0
          · by_cases d : mb y = 0
            · rw [c, d]
            · have h1 := hsup _ ((HS2.out.2 _).2 ((HA2.out (y / 4096)).2 ⟨y, d, rfl⟩))
              obtain ⟨_, h3⟩ := HAL.out _ ((HS1.out.2 _).1 h1) (hl0 _)
              have := h3 (y % 4096).toNat (by omega)
              rw [show y / 4096 * 4096 + ((y % 4096).toNat : Int) = y by omega] at this
              exact this
          · obtain ⟨_, h3⟩ := HAL.out _ ((HA1.out (y / 4096)).2 ⟨y, c, rfl⟩) (hl0 _)
            have := h3 (y % 4096).toNat (by omega)
            rw [show y / 4096 * 4096 + ((y % 4096).toNat : Int) = y by omega] at this
            exact this
        have HEND : Hid (SameTold w (∀ y, ma y = mb y) (.returned (.bool true)) wr) := Lib.hid ⟨HBEL.out, true, rfl, fun _ => hall, fun _ => rfl⟩
        clear h0 hl0 hall hrg
        go_wp2
        go_ret
        exact HEND.out
      · intro x c kl yd yp w1 cnt1 hkey hlk hv hat hrg1 hlt hg1 hs1 hen
        obtain ⟨hx64, rfl, g0, rfl, epg⟩ := entry_is H12.out H13.out hkey hv hat
        simp only [ptrTo] at hen ⊢
        have hb1 : Below w.heap.size w w1 := HBEL.out.grown hg1 HBEL.out.size (fun k h => by cases h; exact Nat.le_refl _)
        have hp1 := HP.out.below hb1
        have hq1 := HQ.out.below hb1
        have hlook := hq1.ok.map.look_ok pgT hx64
        have hpage1 : HoldsU w1 g0 138 4096 (fun k => ma (x * 4096 + k)) := (hp1.ok.page x g0 epg).1
        have HLT := Lib.hid hlt
        have HLE := Lib.hid hrg.left_eq
        have HB1 := Lib.hid hb1
        have HP1 := Lib.hid hpage1
        have HR1 := Lib.hid hrg1
        have HNE := Lib.hid (hp1.ok.page x g0 epg).2.2.2.2
        cases epb : pb x with
        | none =>
          have HEND : Hid (SameTold w (∀ y, ma y = mb y) (.returned (.bool false)) w1) := by
            refine Lib.hid ⟨HB1.out, false, rfl, (fun h => by cases h), fun h => ?_⟩
            obtain ⟨k, hk, hy⟩ := HNE.out
            rw [h, hq1.ok.gone x epb k hk] at hy
            exact absurd rfl hy
          rw [epb] at hlook
          simp only [ptrTo, Option.isSome] at hlook
          clear hkey hlk hv hat hrg1 hlt hg1 hs1 hb1 hp1 hq1 hpage1 hrg epg epb
          go_wp2
          go_ret
          exact HEND.out
        | some g2 =>
          have hpage2 : HoldsU w1 g2 138 4096 (fun k => mb (x * 4096 + k)) := (hq1.ok.page x g2 epb).1
          have HP2 := Lib.hid hpage2
          have hdr : Below w1.heap.size w1 w1.drew := (Below.refl _ _).drew
          have hb2 := hb1.trans (hdr.mono hb1.size)
          rw [epb] at hlook
          simp only [ptrTo, Option.isSome] at hlook
          cases ha : alike 4096 (fun k => ma (x * 4096 + k)) (fun k => mb (x * 4096 + k)) with
          | false =>
            have HA := Lib.hid ha
            have HEND : Hid (SameTold w (∀ y, ma y = mb y) (.returned (.bool false)) w1.drew) := by
              refine Lib.hid ⟨hb2, false, rfl, (fun h => by cases h), fun h => ?_⟩
              rw [alike_iff.2 fun k _ => h _] at ha
              cases ha
            clear hkey hlk hv hat hrg1 hlt hg1 hs1 hb1 hp1 hq1 hpage1 hpage2 hrg epg epb ha hb2 hdr
            go_wp2_with (go_at_call 94; refine (samePage_any HP1.out HP2.out).mono ?_; rintro e w2 ⟨rfl, rfl⟩; rw [HA.out])
            go_ret
            exact HEND.out
          | true =>
            have HA := Lib.hid ha
            have HNX : Hid (w1.drew.ranges Tryz.prog 26 ptrElem m1 w.heap.size n1 D1 (fun z => left z && !z.sameKey (.int .u64 x)) cnt1 ∧ Below w.heap.size w w1.drew ∧ Alikes D1 (fun z => left z && !z.sameKey (.int .u64 x)) pb ma mb) := by
              refine Lib.hid ⟨hrg1.kept (row := none) ⟨rfl, rfl, rfl, Nat.le_refl _, fun _ _ _ => rfl⟩ (by simp) (by simp), hb2, fun q h1 h2 => ?_⟩
              by_cases e : q = x
              · subst e
                exact ⟨by rw [epb]; simp, alike_iff.1 ha⟩
              · refine HAL.out q h1 ?_
                have : (q == x) = false := by simpa using e
                simpa [sameKey_u64, this] using h2
            clear hkey hlk hv hat hrg1 hlt hg1 hs1 hb1 hp1 hq1 hpage1 hpage2 hrg epg epb ha hb2 hdr
            go_wp2_with (go_at_call 94; refine (samePage_any HP1.out HP2.out).mono ?_; rintro e w2 ⟨rfl, rfl⟩; rw [HA.out])
            refine ⟨⟨_, _, HNX.out⟩, ?_⟩
            rw [HNX.out.1.left_eq, HLE.out]
            exact HLT.out
  · have hb : ((ss1.length : Int) != (ss2.length : Int)) = true := by simp; omega
    have HEND : Hid (SameTold w (∀ y, ma y = mb y) (.returned (.bool false)) w) := by
      refine Lib.hid ⟨Below.refl _ _, false, rfl, (fun h => by cases h), fun h => ?_⟩
      refine absurd ?_ hne
      have e : ∀ x, x ∈ ss1 ↔ x ∈ ss2 := fun x => by
        rw [HS1.out.2, HS2.out.2, HA1.out, HA2.out]
        constructor
        · rintro ⟨y, hy, e⟩; exact ⟨y, by rw [← h]; exact hy, e⟩
        · rintro ⟨y, hy, e⟩; exact ⟨y, by rw [h]; exact hy, e⟩
      have h1 := nodup_sub HS1.out.1 fun x hx => (e x).1 hx
      have h2 := nodup_sub HS2.out.1 fun x hx => (e x).2 hx
      omega
    clear hne hown1 hown2
    go_enter Tryz.func93, Tryz.ntmps93
    go_wp2
    go_ret
    exact HEND.out

end Go.Proofs.YtbcnkhfpogglmaaGreatDoor.M3
namespace Go.Proofs.YtbcnkhfpogglmaaGreatDoor.M3
open Go.RowKit Go.Maps
set_option linter.unusedVariables false

set_option maxRecDepth 100000 in
set_option maxHeartbeats 2000000 in
theorem progSame_base {w : World} {b1 b2 : Nat} {S1 S2 : Nat → Prop} {base1 size1 base2 size2 : Int} {ma mb : Int → Int} (h : ProgMem w b1 S1 base1 size1 ma) (k : ProgMem w b2 S2 base2 size2 mb) (e1 : ¬ base1 = base2) :
    Calls Tryz.prog 49 #[.pointer (some ⟨b1, 0, none⟩), .pointer (some ⟨b2, 0, none⟩)] w (SameTold w (base1 = base2 ∧ size1 = size2 ∧ ∀ y, ma y = mb y)) := by
  obtain ⟨m1, pa, hp⟩ := h.parts
  obtain ⟨m2, pb, hq⟩ := k.parts
  obtain ⟨c0, c1, c2⟩ := ram_cells hp.row
  obtain ⟨d0, d1, d2⟩ := ram_cells hq.row
  clear h k hp hq
  have b1e : (base1 == base2) = false := by simpa using e1
  have HEND : ∀ nq, Hid (SameTold w (base1 = base2 ∧ size1 = size2 ∧ ∀ y, ma y = mb y) (.returned (.bool false)) (w.drewN nq)) := fun nq => Lib.hid ⟨below_drewN (Below.refl _ _) nq, false, rfl, (fun h => by cases h), fun h => absurd h.1 e1⟩
  clear e1
  go_enter Tryz.func49, Tryz.ntmps49
  go_wp2_with fail
  go_quiet (fail)
  go_wp2
  go_ret
  exact (HEND nq).out

set_option maxRecDepth 100000 in
set_option maxHeartbeats 2000000 in
theorem progSame_size {w : World} {b1 b2 : Nat} {S1 S2 : Nat → Prop} {base1 size1 base2 size2 : Int} {ma mb : Int → Int} (h : ProgMem w b1 S1 base1 size1 ma) (k : ProgMem w b2 S2 base2 size2 mb) (e1 : base1 = base2) (e2 : ¬ size1 = size2) :
    Calls Tryz.prog 49 #[.pointer (some ⟨b1, 0, none⟩), .pointer (some ⟨b2, 0, none⟩)] w (SameTold w (base1 = base2 ∧ size1 = size2 ∧ ∀ y, ma y = mb y)) := by
  obtain ⟨m1, pa, hp⟩ := h.parts
  obtain ⟨m2, pb, hq⟩ := k.parts
  obtain ⟨c0, c1, c2⟩ := ram_cells hp.row
  obtain ⟨d0, d1, d2⟩ := ram_cells hq.row
  clear h k hp hq
  have b1e : (base1 == base2) = true := by simpa using e1
  have b2e : (size1 == size2) = false := by simpa using e2
  have HEND : ∀ nq, Hid (SameTold w (base1 = base2 ∧ size1 = size2 ∧ ∀ y, ma y = mb y) (.returned (.bool false)) (w.drewN nq)) := fun nq => Lib.hid ⟨below_drewN (Below.refl _ _) nq, false, rfl, (fun h => by cases h), fun h => absurd h.2.1 e2⟩
  clear e1 e2
  go_enter Tryz.func49, Tryz.ntmps49
  go_wp2_with fail
  go_quiet (fail)
  go_wp2
  go_ret
  exact (HEND nq).out

set_option maxRecDepth 100000 in
set_option maxHeartbeats 2000000 in
theorem progSame_both {w : World} {b1 b2 : Nat} {S1 S2 : Nat → Prop} {base1 size1 base2 size2 : Int} {ma mb : Int → Int} (h : ProgMem w b1 S1 base1 size1 ma) (k : ProgMem w b2 S2 base2 size2 mb) (e1 : base1 = base2) (e2 : size1 = size2) :
    Calls Tryz.prog 49 #[.pointer (some ⟨b1, 0, none⟩), .pointer (some ⟨b2, 0, none⟩)] w (SameTold w (base1 = base2 ∧ size1 = size2 ∧ ∀ y, ma y = mb y)) := by
  obtain ⟨m1, pa, hp⟩ := h.parts
  obtain ⟨m2, pb, hq⟩ := k.parts
  obtain ⟨c0, c1, c2⟩ := ram_cells hp.row
  obtain ⟨d0, d1, d2⟩ := ram_cells hq.row
  have hbd : Below w.heap.size w w.drew := (Below.refl _ _).drew
  have HP := Lib.hid (hp.below hbd)
  have HQ := Lib.hid (hq.below hbd)
  have HB := Lib.hid hbd
  clear h k hp hq hbd
  have HE := Lib.hid (show base1 = base2 ∧ size1 = size2 from ⟨e1, e2⟩)
  have b1e : (base1 == base2) = true := by simpa using e1
  have b2e : (size1 == size2) = true := by simpa using e2
  clear e1 e2
  go_enter Tryz.func49, Tryz.ntmps49
  go_wp2_with fail
  go_region_held3 (fun w' => w'.cell? ⟨b1, 0, none⟩ = some (.int .u64 base1) ∧ w'.cell? ⟨b1, 1, none⟩ = some (.int .u64 size1) ∧ w'.cell? ⟨b1, 2, none⟩ = some (.map (some m1)) ∧ w'.cell? ⟨b2, 0, none⟩ = some (.int .u64 base2) ∧ w'.cell? ⟨b2, 1, none⟩ = some (.int .u64 size2) ∧ w'.cell? ⟨b2, 2, none⟩ = some (.map (some m2))) (go_keep)
    (first | (go_at_call 93; refine (equalFunc_any HP.out HQ.out).mono ?_; rintro e w3 ⟨hb, r, rfl, hr⟩; obtain ⟨q0, q1, q2⟩ := ram_cells (HP.out.below hb).row; obtain ⟨q3, q4, q5⟩ := ram_cells (HQ.out.below hb).row))
  rename (_ ∧ _ ∧ _ ∧ _ ∧ _ ∧ _) => hheld
  have HEND : Hid (SameTold w (base1 = base2 ∧ size1 = size2 ∧ ∀ y, ma y = mb y) (.returned (.bool r)) w3) := Lib.hid ⟨HB.out.trans (hb.mono HB.out.size), r, rfl, fun h => ⟨HE.out.1, HE.out.2, hr.1 h⟩, fun h => hr.2 h.2.2⟩
  clear hheld hb hr q0 q1 q2 q3 q4 q5 c0 c1 c2 d0 d1 d2 b1e b2e
  go_wp2
  go_ret
  exact HEND.out

/-- P3.4: Same of two memories. -/
theorem progSame_any {w : World} {b1 b2 : Nat} {S1 S2 : Nat → Prop} {base1 size1 base2 size2 : Int} {ma mb : Int → Int} (h : ProgMem w b1 S1 base1 size1 ma) (k : ProgMem w b2 S2 base2 size2 mb) :
    Calls Tryz.prog 49 #[.pointer (some ⟨b1, 0, none⟩), .pointer (some ⟨b2, 0, none⟩)] w (SameTold w (base1 = base2 ∧ size1 = size2 ∧ ∀ y, ma y = mb y)) := by
  by_cases e1 : base1 = base2
  · by_cases e2 : size1 = size2
    · exact progSame_both h k e1 e2
    · exact progSame_size h k e1 e2
  · exact progSame_base h k e1

end Go.Proofs.YtbcnkhfpogglmaaGreatDoor.M3
