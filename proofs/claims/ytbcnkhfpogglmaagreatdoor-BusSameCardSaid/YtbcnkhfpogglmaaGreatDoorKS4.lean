/- Joined: LawsG Pm4 Pm5 Pm6 Pm7 Pm8 Pm9 Pm10 Pm11 Pm12 Pm13 Pk1 Pk5 Pm14 BuA BuB BuI BuC BuD BuE BuF -/
import Derived.Test.YtbcnkhfpogglmaaGreatDoorKS3
import Derived.Laws.CopyOwn
import Derived.Outline
import Derived.StillTailTactics
import Derived.Laws.MakeOwn
import Derived.Deep.RegionHeld3
import Derived.Deep.DrawnRows
import Derived.RangeFuncGives
import Derived.Shelf.AbstractIn
import Derived.Sort.MapsRangeIn
import Derived.Sort.KeysCollected
import Derived.WalkKit
import Derived.OwnWalkIn
import Derived.TacticsInMore
import Derived.RegionIn
import Derived.LoopNIn
import Derived.LoopIn
import Derived.Deep.AppendLies
import Derived.Deep.RegionLaw
import Derived.Laws.EntriesVeiled
import Derived.Defers
import Derived.Deep.RegionWith
namespace Go.Proofs.YtbcnkhfpogglmaaGreatDoor.M3
open Go.RowKit
set_option linter.unusedVariables false
set_option maxRecDepth 100000

section
variable {P : Program} {ops : Array Oper} {rest : List Oper} {o : Oper} {a : Act} {w : World} {Q : Exit → Act → World → Prop}

theorem wpList_want (hw : Region.wanted o (yielded ops a.tmps) = true) (h : o.wp P a w (wpList P ops Q rest) Q) : wpList P ops Q (o :: rest) a w := by
  simp only [wpList, hw, if_true]
  exact .inl h

theorem wpList_load_u (hw : Region.wanted o (yielded ops a.tmps) = true) (ty : TypeId) (x : Operand) (ho : o.op = .load ty x)
    (g : Nat) (hx : a.eval x = .pointer (some ⟨g, 0, none⟩)) (t : TypeId) (n : Nat) (f : Nat → Int) (e : TypeId) (hg : w.heap[g]? = some (.cells (uarr n f) t (0, 0)))
    (hu : P.underlying ty = some (.array n e)) (hi : (P.info? ty).map (·.size) = some n)
    (h : wpList P ops Q rest (a.put o.dst (.agg (uarr n f))) w) : wpList P ops Q (o :: rest) a w :=
  wpList_want hw (wp_load_row ty x ho g hx t _ _ _ hg hu rfl (by rw [uarr_size]; exact hi) h)

theorem wpList_build_u (hw : Region.wanted o (yielded ops a.tmps) = true) (t : TypeId) (ho : o.op = .build t #[]) (n : Nat) (f : Nat → Int) (hb : P.built t [] = some (uarr n f))
    (h : wpList P ops Q rest (a.put o.dst (.agg (uarr n f))) w) : wpList P ops Q (o :: rest) a w :=
  wpList_want hw (wp_build t #[] ho (by simp [hb]) (by simpa [hb] using h))

theorem wpList_eql_u (hw : Region.wanted o (yielded ops a.tmps) = true) (t ty : TypeId) (x y : Operand) (ho : o.op = .binOp .eql t x y ty) (e : TypeId) (n : Nat) (f g : Nat → Int)
    (hx : a.eval x = .agg (uarr n f)) (hy : a.eval y = .agg (uarr n g)) (ht : P.underlying t = some (.array n e)) (hs : (sizeOf e).run P w = .ok 1 w) (ha : (isAgg e).run P w = .ok false w) (he : P.underlying e = some (.int .u8))
    (hm : P.eqGuardType P.depth t = false)
    (h : wpList P ops Q rest (a.put o.dst (.bool (alike n f g))) w) : wpList P ops Q (o :: rest) a w := by
  refine wpList_want hw ?_
  unfold Oper.wp execOp
  simp only [ho, hx, hy, Sem.run_bind, run_eqGuard_agg w .eql t x y _ _ hm, run_eql_bytes w ht hs ha he f g, Result.andThen_ok, Sem.run_pure]
  exact h

/-- xs laid over f from off on. -/
def overU (f : Nat → Int) (off : Nat) (xs : List Int) (k : Nat) : Int := if off ≤ k ∧ k < off + xs.length then xs.getD (k - off) 0 else f k

theorem uarr_splice (n : Nat) (f : Nat → Int) (off : Nat) (xs : List Int) (h : off + xs.length ≤ n) :
    ((uarr n f).toList.take off ++ (xs.map (Value.int .u8) ++ (uarr n f).toList.drop (off + (xs.map (Value.int .u8)).length))).toArray = uarr n (overU f off xs) := by
  have hl : (uarr n f).toList = (List.range n).map fun i => Value.int .u8 (f i) := by unfold uarr varr; rfl
  have hr : uarr n (overU f off xs) = ((List.range n).map fun i => Value.int .u8 (overU f off xs i)).toArray := rfl
  rw [hl, hr, List.length_map]
  congr 1
  apply List.ext_getElem?
  intro k
  by_cases c : k < off
  · rw [List.getElem?_append_left (by simp; omega), List.getElem?_take, if_pos c]
    unfold overU
    simp only [List.getElem?_map]
    cases hk : (List.range n)[k]? with
    | none => rfl
    | some j =>
      have : j = k := by
        have := List.getElem?_eq_some_iff.1 hk
        obtain ⟨_, h2⟩ := this
        simpa using h2.symm
      subst this
      simp only [Option.map_some]
      rw [if_neg (by omega)]
  · rw [List.getElem?_append_right (by simp; omega)]
    simp only [List.length_take, List.length_map, List.length_range]
    rw [show min off n = off by omega]
    by_cases d : k < off + xs.length
    · rw [List.getElem?_append_left (by simp; omega)]
      have hk : k < n := by omega
      simp only [List.getElem?_map, List.getElem?_range hk, Option.map_some]
      unfold overU
      rw [if_pos ⟨by omega, d⟩]
      have : k - off < xs.length := by omega
      simp [List.getElem?_eq_getElem this, List.getD]
    · rw [List.getElem?_append_right (by simp; omega)]
      simp only [List.length_map, List.getElem?_drop]
      rw [show off + xs.length + (k - off - xs.length) = k by omega]
      simp only [List.getElem?_map]
      cases hk : (List.range n)[k]? with
      | none => rfl
      | some j =>
        have : j = k := by
          obtain ⟨_, h2⟩ := List.getElem?_eq_some_iff.1 hk
          simpa using h2.symm
        subst this
        simp only [Option.map_some]
        unfold overU
        rw [if_neg (by omega)]

theorem wpList_copy_u (hgd : o.guard = none) (d s : Operand) (dT sT : TypeId)
    (ho : o.op = .call { callee := .builtin .copy, args := #[d, s], argTypes := #[dT, sT] }) (elem : TypeId) (hu : P.underlying dT = some (.slice elem)) (hsz : (P.info? elem).map (·.size) = some 1)
    (g off dLen dCap : Nat) (ad : Addr) (sLen sCap : Nat) (hd : a.eval d = .slice (some ⟨g, off, none⟩) dLen dCap) (hs : a.eval s = .slice (some ad) sLen sCap)
    (n : Nat) (f : Nat → Int) (t : TypeId) (hg : w.heap[g]? = some (.cells (uarr n f) t (0, 0))) (xs : List Int) (hn : xs.length = Nat.min sLen dLen)
    (hsrc : ∀ j, j < xs.length → w.cell? (ad.add j) = some (.int .u8 (xs.getD j 0))) (hfit : off + xs.length ≤ n)
    (h : wpList P ops Q rest (a.put o.dst (goInt xs.length)) (w.setRow g (uarr n (overU f off xs)))) : wpList P ops Q (o :: rest) a w := by
  refine wpList_copy_own hgd d s dT sT ho elem hu hsz g off dLen dCap ad sLen sCap hd hs (uarr n f) t hg (xs.map (Value.int .u8)) (by simpa using hn) ?_ (by rw [uarr_size]; simpa using hfit) ?_ ?_
  · intro j v hj
    rw [List.getElem?_map, Option.map_eq_some_iff] at hj
    obtain ⟨x, hx, rfl⟩ := hj
    have hl := (List.getElem?_eq_some_iff.1 hx).1
    rw [hsrc j hl]
    simp [List.getD, hx]
  · intro v hv
    obtain ⟨x, _, rfl⟩ := List.mem_map.1 hv
    rfl
  · rw [uarr_splice n f off xs hfit, List.length_map]
    exact h

/-- 'p[l:]' of a pointer to an array. -/
theorem run_slice_from {t e : TypeId} {n : Nat} (ht : P.underlying t = some (.array n e)) (hs : (sizeOf e).run P w = .ok 1 w) (g l : Nat) (hl : l < n) :
    (Instr.sliceAt t (.pointer (some ⟨g, 0, none⟩)) (some (.int .i64 l)) none none).run P w = .ok (.slice (some ⟨g, l, none⟩) (n - l) (n - l)) w := by
  have e1 : ¬ n = l := by omega
  have e2 : (⟨g, 0, none⟩ : Addr).add l = ⟨g, l, none⟩ := by
    unfold Addr.add; simp
    intro h; omega
  have e3 : l ≤ n := by omega
  simp [Instr.sliceAt, run_underlying ht, Instr.sureAddr, Instr.sliceBounds, Instr.sliceBound, asIntOf, hs, e1, e2, e3, Result.andThen]
/-- 'a[:h]' of an array. -/
theorem run_slice_upto {t e : TypeId} {n : Nat} (ht : P.underlying t = some (.array n e)) (hs : (sizeOf e).run P w = .ok 1 w) (g h : Nat) (hh : h ≤ n) (hn : 0 < n) :
    (Instr.sliceAt t (.pointer (some ⟨g, 0, none⟩)) none (some (.int .i64 h)) none).run P w = .ok (.slice (some ⟨g, 0, none⟩) h n) w := by
  have e1 : ¬ n = 0 := by omega
  have e2 : (⟨g, 0, none⟩ : Addr).add 0 = ⟨g, 0, none⟩ := by unfold Addr.add; simp
  simp [Instr.sliceAt, run_underlying ht, Instr.sureAddr, Instr.sliceBounds, Instr.sliceBound, asIntOf, hs, e1, e2, hh, Result.andThen]
end

end Go.Proofs.YtbcnkhfpogglmaaGreatDoor.M3

namespace Go.Proofs.YtbcnkhfpogglmaaGreatDoor.M3
open Go.RowKit Go.Maps
set_option linter.unusedVariables false
set_option maxRecDepth 100000

theorem zero4096 : Tryz.zeroCells138 = uarr 4096 fun _ => 0 := by kernel_rfl
theorem size4096 : (Tryz.prog.info? 138).map (·.size) = some 4096 := by kernel_rfl
theorem built4096 : Tryz.prog.built 138 [] = some (uarr 4096 fun _ => 0) := by kernel_rfl
theorem guard4096 : Tryz.prog.eqGuardType Tryz.prog.depth 138 = false := by kernel_rfl
theorem size_u8 : (Tryz.prog.info? 5).map (·.size) = some 1 := by kernel_rfl

theorem putF_eq (m : Int → Int) (x : Int) (xs : List Int) (y : Int) : putF m x xs y = if x ≤ y ∧ y < x + xs.length then xs.getD (y - x).toNat 0 else m y := by
  by_cases h : x ≤ y ∧ y < x + xs.length
  · rw [if_pos h]
    have := putF_at (m := m) (x := x) (xs := xs) (i := (y - x).toNat) (by omega)
    rw [show x + ((y - x).toNat : Int) = y by omega] at this
    exact this
  · rw [if_neg h]; exact putF_out (by omega)
theorem putF_bytey {m : Int → Int} (hm : Bytey m) (x : Int) {xs : List Int} (hx : Bytes255 xs) : Bytey (putF m x xs) := by
  intro y
  rw [putF_eq]
  split
  · exact hx _ (by omega)
  · exact hm y

section
variable {w w' : World} {b mb g : Nat} {S : Nat → Prop} {m m' : Int → Int} {pg : Int → Option Nat} {i : Int}

theorem PageAt.congr (h : PageAt w g m i) (e : ∀ k : Nat, k < 4096 → m (i * 4096 + k) = m' (i * 4096 + k)) : PageAt w g m' i := by
  unfold PageAt at *; rw [h, uarr_congr e]
theorem PgOk.wrote (h : PgOk w b mb S m pg) (e : pg i = some g) (o : Only (fun k => k = g) w w') (hp : PageAt w' g m' i) (hne : ∃ k : Nat, k < 4096 ∧ ¬ m' (i * 4096 + k) = 0)
    (hout : ∀ y, y < i * 4096 ∨ i * 4096 + 4096 ≤ y → m' y = m y) : PgOk w' b mb S m' pg := by
  obtain ⟨_, k2, k3, k4, _⟩ := h.page i g e
  refine ⟨h.map.keeps o (fun h => k4 h.symm), fun q g' e' => ?_, fun q e' k hk => ?_, h.inj, h.sb, h.smb, h.ne, fun k hk => Nat.lt_of_lt_of_le (h.lt k hk) o.size⟩
  · by_cases c : q = i
    · subst c
      rw [e] at e'; cases e'
      exact ⟨hp, k2, k3, k4, hne⟩
    · obtain ⟨j1, j2, j3, j4, k, hk, j5⟩ := h.page q g' e'
      have hg : g' ≠ g := fun hh => c (h.inj q i g (hh ▸ e') e)
      refine ⟨PageAt.congr (show PageAt w' g' m q from o.keeps hg j1) fun k hk => (hout _ (by omega)).symm, j2, j3, j4, k, hk, ?_⟩
      rw [hout _ (by omega)]; exact j5
  · have c : q ≠ i := fun hh => by rw [hh, e] at e'; cases e'
    rw [hout _ (by omega)]; exact h.gone q e' k hk
theorem PgOk.laid (h : PgOk w b mb S m pg) (e : pg i = none) (o : Only (fun k => k = mb) w w') (hg : w.heap.size ≤ g) (hmap : PgMap Tryz.prog 26 w' mb fun y => if y = i then some g else pg y) (hp : PageAt w' g m' i)
    (hne : ∃ k : Nat, k < 4096 ∧ ¬ m' (i * 4096 + k) = 0) (hout : ∀ y, y < i * 4096 ∨ i * 4096 + 4096 ≤ y → m' y = m y) : PgOk w' b mb (fun k => S k ∨ k = g) m' fun y => if y = i then some g else pg y := by
  have hgl : g < w'.heap.size := (Array.getElem?_eq_some_iff.1 hp).1
  have hb := h.lt b h.sb
  have hm := h.lt mb h.smb
  refine ⟨hmap, fun q g' e' => ?_, fun q e' k hk => ?_, fun q q' g' e1 e2 => ?_, .inl h.sb, .inl h.smb, h.ne, fun k hk => ?_⟩
  · by_cases c : q = i
    · subst c
      simp only [if_true] at e'
      cases e'
      exact ⟨hp, .inr rfl, by omega, by omega, hne⟩
    · simp only [if_neg c] at e'
      obtain ⟨j1, j2, j3, j4, k, hk, j5⟩ := h.page q g' e'
      refine ⟨PageAt.congr (show PageAt w' g' m q from o.keeps j4 j1) fun k hk => (hout _ (by omega)).symm, .inl j2, j3, j4, k, hk, ?_⟩
      rw [hout _ (by omega)]; exact j5
  · have c : q ≠ i := fun hh => by simp only [hh, if_true] at e'; cases e'
    simp only [if_neg c] at e'
    rw [hout _ (by omega)]; exact h.gone q e' k hk
  · by_cases c : q = i
    · by_cases d : q' = i
      · rw [c, d]
      · simp only [if_pos c] at e1
        simp only [if_neg d] at e2
        cases e1
        have := h.lt _ (h.page q' g e2).2.1; omega
    · by_cases d : q' = i
      · simp only [if_pos d] at e2
        simp only [if_neg c] at e1
        cases e2
        have := h.lt _ (h.page q g e1).2.1; omega
      · simp only [if_neg c] at e1
        simp only [if_neg d] at e2
        exact h.inj q q' g' e1 e2
  · rcases hk with hk | rfl
    · exact Nat.lt_of_lt_of_le (h.lt k hk) o.size
    · exact hgl
theorem PgOk.struck (h : PgOk w b mb S m pg) (e : pg i = some g) (o : Only (fun k => k = g ∨ k = mb) w w') (hmap : PgMap Tryz.prog 26 w' mb fun y => if y = i then none else pg y)
    (hz : ∀ k : Nat, k < 4096 → m' (i * 4096 + k) = 0) (hout : ∀ y, y < i * 4096 ∨ i * 4096 + 4096 ≤ y → m' y = m y) : PgOk w' b mb S m' fun y => if y = i then none else pg y := by
  refine ⟨hmap, fun q g' e' => ?_, fun q e' k hk => ?_, fun q q' g' e1 e2 => ?_, h.sb, h.smb, h.ne, fun k hk => Nat.lt_of_lt_of_le (h.lt k hk) o.size⟩
  · have c : q ≠ i := fun hh => by simp only [hh, if_true] at e'; cases e'
    simp only [if_neg c] at e'
    obtain ⟨j1, j2, j3, j4, k, hk, j5⟩ := h.page q g' e'
    have hg : g' ≠ g := fun hh => c (h.inj q i g (hh ▸ e') e)
    refine ⟨PageAt.congr (show PageAt w' g' m q from o.keeps (fun hh => by rcases hh with hh | hh; exact hg hh; exact j4 hh) j1) fun k hk => (hout _ (by omega)).symm, j2, j3, j4, k, hk, ?_⟩
    rw [hout _ (by omega)]; exact j5
  · by_cases c : q = i
    · subst c; exact hz k hk
    · simp only [if_neg c] at e'
      rw [hout _ (by omega)]; exact h.gone q e' k hk
  · have c : q ≠ i := fun hh => by simp only [hh, if_true] at e1; cases e1
    have d : q' ≠ i := fun hh => by simp only [hh, if_true] at e2; cases e2
    simp only [if_neg c] at e1
    simp only [if_neg d] at e2
    exact h.inj q q' g' e1 e2
theorem PgOk.congr (h : PgOk w b mb S m pg) (e : ∀ y, m y = m' y) : PgOk w b mb S m' pg := by
  obtain rfl : m = m' := funext e; exact h
end

/-- What a call leaves that tells nothing. -/
def StoreEnd (w : World) (b : Nat) (S : Nat → Prop) (base size : Int) (m : Int → Int) (e : Ending) (w' : World) : Prop :=
  (∃ u, e = .returned u) ∧ Only S w w' ∧ ∃ S', (∀ k, S' k → S k ∨ w.heap.size ≤ k) ∧ ProgMem w' b S' base size m

/-- What is asked of the bytes and their place. -/
structure InPage (base size : Int) (i : Int) (at_ : Nat) (xs : List Int) : Prop where
  lo : base ≤ i * 4096 + at_
  hi : i * 4096 + at_ + xs.length ≤ base + size
  page : at_ + xs.length ≤ 4096
  bytes : Bytes255 xs
  ne : xs ≠ []

theorem InPage.out {base size i : Int} {at_ : Nat} {xs : List Int} (h : InPage base size i at_ xs) (m : Int → Int) : ∀ y, y < i * 4096 ∨ i * 4096 + 4096 ≤ y → putF m (i * 4096 + at_) xs y = m y := by
  intro y hy
  have := h.page
  exact putF_out (by omega)
theorem InPage.over {base size i : Int} {at_ : Nat} {xs : List Int} (h : InPage base size i at_ xs) (m : Int → Int) (k : Nat) (hk : k < 4096) : overU (fun k => m (i * 4096 + k)) at_ xs k = putF m (i * 4096 + at_) xs (i * 4096 + k) := by
  rw [putF_eq]
  unfold overU
  by_cases c : at_ ≤ k ∧ k < at_ + xs.length
  · rw [if_pos c, if_pos (by omega)]; congr 1; omega
  · rw [if_neg c, if_neg (by omega)]
theorem InPage.support {base size i : Int} {at_ : Nat} {xs : List Int} (h : InPage base size i at_ xs) {m : Int → Int} (hm : ∀ y, ¬ m y = 0 → base ≤ y ∧ y < base + size) : ∀ y, ¬ putF m (i * 4096 + at_) xs y = 0 → base ≤ y ∧ y < base + size := by
  intro y hy
  have h1 := h.lo
  have h2 := h.hi
  rw [putF_eq] at hy
  split at hy
  · omega
  · exact hm y hy
/-- Bytes that are not all 0 leave no page of noughts. -/
theorem InPage.left {base size i : Int} {at_ : Nat} {xs : List Int} (h : InPage base size i at_ xs) (m : Int → Int) (hn : noughts xs = false) : ∃ k : Nat, k < 4096 ∧ ¬ putF m (i * 4096 + at_) xs (i * 4096 + k) = 0 := by
  have h1 := h.page
  have : ¬ ∀ j, j < xs.length → xs.getD j 0 = 0 := fun hh => by rw [noughts_iff.2 hh] at hn; cases hn
  obtain ⟨j, hj⟩ := Classical.not_forall.1 this
  obtain ⟨hj, hne⟩ := Classical.not_imp.1 hj
  refine ⟨at_ + j, by omega, ?_⟩
  have := putF_at (m := m) (x := i * 4096 + at_) hj
  rw [show i * 4096 + ((at_ + j : Nat) : Int) = i * 4096 + at_ + j by omega, this]
  exact hne

end Go.Proofs.YtbcnkhfpogglmaaGreatDoor.M3

namespace Go.Proofs.YtbcnkhfpogglmaaGreatDoor.M3
open Go.RowKit Go.Maps
set_option linter.unusedVariables false
set_option maxRecDepth 100000

/-- The memory's parts, as they stand in a world. -/
structure Parts (w : World) (b mb : Nat) (S : Nat → Prop) (base size : Int) (m : Int → Int) (pg : Int → Option Nat) : Prop where
  row : w.heap[b]? = some (.cells #[.int .u64 base, .int .u64 size, .map (some mb)] 125 (0, 0))
  ok : PgOk w b mb S m pg
  bytey : Bytey m
  sup : ∀ y, ¬ m y = 0 → base ≤ y ∧ y < base + size
  al1 : base % 4096 = 0
  al2 : size % 4096 = 0
theorem Parts.mem {w : World} {b mb : Nat} {S : Nat → Prop} {base size : Int} {m : Int → Int} {pg : Int → Option Nat} (h : Parts w b mb S base size m pg) : ProgMem w b S base size m := ⟨mb, pg, h.row, h.ok, h.bytey, h.sup, h.al1, h.al2⟩
theorem ProgMem.parts {w : World} {b : Nat} {S : Nat → Prop} {base size : Int} {m : Int → Int} (h : ProgMem w b S base size m) : ∃ mb pg, Parts w b mb S base size m pg := by
  obtain ⟨mb, pg, h1, h2, h3, h4, h5, h6⟩ := h; exact ⟨mb, pg, h1, h2, h3, h4, h5, h6⟩
theorem Parts.keeps {w w' : World} {b mb : Nat} {S T : Nat → Prop} {base size : Int} {m : Int → Int} {pg : Int → Option Nat} (h : Parts w b mb S base size m pg) (o : Only T w w') (hs : ∀ i, S i → ¬ T i) : Parts w' b mb S base size m pg :=
  ⟨o.keeps (hs _ h.ok.sb) h.row, ⟨h.ok.map.keeps o (hs _ h.ok.smb), fun q g e => by
    obtain ⟨k1, k2, k3⟩ := h.ok.page q g e
    exact ⟨o.keeps (hs _ k2) k1, k2, k3⟩, h.ok.gone, h.ok.inj, h.ok.sb, h.ok.smb, h.ok.ne, fun i hi => Nat.lt_of_lt_of_le (h.ok.lt i hi) o.size⟩, h.bytey, h.sup, h.al1, h.al2⟩
theorem Parts.below {w w' : World} {b mb : Nat} {S : Nat → Prop} {base size : Int} {m : Int → Int} {pg : Int → Option Nat} (h : Parts w b mb S base size m pg) (o : Below w.heap.size w w') : Parts w' b mb S base size m pg :=
  h.keeps (Only.of_below (fun _ => False) o) (fun _ _ => id)

section
variable {w : World} {b mb gs off c : Nat} {S : Nat → Prop} {base size : Int} {m : Int → Int} {pg : Int → Option Nat} (i : Int) (at_ : Nat) (xs : List Int)

set_option maxHeartbeats 1000000 in
theorem storeIn_a (h : Parts w b mb S base size m pg) (hi : In64 i) (hv : ReadsIn .u8 gs w (.slice (some ⟨gs, off, none⟩) xs.length c) xs) (hx : InPage base size i at_ xs) (e : pg i = none) (hn : noughts xs = true) :
    Calls Tryz.prog 118 #[.pointer (some ⟨b, 0, none⟩), .int .u64 i, .int .i64 at_, .slice (some ⟨gs, off, none⟩) xs.length c] w (StoreEnd w b S base size (putF m (i * 4096 + at_) xs)) := by
  have HP := Lib.hid h
  have HV := Lib.hid hv
  have HX := Lib.hid hx
  have HN := Lib.hid hn
  have HE := Lib.hid e
  clear h hv hx hn e
  go_enter Tryz.func118, Tryz.ntmps118
  go_wp2_with fail
  refine (isNought_any gs _ xs _ HV.out HX.out.bytes HX.out.ne).mono ?_
  rintro ee w1 ⟨rfl, hb1⟩
  rw [HN.out]
  have hp := HP.out.below hb1
  obtain ⟨c0, c1, c2⟩ := ram_cells hp.row
  have hl := hp.ok.map.look pgT hi
  rw [HE.out] at hl
  simp only [ptrTo] at hl
  have HB := Lib.hid hb1
  have HQ := Lib.hid hp
  clear hb1 hp
  go_wp2
  go_end0
  refine ⟨⟨_, rfl⟩, Only.of_below _ HB.out, S, fun k hk => .inl hk, HQ.out.row |> fun r => ?_⟩
  have hm : ∀ y, putF m (i * 4096 + at_) xs y = m y := fun y => by
    rw [putF_eq]
    split
    · have h0 := noughts_iff.1 HN.out (y - (i * 4096 + at_)).toNat (by omega)
      have h1 := HQ.out.ok.gone i HE.out (y - i * 4096).toNat (by have := HX.out.page; omega)
      rw [show i * 4096 + ((y - i * 4096).toNat : Int) = y by omega] at h1
      rw [h0, h1]
    · rfl
  have : putF m (i * 4096 + at_) xs = m := funext hm
  rw [this]
  exact HQ.out.mem

/-- The source's bytes, in a later world. -/
theorem src_keeps {w w' : World} {gs off c : Nat} {xs : List Int} (hv : ReadsIn .u8 gs w (.slice (some ⟨gs, off, none⟩) xs.length c) xs) {T : Nat → Prop} (o : Only T w w') (hs : ¬ T gs) : ∀ j, j < xs.length → w'.cell? ((⟨gs, off, none⟩ : Addr).add j) = some (.int .u8 (xs.getD j 0)) := by
  intro j hj
  obtain ⟨a, cc, h1, h2, h3⟩ := hv.keeps o hs
  injection h1 with h1 _ _
  subst h1
  rcases h3 with h3 | ⟨off', h4, _, h5⟩
  · rw [h3] at hj; simp at hj
  · injection h4 with h4; injection h4 with _ h4
    subst h4
    rw [add_none]; exact h5 j hj

theorem pages_16384 (h : Parts w b mb S base size m pg) (hf : Fits base size) : ∀ q, pg q ≠ none → base / 4096 ≤ q ∧ q < base / 4096 + (16384 : Nat) := pages_in h.ok hf h.sup h.al1 h.al2

set_option maxRecDepth 100000 in
set_option maxHeartbeats 2000000 in
theorem storeIn_b (h : Parts w b mb S base size m pg) (hf : Fits base size) (hi : In64 i) (hv : ReadsIn .u8 gs w (.slice (some ⟨gs, off, none⟩) xs.length c) xs) (hs : ¬ S gs) (hx : InPage base size i at_ xs) (e : pg i = none) (hn : noughts xs = false) :
    Calls Tryz.prog 118 #[.pointer (some ⟨b, 0, none⟩), .int .u64 i, .int .i64 at_, .slice (some ⟨gs, off, none⟩) xs.length c] w (StoreEnd w b S base size (putF m (i * 4096 + at_) xs)) := by
  have HP := Lib.hid h
  have HG := Lib.hid hs
  have HV := Lib.hid hv
  have HX := Lib.hid hx
  have HN := Lib.hid hn
  have HE := Lib.hid e
  have HF := Lib.hid (pages_16384 h hf)
  have hpage := hx.page
  have hlen : 0 < xs.length := List.length_pos_iff.2 hx.ne
  clear h hv hx hn e hf hs
  go_enter Tryz.func118, Tryz.ntmps118
  go_wp2_with fail
  refine (isNought_any gs _ xs _ HV.out HX.out.bytes HX.out.ne).mono ?_
  rintro ee w1 ⟨rfl, hb1⟩
  rw [HN.out]
  have hp := HP.out.below hb1
  obtain ⟨c0, c1, c2⟩ := ram_cells hp.row
  have hl := hp.ok.map.look pgT hi
  rw [HE.out] at hl
  simp only [ptrTo] at hl
  have hb2 : Below w1.heap.size w1 (w1.alloc (.cells Tryz.zeroCells138 138)) := (Below.refl _ _).alloc (Nat.le_refl _) _
  have hp2 := hp.below hb2
  obtain ⟨d0, d1, d2⟩ := ram_cells hp2.row
  obtain ⟨w2, hput, hmap, hturn⟩ := hp2.ok.map.put pgT HF.out (by unfold maxLen; omega) hi w1.heap.size
  have ho2 := mapTurned_only (S := fun k => k = mb) hturn rfl
  have hbz : w1.heap.size < (w1.alloc (.cells Tryz.zeroCells138 138)).heap.size := by simp
  have hnew : HoldsU w2 w1.heap.size 138 4096 (fun _ => 0) := by
    refine HoldsU.keeps (S := fun k => k = mb) (w := w1.alloc (.cells Tryz.zeroCells138 138)) ?_ ho2 (by have := hp.ok.lt mb hp.ok.smb; omega)
    show _ = _
    rw [heap_alloc_new, zero4096]
  have hbel : Only (fun k => k = mb) w1 w2 := (Only.of_below _ hb2).trans ho2
  have hsrc : ∀ j, j < xs.length → w2.cell? ((⟨gs, off, none⟩ : Addr).add j) = some (.int .u8 (xs.getD j 0)) := by
    exact src_keeps HV.out ((Only.of_below (fun k => k = mb) hb1).trans hbel) (fun e => HG.out (e ▸ HP.out.ok.smb))
  have HSL := fun w => run_slice_from (w := w) Tryz.underlying138 (Tryz.sizeOf5 w) w1.heap.size at_ (by omega)
  have HB1 := Lib.hid hb1
  have HP1 := Lib.hid hp
  have HO := Lib.hid hbel
  have HMAP := Lib.hid hmap
  have HNEW := Lib.hid hnew
  have HSRC := Lib.hid hsrc
  have HS2 := Lib.hid (mapTurned_size hturn)
  clear hb1 hp hbel hmap hnew hsrc hp2 hb2 ho2 hturn hbz
  go_wp2_with (refine wpList_copy_u rfl (.tmp 31) (.tmp 32) 40 40 rfl 5 Tryz.underlying40 size_u8 w1.heap.size at_ _ _ ⟨gs, off, none⟩ _ _ rfl rfl 4096 (fun _ => 0) 138 HNEW.out xs ?_ HSRC.out (by omega) ?_)
  · show xs.length = min xs.length (4096 - at_)
    omega
  have h3 := HoldsU.setRow HNEW.out (overU (fun _ => 0) at_ xs)
  have ho3 : Only (fun k => k = w1.heap.size) w2 (w2.setRow w1.heap.size (uarr 4096 (overU (fun _ => 0) at_ xs))) := (Only.refl (fun k => k = w1.heap.size) w2).setRow (.inl rfl) _
  have HEND : Hid (StoreEnd w b S base size (putF m (i * 4096 + at_) xs) (.returned (.tuple #[])) (w2.setRow w1.heap.size (uarr 4096 (overU (fun _ => 0) at_ xs)))) := by
    refine Lib.hid ⟨⟨_, rfl⟩, ?_, fun k => S k ∨ k = w1.heap.size, fun k hk => ?_, ?_⟩
    · refine (((Only.of_below S HB1.out).step HO.out ?_).step ho3 ?_)
      · rintro k rfl; exact .inl HP.out.ok.smb
      · rintro k rfl; exact .inr HB1.out.size
    · rcases hk with hk | rfl
      · exact .inl hk
      · exact .inr HB1.out.size
    · have hpg : PageAt (w2.setRow w1.heap.size (uarr 4096 (overU (fun _ => 0) at_ xs))) w1.heap.size (putF m (i * 4096 + at_) xs) i := by
        refine HoldsU.congr h3 fun k hk => ?_
        rw [← HX.out.over m k hk]
        unfold overU
        split
        · rfl
        · exact (HP1.out.ok.gone i HE.out k hk).symm
      have hne : w1.heap.size ≠ mb := by have := HP1.out.ok.lt mb HP1.out.ok.smb; omega
      have hneb : w1.heap.size ≠ b := by have := HP1.out.ok.lt b HP1.out.ok.sb; omega
      have o4 : Only (fun k => k = mb) w1 (w2.setRow w1.heap.size (uarr 4096 (overU (fun _ => 0) at_ xs))) := HO.out.step ho3 (by rintro k rfl; exact .inr (Nat.le_refl _))
      have := PgOk.laid HP1.out.ok HE.out o4 (Nat.le_refl _) (HMAP.out.keeps ho3 (fun h => hne h.symm)) hpg (HX.out.left m HN.out) (HX.out.out m)
      exact ⟨mb, _, o4.keeps (fun h => HP1.out.ok.ne h.symm) HP1.out.row, this, putF_bytey HP1.out.bytey _ HX.out.bytes, HX.out.support HP1.out.sup, HP1.out.al1, HP1.out.al2⟩
  clear h3 ho3
  go_wp2
  go_end0
  exact HEND.out

end
end Go.Proofs.YtbcnkhfpogglmaaGreatDoor.M3

namespace Go.Proofs.YtbcnkhfpogglmaaGreatDoor.M3
open Go.RowKit Go.Maps
set_option linter.unusedVariables false
set_option maxRecDepth 100000

section
variable {w : World} {b mb gs off c : Nat} {S : Nat → Prop} {base size : Int} {m : Int → Int} {pg : Int → Option Nat} (i : Int) (at_ : Nat) (xs : List Int)

theorem Parts.row_keeps {w w' : World} {T : Nat → Prop} (h : Parts w b mb S base size m pg) (o : Only T w w') (hb : ¬ T b) : w'.heap[b]? = some (.cells #[.int .u64 base, .int .u64 size, .map (some mb)] 125 (0, 0)) := o.keeps hb h.row

theorem wrote_end {w w1 w3 : World} {g : Nat} {i : Int} {at_ : Nat} {xs : List Int} (hb1 : Below w.heap.size w w1) (hp : Parts w1 b mb S base size m pg) (e : pg i = some g) (hx : InPage base size i at_ xs)
    (h3 : HoldsU w3 g 138 4096 (overU (fun k => m (i * 4096 + k)) at_ xs)) (o3 : Only (fun k => k = g) w1 w3) (hne : ∃ k : Nat, k < 4096 ∧ ¬ putF m (i * 4096 + at_) xs (i * 4096 + k) = 0) :
    StoreEnd w b S base size (putF m (i * 4096 + at_) xs) (.returned (.tuple #[])) w3 := by
  obtain ⟨_, k2, k3, k4, _⟩ := hp.ok.page i g e
  refine ⟨⟨_, rfl⟩, (Only.of_below S hb1).step o3 (by rintro k rfl; exact .inl k2), S, fun k hk => .inl hk, ?_⟩
  have hpg : PageAt w3 g (putF m (i * 4096 + at_) xs) i := HoldsU.congr h3 fun k hk => hx.over m k hk
  exact ⟨mb, pg, hp.row_keeps o3 (fun h => k3 h.symm), PgOk.wrote hp.ok e o3 hpg hne (hx.out m), putF_bytey hp.bytey _ hx.bytes, hx.support hp.sup, hp.al1, hp.al2⟩

set_option maxRecDepth 100000 in
set_option maxHeartbeats 2000000 in
theorem storeIn_c {g : Nat} (h : Parts w b mb S base size m pg) (hi : In64 i) (hv : ReadsIn .u8 gs w (.slice (some ⟨gs, off, none⟩) xs.length c) xs) (hs : ¬ S gs) (hx : InPage base size i at_ xs) (e : pg i = some g) (hn : noughts xs = false) :
    Calls Tryz.prog 118 #[.pointer (some ⟨b, 0, none⟩), .int .u64 i, .int .i64 at_, .slice (some ⟨gs, off, none⟩) xs.length c] w (StoreEnd w b S base size (putF m (i * 4096 + at_) xs)) := by
  have HP := Lib.hid h
  have HG := Lib.hid hs
  have HV := Lib.hid hv
  have HX := Lib.hid hx
  have HN := Lib.hid hn
  have HE := Lib.hid e
  have hpage := hx.page
  have hlen : 0 < xs.length := List.length_pos_iff.2 hx.ne
  clear h hv hx hn e hs
  go_enter Tryz.func118, Tryz.ntmps118
  go_wp2_with fail
  refine (isNought_any gs _ xs _ HV.out HX.out.bytes HX.out.ne).mono ?_
  rintro ee w1 ⟨rfl, hb1⟩
  rw [HN.out]
  have hp := HP.out.below hb1
  obtain ⟨c0, c1, c2⟩ := ram_cells hp.row
  have hl := hp.ok.map.look pgT hi
  rw [HE.out] at hl
  simp only [ptrTo] at hl
  have hnew : HoldsU w1 g 138 4096 (fun k => m (i * 4096 + k)) := (hp.ok.page i g HE.out).1
  have hsrc : ∀ j, j < xs.length → w1.cell? ((⟨gs, off, none⟩ : Addr).add j) = some (.int .u8 (xs.getD j 0)) := src_keeps HV.out (Only.of_below (fun _ => False) hb1) id
  have HSL := fun w => run_slice_from (w := w) Tryz.underlying138 (Tryz.sizeOf5 w) g at_ (by omega)
  have HB1 := Lib.hid hb1
  have HP1 := Lib.hid hp
  have HNEW := Lib.hid hnew
  have HSRC := Lib.hid hsrc
  clear hb1 hp hnew hsrc
  have h3 := HoldsU.setRow HNEW.out (overU (fun k => m (i * 4096 + k)) at_ xs)
  have ho3 : Only (fun k => k = g) w1 (w1.setRow g (uarr 4096 (overU (fun k => m (i * 4096 + k)) at_ xs))) := (Only.refl (fun k => k = g) w1).setRow (.inl rfl) _
  have H3 := Lib.hid h3
  have HO3 := Lib.hid ho3
  clear h3 ho3
  go_wp2_with (refine wpList_copy_u rfl (.tmp 31) (.tmp 32) 40 40 rfl 5 Tryz.underlying40 size_u8 g at_ _ _ ⟨gs, off, none⟩ _ _ rfl rfl 4096 (fun k => m (i * 4096 + k)) 138 HNEW.out xs ?_ HSRC.out (by omega) ?_)
  · show xs.length = min xs.length (4096 - at_)
    omega
  have HEND : Hid (StoreEnd w b S base size (putF m (i * 4096 + at_) xs) (.returned (.tuple #[])) (w1.setRow g (uarr 4096 (overU (fun k => m (i * 4096 + k)) at_ xs)))) :=
    Lib.hid (wrote_end HB1.out HP1.out HE.out HX.out H3.out HO3.out (HX.out.left m HN.out))
  go_wp2
  go_end0
  exact HEND.out

end
end Go.Proofs.YtbcnkhfpogglmaaGreatDoor.M3

namespace Go.Proofs.YtbcnkhfpogglmaaGreatDoor.M3
open Go.RowKit Go.Maps
set_option linter.unusedVariables false
set_option maxRecDepth 100000

section
variable {w : World} {b mb gs off c : Nat} {S : Nat → Prop} {base size : Int} {m : Int → Int} {pg : Int → Option Nat} (i : Int) (at_ : Nat) (xs : List Int)

set_option maxRecDepth 100000 in
set_option maxHeartbeats 2000000 in
theorem storeIn_d {g : Nat} (h : Parts w b mb S base size m pg) (hi : In64 i) (hv : ReadsIn .u8 gs w (.slice (some ⟨gs, off, none⟩) xs.length c) xs) (hs : ¬ S gs) (hx : InPage base size i at_ xs) (e : pg i = some g) (hn : noughts xs = true) (hz : alike 4096 (overU (fun k => m (i * 4096 + k)) at_ xs) (fun _ => 0) = false) :
    Calls Tryz.prog 118 #[.pointer (some ⟨b, 0, none⟩), .int .u64 i, .int .i64 at_, .slice (some ⟨gs, off, none⟩) xs.length c] w (StoreEnd w b S base size (putF m (i * 4096 + at_) xs)) := by
  have HP := Lib.hid h
  have HG := Lib.hid hs
  have HV := Lib.hid hv
  have HX := Lib.hid hx
  have HN := Lib.hid hn
  have HE := Lib.hid e
  have hpage := hx.page
  have hlen : 0 < xs.length := List.length_pos_iff.2 hx.ne
  clear h hv hx hn e hs
  go_enter Tryz.func118, Tryz.ntmps118
  go_wp2_with fail
  refine (isNought_any gs _ xs _ HV.out HX.out.bytes HX.out.ne).mono ?_
  rintro ee w1 ⟨rfl, hb1⟩
  rw [HN.out]
  have hp := HP.out.below hb1
  obtain ⟨c0, c1, c2⟩ := ram_cells hp.row
  have hl := hp.ok.map.look pgT hi
  rw [HE.out] at hl
  simp only [ptrTo] at hl
  have hnew : HoldsU w1 g 138 4096 (fun k => m (i * 4096 + k)) := (hp.ok.page i g HE.out).1
  have hsrc : ∀ j, j < xs.length → w1.cell? ((⟨gs, off, none⟩ : Addr).add j) = some (.int .u8 (xs.getD j 0)) := src_keeps HV.out (Only.of_below (fun _ => False) hb1) id
  have HSL := fun w => run_slice_from (w := w) Tryz.underlying138 (Tryz.sizeOf5 w) g at_ (by omega)
  have HB1 := Lib.hid hb1
  have HP1 := Lib.hid hp
  have HNEW := Lib.hid hnew
  have HSRC := Lib.hid hsrc
  clear hb1 hp hnew hsrc
  have h3 := HoldsU.setRow HNEW.out (overU (fun k => m (i * 4096 + k)) at_ xs)
  have ho3 : Only (fun k => k = g) w1 (w1.setRow g (uarr 4096 (overU (fun k => m (i * 4096 + k)) at_ xs))) := (Only.refl (fun k => k = g) w1).setRow (.inl rfl) _
  have H3 := Lib.hid h3
  have HO3 := Lib.hid ho3
  clear h3 ho3
  have HQ : Hid (alike 4096 (overU (fun k => m (i * 4096 + k)) at_ xs) (fun _ => 0) = false) := Lib.hid hz
  have HMIN : Hid (xs.length = Nat.min xs.length (4096 - at_)) := Lib.hid (by show xs.length = min xs.length (4096 - at_); omega)
  have HFIT : Hid (at_ + xs.length ≤ 4096) := Lib.hid hpage
  clear hz
  have HEND : Hid (StoreEnd w b S base size (putF m (i * 4096 + at_) xs) (.returned (.tuple #[])) (w1.setRow g (uarr 4096 (overU (fun k => m (i * 4096 + k)) at_ xs)))) :=
    Lib.hid (wrote_end HB1.out HP1.out HE.out HX.out H3.out HO3.out (by
      have : ¬ ∀ k, k < 4096 → overU (fun k => m (i * 4096 + k)) at_ xs k = 0 := fun hh => by
        rw [alike_iff.2 hh] at HQ; exact absurd HQ.out (by simp)
      obtain ⟨k, hk⟩ := Classical.not_forall.1 this
      obtain ⟨hk, hne⟩ := Classical.not_imp.1 hk
      exact ⟨k, hk, by rw [← HX.out.over m k hk]; exact hne⟩))
  go_wp2_with (first
    | (refine wpList_copy_u rfl (.tmp 31) (.tmp 32) 40 40 rfl 5 Tryz.underlying40 size_u8 g at_ _ _ ⟨gs, off, none⟩ _ _ rfl rfl 4096 (fun k => m (i * 4096 + k)) 138 HNEW.out xs HMIN.out HSRC.out HFIT.out ?_)
    | (refine wpList_load_u rfl _ _ rfl g rfl 138 4096 (overU (fun k => m (i * 4096 + k)) at_ xs) 5 H3.out Tryz.underlying138 size4096 ?_)
    | (refine wpList_build_u rfl _ rfl 4096 (fun _ => 0) built4096 ?_)
    | (refine wpList_eql_u rfl 138 _ _ _ rfl 5 4096 (overU (fun k => m (i * 4096 + k)) at_ xs) (fun _ => 0) rfl rfl Tryz.underlying138 (Tryz.sizeOf5 _) (Tryz.isAgg5 _) Tryz.underlying5 guard4096 ?_; rw [HQ.out]))
  go_end0
  exact HEND.out

set_option maxRecDepth 100000 in
set_option maxHeartbeats 2000000 in
theorem storeIn_e {g : Nat} (h : Parts w b mb S base size m pg) (hi : In64 i) (hv : ReadsIn .u8 gs w (.slice (some ⟨gs, off, none⟩) xs.length c) xs) (hs : ¬ S gs) (hx : InPage base size i at_ xs) (e : pg i = some g) (hn : noughts xs = true) (hz : alike 4096 (overU (fun k => m (i * 4096 + k)) at_ xs) (fun _ => 0) = true) :
    Calls Tryz.prog 118 #[.pointer (some ⟨b, 0, none⟩), .int .u64 i, .int .i64 at_, .slice (some ⟨gs, off, none⟩) xs.length c] w (StoreEnd w b S base size (putF m (i * 4096 + at_) xs)) := by
  have HP := Lib.hid h
  have HG := Lib.hid hs
  have HV := Lib.hid hv
  have HX := Lib.hid hx
  have HN := Lib.hid hn
  have HE := Lib.hid e
  have hpage := hx.page
  have hlen : 0 < xs.length := List.length_pos_iff.2 hx.ne
  clear h hv hx hn e hs
  go_enter Tryz.func118, Tryz.ntmps118
  go_wp2_with fail
  refine (isNought_any gs _ xs _ HV.out HX.out.bytes HX.out.ne).mono ?_
  rintro ee w1 ⟨rfl, hb1⟩
  rw [HN.out]
  have hp := HP.out.below hb1
  obtain ⟨c0, c1, c2⟩ := ram_cells hp.row
  have hl := hp.ok.map.look pgT hi
  rw [HE.out] at hl
  simp only [ptrTo] at hl
  have hnew : HoldsU w1 g 138 4096 (fun k => m (i * 4096 + k)) := (hp.ok.page i g HE.out).1
  have hsrc : ∀ j, j < xs.length → w1.cell? ((⟨gs, off, none⟩ : Addr).add j) = some (.int .u8 (xs.getD j 0)) := src_keeps HV.out (Only.of_below (fun _ => False) hb1) id
  have HSL := fun w => run_slice_from (w := w) Tryz.underlying138 (Tryz.sizeOf5 w) g at_ (by omega)
  have HB1 := Lib.hid hb1
  have HP1 := Lib.hid hp
  have HNEW := Lib.hid hnew
  have HSRC := Lib.hid hsrc
  clear hb1 hp hnew hsrc
  have h3 := HoldsU.setRow HNEW.out (overU (fun k => m (i * 4096 + k)) at_ xs)
  have ho3 : Only (fun k => k = g) w1 (w1.setRow g (uarr 4096 (overU (fun k => m (i * 4096 + k)) at_ xs))) := (Only.refl (fun k => k = g) w1).setRow (.inl rfl) _
  have H3 := Lib.hid h3
  have HO3 := Lib.hid ho3
  clear h3 ho3
  have HQ : Hid (alike 4096 (overU (fun k => m (i * 4096 + k)) at_ xs) (fun _ => 0) = true) := Lib.hid hz
  have HMIN : Hid (xs.length = Nat.min xs.length (4096 - at_)) := Lib.hid (by show xs.length = min xs.length (4096 - at_); omega)
  have HFIT : Hid (at_ + xs.length ≤ 4096) := Lib.hid hpage
  clear hz
  have hp3 := HP1.out.row_keeps HO3.out (fun h => (HP1.out.ok.page i g HE.out).2.2.1 h.symm)
  obtain ⟨d0, d1, d2⟩ := ram_cells hp3
  have hm3 := HP1.out.ok.map.keeps HO3.out (fun h => (HP1.out.ok.page i g HE.out).2.2.2.1 h.symm)
  obtain ⟨w4, hdel, hmap, hturn⟩ := hm3.drop pgT hi 0
  have HEND : Hid (StoreEnd w b S base size (putF m (i * 4096 + at_) xs) (.returned (.tuple #[])) w4) := by
    have o4 := mapTurned_only (S := fun k => k = mb) hturn rfl
    obtain ⟨_, k2, k3, k4, _⟩ := HP1.out.ok.page i g HE.out
    have o5 : Only (fun k => k = g ∨ k = mb) w1 w4 := (HO3.out.mono (fun k hk => .inl (.inl hk))).step o4 (fun k hk => .inl (.inr hk))
    refine Lib.hid ⟨⟨_, rfl⟩, (Only.of_below S HB1.out).step o5 ?_, S, fun k hk => .inl hk, mb, _, o5.keeps ?_ HP1.out.row, PgOk.struck HP1.out.ok HE.out o5 hmap ?_ (HX.out.out m), putF_bytey HP1.out.bytey _ HX.out.bytes, HX.out.support HP1.out.sup, HP1.out.al1, HP1.out.al2⟩
    · rintro k (rfl | rfl)
      · exact .inl k2
      · exact .inl HP1.out.ok.smb
    · rintro (h | h)
      · exact k3 h.symm
      · exact HP1.out.ok.ne h.symm
    · intro k hk
      rw [← HX.out.over m k hk]
      exact alike_iff.1 HQ.out k hk
  have HD := Lib.hid hp3
  clear hp3 hm3 hmap hturn
  go_wp2_with (first
    | (refine wpList_copy_u rfl (.tmp 31) (.tmp 32) 40 40 rfl 5 Tryz.underlying40 size_u8 g at_ _ _ ⟨gs, off, none⟩ _ _ rfl rfl 4096 (fun k => m (i * 4096 + k)) 138 HNEW.out xs HMIN.out HSRC.out HFIT.out ?_)
    | (refine wpList_load_u rfl _ _ rfl g rfl 138 4096 (overU (fun k => m (i * 4096 + k)) at_ xs) 5 H3.out Tryz.underlying138 size4096 ?_)
    | (refine wpList_build_u rfl _ rfl 4096 (fun _ => 0) built4096 ?_)
    | (refine wpList_eql_u rfl 138 _ _ _ rfl 5 4096 (overU (fun k => m (i * 4096 + k)) at_ xs) (fun _ => 0) rfl rfl Tryz.underlying138 (Tryz.sizeOf5 _) (Tryz.isAgg5 _) Tryz.underlying5 guard4096 ?_; rw [HQ.out]))
  go_end0
  exact HEND.out

end
end Go.Proofs.YtbcnkhfpogglmaaGreatDoor.M3

namespace Go.Proofs.YtbcnkhfpogglmaaGreatDoor.M3
open Go.RowKit Go.Maps
set_option linter.unusedVariables false
set_option maxRecDepth 100000

theorem storeIn_any {w : World} {b gs : Nat} {S : Nat → Prop} {base size : Int} {m : Int → Int} (i : Int) (at_ : Nat) (xs : List Int) (v : Value) (h : ProgMem w b S base size m) (hf : Fits base size) (hi : In64 i) (hv : ReadsIn .u8 gs w v xs) (hs : ¬ S gs) (hx : InPage base size i at_ xs) :
    Calls Tryz.prog 118 #[.pointer (some ⟨b, 0, none⟩), .int .u64 i, .int .i64 at_, v] w (StoreEnd w b S base size (putF m (i * 4096 + at_) xs)) := by
  obtain ⟨mb, pg, hp⟩ := h.parts
  have hv2 := hv
  obtain ⟨a, c, rfl, _, h3⟩ := hv2
  obtain ⟨off, rfl, _⟩ := h3.resolve_left hx.ne
  cases hn : noughts xs
  · cases e : pg i with
    | none => exact storeIn_b i at_ xs hp hf hi hv hs hx e hn
    | some g => exact storeIn_c i at_ xs hp hi hv hs hx e hn
  · cases e : pg i with
    | none => exact storeIn_a i at_ xs hp hi hv hx e hn
    | some g =>
      cases hz : alike 4096 (overU (fun k => m (i * 4096 + k)) at_ xs) (fun _ => 0)
      · exact storeIn_d i at_ xs hp hi hv hs hx e hn hz
      · exact storeIn_e i at_ xs hp hi hv hs hx e hn hz

theorem place_at (y q : Int) (r : Nat) (h : y = q * 4096 + r) (hr : r < 4096) (hy : In64 y) (w : World) :
    Calls Tryz.prog 115 #[.int .u64 y] w fun e w' => e = .returned (.tuple #[.int .u64 q, .int .i64 r]) ∧ w = w' := by
  have h1 : y / 4096 = q := by omega
  have h2 : y % 4096 = r := by omega
  have := place_any y hy w
  rw [h1, h2] at this
  exact this

theorem putF_take (m : Int → Int) (x : Int) (xs : List Int) (k n : Nat) (h : k + n ≤ xs.length) : putF (putF m x (xs.take k)) (x + k) ((xs.drop k).take n) = putF m x (xs.take (k + n)) := by
  funext y
  rw [putF_eq, putF_eq, putF_eq]
  have e1 : ((xs.drop k).take n).length = n := by simp; omega
  have e2 : (xs.take k).length = k := by simp; omega
  have e3 : (xs.take (k + n)).length = k + n := by simp; omega
  rw [e1, e2, e3]
  by_cases a : x + k ≤ y ∧ y < x + k + n
  · rw [if_pos a, if_pos (by omega)]
    have f1 : (y - (x + k)).toNat < n := by omega
    have f2 : (y - x).toNat = k + (y - (x + k)).toNat := by omega
    rw [f2]
    simp [List.getD, List.getElem?_take, f1]
  · rw [if_neg a]
    by_cases c : x ≤ y ∧ y < x + k
    · rw [if_pos c, if_pos (by omega)]
      have f1 : (y - x).toNat < k := by omega
      simp [List.getD, List.getElem?_take, f1, show (y - x).toNat < k + n by omega]
    · rw [if_neg c, if_neg (by omega)]

/-- In the loop: the first k bytes are written. -/
def Storing (w wr : World) (b : Nat) (S : Nat → Prop) (base size : Int) (m : Int → Int) (x : Int) (xs : List Int) (k : Nat) : Prop :=
  Only S w wr ∧ ∃ S', (∀ j, S' j → S j ∨ w.heap.size ≤ j) ∧ ProgMem wr b S' base size (putF m x (xs.take k))
theorem Storing.next {e : Ending} {w wr w' : World} {b : Nat} {S S' : Nat → Prop} {base size : Int} {m : Int → Int} {x : Int} {xs : List Int} {k n : Nat} (h : k + n ≤ xs.length) (ho : Only S w wr) (hS : ∀ j, S' j → S j ∨ w.heap.size ≤ j)
    (hs : StoreEnd wr b S' base size (putF (putF m x (xs.take k)) (x + k) ((xs.drop k).take n)) e w') : Storing w w' b S base size m x xs (k + n) := by
  obtain ⟨_, o2, S2, hS2, hM⟩ := hs
  rw [putF_take m x xs k n h] at hM
  refine ⟨ho.step o2 hS, S2, fun j hj => ?_, hM⟩
  rcases hS2 j hj with hj | hj
  · exact hS j hj
  · exact .inr (Nat.le_trans ho.size hj)

/-- A piece of a slice. -/
theorem ReadsIn.piece {w : World} {gs off c c' : Nat} {xs : List Int} (h : ReadsIn .u8 gs w (.slice (some ⟨gs, off, none⟩) xs.length c) xs) (k n : Nat) (hk : k + n ≤ xs.length) (hn : 0 < n) :
    ReadsIn .u8 gs w (.slice (some ⟨gs, off + k, none⟩) n c') ((xs.drop k).take n) := by
  obtain ⟨a, cc, h1, h2, h3⟩ := h
  injection h1 with h1 _ _
  subst h1
  have e1 : ((xs.drop k).take n).length = n := by simp; omega
  refine ⟨_, c', by rw [e1], by omega, .inr ⟨off + k, rfl, ?_, fun j hj => ?_⟩⟩
  · rcases h3 with h3 | ⟨o, _, h4, _⟩
    · rw [h3] at hk; simp at hk; omega
    · exact h4
  · rcases h3 with h3 | ⟨o, h5, _, h4⟩
    · rw [h3] at hk; simp at hk; omega
    · injection h5 with h5; injection h5 with _ h5
      subst h5
      rw [e1] at hj
      have := h4 (k + j) (by omega)
      rw [show off + k + j = off + (k + j) by omega, this]
      simp [List.getD, List.getElem?_take, hj]

set_option maxRecDepth 100000 in
set_option maxHeartbeats 2000000 in
theorem store_some {w : World} {b gs off c : Nat} {S : Nat → Prop} {base size : Int} {m : Int → Int} (x : Int) (xs : List Int) (h : ProgMem w b S base size m) (hf : Fits base size) (hx0 : base ≤ x) (hx1 : x + xs.length ≤ base + size)
    (hv : ReadsIn .u8 gs w (.slice (some ⟨gs, off, none⟩) xs.length c) xs) (hc : xs.length ≤ c) (hb : Bytes255 xs) (hs : ¬ S gs) :
    Calls Tryz.prog 72 #[.pointer (some ⟨b, 0, none⟩), .int .u64 x, .slice (some ⟨gs, off, none⟩) xs.length c] w (StoreEnd w b S base size (putF m x xs)) := by
  obtain ⟨f1, f2, f3, f4⟩ := hf
  have HF : Hid (Fits base size) := Lib.hid ⟨f1, f2, f3, f4⟩
  have hml : xs.length ≤ maxLen := by obtain ⟨_, _, h1, h2, _⟩ := hv; exact h2
  unfold maxLen at hml
  have hgs : xs = [] ∨ gs < w.heap.size := by
    obtain ⟨_, _, _, _, h3⟩ := hv
    rcases h3 with h3 | ⟨_, _, h3, _⟩
    · exact .inl h3
    · exact .inr h3
  have HV := Lib.hid hv
  have HB := Lib.hid hb
  have HG := Lib.hid hs
  have HGS := Lib.hid hgs
  have HP : Hid (Storing w w b S base size m x xs 0) := Lib.hid ⟨Only.refl _ _, S, fun j hj => .inl hj, by simpa [putF] using h⟩
  clear hv hb hs h hgs
  go_enter Tryz.func72, Tryz.ntmps72
  go_wp2
  go_loopw [1, 2] (fun u v wr => ∃ (k L C : Nat) (A : Option Addr), k + L = xs.length ∧ L ≤ C ∧ u = .int .u64 (x + k) ∧ v = .slice A L C ∧ (0 < L → A = some ⟨gs, off + k, none⟩) ∧ Storing w wr b S base size m x xs k)
    (fun _ v _ => match v with | .slice _ n _ => n | _ => 0)
  case atStart => exact ⟨0, xs.length, c, _, by omega, hc, by rw [Int.natCast_zero, Int.add_zero], rfl, fun _ => rfl, HP.out⟩
  case round =>
    obtain ⟨k, L, C, A, hkL, hLC, rfl, rfl, hA, hst⟩ := hrel
    by_cases h0 : 0 < L
    · obtain rfl := hA h0
      obtain ⟨ho, S', hS', hM⟩ := hst
      obtain ⟨q, r, hqr, hr⟩ : ∃ (q : Int) (r : Nat), x + k = q * 4096 + r ∧ r < 4096 := ⟨(x + k) / 4096, ((x + k) % 4096).toNat, by omega, by omega⟩
      have hgs2 : gs < w.heap.size := by
        rcases HGS.out with h1 | h1
        · rw [h1] at hkL; simp at hkL; omega
        · exact h1
      have hsg : ¬ S' gs := fun hh => by
        rcases hS' gs hh with h1 | h1
        · exact HG.out h1
        · omega
      have hvr := HV.out.keeps ho HG.out
      have HO := Lib.hid ho
      have HS := Lib.hid hS'
      have HM := Lib.hid hM
      have HSG := Lib.hid hsg
      have HVR := Lib.hid hvr
      have HQR := Lib.hid hqr
      have hx64 : x + k ≤ 9223372036854775808 := by omega
      have hxp : 0 ≤ x + k := by omega
      have hqi : Hid (In64 q) := Lib.hid (by unfold In64; omega)
      have hxi : Hid (In64 (x + k)) := Lib.hid (by unfold In64; omega)
      clear ho hS' hM hsg hvr hqr hA
      obtain ⟨n4, hn4⟩ : ∃ n4 : Nat, r + n4 = 4096 := ⟨4096 - r, by omega⟩
      have e4 : (4096 : Int) - r = n4 := by omega
      by_cases hlt : n4 < L
      · have hcap : ¬ C = n4 := by omega
        have hle : n4 ≤ C := by omega
        have hpos : 0 < n4 := by omega
        have emin : min (L : Int) (n4 : Int) = n4 := by omega
        have HIN : Hid (InPage base size q r ((xs.drop k).take n4)) := by
          have e1 : ((xs.drop k).take n4).length = n4 := by simp; omega
          refine Lib.hid ⟨by rw [← HQR.out]; omega, by rw [← HQR.out, e1]; omega, by rw [e1]; omega, fun i hi => ?_, fun hh => by rw [hh] at e1; simp at e1; omega⟩
          rw [e1] at hi
          have := HB.out (k + i) (by omega)
          simpa [List.getD, List.getElem?_take, hi] using this
        have HPC : ∀ c', Hid (ReadsIn .u8 gs wr (.slice (some ⟨gs, off + k, none⟩) n4 c') ((xs.drop k).take n4)) := fun c' => Lib.hid (HVR.out.piece k n4 (by omega) hpos)
        go_wp2_with (first
          | (go_at_call 115; refine (place_at (x + k) q r HQR.out hr hxi.out _).mono ?_; rintro e w2 ⟨rfl, rfl⟩))
        refine (storeIn_any q r ((xs.drop k).take n4) _ HM.out HF.out hqi.out (HPC _).out HSG.out HIN.out).mono ?_
        rintro e w2 hE
        rw [← HQR.out] at hE
        obtain ⟨u, rfl⟩ := hE.1
        have HN := Lib.hid (Storing.next (by omega) HO.out HS.out hE)
        have ex : x + k + n4 ≤ 9223372036854775808 := by omega
        clear hE
        go_wp2
        go_roundw
        case rel => exact ⟨k + n4, L - n4, C - n4, _, by omega, by omega, by rw [Int.natCast_add, Int.add_assoc], rfl, fun _ => by rw [Nat.add_assoc], HN.out⟩
        case measure => simp; omega
      · have hle : L ≤ C := hLC
        have emin : min (L : Int) (n4 : Int) = L := by omega
        have HIN : Hid (InPage base size q r ((xs.drop k).take L)) := by
          have e1 : ((xs.drop k).take L).length = L := by simp; omega
          refine Lib.hid ⟨by rw [← HQR.out]; omega, by rw [← HQR.out, e1]; omega, by rw [e1]; omega, fun i hi => ?_, fun hh => by rw [hh] at e1; simp at e1; omega⟩
          rw [e1] at hi
          have := HB.out (k + i) (by omega)
          simpa [List.getD, List.getElem?_take, hi] using this
        have HPC : ∀ c', Hid (ReadsIn .u8 gs wr (.slice (some ⟨gs, off + k, none⟩) L c') ((xs.drop k).take L)) := fun c' => Lib.hid (HVR.out.piece k L (by omega) h0)
        go_wp2_with (first
          | (go_at_call 115; refine (place_at (x + k) q r HQR.out hr hxi.out _).mono ?_; rintro e w2 ⟨rfl, rfl⟩))
        refine (storeIn_any q r ((xs.drop k).take L) _ HM.out HF.out hqi.out (HPC _).out HSG.out HIN.out).mono ?_
        rintro e w2 hE
        rw [← HQR.out] at hE
        obtain ⟨u, rfl⟩ := hE.1
        have HN := Lib.hid (Storing.next (by omega) HO.out HS.out hE)
        have ex : x + k + L ≤ 9223372036854775808 := by omega
        clear hE
        by_cases hcap : C = L
        · subst hcap
          go_wp2
          go_roundw
          case rel => exact ⟨k + C, 0, 0, some ⟨gs, off + k, none⟩, by omega, by omega, by rw [Int.natCast_add, Int.add_assoc], by simp, fun h => absurd h (by omega), HN.out⟩
          case measure => simp; omega
        · go_wp2
          go_roundw
          case rel => exact ⟨k + L, 0, C - L, some ⟨gs, off + k + L, none⟩, by omega, by omega, by rw [Int.natCast_add, Int.add_assoc], by simp, fun h => absurd h (by omega), HN.out⟩
          case measure => simp; omega
    · obtain rfl : L = 0 := by omega
      obtain rfl : k = xs.length := by omega
      rw [Storing, List.take_length] at hst
      have HST := Lib.hid hst
      clear hst
      go_wp2
      go_end0
      exact ⟨⟨_, rfl⟩, HST.out⟩

end Go.Proofs.YtbcnkhfpogglmaaGreatDoor.M3

namespace Go.Proofs.YtbcnkhfpogglmaaGreatDoor.M3
open Go.RowKit Go.Maps
set_option linter.unusedVariables false
set_option maxRecDepth 100000

/-- The bytes of m from x on, laid over f from off on, k of them. -/
def readU (f : Nat → Int) (off : Nat) (m : Int → Int) (x : Int) (k : Nat) (j : Nat) : Int := if off ≤ j ∧ j < off + k then m (x + ((j - off : Nat) : Int)) else f j
theorem readU_zero (f : Nat → Int) (off : Nat) (m : Int → Int) (x : Int) : readU f off m x 0 = f := by
  funext j; unfold readU; rw [if_neg (by omega)]
theorem readU_step (f : Nat → Int) (off : Nat) (m : Int → Int) (x : Int) (k n : Nat) : overU (readU f off m x k) (off + k) (bytesL m (x + k) n) = readU f off m x (k + n) := by
  funext j
  unfold overU
  rw [bytesL_len]
  by_cases c : off + k ≤ j ∧ j < off + k + n
  · rw [if_pos c, bytesL_get _ _ _ _ (by omega)]
    unfold readU
    rw [if_pos (by omega)]
    congr 1; omega
  · rw [if_neg c]
    unfold readU
    by_cases d : off ≤ j ∧ j < off + k
    · rw [if_pos d, if_pos (by omega)]
    · rw [if_neg d, if_neg (by omega)]
/-- Where the bytes are 0 nothing need be laid. -/
theorem readU_skip {f : Nat → Int} {off : Nat} {m : Int → Int} {x : Int} {k n : Nat} (hf : ∀ j, off ≤ j → j < off + k + n → f j = 0) (hm : ∀ j : Nat, j < n → m (x + k + j) = 0) : readU f off m x (k + n) = readU f off m x k := by
  funext j
  unfold readU
  by_cases d : off ≤ j ∧ j < off + k
  · rw [if_pos d, if_pos (by omega)]
  · rw [if_neg d]
    by_cases c : off ≤ j ∧ j < off + (k + n)
    · rw [if_pos c, hf j (by omega) (by omega)]
      have := hm (j - off - k) (by omega)
      rw [show x + ((j - off : Nat) : Int) = x + k + ((j - off - k : Nat) : Int) by omega, this]
    · rw [if_neg c]

/-- What a call leaves that turns block gd alone. -/
def LoadEnd (w : World) (gd : Nat) (t : TypeId) (n : Nat) (f : Nat → Int) (e : Ending) (w' : World) : Prop :=
  (∃ u, e = .returned u) ∧ Only (fun i => i = gd) w w' ∧ HoldsU w' gd t n f

set_option maxRecDepth 100000 in
set_option maxHeartbeats 4000000 in
theorem load_some {w : World} {b gd off L0 c n : Nat} {t : TypeId} {S : Nat → Prop} {base size : Int} {m : Int → Int} {f : Nat → Int} {a0 : Option Addr} (x : Int) (h : ProgMem w b S base size m) (hf : Fits base size) (hx0 : 0 < L0 → base ≤ x) (hx1 : 0 < L0 → x + L0 ≤ base + size) (hx : In64 x)
    (hd : HoldsU w gd t n f) (ha : 0 < L0 → a0 = some ⟨gd, off, none⟩) (hn : off + L0 ≤ n) (hc : L0 ≤ c) (hL : L0 ≤ 9223372036854775807) (hz : ∀ j, off ≤ j → j < off + L0 → f j = 0) (hs : ¬ S gd) :
    Calls Tryz.prog 69 #[.pointer (some ⟨b, 0, none⟩), .int .u64 x, .slice a0 L0 c] w (LoadEnd w gd t n (readU f off m x L0)) := by
  obtain ⟨f1, f2, f3, f4⟩ := hf
  obtain ⟨mb, pg, hp⟩ := h.parts
  have HP := Lib.hid hp
  have HG := Lib.hid hs
  have HZ := Lib.hid hz
  have HX0 := Lib.hid hx0
  have HX1 := Lib.hid hx1
  have HD := Lib.hid hd
  have xl := hx.1
  have xh := hx.2
  clear h hp hs hz hd hx hx0 hx1
  go_enter Tryz.func69, Tryz.ntmps69
  go_wp2
  go_loopw [1, 2] (fun u v wr => ∃ (k L C : Nat) (A : Option Addr), k + L = L0 ∧ L ≤ C ∧ u = .int .u64 (x + k) ∧ v = .slice A L C ∧ (0 < L → A = some ⟨gd, off + k, none⟩) ∧ Only (fun i => i = gd) w wr ∧ HoldsU wr gd t n (readU f off m x k))
    (fun _ v _ => match v with | .slice _ n _ => n | _ => 0)
  case atStart => exact ⟨0, L0, c, _, by omega, hc, by rw [Int.natCast_zero, Int.add_zero], rfl, ha, Only.refl _ _, by rw [readU_zero]; exact HD.out⟩
  case round =>
    obtain ⟨k, L, C, A, hkL, hLC, rfl, rfl, hA, ho, hr⟩ := hrel
    by_cases h0 : 0 < L
    · obtain rfl := hA h0
      have x0 := HX0.out (by omega)
      have x1 := HX1.out (by omega)
      obtain ⟨q, r, hqr, hr4⟩ : ∃ (q : Int) (r : Nat), x + k = q * 4096 + r ∧ r < 4096 := ⟨(x + k) / 4096, ((x + k) % 4096).toNat, by omega, by omega⟩
      have hp := HP.out.keeps ho (fun i hi e => HG.out (e ▸ hi))
      obtain ⟨c0, c1, c2⟩ := ram_cells hp.row
      have HO := Lib.hid ho
      have HQR := Lib.hid hqr
      have HR := Lib.hid hr
      have HQ := Lib.hid hp
      have hx64 : x + k ≤ 9223372036854775808 := by omega
      have hxp : 0 ≤ x + k := by omega
      have hqi : In64 q := by unfold In64; omega
      have hxi : Hid (In64 (x + k)) := Lib.hid (by unfold In64; omega)
      have hl := hp.ok.map.look pgT hqi
      clear ho hqr hr hp hA hqi
      obtain ⟨n4, hn4⟩ : ∃ n4 : Nat, r + n4 = 4096 := ⟨4096 - r, by omega⟩
      have e4 : (4096 : Int) - r = n4 := by omega
      obtain ⟨d, hd1, hd2, hd3, emin⟩ : ∃ d : Nat, 0 < d ∧ d ≤ L ∧ d ≤ n4 ∧ min (L : Int) (n4 : Int) = d := by
        by_cases hlt : n4 < L
        · exact ⟨n4, by omega, by omega, by omega, by omega⟩
        · exact ⟨L, by omega, by omega, by omega, by omega⟩
      have hdC : d ≤ C := by omega
      have ex : x + k + d ≤ 9223372036854775808 := by omega
      cases hpg : pg q with
      | none =>
        rw [hpg] at hl
        simp only [ptrTo] at hl
        have HN : Hid (HoldsU wr gd t n (readU f off m x (k + d))) := by
          rw [readU_skip (fun j h1 h2 => HZ.out j h1 (by omega)) (fun j hj => by
            have := HQ.out.ok.gone q hpg (r + j) (by omega)
            rw [HQR.out, show q * 4096 + (r : Int) + (j : Int) = q * 4096 + ((r + j : Nat) : Int) by omega]
            exact this)]
          exact Lib.hid HR.out
        clear hpg
        by_cases hcap : C = d
        · go_wp2_with (first
            | (go_at_call 115; refine (place_at (x + k) q r HQR.out hr4 hxi.out _).mono ?_; rintro e w2 ⟨rfl, rfl⟩))
          go_roundw
          case rel => exact ⟨k + d, L - d, C - d, some ⟨gd, off + k, none⟩, by omega, by omega, by rw [Int.natCast_add, Int.add_assoc], by rw [hcap, Nat.sub_self], fun h => absurd h (by omega), HO.out, HN.out⟩
          case measure => simp; omega
        · go_wp2_with (first
            | (go_at_call 115; refine (place_at (x + k) q r HQR.out hr4 hxi.out _).mono ?_; rintro e w2 ⟨rfl, rfl⟩))
          go_roundw
          case rel => exact ⟨k + d, L - d, C - d, some ⟨gd, off + k + d, none⟩, by omega, by omega, by rw [Int.natCast_add, Int.add_assoc], rfl, fun h => by rw [Nat.add_assoc], HO.out, HN.out⟩
          case measure => simp; omega
      | some g =>
        rw [hpg] at hl
        simp only [ptrTo] at hl
        have HPG := Lib.hid (HQ.out.ok.page q g hpg).1
        have HSL := fun w => run_slice_from (w := w) Tryz.underlying138 (Tryz.sizeOf5 w) g r hr4
        clear hpg
        have HXL : Hid ((bytesL m (x + k) d).length = Nat.min (4096 - r) d) := Lib.hid (by rw [bytesL_len]; show d = min (4096 - r) d; omega)
        have HSRC : Hid (∀ j, j < (bytesL m (x + k) d).length → wr.drew.cell? ((⟨g, r, none⟩ : Addr).add j) = some (.int .u8 ((bytesL m (x + k) d).getD j 0))) := by
          refine Lib.hid fun j hj => ?_
          rw [bytesL_len] at hj
          rw [add_none, bytesL_get _ _ _ _ hj, HQR.out]
          have := HoldsU.cell (show HoldsU wr.drew g 138 4096 (fun i => m (q * 4096 + i)) from HPG.out) (j := r + j) (by omega)
          rw [show q * 4096 + (r : Int) + (j : Int) = q * 4096 + ((r + j : Nat) : Int) by omega]
          exact this
        have HRD : Hid (HoldsU wr.drew gd t n (readU f off m x k)) := Lib.hid HR.out
        have HFIT : Hid (off + k + (bytesL m (x + k) d).length ≤ n) := Lib.hid (by rw [bytesL_len]; omega)
        have HN : Hid (HoldsU (wr.drew.setRow gd (uarr n (overU (readU f off m x k) (off + k) (bytesL m (x + k) d)))) gd t n (readU f off m x (k + d))) := by
          have := HoldsU.setRow HRD.out (overU (readU f off m x k) (off + k) (bytesL m (x + k) d))
          rw [readU_step] at this ⊢
          exact Lib.hid this
        have HO2 : Hid (Only (fun i => i = gd) w (wr.drew.setRow gd (uarr n (overU (readU f off m x k) (off + k) (bytesL m (x + k) d))))) := Lib.hid ((HO.out.drewN 1).setRow (.inl rfl) _)
        go_wp2_with (first
          | (go_at_call 115; refine (place_at (x + k) q r HQR.out hr4 hxi.out _).mono ?_; rintro e w2 ⟨rfl, rfl⟩))
        go_still_tail 7, (by kernel_rfl)
        change wpList _ _ _ _ _ wr.drew
        refine wpList_copy_u rfl (.tmp 33) (.tmp 37) 40 40 rfl 5 Tryz.underlying40 size_u8 gd (off + k) d C ⟨g, r, none⟩ (4096 - r) (4096 - r) rfl rfl n (readU f off m x k) t HRD.out (bytesL m (x + k) d) HXL.out HSRC.out HFIT.out ?_
        clear HSRC HRD HXL HFIT
        generalize wr.drew.setRow gd (uarr n (overU (readU f off m x k) (off + k) (bytesL m (x + k) d))) = w9 at *
        generalize (bytesL m (x + k) d).length = nl
        by_cases hcap : C = d
        · go_wp2
          go_roundw
          case rel => exact ⟨k + d, L - d, C - d, some ⟨gd, off + k, none⟩, by omega, by omega, by rw [Int.natCast_add, Int.add_assoc], by rw [hcap, Nat.sub_self], fun h => absurd h (by omega), HO2.out, HN.out⟩
          case measure => simp; omega
        · go_wp2
          go_roundw
          case rel => exact ⟨k + d, L - d, C - d, some ⟨gd, off + k + d, none⟩, by omega, by omega, by rw [Int.natCast_add, Int.add_assoc], rfl, fun h => by rw [Nat.add_assoc], HO2.out, HN.out⟩
          case measure => simp; omega
    · obtain rfl : L = 0 := by omega
      obtain rfl : k = L0 := by omega
      have HO := Lib.hid ho
      have HR := Lib.hid hr
      clear ho hr
      go_wp2
      go_end0
      exact ⟨⟨_, rfl⟩, HO.out, HR.out⟩

end Go.Proofs.YtbcnkhfpogglmaaGreatDoor.M3

namespace Go.Proofs.YtbcnkhfpogglmaaGreatDoor.M3
open Go.RowKit Go.Maps
set_option linter.unusedVariables false
set_option maxRecDepth 100000

theorem okN_cases {n : Int} (h : okN n = true) : ∃ N : Nat, n = N ∧ 0 < N ∧ N ≤ 8 := by
  unfold okN at h
  rw [decide_eq_true_eq] at h
  exact ⟨n.toNat, by omega, by omega, by omega⟩
theorem hasZ_in {base size x : Int} {N : Nat} (h : hasZ base size x N = true) (hN : 0 < N) : base ≤ x ∧ x + N ≤ base + size := by
  unfold hasZ at h
  rw [decide_eq_true_eq] at h
  omega

/-- m between x and x + N, 0 elsewhere. -/
def cutM (m : Int → Int) (x : Int) (N : Nat) (y : Int) : Int := if x ≤ y ∧ y < x + N then m y else 0
theorem cutM_bytey {m : Int → Int} (h : Bytey m) (x : Int) (N : Nat) : Bytey (cutM m x N) := by
  intro y; unfold cutM; split
  · exact h y
  · omega
theorem cutM_read (m : Int → Int) (x : Int) {N : Nat} (h : N ≤ 8) : rdN (cutM m x N) x 8 = rdN m x N := by
  obtain ⟨d, hd⟩ : ∃ d, 8 = N + d := ⟨8 - N, by omega⟩
  rw [hd, rdN_zeros fun i h1 h2 => by unfold cutM; rw [if_neg (by omega)]]
  exact rdN_congr fun y h1 h2 => by unfold cutM; rw [if_pos ⟨h1, h2⟩]
theorem cutM_readU (m : Int → Int) (x : Int) (N : Nat) : readU (fun _ => 0) 0 m x N = fun i : Nat => cutM m x N (x + (i : Int)) := by
  funext j
  unfold readU cutM
  by_cases c : j < N
  · rw [if_pos ⟨by omega, by omega⟩, if_pos (by omega)]; congr 1
  · rw [if_neg (by omega), if_neg (by omega)]

set_option maxRecDepth 100000 in
set_option maxHeartbeats 2000000 in
theorem progRead_any {w : World} {b : Nat} {S : Nat → Prop} {base size : Int} {m : Int → Int} (x n : Int) (h : ProgMem w b S base size m) (hf : Fits base size) (hx : In64 x) (hn : In63 n) :
    Calls Tryz.prog 25 #[.pointer (some ⟨b, 0, none⟩), .int .u64 x, .int .i64 n] w (ReadEnd w (readV base size m x n)) := by
  have HP := Lib.hid h
  have HF := Lib.hid hf
  have HX := Lib.hid hx
  have HN := Lib.hid hn
  clear h hf hx hn
  cases hk : okN n
  · have H := Lib.hid hk
    have HE : Hid (readV base size m x n = (0, false)) := Lib.hid (by unfold readV; rw [hk]; rfl)
    clear hk
    rw [HE.out]
    go_enter Tryz.func25, Tryz.ntmps25
    go_wp2_with (go_at_call 68; refine (isLength_any _ _).mono ?_; rintro e w' ⟨rfl, rfl⟩; rw [H.out])
    go_ret2
    exact ⟨rfl, Below.refl _ _⟩
  · cases hz : hasZ base size x n
    · have H := Lib.hid hk
      have HZ := Lib.hid hz
      have HE : Hid (readV base size m x n = (0, false)) := Lib.hid (by unfold readV; rw [hk, hz]; rfl)
      clear hk hz
      rw [HE.out]
      go_enter Tryz.func25, Tryz.ntmps25
      go_wp2_with (first
        | (go_at_call 68; refine (isLength_any _ _).mono ?_; rintro e w' ⟨rfl, rfl⟩; rw [H.out])
        | (go_at_call 36; refine (progHas_any _ _ HP.out HF.out HX.out HN.out).mono ?_; rintro e w' ⟨rfl, rfl⟩; rw [HZ.out]))
      go_ret2
      exact ⟨rfl, Below.refl _ _⟩
    · obtain ⟨N, rfl, hN0, hN8⟩ := okN_cases hk
      have HI := Lib.hid (hasZ_in hz hN0)
      have H := Lib.hid hk
      have HZ := Lib.hid hz
      have HE : Hid (readV base size m x N = (rdN m x N, true)) := Lib.hid (by unfold readV; rw [hk, hz]; rfl)
      clear hk hz
      rw [HE.out]
      have HSL := fun w' => run_slice_upto (w := w') Tryz.underlying114 (Tryz.sizeOf5 w') w.heap.size N hN8 (by omega)
      have hb1 : Below w.heap.size w (w.alloc (.cells #[.int .u8 0, .int .u8 0, .int .u8 0, .int .u8 0, .int .u8 0, .int .u8 0, .int .u8 0, .int .u8 0] 114)) := (Below.refl _ _).alloc (Nat.le_refl _) _
      have hu : HoldsU (w.alloc (.cells #[.int .u8 0, .int .u8 0, .int .u8 0, .int .u8 0, .int .u8 0, .int .u8 0, .int .u8 0, .int .u8 0] 114)) w.heap.size 114 8 (fun _ => 0) := heap_alloc_new w _
      have HU := Lib.hid hu
      have HB1 := Lib.hid hb1
      have HP1 := Lib.hid (HP.out.keeps (Only.of_below (fun _ => False) hb1) (fun _ _ => id))
      have HG : Hid (¬ S w.heap.size) := Lib.hid (fun hs => by obtain ⟨mb, pg, hp⟩ := HP.out.parts; have := hp.ok.lt _ hs; omega)
      clear hu hb1
      go_enter Tryz.func25, Tryz.ntmps25
      go_wp2_with (first
        | (go_at_call 68; refine (isLength_any _ _).mono ?_; rintro e w' ⟨rfl, rfl⟩; rw [H.out])
        | (go_at_call 36; refine (progHas_any _ _ HP.out HF.out HX.out HN.out).mono ?_; rintro e w' ⟨rfl, rfl⟩; rw [HZ.out]))
      refine (load_some (off := 0) x HP1.out HF.out (fun _ => HI.out.1) (fun _ => HI.out.2) HX.out HU.out (fun _ => rfl) (by omega) (by omega) (by omega) (fun _ _ _ => rfl) HG.out).mono ?_
      rintro e w2 ⟨⟨u, rfl⟩, ho, hr⟩
      rw [cutM_readU] at hr
      have HR := Lib.hid hr
      have HO := Lib.hid (HB1.out.trans (ho.below (B := w.heap.size) (by rintro k rfl; exact Nat.le_refl _) HB1.out.size))
      have HBY : Hid (Bytey (cutM m x N)) := Lib.hid (cutM_bytey (by obtain ⟨mb, pg, hp⟩ := HP.out.parts; exact hp.bytey) x N)
      have HRD := Lib.hid (cutM_read m x hN8)
      clear ho hr
      go_wp2_with (first
        | (refine wpList_load_u rfl _ _ rfl w.heap.size rfl 114 8 (fun i : Nat => cutM m x N (x + (i : Int))) 5 HR.out Tryz.underlying114 size8 ?_)
        | (go_at_call 70; refine (number_any (cutM m x N) x HBY.out _).mono ?_; rintro e w3 ⟨rfl, hb3⟩; rw [HRD.out]))
      go_ret2
      exact ⟨rfl, HO.out.trans (hb3.mono HO.out.size)⟩

end Go.Proofs.YtbcnkhfpogglmaaGreatDoor.M3

namespace Go.Proofs.YtbcnkhfpogglmaaGreatDoor.M3
open Go.RowKit Go.Maps
set_option linter.unusedVariables false
set_option maxRecDepth 100000

/-- The first N bytes of a word. -/
def leL (v : Int) (N : Nat) : List Int := (List.range N).map (leB v)
theorem leL_len (v : Int) (N : Nat) : (leL v N).length = N := by unfold leL; simp
theorem leL_get (v : Int) {N i : Nat} (h : i < N) : (leL v N).getD i 0 = leB v i := by unfold leL; simp [List.getD, h]
theorem leL_bytes (v : Int) (N : Nat) : Bytes255 (leL v N) := fun i hi => by
  rw [leL_len] at hi; rw [leL_get v hi]; exact leB_in v i
theorem putF_leL (m : Int → Int) (x v : Int) (N : Nat) : putF m x (leL v N) = wrN m x v N := by
  funext y
  rw [putF_eq, leL_len]
  by_cases c : x ≤ y ∧ y < x + N
  · rw [if_pos c, leL_get v (by omega)]
    have := wrN_at (m := m) (x := x) (v := v) (c := N) (i := (y - x).toNat) (by omega)
    rw [show x + ((y - x).toNat : Int) = y by omega] at this
    rw [this]; rfl
  · rw [if_neg c, wrN_out (by omega)]

/-- What Write and Put leave, out of what store leaves. -/
theorem prog_end {w w1 w2 : World} {b : Nat} {S : Nat → Prop} {base size : Int} {m : Int → Int} {e : Ending} (hb : Below w.heap.size w w1) (h : StoreEnd w1 b S base size m e w2) : ProgEnd ProgMem w b S base size m true (.returned (.bool true)) w2 := by
  obtain ⟨_, ho, S', hS, hM⟩ := h
  refine ⟨rfl, (Only.of_below S hb).trans ho, S', fun k hk => ?_, hM⟩
  rcases hS k hk with h1 | h1
  · exact .inl h1
  · exact .inr (Nat.le_trans hb.size h1)
theorem prog_no {w w1 : World} {b : Nat} {S : Nat → Prop} {base size : Int} {m : Int → Int} (h : ProgMem w b S base size m) (hb : Below w.heap.size w w1) : ProgEnd ProgMem w b S base size m false (.returned (.bool false)) w1 :=
  ⟨rfl, Only.of_below S hb, S, fun k hk => .inl hk, h.keeps (Only.of_below (fun _ => False) hb) (fun _ _ => id)⟩

set_option maxRecDepth 100000 in
set_option maxHeartbeats 2000000 in
theorem progWrite_any {w : World} {b : Nat} {S : Nat → Prop} {base size : Int} {m : Int → Int} (x n v : Int) (h : ProgMem w b S base size m) (hf : Fits base size) (hx : In64 x) (hn : In63 n) (hv : In64 v) :
    Calls Tryz.prog 26 #[.pointer (some ⟨b, 0, none⟩), .int .u64 x, .int .i64 n, .int .u64 v] w (ProgEnd ProgMem w b S base size (writeM base size m x n v) (okN n && hasZ base size x n)) := by
  have HP := Lib.hid h
  have HF := Lib.hid hf
  have HX := Lib.hid hx
  have HN := Lib.hid hn
  have HV := Lib.hid hv
  clear h hf hx hn hv
  cases hk : okN n
  · have H := Lib.hid hk
    have HE : Hid (writeM base size m x n v = m) := Lib.hid (by unfold writeM; rw [hk]; rfl)
    clear hk
    rw [HE.out, Bool.false_and]
    go_enter Tryz.func26, Tryz.ntmps26
    go_wp2_with (go_at_call 68; refine (isLength_any _ _).mono ?_; rintro e w' ⟨rfl, rfl⟩; rw [H.out])
    go_ret
    exact prog_no HP.out (Below.refl _ _)
  · rw [Bool.true_and]
    cases hz : hasZ base size x n
    · have H := Lib.hid hk
      have HZ := Lib.hid hz
      have HE : Hid (writeM base size m x n v = m) := Lib.hid (by unfold writeM; rw [hk, hz]; rfl)
      clear hk hz
      rw [HE.out]
      go_enter Tryz.func26, Tryz.ntmps26
      go_wp2_with (first
        | (go_at_call 68; refine (isLength_any _ _).mono ?_; rintro e w' ⟨rfl, rfl⟩; rw [H.out])
        | (go_at_call 36; refine (progHas_any _ _ HP.out HF.out HX.out HN.out).mono ?_; rintro e w' ⟨rfl, rfl⟩; rw [HZ.out]))
      go_ret
      exact prog_no HP.out (Below.refl _ _)
    · obtain ⟨N, rfl, hN0, hN8⟩ := okN_cases hk
      have HI := Lib.hid (hasZ_in hz hN0)
      have H := Lib.hid hk
      have HZ := Lib.hid hz
      have HE : Hid (writeM base size m x N v = wrN m x v N) := Lib.hid (by unfold writeM; rw [hk, hz]; rfl)
      clear hk hz
      rw [HE.out, ← putF_leL]
      go_enter Tryz.func26, Tryz.ntmps26
      go_wp2_with (first
        | (go_at_call 68; refine (isLength_any _ _).mono ?_; rintro e w' ⟨rfl, rfl⟩; rw [H.out])
        | (go_at_call 36; refine (progHas_any _ _ HP.out HF.out HX.out HN.out).mono ?_; rintro e w' ⟨rfl, rfl⟩; rw [HZ.out]))
      refine (littleEnd_any v HV.out _).mono ?_
      rintro e w1 ⟨rfl, hb1⟩
      have hb2 : Below w.heap.size w (w1.alloc (.cells #[.int .u8 0, .int .u8 0, .int .u8 0, .int .u8 0, .int .u8 0, .int .u8 0, .int .u8 0, .int .u8 0] 114)) := hb1.alloc hb1.size _
      have hu : HoldsU (w1.alloc (.cells #[.int .u8 0, .int .u8 0, .int .u8 0, .int .u8 0, .int .u8 0, .int .u8 0, .int .u8 0, .int .u8 0] 114)) w1.heap.size 114 8 (fun _ => 0) := heap_alloc_new w1 _
      have hsl := fun w' => run_slice_upto (w := w') Tryz.underlying114 (Tryz.sizeOf5 w') w1.heap.size N hN8 (by omega)
      have HU := Lib.hid hu
      have HU2 := Lib.hid (hu.setRow (leB v))
      have HB2 := Lib.hid (below_setRow hb2 hb1.size (uarr 8 (leB v)))
      have HSZ := Lib.hid hb1.size
      clear hu hb2 hb1
      go_wp2_with (refine wpList_store_row rfl _ _ _ rfl w1.heap.size _ rfl rfl 114 _ HU.out ?_ (by rw [uarr_size, uarr_size]) (uarr_one _ _) ?_; · exact size8.trans (by rw [uarr_size]))
      generalize ((w1.alloc (.cells #[.int .u8 0, .int .u8 0, .int .u8 0, .int .u8 0, .int .u8 0, .int .u8 0, .int .u8 0, .int .u8 0] 114)).setRow w1.heap.size (uarr 8 (leB v))) = w2 at *
      have HG : Hid (¬ S w1.heap.size) := Lib.hid (fun hs => by obtain ⟨mb, pg, hp⟩ := HP.out.parts; have := hp.ok.lt _ hs; have := HSZ.out; omega)
      have hr : ReadsIn .u8 w1.heap.size w2 (.slice (some ⟨w1.heap.size, 0, none⟩) (leL v N).length 8) (leL v N) := by
        refine ⟨_, _, rfl, by rw [leL_len]; unfold maxLen; omega, .inr ⟨0, rfl, HU2.out.lt, fun i hi => ?_⟩⟩
        rw [leL_len] at hi
        rw [leL_get v hi, Nat.zero_add]
        exact HU2.out.cell (by omega)
      have hcall := store_some x (leL v N) (HP.out.keeps (Only.of_below (fun _ => False) HB2.out) (fun _ _ => id)) HF.out HI.out.1 (by rw [leL_len]; exact HI.out.2) hr (by rw [leL_len]; exact hN8) (leL_bytes v N) HG.out
      rw [leL_len] at hcall
      refine hcall.mono ?_
      rintro e w3 hE
      obtain ⟨u, rfl⟩ := hE.1
      have HEND := Lib.hid (prog_end HB2.out hE)
      clear hE hr hcall
      go_wp2
      go_ret
      exact HEND.out

end Go.Proofs.YtbcnkhfpogglmaaGreatDoor.M3

namespace Go.Proofs.YtbcnkhfpogglmaaGreatDoor.M3
open Go.RowKit Go.Maps
set_option linter.unusedVariables false
set_option maxRecDepth 100000

theorem newProg_mem {w : World} {base size : Int} (h1 : base % 4096 = 0) (h2 : size % 4096 = 0) :
    ProgMem ((w.alloc (.map #[] 0)).alloc (.cells #[.int .u64 base, .int .u64 size, .map (some w.heap.size)] 125)) (w.heap.size + 1) (fun i => i = w.heap.size ∨ i = w.heap.size + 1) base size fun _ => 0 := by
  have hb : Below (w.alloc (.map #[] 0)).heap.size (w.alloc (.map #[] 0)) ((w.alloc (.map #[] 0)).alloc (.cells #[.int .u64 base, .int .u64 size, .map (some w.heap.size)] 125)) := (Below.refl _ _).alloc (Nat.le_refl _) _
  have hs : (w.alloc (.map #[] 0)).heap.size = w.heap.size + 1 := World.size_alloc _ _
  refine ⟨w.heap.size, fun _ => none, ?_, ⟨(PgMap.made Tryz.prog 26 w).keeps (Only.of_below (fun _ => False) hb) id, (by simp), (by simp), (by simp), .inr rfl, .inl rfl, (by omega), fun i hi => ?_⟩, fun y => ⟨Int.le_refl _, by show (0 : Int) ≤ 255; omega⟩, fun y hy => absurd rfl hy, h1, h2⟩
  · have := heap_alloc_new (w.alloc (.map #[] 0)) (.cells #[.int .u64 base, .int .u64 size, .map (some w.heap.size)] 125)
    rwa [hs] at this
  · rw [World.size_alloc, hs]; rcases hi with rfl | rfl <;> omega

set_option maxHeartbeats 1000000 in
theorem progNew_any (base size : Int) (w : World) (hb : In64 base) (hs : In64 size) :
    Calls Tryz.prog 28 #[.int .u64 base, .int .u64 size] w (ProgNew ProgMem w base size (newOk base size)) := by
  have hmm := @run_makeMap Tryz.prog
  have HB := Lib.hid hb
  have HS := Lib.hid hs
  have s0 := hs.1
  have b0 := hb.1
  have s1 := hs.2
  have b1 := hb.2
  clear hb hs
  have NO : ∀ (ww : World), newOk base size = false → Below w.heap.size w ww → ProgNew ProgMem w base size (newOk base size) (.returned (.tuple #[.pointer none, .int .i64 1])) ww := fun ww h hb => ⟨hb, .inl ⟨h, rfl⟩⟩
  have HNO := Lib.hid NO
  clear NO
  cases e1 : (base % 4096 == 0)
  · have HK : Hid (newOk base size = false) := Lib.hid (by unfold newOk; rw [decide_eq_false]; simp at e1; omega)
    have E1 := Lib.hid e1
    clear e1
    go_enter Tryz.func28, Tryz.ntmps28
    go_wp2_with (go_at_call 75; refine (isWhole_any base HB.out _).mono ?_; rintro e w' ⟨rfl, rfl⟩; rw [E1.out])
    go_ret2
    exact HNO.out _ HK.out (Below.refl _ _)
  cases e2 : (size % 4096 == 0)
  · have HK : Hid (newOk base size = false) := Lib.hid (by unfold newOk; rw [decide_eq_false]; simp at e2; omega)
    have E1 := Lib.hid e1
    have E2 := Lib.hid e2
    clear e1 e2
    go_enter Tryz.func28, Tryz.ntmps28
    go_wp2_with fail
    refine (isWhole_any base HB.out _).mono ?_
    rintro e w' ⟨rfl, rfl⟩
    rw [E1.out]
    go_wp2_with fail
    refine (isWhole_any size HS.out _).mono ?_
    rintro e w' ⟨rfl, rfl⟩
    rw [E2.out]
    go_wp2
    go_ret2
    exact HNO.out _ HK.out (Below.refl _ _)
  have E1 := Lib.hid e1
  have E2 := Lib.hid e2
  have F1 : base % 4096 = 0 := by simpa using e1
  have F2 : size % 4096 = 0 := by simpa using e2
  clear e1 e2
  by_cases c3 : size = 0
  · have HK : Hid (newOk base size = false) := Lib.hid (by unfold newOk; rw [decide_eq_false]; omega)
    subst c3
    clear F1 F2
    go_enter Tryz.func28, Tryz.ntmps28
    go_wp2_with fail
    refine (isWhole_any base HB.out _).mono ?_
    rintro e w' ⟨rfl, rfl⟩
    rw [E1.out]
    go_wp2_with fail
    refine (isWhole_any 0 HS.out _).mono ?_
    rintro e w' ⟨rfl, rfl⟩
    rw [E2.out]
    go_wp2
    go_ret2
    exact HNO.out _ HK.out (Below.refl _ _)
  have c3b : (size == 0) = false := by simpa using c3
  have F1 := Lib.hid F1
  have F2 := Lib.hid F2
  have F3 := Lib.hid c3
  clear c3
  by_cases c4 : size ≤ 67108864
  · have d1 : 0 ≤ 9223372036854775808 - size := by omega
    have d2 : 9223372036854775808 - size ≤ 18446744073709551615 := by omega
    by_cases c5 : base ≤ 9223372036854775808 - size
    · have HK : Hid (newOk base size = true) := Lib.hid (by unfold newOk; rw [decide_eq_true_eq]; have := F1.out; have := F2.out; have := F3.out; omega)
      have HEND := Lib.hid (newProg_mem (w := w) F1.out F2.out)
      clear F1 F2 F3
      go_enter Tryz.func28, Tryz.ntmps28
      go_wp2_with fail
      refine (isWhole_any base HB.out _).mono ?_
      rintro e w' ⟨rfl, rfl⟩
      rw [E1.out]
      go_wp2_with fail
      refine (isWhole_any size HS.out _).mono ?_
      rintro e w' ⟨rfl, rfl⟩
      rw [E2.out]
      go_wp2
      go_ret2
      exact ⟨((Below.refl _ _).alloc (Nat.le_refl _) _).alloc (by simp) _, .inr ⟨HK.out, w.heap.size + 1, _, rfl, by rintro i (rfl | rfl) <;> omega, HEND.out⟩⟩
    · have HK : Hid (newOk base size = false) := Lib.hid (by unfold newOk; rw [decide_eq_false]; omega)
      clear F1 F2 F3
      go_enter Tryz.func28, Tryz.ntmps28
      go_wp2_with fail
      refine (isWhole_any base HB.out _).mono ?_
      rintro e w' ⟨rfl, rfl⟩
      rw [E1.out]
      go_wp2_with fail
      refine (isWhole_any size HS.out _).mono ?_
      rintro e w' ⟨rfl, rfl⟩
      rw [E2.out]
      go_wp2
      go_ret2
      exact HNO.out _ HK.out (Below.refl _ _)
  · have HK : Hid (newOk base size = false) := Lib.hid (by unfold newOk; rw [decide_eq_false]; omega)
    clear F1 F2 F3
    go_enter Tryz.func28, Tryz.ntmps28
    go_wp2_with fail
    refine (isWhole_any base HB.out _).mono ?_
    rintro e w' ⟨rfl, rfl⟩
    rw [E1.out]
    go_wp2_with fail
    refine (isWhole_any size HS.out _).mono ?_
    rintro e w' ⟨rfl, rfl⟩
    rw [E2.out]
    go_wp2
    go_ret2
    exact HNO.out _ HK.out (Below.refl _ _)

end Go.Proofs.YtbcnkhfpogglmaaGreatDoor.M3

namespace Go.Proofs.YtbcnkhfpogglmaaGreatDoor.M3
open Go.RowKit Go.Maps
set_option linter.unusedVariables false
set_option maxRecDepth 100000

/-- m without the pages that are still to come. -/
def maskM (left : Lit → Bool) (m : Int → Int) (y : Int) : Int := if left (.int .u64 (y / 4096)) = true then 0 else m y

/-- What Twin leaves. -/
def ProgTwin (w : World) (base size : Int) (m : Int → Int) (e : Ending) (w' : World) : Prop :=
  Below w.heap.size w w' ∧ ∃ b' S', e = .returned (.pointer (some ⟨b', 0, none⟩)) ∧ (∀ i, S' i → w.heap.size ≤ i) ∧ ProgMem w' b' S' base size m

theorem PgOk.keeps {w w' : World} {b mb : Nat} {S T : Nat → Prop} {m : Int → Int} {pg : Int → Option Nat} (h : PgOk w b mb S m pg) (o : Only T w w') (hs : ∀ i, S i → ¬ T i) : PgOk w' b mb S m pg :=
  ⟨h.map.keeps o (hs _ h.smb), fun q g e => by
    obtain ⟨k1, k2, k3⟩ := h.page q g e
    exact ⟨o.keeps (hs _ k2) k1, k2, k3⟩, h.gone, h.inj, h.sb, h.smb, h.ne, fun i hi => Nat.lt_of_lt_of_le (h.lt i hi) o.size⟩

theorem sameKey_u64 (a b : Int) : (Lit.int .u64 a).sameKey (.int .u64 b) = (a == b) := by rw [Bool.eq_iff_iff]; simp [Lit.sameKey]
theorem maskM_page (left : Lit → Bool) (m : Int → Int) (x : Int) (k : Nat) (hk : k < 4096) : maskM (fun z => left z && !z.sameKey (.int .u64 x)) m (x * 4096 + k) = m (x * 4096 + k) := by
  unfold maskM
  rw [show (x * 4096 + (k : Int)) / 4096 = x by omega]
  simp [sameKey_u64]

/-- Between two rounds. -/
def Twinning (w wr : World) (mb r n : Nat) (D : DataW Unit) (bt mt : Nat) (base size : Int) (m : Int → Int) (left : Lit → Bool) (cnt : Nat) : Prop :=
  wr.ranges Tryz.prog 26 ptrElem mb r n D left cnt ∧ Below w.heap.size w wr ∧ wr.heap[bt]? = some (.cells #[.int .u64 base, .int .u64 size, .map (some mt)] 125 (0, 0)) ∧
  ∃ S' pt, PgOk wr bt mt S' (maskM left m) pt ∧ (∀ k, S' k → w.heap.size ≤ k) ∧ ¬ S' r

/-- What is read of an entry that has come. -/
theorem entry_is {D : DataW Unit} {pg : Int → Option Nat} (h2 : ∀ q, D.atKey (.int .u64 q) (encP none) = encP (pg q)) (h3 : ∀ kl, Maps.has D kl = true → ∃ q, In64 q ∧ kl = .int .u64 q ∧ pg q ≠ none)
    {x : Int} {c : Option Nat} {kl : Lit} {y : DataW Unit × List MemPlace} (hkey : keyOf Tryz.prog 26 (.int .u64 x) = some kl) (hv : ptrElem (ptrTo c) = some y) (hat : ∀ zd, D.atKey kl zd = y.1) :
    In64 x ∧ kl = .int .u64 x ∧ ∃ g, c = some g ∧ pg x = some g := by
  obtain ⟨x', e1, rfl, hw⟩ := Maps.keyOf_int_inv Tryz.underlying26 hkey
  injection e1 with _ e1
  subst e1
  rw [ptrElem_to] at hv
  cases hv
  have e2 : pg x = c := encP_inj ((h2 x).symm.trans (hat _))
  obtain ⟨q, _, e3, e4⟩ := h3 _ (Maps.has_true_of_atKey hat)
  injection e3 with _ e3
  subst e3
  refine ⟨wf_u64_in hw, rfl, ?_⟩
  cases c with
  | none => exact absurd e2 e4
  | some g => exact ⟨g, rfl, e2⟩

theorem mask_start {w : World} {b mb : Nat} {S : Nat → Prop} {base size : Int} {m : Int → Int} {pg : Int → Option Nat} (hp : Parts w b mb S base size m pg) {D : DataW Unit} (h2 : ∀ q, D.atKey (.int .u64 q) (encP none) = encP (pg q)) (y : Int) : (0 : Int) = maskM (Maps.has D) m y := by
  unfold maskM
  cases e : Maps.has D (.int .u64 (y / 4096)) with
  | true => rw [if_pos rfl]
  | false =>
    have := Maps.atKey_of_not_has (H := Unit) (D := D) e (encP none)
    rw [h2] at this
    have h0 := hp.ok.gone _ (encP_inj this) (y % 4096).toNat (by omega)
    rw [show y / 4096 * 4096 + ((y % 4096).toNat : Int) = y by omega] at h0
    rw [h0]; rfl

/-- A page has been copied. -/
theorem Twinning.next {w w1 w4 : World} {b mb r n bt mt : Nat} {S : Nat → Prop} {base size : Int} {m : Int → Int} {pg : Int → Option Nat} {D : DataW Unit} {left : Lit → Bool} {cnt1 g0 : Nat} {x : Int} {S' : Nat → Prop} {pt : Int → Option Nat}
    (hp : Parts w1 b mb S base size m pg) (hok : PgOk w1 bt mt S' (maskM left m) pt) (hS : ∀ k, S' k → w.heap.size ≤ k) (hr : ¬ S' r) (hb1 : Below w.heap.size w w1) (hlk : left (.int .u64 x) = true) (e : pg x = some g0)
    (o4 : Only (fun k => k = mt) w1 w4) (hmap : PgMap Tryz.prog 26 w4 mt fun y => if y = x then some w1.heap.size else pt y) (hpage : PageAt w4 w1.heap.size m x)
    (hbt : w1.heap[bt]? = some (.cells #[.int .u64 base, .int .u64 size, .map (some mt)] 125 (0, 0))) (hrl : r < w1.heap.size) (hmb : mb < w.heap.size)
    (hrg : w1.ranges Tryz.prog 26 ptrElem mb r n D (fun z => left z && !z.sameKey (.int .u64 x)) cnt1) :
    Twinning w w4 mb r n D bt mt base size m (fun z => left z && !z.sameKey (.int .u64 x)) cnt1 := by
  have hmt : mt ≠ mb := by have := hS _ hok.smb; omega
  have hmr : mt ≠ r := fun h => hr (h ▸ hok.smb)
  have hg4 : w1.grownBy w4 (some mt) := ⟨o4.os, o4.tape, o4.output, o4.size, fun i hi hn => o4.block i hi (fun h => hn (by rw [h]))⟩
  refine ⟨hrg.kept hg4 (by simpa using hmt.symm) (by simpa using hmr.symm), hb1.trans (o4.below (by rintro k rfl; exact hS _ hok.smb) hb1.size), o4.keeps (fun h => hok.ne h.symm) hbt, _, _, PgOk.laid hok ?_ o4 (Nat.le_refl _) hmap (PageAt.congr hpage fun k hk => ?_) ?_ (fun y hy => ?_), ?_, ?_⟩
  · cases e2 : pt x with
    | none => rfl
    | some g =>
      obtain ⟨_, _, _, _, k, hk, hne⟩ := hok.page x g e2
      refine absurd ?_ hne
      unfold maskM
      rw [show (x * 4096 + (k : Int)) / 4096 = x by omega, if_pos hlk]
  · exact (maskM_page left m x k hk).symm
  · obtain ⟨_, _, _, _, k, hk, hne⟩ := hp.ok.page x g0 e
    exact ⟨k, hk, by rw [maskM_page left m x k hk]; exact hne⟩
  · unfold maskM
    have : (y / 4096 == x) = false := by rw [beq_eq_false_iff_ne]; omega
    simp only [sameKey_u64, this, Bool.not_false, Bool.and_true]
  · rintro k (hk | rfl)
    · exact hS k hk
    · exact hb1.size
  · rintro (hk | hk)
    · exact hr hk
    · omega

theorem PgMap.len {P : Program} {t k e : TypeId} {w : World} {mb : Nat} {pg : Int → Option Nat} (h : PgMap P k w mb pg) (T : PgT P t k e) : ∃ sz : Nat, ∀ (w' : World) ty, w'.heap[mb]? = w.heap[mb]? → (Builtin.len_ #[t] ty #[.map (some mb)]).run P w' = .ok (.int .i64 sz) w' := by
  obtain ⟨n, D, ⟨es, clock, hb, r⟩, _⟩ := h
  exact ⟨_, fun w' ty e => World.ownsMap.len (w := w') ⟨es, clock, by rw [e]; exact hb, r⟩ T.ht ty⟩

set_option maxRecDepth 100000 in
set_option maxHeartbeats 4000000 in
theorem progTwin_any {w : World} {b : Nat} {S : Nat → Prop} {base size : Int} {m : Int → Int} (h : ProgMem w b S base size m) (hf : Fits base size) :
    Calls Tryz.prog 47 #[.pointer (some ⟨b, 0, none⟩)] w (ProgTwin w base size m) := by
  obtain ⟨mb, pg, hp⟩ := h.parts
  obtain ⟨c0, c1, c2⟩ := ram_cells hp.row
  obtain ⟨sz, hlen⟩ := hp.ok.map.len pgT
  have hmk : ∀ w, (Instr.makeMap 122 (some (.int .i64 sz))).run Tryz.prog w = .ok (.map (some w.heap.size)) (w.alloc (.map #[] 0)) := fun w => by
    simp [Instr.makeMap, run_underlying Tryz.underlying122, asInt, asIntOf, newObj, Result.andThen]
    rfl
  have HL := Lib.hid hlen
  have hmbl : mb < w.heap.size := hp.ok.lt mb hp.ok.smb
  have hL0 : (Builtin.len_ #[122] 3 #[.map (some mb)]).run Tryz.prog w.drew = .ok (.int .i64 sz) w.drew := hlen _ _ rfl
  have hL1 : ∀ o, (Builtin.len_ #[122] 3 #[.map (some mb)]).run Tryz.prog (w.alloc o).drew = .ok (.int .i64 sz) (w.alloc o).drew := fun o => hlen _ _ (Below.heap_alloc w o mb hmbl)
  have hL2 : ∀ o o', (Builtin.len_ #[122] 3 #[.map (some mb)]).run Tryz.prog ((w.alloc o).alloc o').drew = .ok (.int .i64 sz) ((w.alloc o).alloc o').drew := fun o o' => hlen _ _ ((Below.heap_alloc _ o' mb (by simp; omega)).trans (Below.heap_alloc w o mb hmbl))
  clear hmbl
  have HP := Lib.hid hp
  have HF := Lib.hid hf
  clear h hp hf hlen
  go_enter Tryz.func47, Tryz.ntmps47
  go_wp2_with fail
  go_region_held3 (fun w' => w'.cell? ⟨b, 0, none⟩ = some (.int .u64 base) ∧ w'.cell? ⟨b, 1, none⟩ = some (.int .u64 size) ∧ w'.cell? ⟨b, 2, none⟩ = some (.map (some mb)) ∧ (Builtin.len_ #[122] 3 #[.map (some mb)]).run Tryz.prog w' = .ok (.int .i64 sz) w')
    (go_keep)
    (fail)
  rename (_ ∧ _ ∧ _ ∧ _) => hheld
  clear hheld hL0 hL1 hL2 HL hmk c0 c1 c2
  have hb3 : Below w.heap.size w (((w.alloc (.map #[] 0)).alloc (.cells #[.int .u64 base, .int .u64 size, .map (some w.heap.size)] 125)).drew) := (((Below.refl _ _).alloc (Nat.le_refl _) _).alloc (by simp) _).drew
  obtain ⟨mb', pt0, hrow3, hok3, hrest3⟩ : ProgMem (((w.alloc (.map #[] 0)).alloc (.cells #[.int .u64 base, .int .u64 size, .map (some w.heap.size)] 125)).drew) (w.heap.size + 1) (fun i => i = w.heap.size ∨ i = w.heap.size + 1) base size (fun _ => 0) := (newProg_mem (w := w) HP.out.al1 HP.out.al2).keeps (Only.refl (fun _ => False) _ |>.drewN 1) (fun _ _ => id)
  generalize (((w.alloc (.map #[] 0)).alloc (.cells #[.int .u64 base, .int .u64 size, .map (some w.heap.size)] 125)).drew) = w3 at *
  have hp3 := HP.out.below hb3
  obtain ⟨c0, c1, c2⟩ := ram_cells hp3.row
  obtain ⟨n, D, hown, h2, h3⟩ := hp3.ok.map
  have HB3 := Lib.hid hb3
  have HROW := Lib.hid hrow3
  have HOK := Lib.hid hok3
  have HP3 := Lib.hid hp3
  have H2 := Lib.hid h2
  have H3 := Lib.hid h3
  clear hb3 hrow3 hok3 hp3 h2 h3 hrest3
  go_wp2_with (at_range; refine wpList_range_own _ rfl _ 122 rfl 26 123 (int_keyed Tryz.underlying26) Tryz.underlying122 ptrElem mb n D rfl hown ?_; intro w0 hrg0 hg0 hs0)
  try go_frame
  have hstart : Twinning w w0 mb w3.heap.size n D (w.heap.size + 1) mb' base size m (Maps.has D) (Maps.size D) := by
    have hsz := HB3.out.size
    have ob : Only (fun _ => False) w3 w0 := ⟨hg0.os, hg0.tape, hg0.output, hg0.size, fun i hi _ => hg0.block i hi (by simp)⟩
    refine ⟨hrg0, HB3.out.trans (ob.below (fun _ h => h.elim) hsz), ob.keeps id HROW.out, _, pt0, (PgOk.keeps HOK.out ob (fun _ _ => id)).congr fun y => mask_start HP3.out H2.out y, ?_, ?_⟩
    · rintro k (rfl | rfl) <;> omega
    · intro hk
      have := HOK.out.lt _ hk
      omega
  have HST := Lib.hid hstart
  clear hstart hrg0 hg0 hs0
  go_loopw [4] (fun _ wr => ∃ left cnt, Twinning w wr mb w3.heap.size n D (w.heap.size + 1) mb' base size m left cnt) (fun _ wr => wr.rangeLeft mb w3.heap.size)
  case atStart => exact ⟨_, _, HST.out⟩
  case round =>
    obtain ⟨left, cnt, hrg, hbel, hbt, S', pt, hok, hS', hr'⟩ := hrel
    have HBT := Lib.hid hbt
    have HBEL := Lib.hid hbel
    have HOK1 := Lib.hid hok
    have HS1 := Lib.hid hS'
    have HR1 := Lib.hid hr'
    clear hbt hbel hok hS' hr'
    go_wp2_with (at_next; refine wpList_next_ranges _ rfl _ rfl 26 (int_keyed Tryz.underlying26) ptrElem (Value.int .u64) ptrTo (fun key kl hk => (by obtain ⟨x, hx, _⟩ := Maps.keyOf_int_inv Tryz.underlying26 hk; exact ⟨x, hx⟩)) (fun v y hv => (by obtain ⟨o, ho, _⟩ := ptrElem_inv hv; exact ⟨o, ho⟩)) mb w3.heap.size n D left cnt rfl hrg ?_ ?_)
    · intro h0 hl0
      have hm : maskM left m = m := by funext y; unfold maskM; rw [hl0]; rfl
      have HEND : Hid (ProgTwin w base size m (.returned (.pointer (some ⟨w.heap.size + 1, 0, none⟩))) wr) := by
        have hok := HOK1.out
        rw [hm] at hok
        exact Lib.hid ⟨HBEL.out, _, S', rfl, HS1.out, mb', pt, HBT.out, hok, HP.out.bytey, HP.out.sup, HP.out.al1, HP.out.al2⟩
      clear h0 hl0 hm hrg
      go_wp2
      go_ret
      exact HEND.out
    · intro x c kl yd yp w1 cnt1 hkey hlk hv hat hrg1 hlt hg1 hs1 hen
      obtain ⟨hx64, rfl, g0, rfl, epg⟩ := entry_is H2.out H3.out hkey hv hat
      simp only [ptrTo] at hen ⊢
      have ob1 : Only (fun k => k = w3.heap.size) wr w1 := ⟨hg1.os, hg1.tape, hg1.output, hg1.size, fun i hi hn => hg1.block i hi (fun h => hn (by injection h))⟩
      have hsz3 := HB3.out.size
      have hb1 : Below w.heap.size w w1 := HBEL.out.trans (ob1.below (by rintro k rfl; exact hsz3) HBEL.out.size)
      have hp1 := HP.out.below hb1
      have hpage : HoldsU w1 g0 138 4096 (fun k => m (x * 4096 + k)) := (hp1.ok.page x g0 epg).1
      have hok1 := HOK1.out.keeps ob1 (fun i hi h => HR1.out (h ▸ hi))
      have hbt1 := ob1.keeps (fun h => HR1.out (h ▸ HOK1.out.sb)) HBT.out
      have hnewb : HoldsU (w1.alloc (.cells Tryz.zeroCells138 138)) w1.heap.size 138 4096 (fun _ => 0) := by
        show _ = _
        rw [heap_alloc_new, zero4096]
      have hb2 : Below w1.heap.size w1 (w1.alloc (.cells Tryz.zeroCells138 138)) := (Below.refl _ _).alloc (Nat.le_refl _) _
      have hrow2 := hnewb.setRow (fun k => m (x * 4096 + k))
      have hb2' : Below w1.heap.size w1 ((w1.alloc (.cells Tryz.zeroCells138 138)).setRow w1.heap.size (uarr 4096 fun k => m (x * 4096 + k))) := below_setRow hb2 (Nat.le_refl _) _
      have ho2 := Only.of_below (fun _ => False) hb2'
      have hbt2 := ho2.keeps id hbt1
      obtain ⟨e0, e1, e2⟩ := ram_cells hbt2
      have hok2 := hok1.keeps ho2 (fun _ _ => id)
      have hNp : ∀ q, pt q ≠ none → base / 4096 ≤ q ∧ q < base / 4096 + (16384 : Nat) := pages_in hok1 HF.out (fun y hy => HP.out.sup y (fun h0 => hy (by unfold maskM; split <;> first | rfl | exact h0))) HP.out.al1 HP.out.al2
      obtain ⟨w4, hput, hmap4, hturn⟩ := hok2.map.put pgT hNp (by unfold maxLen; omega) hx64 w1.heap.size
      have HNB := Lib.hid hnewb
      have HPG := Lib.hid hpage
      have HNX : Hid (Twinning w w4 mb w3.heap.size n D (w.heap.size + 1) mb' base size m (fun z => left z && !z.sameKey (.int .u64 x)) cnt1) := by
        have o4 := mapTurned_only (S := fun k => k = mb') hturn rfl
        have hlt1 : w1.heap.size ≠ mb' := by have := hok1.lt _ hok1.smb; omega
        refine Lib.hid (Twinning.next hp1 hok1 HS1.out HR1.out hb1 hlk epg ((Only.of_below (fun k => k = mb') hb2').trans o4) hmap4 ?_ hbt1 ?_ ?_ hrg1)
        · exact HoldsU.keeps hrow2 o4 hlt1
        · have := hrg.lt; have := hg1.size; omega
        · exact HP.out.ok.lt _ HP.out.ok.smb
      have HLT := Lib.hid hlt
      have HLE := Lib.hid hrg.left_eq
      clear hkey hlk hv hat hrg1 hlt hg1 hs1 ob1 hsz3 hb1 hp1 hpage hok1 hbt1 hnewb hb2 hrow2 hb2' ho2 hbt2 hok2 hNp hmap4 hturn hrg epg
      go_wp2_with (first
        | (refine wpList_load_u rfl _ _ rfl g0 rfl 138 4096 (fun k => m (x * 4096 + k)) 5 HPG.out Tryz.underlying138 size4096 ?_)
        | (refine wpList_store_row rfl _ _ _ rfl w1.heap.size _ rfl rfl 138 _ HNB.out ?_ (by rw [uarr_size, uarr_size]) (uarr_one _ _) ?_; · exact size4096.trans (by rw [uarr_size])))
      refine ⟨⟨_, _, HNX.out⟩, ?_⟩
      rw [HNX.out.1.left_eq, HLE.out]
      exact HLT.out

end Go.Proofs.YtbcnkhfpogglmaaGreatDoor.M3

namespace Go.Proofs.YtbcnkhfpogglmaaGreatDoor.M3
open Go.RowKit Go.Maps Go.Sort Go.Shelf
set_option linter.unusedVariables false
set_option maxRecDepth 100000

/-- What has come so far: no number twice; those of the map that are no longer to come. -/
def CollU (D : DataW Unit) (left : Lit → Bool) (ss : List Int) : Prop := ss.Nodup ∧ ∀ x, x ∈ ss ↔ Maps.has D (.int .u64 x) = true ∧ left (.int .u64 x) = false
theorem CollU.start (D : DataW Unit) : CollU D (Maps.has D) [] := ⟨List.nodup_nil, fun x => by cases Maps.has D (.int .u64 x) <;> simp⟩
theorem CollU.step {D : DataW Unit} {left : Lit → Bool} {ss : List Int} (h : CollU D left ss) {x : Int} (hh : Maps.has D (.int .u64 x) = true) (hl : left (.int .u64 x) = true) : CollU D (fun z => left z && !z.sameKey (.int .u64 x)) (ss ++ [x]) := by
  have hn : x ∉ ss := fun hx => by have := ((h.2 x).1 hx).2; rw [hl] at this; cases this
  refine ⟨List.nodup_append.2 ⟨h.1, by simp, fun a ha b hb => ?_⟩, fun y => ?_⟩
  · simp only [List.mem_singleton] at hb
    subst hb
    exact fun e => hn (e ▸ ha)
  · by_cases c : y = x
    · subst c; simp [hh, sameKey_u64]
    · have e : (y == x) = false := by simpa using c
      simp [h.2 y, sameKey_u64, e, c]
/-- All numbers of the map, each once. -/
def AllU (D : DataW Unit) (ss : List Int) : Prop := ss.Nodup ∧ ∀ x, x ∈ ss ↔ Maps.has D (.int .u64 x) = true

end Go.Proofs.YtbcnkhfpogglmaaGreatDoor.M3

namespace Go.Proofs.YtbcnkhfpogglmaaGreatDoor.M3
open Go.RowKit Go.Maps Go.Sort
set_option linter.unusedVariables false
set_option maxRecDepth 100000

/-- Block g holds those numbers, in an array of cap words. -/
def RowN (w : World) (g : Nat) (xs : List Int) (cap : Nat) : Prop :=
  ∃ cur, w.heap[g]? = some (.cells cur 26 (0, 0)) ∧ cur.size = cap ∧ xs.length ≤ cap ∧ cap ≤ maxLen ∧ ∀ i, i < xs.length → cur[i]? = some (.int .u64 (xs.getD i 0))
theorem RowN.cell {w : World} {g cap : Nat} {xs : List Int} (h : RowN w g xs cap) {i : Nat} (hi : i < xs.length) : w.cell? ⟨g, i, none⟩ = some (.int .u64 (xs.getD i 0)) := by
  obtain ⟨cur, h1, _, _, _, h2⟩ := h
  rw [cell_of_row w g i _ _ _ h1]; exact h2 i hi
theorem RowN.frozen {w : World} {g cap : Nat} {xs : List Int} (h : RowN w g xs cap) (i : Nat) : w.frozen? ⟨g, i, none⟩ = false := by
  obtain ⟨cur, h1, _⟩ := h; exact frozen_of_row w g i _ _ h1
theorem RowN.set {w : World} {g cap : Nat} {xs : List Int} (h : RowN w g xs cap) (k : Nat) (v : Int) : RowN (w.setCell ⟨g, k, none⟩ (.int .u64 v)) g (xs.set k v) cap := by
  obtain ⟨cur, h1, h2, h3, h4, h5⟩ := h
  refine ⟨_, heap_setCell_same w g k cur _ _ h1, by simpa using h2, by simpa using h3, h4, fun i hi => ?_⟩
  have hi' : i < xs.length := by simpa using hi
  by_cases e : k = i
  · subst e
    have : k < cur.size := by omega
    simp [List.getD, hi', this]
  · rw [Array.getElem?_setIfInBounds_ne (by omega), h5 i hi']
    simp [List.getD, List.getElem?_set, e]
theorem RowN.own {w : World} {g cap B : Nat} {xs : List Int} (h : RowN w g xs cap) (hB : B ≤ g) : w.ownsRow B 26 1 (.slice (some ⟨g, 0, none⟩) xs.length cap) xs.length (xs.map (Value.int .u64)) := by
  obtain ⟨cur, h1, h2, h3, h4, h5⟩ := h
  refine ⟨by simp, .inr ⟨g, cap, cur, rfl, hB, h1, h3, h4, by omega, ?_⟩⟩
  apply List.ext_getElem?
  intro i
  rw [List.getElem?_take]
  by_cases c : i < xs.length
  · rw [if_pos (by omega), Array.getElem?_toList, h5 i c]
    simp [List.getD, c]
  · rw [if_neg (by omega), List.getElem?_eq_none (by rw [List.length_map]; omega)]

/-- What Sorted leaves. -/
def SortedEnd (w : World) (D : DataW Unit) (e : Ending) (w' : World) : Prop :=
  Below w.heap.size w w' ∧ ∃ ss, AllU D ss ∧ ((ss = [] ∧ e = .returned (.slice none 0 0)) ∨ ∃ g cap, e = .returned (.slice (some ⟨g, 0, none⟩) ss.length cap) ∧ w.heap.size ≤ g ∧ RowN w' g (sortedOf ss) cap)

/-- The numbers of the map are those of the pages that are not all 0. -/
theorem has_page {w : World} {b mb : Nat} {S : Nat → Prop} {base size : Int} {m : Int → Int} {pg : Int → Option Nat} (hp : Parts w b mb S base size m pg) {D : DataW Unit} (h2 : ∀ q, D.atKey (.int .u64 q) (encP none) = encP (pg q))
    (h3 : ∀ kl, Maps.has D kl = true → ∃ q, In64 q ∧ kl = .int .u64 q ∧ pg q ≠ none) (q : Int) : Maps.has D (.int .u64 q) = true ↔ ∃ y, ¬ m y = 0 ∧ y / 4096 = q := by
  constructor
  · intro h
    obtain ⟨q', _, e, hne⟩ := h3 _ h
    injection e with _ e
    subst e
    cases e2 : pg q with
    | none => exact absurd e2 hne
    | some g =>
      obtain ⟨_, _, _, _, i, hi, hy⟩ := hp.ok.page q g e2
      exact ⟨_, hy, by omega⟩
  · rintro ⟨y, hy, rfl⟩
    cases e : Maps.has D (.int .u64 (y / 4096)) with
    | true => rfl
    | false =>
      have := Maps.atKey_of_not_has (H := Unit) (D := D) e (encP none)
      rw [h2] at this
      have h0 := hp.ok.gone _ (encP_inj this) (y % 4096).toNat (by omega)
      rw [show y / 4096 * 4096 + ((y % 4096).toNat : Int) = y by omega] at h0
      exact absurd h0 hy

/-- The first k of them are multiplied. -/
def mulTo (ys : List Int) (k : Nat) : List Int := (List.range ys.length).map fun i => if i < k then ys.getD i 0 * 4096 else ys.getD i 0
end Go.Proofs.YtbcnkhfpogglmaaGreatDoor.M3

namespace Go.Proofs.YtbcnkhfpogglmaaGreatDoor.M3
open Go.RowKit Go.Maps
set_option linter.unusedVariables false
set_option maxRecDepth 100000

section
variable {P : Program} {ops : Array Oper} {rest : List Oper} {o : Oper} {a : Act} {w : World} {Q : Act → Prop}
theorem wpStill_load_u (hw : Region.wanted o (yielded ops a.tmps) = true) (ty : TypeId) (x : Operand) (ho : o.op = .load ty x) (g : Nat) (hx : a.eval x = .pointer (some ⟨g, 0, none⟩)) (t : TypeId) (n : Nat) (f : Nat → Int) (e : TypeId)
    (hg : w.heap[g]? = some (.cells (uarr n f) t (0, 0))) (hu : P.underlying ty = some (.array n e)) (hi : (P.info? ty).map (·.size) = some n) (h : wpStill P ops w Q rest (a.put o.dst (.agg (uarr n f)))) : wpStill P ops w Q (o :: rest) a := by
  simp only [wpStill, hw, if_true]
  unfold Oper.still execOp
  simp only [ho, hx, Instr.loadAt, Instr.sureAddr, Sem.run_bind, Sem.run_pure, Result.andThen_ok, run_loadVar_row w g t ty (uarr n f) (0, 0) (.array n e) hg hu rfl (by rw [uarr_size]; exact hi)]
  exact ⟨rfl, h⟩
theorem wpStill_eql_u (hw : Region.wanted o (yielded ops a.tmps) = true) (t ty : TypeId) (x y : Operand) (ho : o.op = .binOp .eql t x y ty) (e : TypeId) (n : Nat) (f g : Nat → Int)
    (hx : a.eval x = .agg (uarr n f)) (hy : a.eval y = .agg (uarr n g)) (ht : P.underlying t = some (.array n e)) (hs : (sizeOf e).run P w = .ok 1 w) (ha : (isAgg e).run P w = .ok false w) (he : P.underlying e = some (.int .u8))
    (hm : P.eqGuardType P.depth t = false) (h : wpStill P ops w Q rest (a.put o.dst (.bool (alike n f g)))) : wpStill P ops w Q (o :: rest) a := by
  simp only [wpStill, hw, if_true]
  unfold Oper.still execOp
  simp only [ho, hx, hy, Sem.run_bind, run_eqGuard_agg w .eql t x y _ _ hm, run_eql_bytes w ht hs ha he f g, Result.andThen_ok, Sem.run_pure]
  exact ⟨rfl, h⟩
end

set_option maxRecDepth 100000 in
set_option maxHeartbeats 1000000 in
theorem samePage_any {w : World} {g g' : Nat} {f f' : Nat → Int} (h : HoldsU w g 138 4096 f) (h' : HoldsU w g' 138 4096 f') :
    Calls Tryz.prog 94 #[.pointer (some ⟨g, 0, none⟩), .pointer (some ⟨g', 0, none⟩)] w fun e w' => e = .returned (.bool (alike 4096 f f')) ∧ w' = w.drew := by
  have H := Lib.hid h
  have H' := Lib.hid h'
  clear h h'
  go_enter Tryz.func94, Tryz.ntmps94
  go_wp2_with fail
  refine wp_region_still_lit (by kernel_rfl) (by kernel_rfl) ?_
  still_step
  still_step
  refine wpStill_load_u rfl _ _ rfl g rfl 138 4096 f 5 H.out Tryz.underlying138 size4096 ?_
  still_step
  still_step
  refine wpStill_load_u rfl _ _ rfl g' rfl 138 4096 f' 5 H'.out Tryz.underlying138 size4096 ?_
  refine wpStill_eql_u rfl 138 _ _ _ rfl 5 4096 f f' rfl rfl Tryz.underlying138 (Tryz.sizeOf5 _) (Tryz.isAgg5 _) Tryz.underlying5 guard4096 ?_
  still_step
  refine wpStill_nil ?_
  go_wp2
  go_ret
  exact ⟨rfl, rfl⟩

theorem PgMap.look_ok {P : Program} {t k e : TypeId} {w : World} {mb : Nat} {pg : Int → Option Nat} (h : PgMap P k w mb pg) (T : PgT P t k e) {q : Int} (hq : In64 q) :
    (Instr.lookup t (.map (some mb)) (.int .u64 q) true).run P w = .ok (.tuple #[ptrTo (pg q), .bool (pg q).isSome]) w := by
  obtain ⟨n, D, h1, h2, h3⟩ := h
  obtain ⟨v, ps, hr, hv⟩ := h1.look_ok (int_keyed T.hk) T.ht (T.hz w) (ptrElem_to none) (keyOf_int_mk T.hk (wf_u64 hq))
  obtain ⟨o, rfl, ho⟩ := ptrElem_inv hv
  injection ho with ho _
  rw [h2 q] at ho
  have e := encP_inj ho
  rw [hr, e]
  have : Maps.has D (.int .u64 q) = o.isSome := by
    cases c : Maps.has D (.int .u64 q) with
    | true =>
      obtain ⟨q', _, e1, hne⟩ := h3 _ c
      injection e1 with _ e1
      subst e1
      rw [e] at hne
      cases o with
      | none => exact absurd rfl hne
      | some g => rfl
    | false =>
      have := Maps.atKey_of_not_has (H := Unit) (D := D) c (encP none)
      rw [h2 q, e] at this
      cases o with
      | none => rfl
      | some g => exact absurd (encP_inj this) (by simp)
  rw [this]

theorem nodup_sub {l1 l2 : List Int} (h : l1.Nodup) (hs : ∀ x ∈ l1, x ∈ l2) : l1.length ≤ l2.length := by
  induction l1 generalizing l2 with
  | nil => simp
  | cons a l1 ih =>
    rw [List.nodup_cons] at h
    have h1 := List.length_erase_of_mem (hs a (by simp))
    have h2 := ih (l2 := l2.erase a) h.2 fun x hx => (List.mem_erase_of_ne (fun e => h.1 (by rw [← e]; exact hx))).2 (hs x (by simp [hx]))
    have h3 := List.length_pos_of_mem (hs a (by simp))
    simp only [List.length_cons]
    omega
theorem nodup_all {l1 l2 : List Int} (h : l1.Nodup) (hs : ∀ x ∈ l1, x ∈ l2) (hl : l2.length ≤ l1.length) : ∀ x ∈ l2, x ∈ l1 := by
  intro x hx
  by_cases c : x ∈ l1
  · exact c
  · have := nodup_sub (l1 := x :: l1) (l2 := l2) (List.nodup_cons.2 ⟨c, h⟩) fun y hy => by
      rcases List.mem_cons.1 hy with rfl | hy
      · exact hx
      · exact hs y hy
    simp only [List.length_cons] at this
    omega

/-- A map's numbers as a list, as long as the map. -/
theorem keys_list {w : World} {mb n : Nat} {D : DataW Unit} (h : w.ownsMap Tryz.prog 26 ptrElem mb n D) (h3 : ∀ kl, Maps.has D kl = true → ∃ q, kl = .int .u64 q) : ∃ ss, AllU D ss ∧ ss.length = Maps.size D := by
  obtain ⟨l, rfl, hp, hk⟩ := h.entries (int_keyed Tryz.underlying26)
  have hkey : ∀ p ∈ l, ∃ q, p.1 = .int .u64 q := fun p hpm => h3 p.1 (by
    show (l.any fun r => r.1.sameKey p.1) = true
    rw [List.any_eq_true]
    exact ⟨p, hpm, WideAt.sameKey_self (hk p hpm)⟩)
  let f : Lit × DataW Unit → Int := fun p => match p.1 with | .int _ q => q | _ => 0
  refine ⟨l.map f, ⟨?_, fun x => ?_⟩, by simp [Maps.size]⟩
  · rw [List.Nodup, List.pairwise_map]
    refine List.Pairwise.imp_of_mem ?_ hp
    intro a b ha hb hne he
    obtain ⟨q1, e1⟩ := hkey a ha
    obtain ⟨q2, e2⟩ := hkey b hb
    apply hne
    simp only [f, e1, e2] at he
    rw [e1, e2, he]
  · rw [List.mem_map]
    show _ ↔ (l.any fun r => r.1.sameKey (.int .u64 x)) = true
    rw [List.any_eq_true]
    constructor
    · rintro ⟨p, hpm, rfl⟩
      obtain ⟨q, e⟩ := hkey p hpm
      exact ⟨p, hpm, by simp only [f, e]; rw [sameKey_u64]; simp⟩
    · rintro ⟨p, hpm, hs⟩
      obtain ⟨q, e⟩ := hkey p hpm
      rw [e, sameKey_u64] at hs
      exact ⟨p, hpm, by simp only [f, e]; simpa using hs⟩

end Go.Proofs.YtbcnkhfpogglmaaGreatDoor.M3
namespace Go.Proofs.YtbcnkhfpogglmaaGreatDoor.M3
open Go.RowKit Go.Maps
set_option linter.unusedVariables false

/-- What is told of two memories that are the same or not. -/
def SameTold (w : World) (p : Prop) (e : Ending) (w' : World) : Prop := Below w.heap.size w w' ∧ ∃ r : Bool, e = .returned (.bool r) ∧ (r = true ↔ p)

/-- The pages that have been asked for are alike. -/
def Alikes (D : DataW Unit) (left : Lit → Bool) (pb : Int → Option Nat) (ma mb : Int → Int) : Prop :=
  ∀ q, Maps.has D (.int .u64 q) = true → left (.int .u64 q) = false → pb q ≠ none ∧ ∀ k : Nat, k < 4096 → ma (q * 4096 + k) = mb (q * 4096 + k)

set_option maxRecDepth 100000 in
set_option maxHeartbeats 4000000 in
theorem equalFunc_any {w : World} {b1 m1 b2 m2 : Nat} {S1 S2 : Nat → Prop} {base1 size1 base2 size2 : Int} {ma mb : Int → Int} {pa pb : Int → Option Nat} (hp : Parts w b1 m1 S1 base1 size1 ma pa) (hq : Parts w b2 m2 S2 base2 size2 mb pb) :
    Calls Tryz.prog 93 #[.map (some m1), .map (some m2), .func (.func 94) #[] #[]] w (SameTold w (∀ y, ma y = mb y)) := by
  obtain ⟨n1, D1, hown1, h12, h13⟩ := hp.ok.map
  obtain ⟨n2, D2, hown2, h22, h23⟩ := hq.ok.map
  obtain ⟨ss1, hS1, hl1⟩ := keys_list hown1 fun kl h => by obtain ⟨q, _, e, _⟩ := h13 kl h; exact ⟨q, e⟩
  obtain ⟨ss2, hS2, hl2⟩ := keys_list hown2 fun kl h => by obtain ⟨q, _, e, _⟩ := h23 kl h; exact ⟨q, e⟩
  have hlen1 := fun ty => hown1.len Tryz.underlying122 ty
  have hlen2 := fun ty => hown2.len Tryz.underlying122 ty
  rw [← hl1] at hlen1
  rw [← hl2] at hlen2
  have HP := Lib.hid hp
  have HQ := Lib.hid hq
  have H12 := Lib.hid h12
  have H13 := Lib.hid h13
  have HS1 := Lib.hid hS1
  have HS2 := Lib.hid hS2
  have HA1 := Lib.hid (has_page hp h12 h13)
  have HA2 := Lib.hid (has_page hq h22 h23)
  clear hp hq h12 h13 h22 h23 hS1 hS2 hl1 hl2
  by_cases hne : ss1.length = ss2.length
  · have HL := Lib.hid hne
    have hb : ((ss1.length : Int) != (ss2.length : Int)) = false := by rw [hne]; simp
    clear hne
    go_enter Tryz.func93, Tryz.ntmps93
    go_wp2_with (at_range; refine wpList_range_own _ rfl _ 122 rfl 26 123 (int_keyed Tryz.underlying26) Tryz.underlying122 ptrElem m1 n1 D1 rfl hown1 ?_; intro w0 hrg0 hg0 hs0)
    try go_frame
    have hstart : w0.ranges Tryz.prog 26 ptrElem m1 w.heap.size n1 D1 (Maps.has D1) (Maps.size D1) ∧ Below w.heap.size w w0 ∧ Alikes D1 (Maps.has D1) pb ma mb := ⟨hrg0, (Below.refl _ w).grown hg0 (Nat.le_refl _) (fun _ h => by cases h), fun q h1 h2 => by rw [h1] at h2; cases h2⟩
    have HST := Lib.hid hstart
    clear hstart hrg0 hg0 hs0 hlen1 hlen2 hb
    go_loopw [7] (fun _ wr => ∃ left cnt, wr.ranges Tryz.prog 26 ptrElem m1 w.heap.size n1 D1 left cnt ∧ Below w.heap.size w wr ∧ Alikes D1 left pb ma mb) (fun _ wr => wr.rangeLeft m1 w.heap.size)
    case atStart => exact ⟨_, _, HST.out⟩
    case round =>
      obtain ⟨left, cnt, hrg, hbel, hal⟩ := hrel
      have HBEL := Lib.hid hbel
      have HAL := Lib.hid hal
      clear hbel hal
      go_wp2_with (at_next; refine wpList_next_ranges _ rfl _ rfl 26 (int_keyed Tryz.underlying26) ptrElem (Value.int .u64) ptrTo (fun key kl hk => (by obtain ⟨x, hx, _⟩ := Maps.keyOf_int_inv Tryz.underlying26 hk; exact ⟨x, hx⟩)) (fun v y hv => (by obtain ⟨o, ho, _⟩ := ptrElem_inv hv; exact ⟨o, ho⟩)) m1 w.heap.size n1 D1 left cnt rfl hrg ?_ ?_)
      · intro h0 hl0
        have hall : ∀ y, ma y = mb y := by
          have hsub : ∀ x ∈ ss1, x ∈ ss2 := fun x hx => by
            have h1 := (HS1.out.2 x).1 hx
            obtain ⟨h2, h3⟩ := HAL.out x h1 (hl0 _)
            obtain ⟨y, hy, e⟩ := (HA1.out x).1 h1
            refine (HS2.out.2 x).2 ((HA2.out x).2 ⟨y, ?_, e⟩)
            have := h3 (y % 4096).toNat (by omega)
            rw [show x * 4096 + ((y % 4096).toNat : Int) = y by omega] at this
            rw [← this]; exact hy
          have hsup := nodup_all HS1.out.1 hsub (by have := HL.out; omega)
          intro y
          by_cases c : ma y = 0
          · by_cases d : mb y = 0
            · rw [c, d]
            · have h1 := hsup _ ((HS2.out.2 _).2 ((HA2.out (y / 4096)).2 ⟨y, d, rfl⟩))
              obtain ⟨_, h3⟩ := HAL.out _ ((HS1.out.2 _).1 h1) (hl0 _)
              have := h3 (y % 4096).toNat (by omega)
              rw [show y / 4096 * 4096 + ((y % 4096).toNat : Int) = y by omega] at this
              exact this
          · obtain ⟨_, h3⟩ := HAL.out _ ((HA1.out (y / 4096)).2 ⟨y, c, rfl⟩) (hl0 _)
            have := h3 (y % 4096).toNat (by omega)
            rw [show y / 4096 * 4096 + ((y % 4096).toNat : Int) = y by omega] at this
            exact this
        have HEND : Hid (SameTold w (∀ y, ma y = mb y) (.returned (.bool true)) wr) := Lib.hid ⟨HBEL.out, true, rfl, fun _ => hall, fun _ => rfl⟩
        clear h0 hl0 hall hrg
        go_wp2
        go_ret
        exact HEND.out
      · intro x c kl yd yp w1 cnt1 hkey hlk hv hat hrg1 hlt hg1 hs1 hen
        obtain ⟨hx64, rfl, g0, rfl, epg⟩ := entry_is H12.out H13.out hkey hv hat
        simp only [ptrTo] at hen ⊢
        have hb1 : Below w.heap.size w w1 := HBEL.out.grown hg1 HBEL.out.size (fun k h => by cases h; exact Nat.le_refl _)
        have hp1 := HP.out.below hb1
        have hq1 := HQ.out.below hb1
        have hlook := hq1.ok.map.look_ok pgT hx64
        have hpage1 : HoldsU w1 g0 138 4096 (fun k => ma (x * 4096 + k)) := (hp1.ok.page x g0 epg).1
        have HLT := Lib.hid hlt
        have HLE := Lib.hid hrg.left_eq
        have HB1 := Lib.hid hb1
        have HP1 := Lib.hid hpage1
        have HR1 := Lib.hid hrg1
        have HNE := Lib.hid (hp1.ok.page x g0 epg).2.2.2.2
        cases epb : pb x with
        | none =>
          have HEND : Hid (SameTold w (∀ y, ma y = mb y) (.returned (.bool false)) w1) := by
            refine Lib.hid ⟨HB1.out, false, rfl, (fun h => by cases h), fun h => ?_⟩
            obtain ⟨k, hk, hy⟩ := HNE.out
            rw [h, hq1.ok.gone x epb k hk] at hy
            exact absurd rfl hy
          rw [epb] at hlook
          simp only [ptrTo, Option.isSome] at hlook
          clear hkey hlk hv hat hrg1 hlt hg1 hs1 hb1 hp1 hq1 hpage1 hrg epg epb
          go_wp2
          go_ret
          exact HEND.out
        | some g2 =>
          have hpage2 : HoldsU w1 g2 138 4096 (fun k => mb (x * 4096 + k)) := (hq1.ok.page x g2 epb).1
          have HP2 := Lib.hid hpage2
          have hdr : Below w1.heap.size w1 w1.drew := (Below.refl _ _).drew
          have hb2 := hb1.trans (hdr.mono hb1.size)
          rw [epb] at hlook
          simp only [ptrTo, Option.isSome] at hlook
          cases ha : alike 4096 (fun k => ma (x * 4096 + k)) (fun k => mb (x * 4096 + k)) with
          | false =>
            have HA := Lib.hid ha
            have HEND : Hid (SameTold w (∀ y, ma y = mb y) (.returned (.bool false)) w1.drew) := by
              refine Lib.hid ⟨hb2, false, rfl, (fun h => by cases h), fun h => ?_⟩
              rw [alike_iff.2 fun k _ => h _] at ha
              cases ha
            clear hkey hlk hv hat hrg1 hlt hg1 hs1 hb1 hp1 hq1 hpage1 hpage2 hrg epg epb ha hb2 hdr
            go_wp2_with (go_at_call 94; refine (samePage_any HP1.out HP2.out).mono ?_; rintro e w2 ⟨rfl, rfl⟩; rw [HA.out])
            go_ret
            exact HEND.out
          | true =>
            have HA := Lib.hid ha
            have HNX : Hid (w1.drew.ranges Tryz.prog 26 ptrElem m1 w.heap.size n1 D1 (fun z => left z && !z.sameKey (.int .u64 x)) cnt1 ∧ Below w.heap.size w w1.drew ∧ Alikes D1 (fun z => left z && !z.sameKey (.int .u64 x)) pb ma mb) := by
              refine Lib.hid ⟨hrg1.kept (row := none) ⟨rfl, rfl, rfl, Nat.le_refl _, fun _ _ _ => rfl⟩ (by simp) (by simp), hb2, fun q h1 h2 => ?_⟩
              by_cases e : q = x
              · subst e
                exact ⟨by rw [epb]; simp, alike_iff.1 ha⟩
              · refine HAL.out q h1 ?_
                have : (q == x) = false := by simpa using e
                simpa [sameKey_u64, this] using h2
            clear hkey hlk hv hat hrg1 hlt hg1 hs1 hb1 hp1 hq1 hpage1 hpage2 hrg epg epb ha hb2 hdr
            go_wp2_with (go_at_call 94; refine (samePage_any HP1.out HP2.out).mono ?_; rintro e w2 ⟨rfl, rfl⟩; rw [HA.out])
            refine ⟨⟨_, _, HNX.out⟩, ?_⟩
            rw [HNX.out.1.left_eq, HLE.out]
            exact HLT.out
  · have hb : ((ss1.length : Int) != (ss2.length : Int)) = true := by simp; omega
    have HEND : Hid (SameTold w (∀ y, ma y = mb y) (.returned (.bool false)) w) := by
      refine Lib.hid ⟨Below.refl _ _, false, rfl, (fun h => by cases h), fun h => ?_⟩
      refine absurd ?_ hne
      have e : ∀ x, x ∈ ss1 ↔ x ∈ ss2 := fun x => by
        rw [HS1.out.2, HS2.out.2, HA1.out, HA2.out]
        constructor
        · rintro ⟨y, hy, e⟩; exact ⟨y, by rw [← h]; exact hy, e⟩
        · rintro ⟨y, hy, e⟩; exact ⟨y, by rw [h]; exact hy, e⟩
      have h1 := nodup_sub HS1.out.1 fun x hx => (e x).1 hx
      have h2 := nodup_sub HS2.out.1 fun x hx => (e x).2 hx
      omega
    clear hne hown1 hown2
    go_enter Tryz.func93, Tryz.ntmps93
    go_wp2
    go_ret
    exact HEND.out

end Go.Proofs.YtbcnkhfpogglmaaGreatDoor.M3
namespace Go.Proofs.YtbcnkhfpogglmaaGreatDoor.M3
open Go.RowKit Go.Maps
set_option linter.unusedVariables false

set_option maxRecDepth 100000 in
set_option maxHeartbeats 2000000 in
theorem progSame_base {w : World} {b1 b2 : Nat} {S1 S2 : Nat → Prop} {base1 size1 base2 size2 : Int} {ma mb : Int → Int} (h : ProgMem w b1 S1 base1 size1 ma) (k : ProgMem w b2 S2 base2 size2 mb) (e1 : ¬ base1 = base2) :
    Calls Tryz.prog 49 #[.pointer (some ⟨b1, 0, none⟩), .pointer (some ⟨b2, 0, none⟩)] w (SameTold w (base1 = base2 ∧ size1 = size2 ∧ ∀ y, ma y = mb y)) := by
  obtain ⟨m1, pa, hp⟩ := h.parts
  obtain ⟨m2, pb, hq⟩ := k.parts
  obtain ⟨c0, c1, c2⟩ := ram_cells hp.row
  obtain ⟨d0, d1, d2⟩ := ram_cells hq.row
  clear h k hp hq
  have b1e : (base1 == base2) = false := by simpa using e1
  have HEND : ∀ nq, Hid (SameTold w (base1 = base2 ∧ size1 = size2 ∧ ∀ y, ma y = mb y) (.returned (.bool false)) (w.drewN nq)) := fun nq => Lib.hid ⟨below_drewN (Below.refl _ _) nq, false, rfl, (fun h => by cases h), fun h => absurd h.1 e1⟩
  clear e1
  go_enter Tryz.func49, Tryz.ntmps49
  go_wp2_with fail
  go_quiet (fail)
  go_wp2
  go_ret
  exact (HEND nq).out

set_option maxRecDepth 100000 in
set_option maxHeartbeats 2000000 in
theorem progSame_size {w : World} {b1 b2 : Nat} {S1 S2 : Nat → Prop} {base1 size1 base2 size2 : Int} {ma mb : Int → Int} (h : ProgMem w b1 S1 base1 size1 ma) (k : ProgMem w b2 S2 base2 size2 mb) (e1 : base1 = base2) (e2 : ¬ size1 = size2) :
    Calls Tryz.prog 49 #[.pointer (some ⟨b1, 0, none⟩), .pointer (some ⟨b2, 0, none⟩)] w (SameTold w (base1 = base2 ∧ size1 = size2 ∧ ∀ y, ma y = mb y)) := by
  obtain ⟨m1, pa, hp⟩ := h.parts
  obtain ⟨m2, pb, hq⟩ := k.parts
  obtain ⟨c0, c1, c2⟩ := ram_cells hp.row
  obtain ⟨d0, d1, d2⟩ := ram_cells hq.row
  clear h k hp hq
  have b1e : (base1 == base2) = true := by simpa using e1
  have b2e : (size1 == size2) = false := by simpa using e2
  have HEND : ∀ nq, Hid (SameTold w (base1 = base2 ∧ size1 = size2 ∧ ∀ y, ma y = mb y) (.returned (.bool false)) (w.drewN nq)) := fun nq => Lib.hid ⟨below_drewN (Below.refl _ _) nq, false, rfl, (fun h => by cases h), fun h => absurd h.2.1 e2⟩
  clear e1 e2
  go_enter Tryz.func49, Tryz.ntmps49
  go_wp2_with fail
  go_quiet (fail)
  go_wp2
  go_ret
  exact (HEND nq).out

set_option maxRecDepth 100000 in
set_option maxHeartbeats 2000000 in
theorem progSame_both {w : World} {b1 b2 : Nat} {S1 S2 : Nat → Prop} {base1 size1 base2 size2 : Int} {ma mb : Int → Int} (h : ProgMem w b1 S1 base1 size1 ma) (k : ProgMem w b2 S2 base2 size2 mb) (e1 : base1 = base2) (e2 : size1 = size2) :
    Calls Tryz.prog 49 #[.pointer (some ⟨b1, 0, none⟩), .pointer (some ⟨b2, 0, none⟩)] w (SameTold w (base1 = base2 ∧ size1 = size2 ∧ ∀ y, ma y = mb y)) := by
  obtain ⟨m1, pa, hp⟩ := h.parts
  obtain ⟨m2, pb, hq⟩ := k.parts
  obtain ⟨c0, c1, c2⟩ := ram_cells hp.row
  obtain ⟨d0, d1, d2⟩ := ram_cells hq.row
  have hbd : Below w.heap.size w w.drew := (Below.refl _ _).drew
  have HP := Lib.hid (hp.below hbd)
  have HQ := Lib.hid (hq.below hbd)
  have HB := Lib.hid hbd
  clear h k hp hq hbd
  have HE := Lib.hid (show base1 = base2 ∧ size1 = size2 from ⟨e1, e2⟩)
  have b1e : (base1 == base2) = true := by simpa using e1
  have b2e : (size1 == size2) = true := by simpa using e2
  clear e1 e2
  go_enter Tryz.func49, Tryz.ntmps49
  go_wp2_with fail
  go_region_held3 (fun w' => w'.cell? ⟨b1, 0, none⟩ = some (.int .u64 base1) ∧ w'.cell? ⟨b1, 1, none⟩ = some (.int .u64 size1) ∧ w'.cell? ⟨b1, 2, none⟩ = some (.map (some m1)) ∧ w'.cell? ⟨b2, 0, none⟩ = some (.int .u64 base2) ∧ w'.cell? ⟨b2, 1, none⟩ = some (.int .u64 size2) ∧ w'.cell? ⟨b2, 2, none⟩ = some (.map (some m2))) (go_keep)
    (first | (go_at_call 93; refine (equalFunc_any HP.out HQ.out).mono ?_; rintro e w3 ⟨hb, r, rfl, hr⟩; obtain ⟨q0, q1, q2⟩ := ram_cells (HP.out.below hb).row; obtain ⟨q3, q4, q5⟩ := ram_cells (HQ.out.below hb).row))
  rename (_ ∧ _ ∧ _ ∧ _ ∧ _ ∧ _) => hheld
  have HEND : Hid (SameTold w (base1 = base2 ∧ size1 = size2 ∧ ∀ y, ma y = mb y) (.returned (.bool r)) w3) := Lib.hid ⟨HB.out.trans (hb.mono HB.out.size), r, rfl, fun h => ⟨HE.out.1, HE.out.2, hr.1 h⟩, fun h => hr.2 h.2.2⟩
  clear hheld hb hr q0 q1 q2 q3 q4 q5 c0 c1 c2 d0 d1 d2 b1e b2e
  go_wp2
  go_ret
  exact HEND.out

/-- P3.4: Same of two memories. -/
theorem progSame_any {w : World} {b1 b2 : Nat} {S1 S2 : Nat → Prop} {base1 size1 base2 size2 : Int} {ma mb : Int → Int} (h : ProgMem w b1 S1 base1 size1 ma) (k : ProgMem w b2 S2 base2 size2 mb) :
    Calls Tryz.prog 49 #[.pointer (some ⟨b1, 0, none⟩), .pointer (some ⟨b2, 0, none⟩)] w (SameTold w (base1 = base2 ∧ size1 = size2 ∧ ∀ y, ma y = mb y)) := by
  by_cases e1 : base1 = base2
  · by_cases e2 : size1 = size2
    · exact progSame_both h k e1 e2
    · exact progSame_size h k e1 e2
  · exact progSame_base h k e1

end Go.Proofs.YtbcnkhfpogglmaaGreatDoor.M3

namespace Go.Proofs.YtbcnkhfpogglmaaGreatDoor
open Go.RowKit
set_option linter.unusedVariables false
set_option maxRecDepth 100000

theorem Fr.ahead {n : Nat} (f : Fr n) (row : Array Value) (i : Nat) (h : i < n) : (f.all row)[i]? = f.pre[i]? := by
  unfold Fr.all
  rw [Array.append_assoc, Array.getElem?_append_left (by rw [f.hp]; exact h)]
theorem Fr.behind {n : Nat} (f : Fr n) (row : Array Value) (i j : Nat) (h : j = n + row.size + i) : (f.all row)[j]? = f.post[i]? := by
  subst h
  unfold Fr.all
  rw [Array.getElem?_append_right (by rw [Array.size_append, f.hp]; omega), Array.size_append, f.hp, show n + row.size + i - (n + row.size) = i by omega]
theorem Fr.setBehind {n : Nat} (f : Fr n) (row : Array Value) (i j : Nat) (v : Value) (h : j = n + row.size + i) : (f.all row).setIfInBounds j v = Fr.all ⟨f.pre, f.post.setIfInBounds i v, f.ty, f.hp⟩ row := by
  subst h
  unfold Fr.all
  rw [Array.setIfInBounds_append_right (by rw [Array.size_append, f.hp]; omega), Array.size_append, f.hp, show n + row.size + i - (n + row.size) = i by omega]

/-- A bus's state. -/
structure BS where
  size : Int
  m : Int → Int
  c : C4.Cl
  p : P5.PS
  us : List U6.US

/-! ### regions -/
/-- Where region k of a bus with n uarts begins, and how many bytes it has. -/
def regBase (n k : Nat) : Int := if k = 0 then 2147483648 else if k = 1 then 33554432 else if k = 2 then 201326592 else if k < 3 + n then 268435456 + 4096 * ((k : Int) - 3) else 0
def regSize (size : Int) (n k : Nat) : Int := if k = 0 then size else if k = 1 then 65536 else if k = 2 then 4194304 else if k < 3 + n then 8 else 0
/-- The region of an address; 11: none. -/
def regK (size : Int) (n : Nat) (a : Int) : Nat :=
  if 2147483648 ≤ a ∧ a < 2147483648 + size then 0 else if 33554432 ≤ a ∧ a < 33619968 then 1 else if 201326592 ≤ a ∧ a < 205520896 then 2
  else if 268435456 ≤ a ∧ (a - 268435456) % 4096 < 8 ∧ (a - 268435456) / 4096 < n then 3 + ((a - 268435456) / 4096).toNat else 11
theorem regK_le {size : Int} {n : Nat} {a : Int} (hn : n ≤ 8) : regK size n a ≤ 11 := by
  unfold regK
  split; omega
  split; omega
  split; omega
  split
  · omega
  · omega
/-- What one looks at: whether the region is the one. -/
theorem inReg_is {size : Int} {n k : Nat} {a : Int} (hn : n ≤ 8) (hk : k < 11) (ha : In64 a) (h0 : 4096 ≤ size) (h1 : size ≤ 67108864) : ((a - regBase n k) % 18446744073709551616 < regSize size n k) ↔ regK size n a = k := by
  unfold In64 at ha
  unfold regBase regSize regK
  by_cases k0 : k = 0
  · subst k0
    rw [if_pos rfl, if_pos rfl]
    by_cases c : 2147483648 ≤ a ∧ a < 2147483648 + size
    · rw [if_pos c]; omega
    · rw [if_neg c]
      constructor
      · intro h; omega
      · split; omega
        split; omega
        split <;> omega
  rw [if_neg k0, if_neg k0]
  by_cases k1 : k = 1
  · subst k1
    rw [if_pos rfl, if_pos rfl]
    by_cases c0 : 2147483648 ≤ a ∧ a < 2147483648 + size
    · rw [if_pos c0]; omega
    rw [if_neg c0]
    by_cases c : 33554432 ≤ a ∧ a < 33619968
    · rw [if_pos c]; omega
    · rw [if_neg c]
      constructor
      · intro h; omega
      · split; omega
        split <;> omega
  rw [if_neg k1, if_neg k1]
  by_cases k2 : k = 2
  · subst k2
    rw [if_pos rfl, if_pos rfl]
    by_cases c0 : 2147483648 ≤ a ∧ a < 2147483648 + size
    · rw [if_pos c0]; omega
    rw [if_neg c0]
    by_cases c1 : 33554432 ≤ a ∧ a < 33619968
    · rw [if_pos c1]; omega
    rw [if_neg c1]
    by_cases c : 201326592 ≤ a ∧ a < 205520896
    · rw [if_pos c]; omega
    · rw [if_neg c]
      constructor
      · intro h; omega
      · split <;> omega
  rw [if_neg k2, if_neg k2]
  by_cases c0 : 2147483648 ≤ a ∧ a < 2147483648 + size
  · rw [if_pos c0]
    constructor
    · intro h; split at h <;> omega
    · omega
  rw [if_neg c0]
  by_cases c1 : 33554432 ≤ a ∧ a < 33619968
  · rw [if_pos c1]
    constructor
    · intro h; split at h <;> omega
    · omega
  rw [if_neg c1]
  by_cases c2 : 201326592 ≤ a ∧ a < 205520896
  · rw [if_pos c2]
    constructor
    · intro h; split at h <;> omega
    · omega
  rw [if_neg c2]
  by_cases hkn : k < 3 + n
  · rw [if_pos hkn, if_pos hkn]
    by_cases c : 268435456 ≤ a ∧ (a - 268435456) % 4096 < 8 ∧ (a - 268435456) / 4096 < n
    · rw [if_pos c]
      constructor <;> omega
    · rw [if_neg c]
      constructor <;> omega
  · rw [if_neg hkn, if_neg hkn]
    constructor
    · omega
    · split <;> omega

/-! ### the block -/
/-- A port's value. -/
def portV (b : Nat) (ul : List Nat) (i : Nat) : Value := .agg #[.pointer (some ⟨ul.getD i 0, 0, none⟩), .pointer (some ⟨b, 4, none⟩), .int .i64 (10 + (i : Int))]
/-- The function values of region k. -/
def rdF (b g : Nat) (ul : List Nat) (k : Nat) : Value :=
  if k = 0 then .func (.func 25) #[.pointer (some ⟨g, 0, none⟩)] #[] else if k = 1 then .func (.func 78) #[.pointer (some ⟨b, 0, none⟩)] #[]
  else if k = 2 then .func (.func 80) #[.pointer (some ⟨b, 4, none⟩)] #[] else if k < 3 + ul.length then .func (.func 82) #[portV b ul (k - 3)] #[] else Value.nilFunc
def wrF (b g : Nat) (ul : List Nat) (k : Nat) : Value :=
  if k = 0 then .func (.func 26) #[.pointer (some ⟨g, 0, none⟩)] #[] else if k = 1 then .func (.func 79) #[.pointer (some ⟨b, 1, none⟩)] #[]
  else if k = 2 then .func (.func 81) #[.pointer (some ⟨b, 4, none⟩)] #[] else if k < 3 + ul.length then .func (.func 83) #[portV b ul (k - 3)] #[] else Value.nilFunc
def regCell (b g : Nat) (size : Int) (ul : List Nat) (k : Nat) : Nat → Value
  | 0 => .int .u64 (regBase ul.length k)
  | 1 => .int .u64 (regSize size ul.length k)
  | 2 => .int .u64 (if k = 0 then 0 else regBase ul.length k)
  | 3 => rdF b g ul k
  | _ => wrF b g ul k
def regs (b g : Nat) (size : Int) (ul : List Nat) : Array Value := varr 55 fun i => regCell b g size ul (i / 5) (i % 5)
theorem regs_get (b g : Nat) (size : Int) (ul : List Nat) {k j : Nat} (hk : k < 11) (hj : j < 5) : (regs b g size ul)[k * 5 + j]? = some (regCell b g size ul k j) := by
  unfold regs
  rw [varr_get _ _ _ (by omega), show (k * 5 + j) / 5 = k by omega, show (k * 5 + j) % 5 = j by omega]
/-- What lies round the plic, and round the clint. -/
def frP (g : Nat) (c : C4.Cl) (vp : Value) (R : Array Value) : Fr 4 := ⟨#[.pointer (some ⟨g, 0, none⟩), .bool c.s, .int .u64 c.c, .int .u64 c.n], #[vp] ++ R, 76, rfl⟩
def frC (g : Nat) (p : P5.PS) (vp : Value) (R : Array Value) : Fr 1 := ⟨#[.pointer (some ⟨g, 0, none⟩)], varr 39 (P5.cellQ p) ++ (#[vp] ++ R), 76, rfl⟩
/-- The bus's block. -/
def busRow (g : Nat) (c : C4.Cl) (p : P5.PS) (vp : Value) (R : Array Value) : Array Value := (frP g c vp R).all (varr 39 (P5.cellQ p))
theorem busRow_c (g : Nat) (c : C4.Cl) (p : P5.PS) (vp : Value) (R : Array Value) : busRow g c p vp R = (frC g p vp R).all #[.bool c.s, .int .u64 c.c, .int .u64 c.n] := by
  unfold busRow Fr.all frP frC
  simp only
  generalize varr 39 (P5.cellQ p) = row
  have e : (#[.pointer (some ⟨g, 0, none⟩), .bool c.s, .int .u64 c.c, .int .u64 c.n] : Array Value) = #[.pointer (some ⟨g, 0, none⟩)] ++ #[.bool c.s, .int .u64 c.c, .int .u64 c.n] := by simp
  rw [e]
  generalize (#[.pointer (some ⟨g, 0, none⟩)] : Array Value) = x
  generalize (#[.bool c.s, .int .u64 c.c, .int .u64 c.n] : Array Value) = y
  rw [Array.append_assoc]
def BusAt (w : World) (b g : Nat) (c : C4.Cl) (p : P5.PS) (vp : Value) (R : Array Value) : Prop := w.heap[b]? = some (.cells (busRow g c p vp R) 76 (0, 0))
section
variable {w : World} {b g : Nat} {c : C4.Cl} {p : P5.PS} {vp : Value} {R : Array Value}
theorem BusAt.lt (h : BusAt w b g c p vp R) : b < w.heap.size := (Array.getElem?_eq_some_iff.1 h).1
theorem BusAt.keeps {w' : World} {T : Nat → Prop} (h : BusAt w b g c p vp R) (o : Only T w w') (hb : ¬ T b) : BusAt w' b g c p vp R := o.keeps hb h
theorem BusAt.below {w' : World} (h : BusAt w b g c p vp R) (o : Below w.heap.size w w') : BusAt w' b g c p vp R := (o.block b h.lt).trans h
theorem BusAt.free (h : BusAt w b g c p vp R) (k : Nat) : w.frozen? ⟨b, k, none⟩ = false := frozen_of_row w b k _ _ h
theorem BusAt.plic (h : BusAt w b g c p vp R) (ok : p.ok) : P5.In.ProgP (frP g c vp R) w b p := ⟨h, ok⟩
theorem BusAt.clint (h : BusAt w b g c p vp R) (ok : c.ok) : C4.In.ProgC (frC g p vp R) w b c := ⟨by rw [← busRow_c]; exact h, ok⟩
theorem BusAt.ofPlic {p' : P5.PS} (h : P5.In.ProgP (frP g c vp R) w b p') : BusAt w b g c p' vp R := h.1
theorem BusAt.ofClint {c' : C4.Cl} (h : C4.In.ProgC (frC g p vp R) w b c') : BusAt w b g c' p vp R := by
  unfold BusAt; rw [busRow_c]; exact h.1
theorem BusAt.ram_ (h : BusAt w b g c p vp R) : w.cell? ⟨b, 0, none⟩ = some (.pointer (some ⟨g, 0, none⟩)) := by
  rw [cell_of_row w b _ _ _ _ h]; exact Fr.ahead _ _ 0 (by omega)
theorem BusAt.clint_ (h : BusAt w b g c p vp R) : w.cell? ⟨b, 1, none⟩ = some (.bool c.s) ∧ w.cell? ⟨b, 2, none⟩ = some (.int .u64 c.c) ∧ w.cell? ⟨b, 3, none⟩ = some (.int .u64 c.n) := by
  refine ⟨?_, ?_, ?_⟩
  · rw [cell_of_row w b _ _ _ _ h]; exact Fr.ahead _ _ 1 (by omega)
  · rw [cell_of_row w b _ _ _ _ h]; exact Fr.ahead _ _ 2 (by omega)
  · rw [cell_of_row w b _ _ _ _ h]; exact Fr.ahead _ _ 3 (by omega)
theorem BusAt.ports_ (h : BusAt w b g c p vp R) : w.cell? ⟨b, 43, none⟩ = some vp := by
  rw [cell_of_row w b _ _ _ _ h]
  unfold busRow
  rw [Fr.behind _ _ 0 43 (by rw [varr_size])]
  show (#[vp] ++ R)[0]? = some vp
  rw [Array.getElem?_append_left (by simp)]; rfl
theorem BusAt.reg_ (h : BusAt w b g c p vp R) {i a : Nat} (ha : a = 44 + i) {v : Value} (hv : R[i]? = some v) : w.cell? ⟨b, a, none⟩ = some v := by
  rw [cell_of_row w b _ _ _ _ h]
  unfold busRow
  rw [Fr.behind _ _ (i + 1) a (by rw [varr_size]; omega)]
  show (#[vp] ++ R)[i + 1]? = some v
  rw [Array.getElem?_append_right (by simp), ← hv]
  simp
theorem BusAt.range (h : BusAt w b g c p vp R) : w.rangeAt b 4 (varr 39 (P5.cellQ p)).toList := Fr.range (frP g c vp R) h
theorem BusAt.setPorts (h : BusAt w b g c p vp R) (v : Value) : BusAt (w.setCell ⟨b, 43, none⟩ v) b g c p v R := by
  unfold BusAt
  rw [heap_setCell_same w b _ _ _ _ h]
  unfold busRow
  rw [Fr.setBehind _ _ 0 43 v (by rw [varr_size])]
  simp [frP]
theorem BusAt.setReg (h : BusAt w b g c p vp R) (i a : Nat) (ha : a = 44 + i) (v : Value) : BusAt (w.setCell ⟨b, a, none⟩ v) b g c p vp (R.setIfInBounds i v) := by
  unfold BusAt
  rw [heap_setCell_same w b _ _ _ _ h]
  unfold busRow
  rw [Fr.setBehind _ _ (i + 1) a v (by rw [varr_size]; omega)]
  have e : (#[vp] ++ R).setIfInBounds (i + 1) v = #[vp] ++ R.setIfInBounds i v := by
    rw [Array.setIfInBounds_append_right (by simp)]; simp
  show some (Obj.cells (Fr.all ⟨_, (#[vp] ++ R).setIfInBounds (i + 1) v, _, _⟩ _) _ _) = _
  simp only [e]
  rfl
end

end Go.Proofs.YtbcnkhfpogglmaaGreatDoor

namespace Go.Proofs.YtbcnkhfpogglmaaGreatDoor
open Go.RowKit
set_option linter.unusedVariables false
set_option maxRecDepth 100000

def Tabs (w : World) : Prop := P5.Tab w ∧ U6.Tab w
def TabB (i : Nat) : Prop := i = 0 ∨ i = 1
theorem Tabs.lt {w : World} (h : Tabs w) {i : Nat} (hi : TabB i) : i < w.heap.size := by
  rcases hi with rfl | rfl
  · exact h.1.lt
  · exact h.2.lt
theorem Tabs.below {w w' : World} (h : Tabs w) (o : Below w.heap.size w w') : Tabs w' := ⟨h.1.below o, h.2.below o⟩
theorem Tabs.keeps {w w' : World} {T : Nat → Prop} (h : Tabs w) (o : Only T w w') (hT : ∀ i, TabB i → ¬ T i) : Tabs w' := ⟨h.1.keeps o (hT _ (.inl rfl)), h.2.keeps o (hT _ (.inr rfl))⟩

theorem M3.ProgMem.mono {w : World} {b : Nat} {S T : Nat → Prop} {base size : Int} {m : Int → Int} (h : M3.ProgMem w b S base size m) (hs : ∀ i, S i → T i) (hl : ∀ i, T i → i < w.heap.size) : M3.ProgMem w b T base size m := by
  obtain ⟨mb, pg, h1, h2, h3⟩ := h
  refine ⟨mb, pg, h1, ⟨h2.map, fun q g e => ?_, h2.gone, h2.inj, hs _ h2.sb, hs _ h2.smb, h2.ne, hl⟩, h3⟩
  obtain ⟨k1, k2, k3⟩ := h2.page q g e
  exact ⟨k1, hs _ k2, k3⟩
theorem M3.ProgMem.own {w : World} {b : Nat} {S : Nat → Prop} {base size : Int} {m : Int → Int} (h : M3.ProgMem w b S base size m) : S b := by
  obtain ⟨mb, pg, h1, h2, h3⟩ := h; exact h2.sb
theorem M3.ProgMem.lt {w : World} {b : Nat} {S : Nat → Prop} {base size : Int} {m : Int → Int} (h : M3.ProgMem w b S base size m) : ∀ i, S i → i < w.heap.size := by
  obtain ⟨mb, pg, h1, h2, h3⟩ := h; exact h2.lt
theorem U6.UP.keeps {w w' : World} {b : Nat} {F : Nat → Prop} {t : U6.US} {T : Nat → Prop} (h : U6.UP w b F t) (o : Only T w w') (hd : ∀ i, F i → ¬ T i) : U6.UP w' b F t := by
  obtain ⟨vi, vo, h⟩ := h; exact ⟨vi, vo, h.keeps o hd⟩
theorem U6.UP.mono {w : World} {b : Nat} {F G : Nat → Prop} {t : U6.US} (h : U6.UP w b F t) (hs : ∀ i, F i → G i) (hl : ∀ i, G i → i < w.heap.size) : U6.UP w b G t := by
  obtain ⟨vi, vo, h⟩ := h; exact ⟨vi, vo, h.mono hs hl⟩
theorem U6.UP.lt {w : World} {b : Nat} {F : Nat → Prop} {t : U6.US} (h : U6.UP w b F t) : ∀ i, F i → i < w.heap.size := by
  obtain ⟨vi, vo, h⟩ := h; exact h.lt

/-- The cells of the row of ports. -/
def portCells (b : Nat) (ul : List Nat) : List Value := (List.range ul.length).flatMap fun i => [.pointer (some ⟨ul.getD i 0, 0, none⟩), .pointer (some ⟨b, 4, none⟩), .int .i64 (10 + (i : Int))]
theorem flat3_len (f : Nat → List Value) (hf : ∀ i, (f i).length = 3) (n : Nat) : ((List.range n).flatMap f).length = n * 3 := by
  induction n with
  | zero => rfl
  | succ n ih => rw [List.range_succ, List.flatMap_append, List.length_append, ih]; simp [hf]; omega
theorem flat3_get (f : Nat → List Value) (hf : ∀ i, (f i).length = 3) (n i j : Nat) (hi : i < n) (hj : j < 3) : ((List.range n).flatMap f)[i * 3 + j]? = (f i)[j]? := by
  induction n with
  | zero => omega
  | succ n ih =>
    rw [List.range_succ, List.flatMap_append]
    by_cases c : i = n
    · subst c
      rw [List.getElem?_append_right (by rw [flat3_len f hf]; omega), flat3_len f hf, show i * 3 + j - i * 3 = j by omega]
      simp
    · rw [List.getElem?_append_left (by rw [flat3_len f hf]; omega)]
      exact ih (by omega)
theorem portCells_len (b : Nat) (ul : List Nat) : (portCells b ul).length = ul.length * 3 := flat3_len _ (fun _ => rfl) _
theorem portCells_get (b : Nat) (ul : List Nat) {i j : Nat} (hi : i < ul.length) (hj : j < 3) : (portCells b ul)[i * 3 + j]? = ([.pointer (some ⟨ul.getD i 0, 0, none⟩), .pointer (some ⟨b, 4, none⟩), .int .i64 (10 + (i : Int))] : List Value)[j]? :=
  flat3_get _ (fun _ => rfl) _ _ _ hi hj
/-- The row of ports stands in memory. -/
def PortsAt (w : World) (b : Nat) (K : Nat → Nat) (vp : Value) (ul : List Nat) : Prop :=
  (ul = [] ∧ vp = .slice none 0 0) ∨ ∃ gp cap, vp = .slice (some ⟨gp, 0, none⟩) ul.length cap ∧ ul.length ≤ cap ∧ K gp = 1 ∧ ¬ gp = b ∧ Lays w gp (portCells b ul)
theorem PortsAt.keeps {w w' : World} {b : Nat} {K K' : Nat → Nat} {vp : Value} {ul : List Nat} {T : Nat → Prop} (h : PortsAt w b K vp ul) (o : Only T w w') (hT : ∀ i, T i → ¬ K i = 1 ∨ i = b) (hK : ∀ i, i < w.heap.size → K' i = K i) : PortsAt w' b K' vp ul := by
  rcases h with h | ⟨gp, cap, h1, h2, h3, h4, h5⟩
  · exact .inl h
  · refine .inr ⟨gp, cap, h1, h2, by rw [hK _ h5.lt]; exact h3, h4, h5.keeps o fun ht => ?_⟩
    rcases hT _ ht with h6 | h6
    · exact h6 h3
    · exact h4 h6
theorem PortsAt.len {w : World} {b : Nat} {K : Nat → Nat} {vp : Value} {ul : List Nat} (h : PortsAt w b K vp ul) : ∃ a c, vp = .slice a ul.length c ∧ ul.length ≤ c := by
  rcases h with ⟨rfl, rfl⟩ | ⟨gp, cap, h1, h2, _⟩
  · exact ⟨none, 0, rfl, Nat.le_refl _⟩
  · exact ⟨_, cap, h1, h2⟩

/-- The program's bus st stands in block b; the memory's object in block g; K tells each block whose it is: 0 none's, 1 the bus's own, 2 the memory's, 3 + j the uart j's. -/
structure BusQ (w : World) (b : Nat) (K : Nat → Nat) (g : Nat) (vp : Value) (ul : List Nat) (st : BS) (R : Array Value) : Prop where
  obj : BusAt w b g st.c st.p vp R
  ports : PortsAt w b K vp ul
  mem : M3.ProgMem w g (fun i => K i = 2) 2147483648 st.size st.m
  fits : M3.Fits 2147483648 st.size
  uart : ∀ j, j < ul.length → U6.UP w (ul.getD j 0) (fun i => K i = 3 + j) (st.us.getD j U6.u0)
  len : st.us.length = ul.length
  le : ul.length ≤ 8
  kb : K b = 1
  lt : ∀ i, ¬ K i = 0 → i < w.heap.size
  cok : st.c.ok
  pok : st.p.ok
  kt : ∀ i, TabB i → K i = 0
  tabs : Tabs w
/-- Its regions are laid. -/
abbrev BusP (w : World) (b : Nat) (K : Nat → Nat) (g : Nat) (vp : Value) (ul : List Nat) (st : BS) : Prop := BusQ w b K g vp ul st (regs b g st.size ul)
/-- The labels grow. -/
def Grow (w : World) (K K' : Nat → Nat) : Prop := ∀ i, i < w.heap.size → K' i = K i
theorem Grow.refl (w : World) (K : Nat → Nat) : Grow w K K := fun _ _ => rfl
def BusEnd (w : World) (b : Nat) (K : Nat → Nat) (g : Nat) (vp : Value) (ul : List Nat) (r : Value) (st' : BS) (e : Ending) (w' : World) : Prop :=
  e = .returned r ∧ Only (fun i => ¬ K i = 0) w w' ∧ ∃ K', Grow w K K' ∧ BusP w' b K' g vp ul st'
section
variable {w w' : World} {b g : Nat} {K : Nat → Nat} {vp : Value} {ul : List Nat} {st : BS} {R : Array Value}
theorem BusQ.g2 (h : BusQ w b K g vp ul st R) : K g = 2 := h.mem.own
/-- What a call on another object leaves. -/
theorem BusQ.keeps {T : Nat → Prop} (h : BusQ w b K g vp ul st R) (o : Only T w w') (hT : ∀ i, ¬ K i = 0 ∨ TabB i → ¬ T i) : BusQ w' b K g vp ul st R :=
  ⟨h.obj.keeps o (hT _ (.inl (by rw [h.kb]; omega))), h.ports.keeps o (fun i ht => .inl fun hk => hT i (.inl (by omega)) ht) (fun _ _ => rfl), h.mem.keeps o (fun i hi => hT i (.inl (by omega))), h.fits,
    fun j hj => (h.uart j hj).keeps o fun i hi => hT i (.inl (by omega)), h.len, h.le, h.kb, fun i hi => Nat.lt_of_lt_of_le (h.lt i hi) o.size, h.cok, h.pok, h.kt, h.tabs.keeps o fun i hi => hT i (.inr hi)⟩
theorem BusQ.below (h : BusQ w b K g vp ul st R) (o : Below w.heap.size w w') : BusQ w' b K g vp ul st R := h.keeps (Only.of_below (fun _ => False) o) fun _ _ => id
/-- The plic turned. -/
theorem BusQ.setPlic (h : BusQ w b K g vp ul st R) {p' : P5.PS} (o : Only (fun i => i = b) w w') (hp : P5.In.ProgP (frP g st.c vp R) w' b p') : BusQ w' b K g vp ul { st with p := p' } R := by
  have kb := h.kb
  exact ⟨BusAt.ofPlic hp, h.ports.keeps o (fun i hi => .inr hi) (fun _ _ => rfl), h.mem.keeps o (fun i hi e => by subst e; omega), h.fits, fun j hj => (h.uart j hj).keeps o fun i hi e => by subst e; omega, h.len, h.le, h.kb,
    fun i hi => Nat.lt_of_lt_of_le (h.lt i hi) o.size, h.cok, hp.2, h.kt, h.tabs.keeps o fun i hi e => by have := h.kt i hi; subst e; omega⟩
/-- The clint turned. -/
theorem BusQ.setClint (h : BusQ w b K g vp ul st R) {c' : C4.Cl} (o : Only (fun i => i = b) w w') (hp : C4.In.ProgC (frC g st.p vp R) w' b c') : BusQ w' b K g vp ul { st with c := c' } R := by
  have kb := h.kb
  exact ⟨BusAt.ofClint hp, h.ports.keeps o (fun i hi => .inr hi) (fun _ _ => rfl), h.mem.keeps o (fun i hi e => by subst e; omega), h.fits, fun j hj => (h.uart j hj).keeps o fun i hi e => by subst e; omega, h.len, h.le, h.kb,
    fun i hi => Nat.lt_of_lt_of_le (h.lt i hi) o.size, hp.2, h.pok, h.kt, h.tabs.keeps o fun i hi e => by have := h.kt i hi; subst e; omega⟩
/-- New blocks are given to part k. -/
def relabel (w : World) (K : Nat → Nat) (k : Nat) (w' : World) : Nat → Nat := fun i => if i < w.heap.size then K i else if i < w'.heap.size then k else 0
theorem relabel_grow (w : World) (K : Nat → Nat) (k : Nat) (w' : World) : Grow w K (relabel w K k w') := fun i hi => if_pos hi
theorem relabel_lt {K : Nat → Nat} {k : Nat} (hl : ∀ i, ¬ K i = 0 → i < w.heap.size) (hs : w.heap.size ≤ w'.heap.size) : ∀ i, ¬ relabel w K k w' i = 0 → i < w'.heap.size := by
  intro i hi
  unfold relabel at hi
  split at hi
  · omega
  · split at hi
    · assumption
    · exact absurd rfl hi
theorem relabel_in {K : Nat → Nat} {k j i : Nat} (hl : ∀ i, ¬ K i = 0 → i < w.heap.size) (hs : w.heap.size ≤ w'.heap.size) (hj : ¬ j = 0) (h : relabel w K k w' i = j) : i < w'.heap.size := relabel_lt hl hs i (by rw [h]; exact hj)
theorem relabel_old {K : Nat → Nat} {k j i : Nat} (hl : ∀ i, ¬ K i = 0 → i < w.heap.size) (hj : ¬ j = 0) (h : K i = j) : relabel w K k w' i = j := by
  unfold relabel; rw [if_pos (hl i (by omega))]; exact h
theorem relabel_new {K : Nat → Nat} {k i : Nat} (h : K i = k ∨ w.heap.size ≤ i) (hw : i < w'.heap.size) : relabel w K k w' i = k := by
  unfold relabel
  split
  · rcases h with h | h
    · exact h
    · omega
  · first | rfl | rw [if_pos hw]
/-- A part's call: all the others stand. -/
theorem BusQ.part (h : BusQ w b K g vp ul st R) {k : Nat} (hk : 2 ≤ k) (o : Only (fun i => K i = k) w w') {st' : BS} (hc : st'.c = st.c) (hp : st'.p = st.p) (hs : st'.size = st.size) (hlen : st'.us.length = st.us.length)
    (hm : M3.ProgMem w' g (fun i => relabel w K k w' i = 2) 2147483648 st.size st'.m) (hu : ∀ j, j < ul.length → U6.UP w' (ul.getD j 0) (fun i => relabel w K k w' i = 3 + j) (st'.us.getD j U6.u0)) : BusQ w' b (relabel w K k w') g vp ul st' R := by
  have kb := h.kb
  obtain ⟨size', m', c', p', us'⟩ := st'
  simp only at hc hp hs hlen hm hu
  subst hc hp hs
  refine ⟨h.obj.keeps o (by show ¬ K b = k; omega), h.ports.keeps o (fun i hi => .inl (by show ¬ K i = 1; omega)) (relabel_grow w K k w'), hm, h.fits, hu, hlen.trans h.len, h.le, ?_, relabel_lt h.lt o.size, h.cok, h.pok, ?_, h.tabs.keeps o fun i hi e => by have := h.kt i hi; omega⟩
  · exact relabel_old h.lt (by omega) kb
  · intro i hi
    rw [relabel_grow w K k w' i (h.tabs.lt hi)]; exact h.kt i hi
/-- A uart turned. -/
theorem BusQ.setUart (h : BusQ w b K g vp ul st R) {j : Nat} (hj : j < ul.length) {t' : U6.US} (k : U6.EndU U6.cellsP 131 w (ul.getD j 0) (fun i => K i = 3 + j) t' w') : BusQ w' b (relabel w K (3 + j) w') g vp ul { st with us := st.us.set j t' } R := by
  obtain ⟨o, F', hF', hu⟩ := k
  have hu : U6.UP w' (ul.getD j 0) F' t' := hu
  refine h.part (by omega) o rfl rfl rfl (by simp) ?_ ?_
  · exact (h.mem.keeps o (fun i hi => by show ¬ K i = 3 + j; omega)).mono (fun i hi => relabel_old h.lt (by omega) hi) fun i hi => relabel_in h.lt o.size (by omega) hi
  · intro i hi
    by_cases e : i = j
    · subst e
      have e1 : (st.us.set i t').getD i U6.u0 = t' := by
        rw [List.getD_eq_getElem?_getD, List.getElem?_set_self (by rw [h.len]; exact hi)]; rfl
      rw [e1]
      exact hu.mono (fun x hx => relabel_new (hF' x hx) (hu.lt x hx)) fun x hx => relabel_in h.lt o.size (by omega) hx
    · have e1 : (st.us.set j t').getD i U6.u0 = st.us.getD i U6.u0 := by
        rw [List.getD_eq_getElem?_getD, List.getD_eq_getElem?_getD, List.getElem?_set_ne (fun e' => e e'.symm)]
      rw [e1]
      exact ((h.uart i hi).keeps o fun x hx => by show ¬ K x = 3 + j; omega).mono (fun x hx => relabel_old h.lt (by omega) hx) fun x hx => relabel_in h.lt o.size (by omega) hx
/-- The memory turned. -/
theorem BusQ.setMem (h : BusQ w b K g vp ul st R) {m' : Int → Int} {r : Bool} {e : Ending} (k : M3.ProgEnd M3.ProgMem w g (fun i => K i = 2) 2147483648 st.size m' r e w') : BusQ w' b (relabel w K 2 w') g vp ul { st with m := m' } R := by
  obtain ⟨_, o, S', hS', hm⟩ := k
  refine h.part (by omega) o rfl rfl rfl rfl ?_ ?_
  · exact hm.mono (fun x hx => relabel_new (hS' x hx) (hm.lt x hx)) fun x hx => relabel_in h.lt o.size (by omega) hx
  · intro i hi
    exact ((h.uart i hi).keeps o fun x hx => by show ¬ K x = 2; omega).mono (fun x hx => relabel_old h.lt (by omega) hx) fun x hx => relabel_in h.lt o.size (by omega) hx
theorem BusP.below (h : BusP w b K g vp ul st) (o : Below w.heap.size w w') : BusP w' b K g vp ul st := BusQ.below h o
theorem BusP.keeps {T : Nat → Prop} (h : BusP w b K g vp ul st) (o : Only T w w') (hT : ∀ i, ¬ K i = 0 ∨ TabB i → ¬ T i) : BusP w' b K g vp ul st := BusQ.keeps h o hT
theorem BusP.setPlic (h : BusP w b K g vp ul st) {p' : P5.PS} (o : Only (fun i => i = b) w w') (hp : P5.In.ProgP (frP g st.c vp (regs b g st.size ul)) w' b p') : BusP w' b K g vp ul { st with p := p' } := BusQ.setPlic h o hp
theorem BusP.setClint (h : BusP w b K g vp ul st) {c' : C4.Cl} (o : Only (fun i => i = b) w w') (hp : C4.In.ProgC (frC g st.p vp (regs b g st.size ul)) w' b c') : BusP w' b K g vp ul { st with c := c' } := BusQ.setClint h o hp
theorem BusP.setUart (h : BusP w b K g vp ul st) {j : Nat} (hj : j < ul.length) {t' : U6.US} (k : U6.EndU U6.cellsP 131 w (ul.getD j 0) (fun i => K i = 3 + j) t' w') : BusP w' b (relabel w K (3 + j) w') g vp ul { st with us := st.us.set j t' } := BusQ.setUart h hj k
theorem BusP.setMem (h : BusP w b K g vp ul st) {m' : Int → Int} {r : Bool} {e : Ending} (k : M3.ProgEnd M3.ProgMem w g (fun i => K i = 2) 2147483648 st.size m' r e w') : BusP w' b (relabel w K 2 w') g vp ul { st with m := m' } := BusQ.setMem h k
theorem BusP.end_same (h : BusP w b K g vp ul st) {r : Value} (o : Below w.heap.size w w') : BusEnd w b K g vp ul r st (.returned r) w' := ⟨rfl, Only.of_below _ o, K, Grow.refl _ _, h.below o⟩
end

end Go.Proofs.YtbcnkhfpogglmaaGreatDoor

namespace Go.Proofs.YtbcnkhfpogglmaaGreatDoor
open Go.RowKit
set_option linter.unusedVariables false
set_option maxRecDepth 100000

theorem info_port : (Tryz.prog.info? 86).map (fun i => (i.zero, i.size, i.bytes)) = some (some (.agg #[.pointer none, .pointer none, .int .i64 0]), 3, 24) := by kernel_rfl
/-- What plug leaves: the row of ports is one longer. -/
def PlugE (w : World) (b g : Nat) (c : C4.Cl) (p : P5.PS) (vp : Value) (R : Array Value) (n : Nat) (cs : List Value) (e : Ending) (w' : World) : Prop :=
  (∃ v, e = .returned v) ∧ ∃ vp', BusAt w' b g c p vp' R ∧ w'.ownsRow (b + 1) 86 3 vp' (n + 1) cs ∧ Only (fun i => i = b ∨ vp.ownBlock = some i) w w' ∧ ∀ x, vp'.ownBlock = some x → vp.ownBlock = some x ∨ w.heap.size ≤ x
set_option maxHeartbeats 1000000 in
theorem plug_any {w : World} {b g : Nat} {c : C4.Cl} {p : P5.PS} {vp : Value} {R : Array Value} (h : BusAt w b g c p vp R) (n : Nat) (cs : List Value) (ho : w.ownsRow (b + 1) 86 3 vp n cs) (hn : n < 9) (u : Nat) :
    Calls Tryz.prog 31 #[.pointer (some ⟨b, 0, none⟩), .pointer (some ⟨u, 0, none⟩)] w (PlugE w b g c p vp R n (cs ++ [.pointer (some ⟨u, 0, none⟩), .pointer (some ⟨b, 4, none⟩), .int .i64 (10 + (n : Int))])) := by
  obtain ⟨i0, hi, hz0, hz1, hz2⟩ := U6.info_parts8 info_port
  obtain ⟨A, m, C, hvp⟩ := M3.own_slice ho
  subst hvp
  have hmn : m = n := by
    rcases Lays.own ho with ⟨h1, h2, _⟩ | ⟨_, _, h1, _, _⟩
    · simp at h1; omega
    · simp at h1; omega
  subst hmn
  have hbl := h.lt
  have hcell := h.ports_
  have hfr := h.free 43
  have B1 : Below w.heap.size w (w.drew.alloc (.cells #[.pointer (some ⟨u, 0, none⟩), .pointer (some ⟨b, 4, none⟩), .int .i64 (10 + (m : Int))] 86)) := (Below.refl _ _).drew.alloc (Nat.le_refl _) _
  have hnc : ∀ j x, ([.pointer (some ⟨u, 0, none⟩), .pointer (some ⟨b, 4, none⟩), .int .i64 (10 + (m : Int))] : List Value)[j]? = some x → (w.drew.alloc (.cells #[.pointer (some ⟨u, 0, none⟩), .pointer (some ⟨b, 4, none⟩), .int .i64 (10 + (m : Int))] 86)).cell? ((⟨w.heap.size, 0, none⟩ : Addr).add j) = some x := by
    intro j x hj
    rw [add_none, Nat.zero_add]
    have hz : (w.drew.alloc (.cells #[.pointer (some ⟨u, 0, none⟩), .pointer (some ⟨b, 4, none⟩), .int .i64 (10 + (m : Int))] 86)).heap[w.heap.size]? = some (.cells #[.pointer (some ⟨u, 0, none⟩), .pointer (some ⟨b, 4, none⟩), .int .i64 (10 + (m : Int))] 86 (0, 0)) := heap_alloc_new w.drew _
    rw [cell_of_row _ _ _ _ _ _ hz]
    simpa using hj
  obtain ⟨v', w', hr, h2, h3, _, h5⟩ := run_append_own_at (P := Tryz.prog) (w.drew.alloc (.cells #[.pointer (some ⟨u, 0, none⟩), .pointer (some ⟨b, 4, none⟩), .int .i64 (10 + (m : Int))] 86)) (b + 1) 71 71 86 i0 (.agg #[.pointer none, .pointer none, .int .i64 0]) 3 24 Tryz.underlying71 hi hz0 hz1 hz2 rfl (by decide) (.slice A m C) m cs ((show w.drew.ownsRow (b + 1) 86 3 (.slice A m C) m cs from ho).alloc _) ⟨w.heap.size, 0, none⟩ 1 1 [.pointer (some ⟨u, 0, none⟩), .pointer (some ⟨b, 4, none⟩), .int .i64 (10 + (m : Int))] rfl hnc (by intro x hx; simp at hx; rcases hx with rfl | rfl | rfl <;> rfl) (by unfold maxLen; omega) (by omega) (by have := B1.size; simp; omega)
  obtain ⟨A2, m2, C2, hv2⟩ := M3.own_slice h2
  subst hv2
  have hno : ¬ (Value.slice A m C).ownBlock = some b := fun e => by
    have := (ho.lt b e).1; omega
  have hat : BusAt w' b g c p (.slice A m C) R := (h3.block b (Nat.lt_of_lt_of_le hbl B1.size) (fun e => hno e.symm)).trans ((B1.block b hbl).trans h)
  have f2 := hat.free 43
  have c2 := hat.ports_
  have hE : PlugE w b g c p (.slice A m C) R m (cs ++ [.pointer (some ⟨u, 0, none⟩), .pointer (some ⟨b, 4, none⟩), .int .i64 (10 + (m : Int))]) (.returned (.tuple #[])) (w'.setCell ⟨b, 43, none⟩ (.slice A2 m2 C2)) := by
    refine ⟨⟨_, rfl⟩, _, hat.setPorts _, ?_, ?_, ?_⟩
    · exact ownsRow_setCell_below h2 (by show b < b + 1; omega) _
    · exact (Only.setCell ((Only.of_below _ B1).grown h3 fun k hk => .inl (.inr hk)) (p := ⟨b, 43, none⟩) (.inl (.inl rfl)) _)
    · intro x hx
      rcases h5 with h5 | h5
      · exact .inl (h5 ▸ hx)
      · rw [h5] at hx; injection hx with hx; have := B1.size; exact .inr (by omega)
  have HRUN := Lib.hid hr
  have HE := Lib.hid hE
  have hsum : IntKind.i64.wrap (10 + (m : Int)) = 10 + (m : Int) := IntWalk.i64_in _ (by omega)
  clear hr hE h2 h3 h5 hat hno B1 ho h hz0 hz1 hz2 hi
  go_enter Tryz.func31, Tryz.ntmps31
  go_wp2_with fail
  go_region_law (first | (refine M3.step_append_run rfl (.tmp 8) (.tmp 20) 71 rfl (.slice A m C) (.slice (some ⟨w.heap.size, 0, none⟩) 1 1) (.slice A2 m2 C2) w' rfl rfl HRUN.out ?_))
  all_goals
    go_end0
    exact HE.out

end Go.Proofs.YtbcnkhfpogglmaaGreatDoor

namespace Go.Proofs.YtbcnkhfpogglmaaGreatDoor
open Go.RowKit
set_option linter.unusedVariables false
set_option maxRecDepth 100000

theorem busLen_any (n : Int) (w : World) : Calls Tryz.prog 35 #[.int .i64 n] w fun e w' => e = .returned (.bool (M3.okN n)) ∧ w = w' := by
  by_cases h1 : n = 1
  · subst h1
    have HE : Hid (true = M3.okN 1) := Lib.hid (by decide)
    go_enter Tryz.func35, Tryz.ntmps35
    go_wp2
    go_ret
    exact ⟨by rw [← HE.out]; rfl, rfl⟩
  by_cases h2 : n = 2
  · subst h2
    have HE : Hid (true = M3.okN 2) := Lib.hid (by decide)
    go_enter Tryz.func35, Tryz.ntmps35
    go_wp2
    go_ret
    exact ⟨by rw [← HE.out]; rfl, rfl⟩
  by_cases h4 : n = 4
  · subst h4
    have HE : Hid (true = M3.okN 4) := Lib.hid (by decide)
    go_enter Tryz.func35, Tryz.ntmps35
    go_wp2
    go_ret
    exact ⟨by rw [← HE.out]; rfl, rfl⟩
  by_cases h8 : n = 8
  · subst h8
    have HE : Hid (true = M3.okN 8) := Lib.hid (by decide)
    go_enter Tryz.func35, Tryz.ntmps35
    go_wp2
    go_ret
    exact ⟨by rw [← HE.out]; rfl, rfl⟩
  have HE : Hid (false = M3.okN n) := Lib.hid (by unfold M3.okN; symm; rw [decide_eq_false_iff_not]; omega)
  have e1 : (n == 1) = false := by simpa using h1
  have e2 : (n == 2) = false := by simpa using h2
  have e4 : (n == 4) = false := by simpa using h4
  have e8 : (n == 8) = false := by simpa using h8
  clear h1 h2 h4 h8
  go_enter Tryz.func35, Tryz.ntmps35
  go_wp2
  go_ret
  exact ⟨by rw [← HE.out]; rfl, rfl⟩

/-- What find tells. -/
def findV (b : Nat) (size : Int) (n : Nat) (a len : Int) : Value := if M3.okN len = true ∧ regK size n a < 11 then .pointer (some ⟨b, 44 + regK size n a * 5, none⟩) else .pointer none
def FindE (w : World) (b q : Nat) (e : Ending) (w' : World) : Prop := e = .returned (if q < 11 then .pointer (some ⟨b, 44 + q * 5, none⟩) else .pointer none) ∧ Below w.heap.size w w'
theorem find_nil (a n : Int) (w : World) : Calls Tryz.prog 34 #[.pointer none, .int .u64 a, .int .i64 n] w fun e w' => e = .returned (.pointer none) ∧ w = w' := by
  go_enter Tryz.func34, Tryz.ntmps34
  go_wp2
  go_ret
  exact ⟨rfl, rfl⟩
set_option maxHeartbeats 1000000 in
theorem find_any {w : World} {b g : Nat} {K : Nat → Nat} {vp : Value} {ul : List Nat} {st : BS} (h : BusP w b K g vp ul st) (a n : Int) (ha : In64 a) :
    Calls Tryz.prog 34 #[.pointer (some ⟨b, 0, none⟩), .int .u64 a, .int .i64 n] w fun e w' => e = .returned (findV b st.size ul.length a n) ∧ Below w.heap.size w w' := by
  cases hk : M3.okN n with
  | false =>
    have HK := Lib.hid hk
    have HE : Hid (findV b st.size ul.length a n = .pointer none) := Lib.hid (by unfold findV; rw [hk]; simp)
    rw [HE.out]
    clear h ha hk
    go_enter Tryz.func34, Tryz.ntmps34
    go_wp2_with (go_at_call 35; refine (busLen_any _ _).mono ?_; rintro e w' ⟨rfl, rfl⟩; rw [HK.out])
    go_ret
    exact ⟨rfl, Below.refl _ _⟩
  | true =>
    have HK := Lib.hid hk
    have H := Lib.hid h
    have HA := Lib.hid ha
    obtain ⟨q, hq⟩ : ∃ q, regK st.size ul.length a = q := ⟨_, rfl⟩
    have hq11 : q ≤ 11 := by rw [← hq]; exact regK_le h.le
    have HQ := Lib.hid hq
    have HE : Hid (findV b st.size ul.length a n = if q < 11 then .pointer (some ⟨b, 44 + q * 5, none⟩) else .pointer none) := Lib.hid (by
      unfold findV; rw [hk, hq]
      by_cases c : q < 11
      · rw [if_pos c, if_pos ⟨rfl, c⟩]
      · rw [if_neg c, if_neg fun x => c x.2])
    rw [HE.out]
    show Calls Tryz.prog 34 #[.pointer (some ⟨b, 0, none⟩), .int .u64 a, .int .i64 n] w (FindE w b q)
    clear h ha hk hq
    go_enter Tryz.func34, Tryz.ntmps34
    go_wp2_with (go_at_call 35; refine (busLen_any _ _).mono ?_; rintro e w' ⟨rfl, rfl⟩; rw [HK.out])
    go_loopw [16] (fun i wr => ∃ k : Nat, k ≤ 11 ∧ k ≤ q ∧ i = .int .i64 k ∧ Below w.heap.size w wr) (fun i wr => (11 - intOf i).toNat)
    case atStart => exact ⟨0, by omega, by omega, rfl, Below.refl _ _⟩
    case round =>
      obtain ⟨k, hk, hkq, rfl, hbr⟩ := hrel
      have HBR := Lib.hid hbr
      clear hbr
      by_cases k11 : k < 11
      · have HP := H.out.below HBR.out
        have c0 : wr.cell? ⟨b, 44 + k * 5, none⟩ = some (.int .u64 (regBase ul.length k)) := HP.obj.reg_ (i := k * 5 + 0) (by omega) (regs_get b g st.size ul k11 (by omega))
        have c1 : wr.cell? ⟨b, 44 + k * 5 + 1, none⟩ = some (.int .u64 (regSize st.size ul.length k)) := HP.obj.reg_ (i := k * 5 + 1) (by omega) (regs_get b g st.size ul k11 (by omega))
        have hin := inReg_is HP.le k11 HA.out HP.fits.2.1 HP.fits.2.2.1
        rw [HQ.out] at hin
        clear HP
        generalize regBase ul.length k = B at *
        generalize regSize st.size ul.length k = Z at *
        have i1 : (k : Int) < 11 := by omega
        by_cases hqk : q = k
        · have hlt := hin.2 hqk
          obtain ⟨D, hD⟩ : ∃ D, (a - B) % 18446744073709551616 = D := ⟨_, rfl⟩
          rw [hD] at hlt
          have hw : IntKind.u64.wrap (a - B) = D := by rw [IntKind.wrap_u64]; exact hD
          clear hin hD
          have HQK := Lib.hid hqk
          clear hqk
          go_wp2_with fail
          go_quiet (fail)
          go_wp2
          go_ret
          have hqk := HQK.out
          exact ⟨by subst hqk; rw [if_pos k11]; rfl, ⟨HBR.out.os, HBR.out.tape, HBR.out.output, HBR.out.size, HBR.out.block⟩⟩
        · have hlt : ¬ (a - B) % 18446744073709551616 < Z := fun x => hqk (hin.1 x)
          obtain ⟨D, hD⟩ : ∃ D, (a - B) % 18446744073709551616 = D := ⟨_, rfl⟩
          rw [hD] at hlt
          have hw : IntKind.u64.wrap (a - B) = D := by rw [IntKind.wrap_u64]; exact hD
          clear hin hD
          have hkq2 : k + 1 ≤ q := by omega
          clear hqk
          go_wp2_with fail
          go_quiet (fail)
          go_wp2
          go_roundw
          case rel => exact ⟨k + 1, by omega, hkq2, by go_num, ⟨HBR.out.os, HBR.out.tape, HBR.out.output, HBR.out.size, HBR.out.block⟩⟩
          case measure => simp [intOf]; omega
      · obtain rfl : k = 11 := by omega
        have hq2 : ¬ q < 11 := by omega
        have HQ2 := Lib.hid hq2
        clear k11 hk hkq hq11 hq2
        go_wp2
        go_ret
        exact ⟨by rw [if_neg HQ2.out]; rfl, HBR.out⟩

theorem readClint_any {w : World} {b g : Nat} {K : Nat → Nat} {vp : Value} {ul : List Nat} {st : BS} (h : BusP w b K g vp ul st) (off n : Int) (ho : In64 off) :
    Calls Tryz.prog 78 #[.pointer (some ⟨b, 0, none⟩), .int .u64 off, .int .i64 n] w (C4.ReadC w (C4.rdC st.c (C4.kindC off n)) (C4.okC off n)) := by
  obtain ⟨c0, c1, c2⟩ := h.obj.clint_
  have HC : Hid (∀ w', Calls Tryz.prog 122 #[.agg #[.bool st.c.s, .int .u64 st.c.c, .int .u64 st.c.n], .int .u64 off, .int .i64 n] w' (C4.ReadC w' (C4.rdC st.c (C4.kindC off n)) (C4.okC off n))) := Lib.hid fun w' => C4.read_any w' st.c h.cok off n ho
  clear h ho
  go_enter Tryz.func78, Tryz.ntmps78
  go_wp2_with fail
  (with_reducible refine (HC.out _).mono ?_)
  rintro e w' ⟨rfl, hb⟩
  have HB := Lib.hid hb
  clear hb HC
  go_wp2
  go_ret2
  exact ⟨rfl, HB.out⟩

/-- Whether there is a uart of that number. -/
def isU (n : Nat) (i : Int) : Bool := decide (0 ≤ i ∧ i < n)
theorem hasUart_nil (i : Int) (w : World) : Calls Tryz.prog 43 #[.pointer none, .int .i64 i] w fun e w' => e = .returned (.bool false) ∧ w = w' := by
  go_enter Tryz.func43, Tryz.ntmps43
  go_wp2
  go_ret
  exact ⟨rfl, rfl⟩
theorem hasUart_any {w : World} {b g : Nat} {K : Nat → Nat} {vp : Value} {ul : List Nat} {st : BS} (h : BusP w b K g vp ul st) (i : Int) :
    Calls Tryz.prog 43 #[.pointer (some ⟨b, 0, none⟩), .int .i64 i] w fun e w' => e = .returned (.bool (isU ul.length i)) ∧ w = w' := by
  have c0 := h.obj.ports_
  obtain ⟨a, c, rfl, hc⟩ := h.ports.len
  have hl := h.le
  clear h
  generalize ul.length = m at *
  by_cases i0 : 0 ≤ i
  · by_cases i1 : i < m
    · have HE : Hid (true = isU m i) := Lib.hid (by unfold isU; rw [decide_eq_true ⟨i0, i1⟩])
      go_enter Tryz.func43, Tryz.ntmps43
      go_wp2
      go_ret
      exact ⟨by rw [← HE.out]; rfl, rfl⟩
    · have HE : Hid (false = isU m i) := Lib.hid (by unfold isU; symm; rw [decide_eq_false_iff_not]; omega)
      go_enter Tryz.func43, Tryz.ntmps43
      go_wp2
      go_ret
      exact ⟨by rw [← HE.out]; rfl, rfl⟩
  · have HE : Hid (false = isU m i) := Lib.hid (by unfold isU; symm; rw [decide_eq_false_iff_not]; omega)
    go_enter Tryz.func43, Tryz.ntmps43
    go_wp2
    go_ret
    exact ⟨by rw [← HE.out]; rfl, rfl⟩

end Go.Proofs.YtbcnkhfpogglmaaGreatDoor

namespace Go.Proofs.YtbcnkhfpogglmaaGreatDoor
open Go.RowKit
set_option linter.unusedVariables false
set_option maxRecDepth 100000

/-- What the uart's line is, the plic has been told. -/
def driveS (st : BS) (i : Nat) : BS := { st with p := P5.levelP st.p (10 + (i : Int)) (U6.lineU (st.us.getD i U6.u0)) }
def uartS (st : BS) (i : Nat) (t : U6.US) : BS := { st with us := st.us.set i t }
def DriveE (w : World) (b : Nat) (K : Nat → Nat) (g : Nat) (vp : Value) (ul : List Nat) (st' : BS) (e : Ending) (w' : World) : Prop := (∃ v, e = .returned v) ∧ Only (fun i => i = b) w w' ∧ BusP w' b K g vp ul st'
set_option maxHeartbeats 1000000 in
theorem drive_d {w : World} {b g : Nat} {K : Nat → Nat} {vp : Value} {ul : List Nat} {st : BS} (h : BusP w b K g vp ul st) (i : Nat) (hi : i < ul.length) (u : FrameMode) :
    CallsD Tryz.prog 88 #[portV b ul i] u w fun e u' w' => u' = u ∧ DriveE w b K g vp ul (driveS st i) e w' := by
  have HL : Hid (∀ w', BusP w' b K g vp ul st → Calls Tryz.prog 130 #[.pointer (some ⟨ul.getD i 0, 0, none⟩)] w' fun e w'' => e = .returned (.bool (U6.lineU (st.us.getD i U6.u0))) ∧ w' = w'') := Lib.hid fun w' h' => by
    obtain ⟨vi, vo, hu⟩ := h'.uart i hi
    exact U6.line_any w' _ _ _ vi vo hu
  have HV : Hid (∀ w', BusP w' b K g vp ul st → Calls Tryz.prog 45 #[.pointer (some ⟨b, 4, none⟩), .int .i64 (10 + (i : Int)), .bool (U6.lineU (st.us.getD i U6.u0))] w' fun e w'' => (∃ v, e = .returned v) ∧ Only (fun i => i = b) w' w'' ∧ BusP w'' b K g vp ul (driveS st i)) := Lib.hid fun w' h' =>
    (P5.In.level_any w' b st.p (10 + (i : Int)) (U6.lineU (st.us.getD i U6.u0)) (h'.obj.plic h'.pok)).mono fun e w'' k => ⟨⟨_, k.1⟩, k.2.1, h'.setPlic k.2.1 k.2.2⟩
  have HB : Hid (Only (fun i => i = b) w (w.alloc (.cells #[.pointer (some ⟨ul.getD i 0, 0, none⟩), .pointer (some ⟨b, 4, none⟩), .int .i64 (10 + (i : Int))] 86))) := Lib.hid ((Only.refl _ w).alloc _)
  have HP : Hid (BusP (w.alloc (.cells #[.pointer (some ⟨ul.getD i 0, 0, none⟩), .pointer (some ⟨b, 4, none⟩), .int .i64 (10 + (i : Int))] 86)) b K g vp ul st) := Lib.hid (h.below ((Below.refl _ _).alloc (Nat.le_refl _) _))
  unfold portV
  clear h
  generalize U6.lineU (st.us.getD i U6.u0) = r at *
  generalize ul.getD i 0 = ui at *
  generalize driveS st i = st' at *
  generalize (10 + (i : Int)) = s at *
  go_enter_d Tryz.func88, Tryz.ntmps88
  go_wp2_with fail
  have D : (w.alloc (.cells #[.pointer (some ⟨ui, 0, none⟩), .pointer (some ⟨b, 4, none⟩), .int .i64 s] 86)).heap[w.heap.size]? = some (.cells #[.pointer (some ⟨ui, 0, none⟩), .pointer (some ⟨b, 4, none⟩), .int .i64 s] 86 (0, 0)) := heap_alloc_new w _
  generalize w.alloc (.cells #[.pointer (some ⟨ui, 0, none⟩), .pointer (some ⟨b, 4, none⟩), .int .i64 s] 86) = w1 at *
  generalize w.heap.size = x at *
  have c0 : w1.drew.cell? ⟨x, 0, none⟩ = some (.pointer (some ⟨ui, 0, none⟩)) := by rw [show w1.drew.cell? ⟨x, 0, none⟩ = w1.cell? ⟨x, 0, none⟩ from rfl, cell_of_row w1 x _ _ _ _ D]; rfl
  have c1 : w1.drew.cell? ⟨x, 1, none⟩ = some (.pointer (some ⟨b, 4, none⟩)) := by rw [show w1.drew.cell? ⟨x, 1, none⟩ = w1.cell? ⟨x, 1, none⟩ from rfl, cell_of_row w1 x _ _ _ _ D]; rfl
  have c2 : w1.drew.cell? ⟨x, 2, none⟩ = some (.int .i64 s) := by rw [show w1.drew.cell? ⟨x, 2, none⟩ = w1.cell? ⟨x, 2, none⟩ from rfl, cell_of_row w1 x _ _ _ _ D]; rfl
  have HPD : Hid (BusP w1.drew b K g vp ul st) := Lib.hid (HP.out.below (Below.refl _ _).drew)
  have HBD : Hid (Only (fun i => i = b) w w1.drew) := Lib.hid (HB.out.drewN 1)
  clear D HP HB
  go_region_with (first
    | (go_at_call 130; (with_reducible refine (HL.out _ HPD.out).mono ?_); rintro e w' ⟨rfl, rfl⟩)
    | (go_at_call 45; (with_reducible refine (HV.out _ HPD.out).mono ?_); rintro e w2 ⟨⟨v, rfl⟩, ho, hp⟩; have HO2 := Lib.hid (HBD.out.trans ho); have HP2 := Lib.hid hp; clear ho hp))
  all_goals
    go_end0
    exact ⟨⟨_, rfl⟩, HO2.out, HP2.out⟩

section
variable {w w' : World} {b g : Nat} {K : Nat → Nat} {vp : Value} {ul : List Nat} {st : BS}
theorem BusP.uartEnd (h : BusP w b K g vp ul st) {i : Nat} (hi : i < ul.length) {r : Value} {t' : U6.US} {e : Ending} (k : U6.TellU w (ul.getD i 0) (fun x => K x = 3 + i) r t' e w') : BusEnd w b K g vp ul r (uartS st i t') e w' := by
  obtain ⟨he, k⟩ := k
  exact ⟨he, k.1.mono fun x hx => .inl (by show ¬ K x = 0; have : K x = 3 + i := hx; omega), _, relabel_grow w K (3 + i) w', h.setUart hi k⟩
theorem Grow.trans {w w1 : World} {K K1 K2 : Nat → Nat} (h : Grow w K K1) (k : Grow w1 K1 K2) (hs : w.heap.size ≤ w1.heap.size) : Grow w K K2 := fun i hi => (k i (by omega)).trans (h i hi)
theorem Grow.earlier {w w1 : World} {K K1 : Nat → Nat} (k : Grow w1 K K1) (hs : w.heap.size ≤ w1.heap.size) : Grow w K K1 := fun i hi => k i (by omega)
/-- A call of the bus's behind one that left the bus alone. -/
theorem BusEnd.behind {w1 : World} {r : Value} {st' : BS} {e : Ending} (o : Only (fun i => ¬ K i = 0) w w1) (k : BusEnd w1 b K g vp ul r st' e w') : BusEnd w b K g vp ul r st' e w' := by
  obtain ⟨he, o2, K', hg, hp⟩ := k
  exact ⟨he, o.trans o2, K', hg.earlier o.size, hp⟩
/-- One call behind another. -/
theorem BusEnd.step {w1 : World} {K1 : Nat → Nat} {r : Value} {st' : BS} {e : Ending} (o : Only (fun i => ¬ K i = 0) w w1) (hg : Grow w K K1) (hl : ∀ i, ¬ K1 i = 0 → i < w1.heap.size) (k : BusEnd w1 b K1 g vp ul r st' e w') : BusEnd w b K g vp ul r st' e w' := by
  obtain ⟨he, o2, K', hg2, hp⟩ := k
  refine ⟨he, o.step o2 fun i hi => ?_, K', hg.trans hg2 o.size, hp⟩
  by_cases c : i < w.heap.size
  · left; rw [hg i c] at hi; exact hi
  · right; omega
theorem DriveE.end {w1 : World} {K1 : Nat → Nat} {st' : BS} {r : Value} {e : Ending} (o : Only (fun i => ¬ K i = 0) w w1) (hg : Grow w K K1) (h1 : BusP w1 b K1 g vp ul st) (k : DriveE w1 b K1 g vp ul st' e w') : BusEnd w b K g vp ul r st' (.returned r) w' :=
  BusEnd.step o hg h1.lt ⟨rfl, k.2.1.mono fun i hi => .inl (by subst hi; rw [h1.kb]; omega), K1, Grow.refl _ _, k.2.2⟩
end

set_option maxHeartbeats 1000000 in
theorem portFeed_any {w : World} {b g : Nat} {K : Nat → Nat} {vp : Value} {ul : List Nat} {st : BS} (h : BusP w b K g vp ul st) (i : Nat) (hi : i < ul.length) (x : Int) (hx : 0 ≤ x ∧ x < 256) :
    Calls Tryz.prog 44 #[portV b ul i, .int .u8 x] w (BusEnd w b K g vp ul (.bool (U6.feedK (st.us.getD i U6.u0))) (driveS (uartS st i (U6.feedT (st.us.getD i U6.u0) x)) i)) := by
  have HF : Hid (∀ w', BusP w' b K g vp ul st → Calls Tryz.prog 89 #[.pointer (some ⟨ul.getD i 0, 0, none⟩), .int .u8 x] w' (BusEnd w' b K g vp ul (.bool (U6.feedK (st.us.getD i U6.u0))) (uartS st i (U6.feedT (st.us.getD i U6.u0) x)))) := Lib.hid fun w' h' => by
    obtain ⟨vi, vo, hu⟩ := h'.uart i hi
    exact (U6.feed_any w' _ _ _ vi vo hu x hx).mono fun e w'' k => h'.uartEnd hi k
  have HD : Hid (∀ w' K' u, BusP w' b K' g vp ul (uartS st i (U6.feedT (st.us.getD i U6.u0) x)) → CallsD Tryz.prog 88 #[portV b ul i] u w' fun e u' w'' => u' = u ∧ DriveE w' b K' g vp ul (driveS (uartS st i (U6.feedT (st.us.getD i U6.u0) x)) i) e w'') := Lib.hid fun w' K' u h' => drive_d h' i hi u
  have HB : Hid (Only (fun i => ¬ K i = 0) w (w.alloc (.cells #[.pointer (some ⟨ul.getD i 0, 0, none⟩), .pointer (some ⟨b, 4, none⟩), .int .i64 (10 + (i : Int))] 86))) := Lib.hid ((Only.refl _ w).alloc _)
  have HP : Hid (BusP (w.alloc (.cells #[.pointer (some ⟨ul.getD i 0, 0, none⟩), .pointer (some ⟨b, 4, none⟩), .int .i64 (10 + (i : Int))] 86)) b K g vp ul st) := Lib.hid (h.below ((Below.refl _ _).alloc (Nat.le_refl _) _))
  unfold portV at HD ⊢
  clear h hx
  generalize U6.feedK (st.us.getD i U6.u0) = r at *
  generalize driveS (uartS st i (U6.feedT (st.us.getD i U6.u0) x)) i = st2 at *
  generalize uartS st i (U6.feedT (st.us.getD i U6.u0) x) = st1 at *
  generalize ul.getD i 0 = ui at *
  generalize (10 + (i : Int)) = s at *
  go_enter_defers Tryz.func44, Tryz.ntmps44
  go_wp2_with fail
  (with_reducible refine (HF.out _ HP.out).mono ?_)
  rintro e w2 ⟨rfl, ho, K1, hg, hp⟩
  have HO2 := Lib.hid (HB.out.trans ho)
  have HG2 := Lib.hid (hg.earlier (w := w) HB.out.size)
  have HP2 := Lib.hid hp
  clear ho hg hp HB HP HF
  go_wp2
  refine leaves_cons (f := 88) (args := #[.agg #[.pointer (some ⟨ui, 0, none⟩), .pointer (some ⟨b, 4, none⟩), .int .i64 s]]) (by simp) (by simp [go_sem]) ?_
  refine (HD.out _ K1 .returning HP2.out).mono ?_
  rintro e u' w3 ⟨rfl, hd⟩
  obtain ⟨⟨v, rfl⟩, _⟩ := id hd
  exact ⟨_, results_tmp rfl _ _ _, DriveE.end HO2.out HG2.out HP2.out hd⟩

end Go.Proofs.YtbcnkhfpogglmaaGreatDoor

namespace Go.Proofs.YtbcnkhfpogglmaaGreatDoor
open Go.RowKit
set_option linter.unusedVariables false
set_option maxRecDepth 100000

set_option maxHeartbeats 1000000 in
theorem portRead_any {w : World} {b g : Nat} {K : Nat → Nat} {vp : Value} {ul : List Nat} {st : BS} (h : BusP w b K g vp ul st) (i : Nat) (hi : i < ul.length) (off n : Int) (ho : In64 off) :
    Calls Tryz.prog 82 #[portV b ul i, .int .u64 off, .int .i64 n] w (BusEnd w b K g vp ul (.tuple #[.int .u64 (U6.rdX (st.us.getD i U6.u0) (U6.plK (st.us.getD i U6.u0) off n)), .bool (U6.okK (U6.plK (st.us.getD i U6.u0) off n))]) (driveS (uartS st i (U6.rdT (st.us.getD i U6.u0) (U6.plK (st.us.getD i U6.u0) off n))) i)) := by
  have HF : Hid (∀ w', BusP w' b K g vp ul st → Calls Tryz.prog 128 #[.pointer (some ⟨ul.getD i 0, 0, none⟩), .int .u64 off, .int .i64 n] w' (BusEnd w' b K g vp ul (.tuple #[.int .u64 (U6.rdX (st.us.getD i U6.u0) (U6.plK (st.us.getD i U6.u0) off n)), .bool (U6.okK (U6.plK (st.us.getD i U6.u0) off n))]) (uartS st i (U6.rdT (st.us.getD i U6.u0) (U6.plK (st.us.getD i U6.u0) off n))))) := Lib.hid fun w' h' => by
    exact (U6.read_any w' _ _ _ (h'.uart i hi) off n ho).mono fun e w'' k => h'.uartEnd hi k
  have HD : Hid (∀ w' K' u, BusP w' b K' g vp ul (uartS st i (U6.rdT (st.us.getD i U6.u0) (U6.plK (st.us.getD i U6.u0) off n))) → CallsD Tryz.prog 88 #[portV b ul i] u w' fun e u' w'' => u' = u ∧ DriveE w' b K' g vp ul (driveS (uartS st i (U6.rdT (st.us.getD i U6.u0) (U6.plK (st.us.getD i U6.u0) off n))) i) e w'') := Lib.hid fun w' K' u h' => drive_d h' i hi u
  have HB : Hid (Only (fun i => ¬ K i = 0) w (w.alloc (.cells #[.pointer (some ⟨ul.getD i 0, 0, none⟩), .pointer (some ⟨b, 4, none⟩), .int .i64 (10 + (i : Int))] 86))) := Lib.hid ((Only.refl _ w).alloc _)
  have HP : Hid (BusP (w.alloc (.cells #[.pointer (some ⟨ul.getD i 0, 0, none⟩), .pointer (some ⟨b, 4, none⟩), .int .i64 (10 + (i : Int))] 86)) b K g vp ul st) := Lib.hid (h.below ((Below.refl _ _).alloc (Nat.le_refl _) _))
  unfold portV at HD ⊢
  clear h ho
  generalize U6.plK (st.us.getD i U6.u0) off n = pk at *
  generalize U6.rdX (st.us.getD i U6.u0) pk = rx at *
  generalize U6.okK pk = r at *
  generalize driveS (uartS st i (U6.rdT (st.us.getD i U6.u0) pk)) i = st2 at *
  generalize uartS st i (U6.rdT (st.us.getD i U6.u0) pk) = st1 at *
  generalize ul.getD i 0 = ui at *
  generalize (10 + (i : Int)) = s at *
  go_enter_defers Tryz.func82, Tryz.ntmps82
  go_wp2_with fail
  (with_reducible refine (HF.out _ HP.out).mono ?_)
  rintro e w2 ⟨rfl, ho, K1, hg, hp⟩
  have HO2 := Lib.hid (HB.out.trans ho)
  have HG2 := Lib.hid (hg.earlier (w := w) HB.out.size)
  have HP2 := Lib.hid hp
  clear ho hg hp HB HP HF
  go_wp2
  refine leaves_cons (f := 88) (args := #[.agg #[.pointer (some ⟨ui, 0, none⟩), .pointer (some ⟨b, 4, none⟩), .int .i64 s]]) (by simp) (by simp [go_sem]) ?_
  refine (HD.out _ K1 .returning HP2.out).mono ?_
  rintro e u' w3 ⟨rfl, hd⟩
  obtain ⟨⟨v, rfl⟩, _⟩ := id hd
  exact ⟨_, results_tmp2 rfl _ _ _, DriveE.end HO2.out HG2.out HP2.out hd⟩


set_option maxHeartbeats 1000000 in
theorem portWrite_any {w : World} {b g : Nat} {K : Nat → Nat} {vp : Value} {ul : List Nat} {st : BS} (h : BusP w b K g vp ul st) (i : Nat) (hi : i < ul.length) (off n v : Int) (ho : In64 off) (hv : In64 v) :
    Calls Tryz.prog 83 #[portV b ul i, .int .u64 off, .int .i64 n, .int .u64 v] w (BusEnd w b K g vp ul (.bool (U6.okK (U6.plK (st.us.getD i U6.u0) off n))) (driveS (uartS st i (U6.wrT (st.us.getD i U6.u0) (v % 256) (U6.plK (st.us.getD i U6.u0) off n))) i)) := by
  have HF : Hid (∀ w', BusP w' b K g vp ul st → Calls Tryz.prog 129 #[.pointer (some ⟨ul.getD i 0, 0, none⟩), .int .u64 off, .int .i64 n, .int .u64 v] w' (BusEnd w' b K g vp ul (.bool (U6.okK (U6.plK (st.us.getD i U6.u0) off n))) (uartS st i (U6.wrT (st.us.getD i U6.u0) (v % 256) (U6.plK (st.us.getD i U6.u0) off n))))) := Lib.hid fun w' h' => by
    exact (U6.write_any w' _ _ _ (h'.uart i hi) h'.tabs.2 (by have := h'.kt _ (.inr rfl); omega) off n v ho hv).mono fun e w'' k => h'.uartEnd hi k
  have HD : Hid (∀ w' K' u, BusP w' b K' g vp ul (uartS st i (U6.wrT (st.us.getD i U6.u0) (v % 256) (U6.plK (st.us.getD i U6.u0) off n))) → CallsD Tryz.prog 88 #[portV b ul i] u w' fun e u' w'' => u' = u ∧ DriveE w' b K' g vp ul (driveS (uartS st i (U6.wrT (st.us.getD i U6.u0) (v % 256) (U6.plK (st.us.getD i U6.u0) off n))) i) e w'') := Lib.hid fun w' K' u h' => drive_d h' i hi u
  have HB : Hid (Only (fun i => ¬ K i = 0) w (w.alloc (.cells #[.pointer (some ⟨ul.getD i 0, 0, none⟩), .pointer (some ⟨b, 4, none⟩), .int .i64 (10 + (i : Int))] 86))) := Lib.hid ((Only.refl _ w).alloc _)
  have HP : Hid (BusP (w.alloc (.cells #[.pointer (some ⟨ul.getD i 0, 0, none⟩), .pointer (some ⟨b, 4, none⟩), .int .i64 (10 + (i : Int))] 86)) b K g vp ul st) := Lib.hid (h.below ((Below.refl _ _).alloc (Nat.le_refl _) _))
  unfold portV at HD ⊢
  clear h ho hv
  generalize U6.plK (st.us.getD i U6.u0) off n = pk at *
  generalize U6.okK pk = r at *
  generalize driveS (uartS st i (U6.wrT (st.us.getD i U6.u0) (v % 256) pk)) i = st2 at *
  generalize uartS st i (U6.wrT (st.us.getD i U6.u0) (v % 256) pk) = st1 at *
  generalize ul.getD i 0 = ui at *
  generalize (10 + (i : Int)) = s at *
  go_enter_defers Tryz.func83, Tryz.ntmps83
  go_wp2_with fail
  (with_reducible refine (HF.out _ HP.out).mono ?_)
  rintro e w2 ⟨rfl, ho, K1, hg, hp⟩
  have HO2 := Lib.hid (HB.out.trans ho)
  have HG2 := Lib.hid (hg.earlier (w := w) HB.out.size)
  have HP2 := Lib.hid hp
  clear ho hg hp HB HP HF
  go_wp2
  refine leaves_cons (f := 88) (args := #[.agg #[.pointer (some ⟨ui, 0, none⟩), .pointer (some ⟨b, 4, none⟩), .int .i64 s]]) (by simp) (by simp [go_sem]) ?_
  refine (HD.out _ K1 .returning HP2.out).mono ?_
  rintro e u' w3 ⟨rfl, hd⟩
  obtain ⟨⟨v', rfl⟩, _⟩ := id hd
  exact ⟨_, results_tmp rfl _ _ _, DriveE.end HO2.out HG2.out HP2.out hd⟩


end Go.Proofs.YtbcnkhfpogglmaaGreatDoor

namespace Go.Proofs.YtbcnkhfpogglmaaGreatDoor
open Go.RowKit
set_option linter.unusedVariables false
set_option maxRecDepth 100000

/-- What a region's function is asked for an address. -/
def offK (n q : Nat) (a : Int) : Int := if q = 0 then a else a - regBase n q
theorem offK_is {size : Int} {n q : Nat} {a : Int} (hq : regK size n a = q) (hn : n ≤ 8) (hk : q < 11) (ha : In64 a) (h0 : 4096 ≤ size) (h1 : size ≤ 67108864) : IntKind.u64.wrap (a - (if q = 0 then 0 else regBase n q)) = offK n q a ∧ In64 (offK n q a) := by
  have h := (inReg_is hn hk ha h0 h1).2 hq
  unfold offK
  unfold In64 at *
  by_cases q0 : q = 0
  · rw [if_pos q0, if_pos q0, IntKind.wrap_u64]; omega
  · rw [if_neg q0, if_neg q0, IntKind.wrap_u64]
    have hb : 0 ≤ regBase n q ∧ regBase n q ≤ 2147483648 ∧ regBase n q ≤ a := by
      subst hq
      revert q0 hk
      unfold regK regBase
      split
      · intro hk q0; exact absurd rfl q0
      · split
        · intro _ _; simp; omega
        · split
          · intro _ _; simp; omega
          · split
            · intro _ _
              rw [if_neg (by omega), if_neg (by omega), if_neg (by omega), if_pos (by omega)]
              omega
            · intro hk; omega
    omega
theorem okN_63 {n : Int} (h : M3.okN n = true) : In63 n := by
  unfold M3.okN at h; rw [decide_eq_true_eq] at h; unfold In63; omega
/-- What reading tells in region q, and what it leaves. -/
def rdR (st : BS) (o n : Int) : Nat → Int × Bool × BS
  | 0 => ((M3.readV 2147483648 st.size st.m o n).1, (M3.readV 2147483648 st.size st.m o n).2, st)
  | 1 => (C4.rdC st.c (C4.kindC o n), C4.okC o n, st)
  | 2 => (P5.rdX st.p (P5.plcK o n), P5.okP (P5.plcK o n), { st with p := P5.rdT st.p (P5.plcK o n) })
  | i + 3 => (U6.rdX (st.us.getD i U6.u0) (U6.plK (st.us.getD i U6.u0) o n), U6.okK (U6.plK (st.us.getD i U6.u0) o n), driveS (uartS st i (U6.rdT (st.us.getD i U6.u0) (U6.plK (st.us.getD i U6.u0) o n))) i)
def wrR (st : BS) (o n v : Int) : Nat → Bool × BS
  | 0 => (M3.okN n && M3.hasZ 2147483648 st.size o n, { st with m := M3.writeM 2147483648 st.size st.m o n v })
  | 1 => (C4.okC o n, { st with c := C4.wrC st.c v (C4.kindC o n) })
  | 2 => (P5.okP (P5.plcK o n), { st with p := P5.wrT st.p (P5.plcK o n) v })
  | i + 3 => (U6.okK (U6.plK (st.us.getD i U6.u0) o n), driveS (uartS st i (U6.wrT (st.us.getD i U6.u0) (v % 256) (U6.plK (st.us.getD i U6.u0) o n))) i)
/-- What Read tells, and what Write; what they leave. -/
def busRd (st : BS) (a n : Int) : Int × Bool × BS := if M3.okN n = true ∧ regK st.size st.us.length a < 11 then rdR st (offK st.us.length (regK st.size st.us.length a) a) n (regK st.size st.us.length a) else (0, false, st)
def busWr (st : BS) (a n v : Int) : Bool × BS := if M3.okN n = true ∧ regK st.size st.us.length a < 11 then wrR st (offK st.us.length (regK st.size st.us.length a) a) n v (regK st.size st.us.length a) else (false, st)

section
variable {w : World} {b g : Nat} {K : Nat → Nat} {vp : Value} {ul : List Nat} {st : BS}
theorem BusP.rdCell (h : BusP w b K g vp ul st) {q : Nat} (hq : q < 11) : w.cell? ⟨b, 44 + q * 5 + 3, none⟩ = some (rdF b g ul q) := h.obj.reg_ (i := q * 5 + 3) (by omega) (regs_get b g st.size ul hq (by omega))
theorem BusP.wrCell (h : BusP w b K g vp ul st) {q : Nat} (hq : q < 11) : w.cell? ⟨b, 44 + q * 5 + 4, none⟩ = some (wrF b g ul q) := h.obj.reg_ (i := q * 5 + 4) (by omega) (regs_get b g st.size ul hq (by omega))
theorem BusP.orgCell (h : BusP w b K g vp ul st) {q : Nat} (hq : q < 11) : w.cell? ⟨b, 44 + q * 5 + 2, none⟩ = some (.int .u64 (if q = 0 then 0 else regBase ul.length q)) := h.obj.reg_ (i := q * 5 + 2) (by omega) (regs_get b g st.size ul hq (by omega))
end
theorem findV_is {st : BS} {b n : Nat} {a len : Int} {q : Nat} (hk : M3.okN len = true) (hq : regK st.size n a = q) (hq11 : q < 11) : findV b st.size n a len = .pointer (some ⟨b, 44 + q * 5, none⟩) := by
  unfold findV; rw [hk, hq, if_pos ⟨rfl, hq11⟩]

set_option maxHeartbeats 1000000 in
theorem busRead_ram {w : World} {b g : Nat} {K : Nat → Nat} {vp : Value} {ul : List Nat} {st : BS} (h : BusP w b K g vp ul st) (a n : Int) (ha : In64 a) (hk : M3.okN n = true) (q : Nat) (hq : regK st.size ul.length a = q) (hq11 : q < 11) (hF : rdF b g ul q = .func (.func 25) #[.pointer (some ⟨g, 0, none⟩)] #[]) (X : Int) (r : Bool) (st' : BS)
    (hC : ∀ w', BusP w' b K g vp ul st → Calls Tryz.prog 25 #[.pointer (some ⟨g, 0, none⟩), .int .u64 (offK ul.length q a), .int .i64 n] w' (BusEnd w' b K g vp ul (.tuple #[.int .u64 X, .bool r]) st')) :
    Calls Tryz.prog 8 #[.pointer (some ⟨b, 0, none⟩), .int .u64 a, .int .i64 n] w (BusEnd w b K g vp ul (.tuple #[.int .u64 X, .bool r]) st') := by
  have HFI : Hid (∀ w', BusP w' b K g vp ul st → Calls Tryz.prog 34 #[.pointer (some ⟨b, 0, none⟩), .int .u64 a, .int .i64 n] w' fun e w'' => e = .returned (.pointer (some ⟨b, 44 + q * 5, none⟩)) ∧ Below w'.heap.size w' w'') := Lib.hid fun w' h' => by
    have := find_any h' a n ha
    rw [findV_is hk hq hq11] at this
    exact this
  have hw := (offK_is hq h.le hq11 ha h.fits.2.1 h.fits.2.2.1).1
  have HC := Lib.hid hC
  have H := Lib.hid h
  have HFF := Lib.hid hF
  clear hC h hF hk hq ha
  generalize offK ul.length q a = D at *
  generalize ho : (if q = 0 then (0 : Int) else regBase ul.length q) = o at *
  have HOO := Lib.hid ho
  clear ho
  go_enter Tryz.func8, Tryz.ntmps8
  go_wp2_with fail
  (with_reducible refine (HFI.out _ H.out).mono ?_)
  rintro e w2 ⟨rfl, hb⟩
  have HP2 := Lib.hid (H.out.below hb)
  have HB2 : Hid (Only (fun i => ¬ K i = 0) w w2) := Lib.hid (Only.of_below _ hb)
  have c3 := HP2.out.rdCell hq11
  have c2 := HP2.out.orgCell hq11
  rw [HFF.out] at c3
  rw [HOO.out] at c2
  have HCE : Hid (∀ w4 r4 st4 e4, BusEnd w2.drew b K g vp ul r4 st4 e4 w4 → w4.cell? ⟨b, 44 + q * 5 + 3, none⟩ = some (.func (.func 25) #[.pointer (some ⟨g, 0, none⟩)] #[]) ∧ w4.cell? ⟨b, 44 + q * 5 + 2, none⟩ = some (.int .u64 o)) := Lib.hid fun w4 r4 st4 e4 k => by
    obtain ⟨_, _, K4, _, hp4⟩ := k
    have d3 := hp4.rdCell hq11
    have d2 := hp4.orgCell hq11
    rw [HFF.out] at d3
    rw [HOO.out] at d2
    exact ⟨d3, d2⟩
  have HP3 : Hid (BusP w2.drew b K g vp ul st) := Lib.hid (HP2.out.below (Below.refl _ _).drew)
  have HB3 : Hid (Only (fun i => ¬ K i = 0) w w2.drew) := Lib.hid (HB2.out.drewN 1)
  clear hb HFI H HFF HOO hq11 HP2 HB2
  go_wp2_with fail
  go_region_held3 (fun wx => wx.cell? ⟨b, 44 + q * 5 + 3, none⟩ = some (.func (.func 25) #[.pointer (some ⟨g, 0, none⟩)] #[]) ∧ wx.cell? ⟨b, 44 + q * 5 + 2, none⟩ = some (.int .u64 o)) (go_keep)
    (((with_reducible refine (HC.out _ HP3.out).mono ?_); rintro e w4 hE; obtain ⟨rfl, _⟩ := id hE; obtain ⟨e3, e2⟩ := HCE.out _ _ _ _ hE; have HE := Lib.hid hE; clear hE))
  go_wp2
  go_ret2
  exact BusEnd.behind HB3.out HE.out

set_option maxHeartbeats 1000000 in
theorem busRead_clint {w : World} {b g : Nat} {K : Nat → Nat} {vp : Value} {ul : List Nat} {st : BS} (h : BusP w b K g vp ul st) (a n : Int) (ha : In64 a) (hk : M3.okN n = true) (q : Nat) (hq : regK st.size ul.length a = q) (hq11 : q < 11) (hF : rdF b g ul q = .func (.func 78) #[.pointer (some ⟨b, 0, none⟩)] #[]) (X : Int) (r : Bool) (st' : BS)
    (hC : ∀ w', BusP w' b K g vp ul st → Calls Tryz.prog 78 #[.pointer (some ⟨b, 0, none⟩), .int .u64 (offK ul.length q a), .int .i64 n] w' (BusEnd w' b K g vp ul (.tuple #[.int .u64 X, .bool r]) st')) :
    Calls Tryz.prog 8 #[.pointer (some ⟨b, 0, none⟩), .int .u64 a, .int .i64 n] w (BusEnd w b K g vp ul (.tuple #[.int .u64 X, .bool r]) st') := by
  have HFI : Hid (∀ w', BusP w' b K g vp ul st → Calls Tryz.prog 34 #[.pointer (some ⟨b, 0, none⟩), .int .u64 a, .int .i64 n] w' fun e w'' => e = .returned (.pointer (some ⟨b, 44 + q * 5, none⟩)) ∧ Below w'.heap.size w' w'') := Lib.hid fun w' h' => by
    have := find_any h' a n ha
    rw [findV_is hk hq hq11] at this
    exact this
  have hw := (offK_is hq h.le hq11 ha h.fits.2.1 h.fits.2.2.1).1
  have HC := Lib.hid hC
  have H := Lib.hid h
  have HFF := Lib.hid hF
  clear hC h hF hk hq ha
  generalize offK ul.length q a = D at *
  generalize ho : (if q = 0 then (0 : Int) else regBase ul.length q) = o at *
  have HOO := Lib.hid ho
  clear ho
  go_enter Tryz.func8, Tryz.ntmps8
  go_wp2_with fail
  (with_reducible refine (HFI.out _ H.out).mono ?_)
  rintro e w2 ⟨rfl, hb⟩
  have HP2 := Lib.hid (H.out.below hb)
  have HB2 : Hid (Only (fun i => ¬ K i = 0) w w2) := Lib.hid (Only.of_below _ hb)
  have c3 := HP2.out.rdCell hq11
  have c2 := HP2.out.orgCell hq11
  rw [HFF.out] at c3
  rw [HOO.out] at c2
  have HCE : Hid (∀ w4 r4 st4 e4, BusEnd w2.drew b K g vp ul r4 st4 e4 w4 → w4.cell? ⟨b, 44 + q * 5 + 3, none⟩ = some (.func (.func 78) #[.pointer (some ⟨b, 0, none⟩)] #[]) ∧ w4.cell? ⟨b, 44 + q * 5 + 2, none⟩ = some (.int .u64 o)) := Lib.hid fun w4 r4 st4 e4 k => by
    obtain ⟨_, _, K4, _, hp4⟩ := k
    have d3 := hp4.rdCell hq11
    have d2 := hp4.orgCell hq11
    rw [HFF.out] at d3
    rw [HOO.out] at d2
    exact ⟨d3, d2⟩
  have HP3 : Hid (BusP w2.drew b K g vp ul st) := Lib.hid (HP2.out.below (Below.refl _ _).drew)
  have HB3 : Hid (Only (fun i => ¬ K i = 0) w w2.drew) := Lib.hid (HB2.out.drewN 1)
  clear hb HFI H HFF HOO hq11 HP2 HB2
  go_wp2_with fail
  go_region_held3 (fun wx => wx.cell? ⟨b, 44 + q * 5 + 3, none⟩ = some (.func (.func 78) #[.pointer (some ⟨b, 0, none⟩)] #[]) ∧ wx.cell? ⟨b, 44 + q * 5 + 2, none⟩ = some (.int .u64 o)) (go_keep)
    (((with_reducible refine (HC.out _ HP3.out).mono ?_); rintro e w4 hE; obtain ⟨rfl, _⟩ := id hE; obtain ⟨e3, e2⟩ := HCE.out _ _ _ _ hE; have HE := Lib.hid hE; clear hE))
  go_wp2
  go_ret2
  exact BusEnd.behind HB3.out HE.out

set_option maxHeartbeats 1000000 in
theorem busRead_plic {w : World} {b g : Nat} {K : Nat → Nat} {vp : Value} {ul : List Nat} {st : BS} (h : BusP w b K g vp ul st) (a n : Int) (ha : In64 a) (hk : M3.okN n = true) (q : Nat) (hq : regK st.size ul.length a = q) (hq11 : q < 11) (hF : rdF b g ul q = .func (.func 80) #[.pointer (some ⟨b, 4, none⟩)] #[]) (X : Int) (r : Bool) (st' : BS)
    (hC : ∀ w', BusP w' b K g vp ul st → Calls Tryz.prog 80 #[.pointer (some ⟨b, 4, none⟩), .int .u64 (offK ul.length q a), .int .i64 n] w' (BusEnd w' b K g vp ul (.tuple #[.int .u64 X, .bool r]) st')) :
    Calls Tryz.prog 8 #[.pointer (some ⟨b, 0, none⟩), .int .u64 a, .int .i64 n] w (BusEnd w b K g vp ul (.tuple #[.int .u64 X, .bool r]) st') := by
  have HFI : Hid (∀ w', BusP w' b K g vp ul st → Calls Tryz.prog 34 #[.pointer (some ⟨b, 0, none⟩), .int .u64 a, .int .i64 n] w' fun e w'' => e = .returned (.pointer (some ⟨b, 44 + q * 5, none⟩)) ∧ Below w'.heap.size w' w'') := Lib.hid fun w' h' => by
    have := find_any h' a n ha
    rw [findV_is hk hq hq11] at this
    exact this
  have hw := (offK_is hq h.le hq11 ha h.fits.2.1 h.fits.2.2.1).1
  have HC := Lib.hid hC
  have H := Lib.hid h
  have HFF := Lib.hid hF
  clear hC h hF hk hq ha
  generalize offK ul.length q a = D at *
  generalize ho : (if q = 0 then (0 : Int) else regBase ul.length q) = o at *
  have HOO := Lib.hid ho
  clear ho
  go_enter Tryz.func8, Tryz.ntmps8
  go_wp2_with fail
  (with_reducible refine (HFI.out _ H.out).mono ?_)
  rintro e w2 ⟨rfl, hb⟩
  have HP2 := Lib.hid (H.out.below hb)
  have HB2 : Hid (Only (fun i => ¬ K i = 0) w w2) := Lib.hid (Only.of_below _ hb)
  have c3 := HP2.out.rdCell hq11
  have c2 := HP2.out.orgCell hq11
  rw [HFF.out] at c3
  rw [HOO.out] at c2
  have HCE : Hid (∀ w4 r4 st4 e4, BusEnd w2.drew b K g vp ul r4 st4 e4 w4 → w4.cell? ⟨b, 44 + q * 5 + 3, none⟩ = some (.func (.func 80) #[.pointer (some ⟨b, 4, none⟩)] #[]) ∧ w4.cell? ⟨b, 44 + q * 5 + 2, none⟩ = some (.int .u64 o)) := Lib.hid fun w4 r4 st4 e4 k => by
    obtain ⟨_, _, K4, _, hp4⟩ := k
    have d3 := hp4.rdCell hq11
    have d2 := hp4.orgCell hq11
    rw [HFF.out] at d3
    rw [HOO.out] at d2
    exact ⟨d3, d2⟩
  have HP3 : Hid (BusP w2.drew b K g vp ul st) := Lib.hid (HP2.out.below (Below.refl _ _).drew)
  have HB3 : Hid (Only (fun i => ¬ K i = 0) w w2.drew) := Lib.hid (HB2.out.drewN 1)
  clear hb HFI H HFF HOO hq11 HP2 HB2
  go_wp2_with fail
  go_region_held3 (fun wx => wx.cell? ⟨b, 44 + q * 5 + 3, none⟩ = some (.func (.func 80) #[.pointer (some ⟨b, 4, none⟩)] #[]) ∧ wx.cell? ⟨b, 44 + q * 5 + 2, none⟩ = some (.int .u64 o)) (go_keep)
    (((with_reducible refine (HC.out _ HP3.out).mono ?_); rintro e w4 hE; obtain ⟨rfl, _⟩ := id hE; obtain ⟨e3, e2⟩ := HCE.out _ _ _ _ hE; have HE := Lib.hid hE; clear hE))
  go_wp2
  go_ret2
  exact BusEnd.behind HB3.out HE.out

set_option maxHeartbeats 1000000 in
theorem busRead_port {w : World} {b g : Nat} {K : Nat → Nat} {vp : Value} {ul : List Nat} {st : BS} (h : BusP w b K g vp ul st) (a n : Int) (ha : In64 a) (hk : M3.okN n = true) (q : Nat) (hq : regK st.size ul.length a = q) (hq11 : q < 11) (i : Nat) (uv : Nat) (hF : rdF b g ul q = .func (.func 82) #[.agg #[.pointer (some ⟨uv, 0, none⟩), .pointer (some ⟨b, 4, none⟩), .int .i64 (10 + (i : Int))]] #[]) (X : Int) (r : Bool) (st' : BS)
    (hC : ∀ w', BusP w' b K g vp ul st → Calls Tryz.prog 82 #[.agg #[.pointer (some ⟨uv, 0, none⟩), .pointer (some ⟨b, 4, none⟩), .int .i64 (10 + (i : Int))], .int .u64 (offK ul.length q a), .int .i64 n] w' (BusEnd w' b K g vp ul (.tuple #[.int .u64 X, .bool r]) st')) :
    Calls Tryz.prog 8 #[.pointer (some ⟨b, 0, none⟩), .int .u64 a, .int .i64 n] w (BusEnd w b K g vp ul (.tuple #[.int .u64 X, .bool r]) st') := by
  have HFI : Hid (∀ w', BusP w' b K g vp ul st → Calls Tryz.prog 34 #[.pointer (some ⟨b, 0, none⟩), .int .u64 a, .int .i64 n] w' fun e w'' => e = .returned (.pointer (some ⟨b, 44 + q * 5, none⟩)) ∧ Below w'.heap.size w' w'') := Lib.hid fun w' h' => by
    have := find_any h' a n ha
    rw [findV_is hk hq hq11] at this
    exact this
  have hw := (offK_is hq h.le hq11 ha h.fits.2.1 h.fits.2.2.1).1
  have HC := Lib.hid hC
  have H := Lib.hid h
  have HFF := Lib.hid hF
  clear hC h hF hk hq ha
  generalize offK ul.length q a = D at *
  generalize ho : (if q = 0 then (0 : Int) else regBase ul.length q) = o at *
  have HOO := Lib.hid ho
  clear ho
  go_enter Tryz.func8, Tryz.ntmps8
  go_wp2_with fail
  (with_reducible refine (HFI.out _ H.out).mono ?_)
  rintro e w2 ⟨rfl, hb⟩
  have HP2 := Lib.hid (H.out.below hb)
  have HB2 : Hid (Only (fun i => ¬ K i = 0) w w2) := Lib.hid (Only.of_below _ hb)
  have c3 := HP2.out.rdCell hq11
  have c2 := HP2.out.orgCell hq11
  rw [HFF.out] at c3
  rw [HOO.out] at c2
  have HCE : Hid (∀ w4 r4 st4 e4, BusEnd w2.drew b K g vp ul r4 st4 e4 w4 → w4.cell? ⟨b, 44 + q * 5 + 3, none⟩ = some (.func (.func 82) #[.agg #[.pointer (some ⟨uv, 0, none⟩), .pointer (some ⟨b, 4, none⟩), .int .i64 (10 + (i : Int))]] #[]) ∧ w4.cell? ⟨b, 44 + q * 5 + 2, none⟩ = some (.int .u64 o)) := Lib.hid fun w4 r4 st4 e4 k => by
    obtain ⟨_, _, K4, _, hp4⟩ := k
    have d3 := hp4.rdCell hq11
    have d2 := hp4.orgCell hq11
    rw [HFF.out] at d3
    rw [HOO.out] at d2
    exact ⟨d3, d2⟩
  have HP3 : Hid (BusP w2.drew b K g vp ul st) := Lib.hid (HP2.out.below (Below.refl _ _).drew)
  have HB3 : Hid (Only (fun i => ¬ K i = 0) w w2.drew) := Lib.hid (HB2.out.drewN 1)
  clear hb HFI H HFF HOO hq11 HP2 HB2
  go_wp2_with fail
  go_region_held3 (fun wx => wx.cell? ⟨b, 44 + q * 5 + 3, none⟩ = some (.func (.func 82) #[.agg #[.pointer (some ⟨uv, 0, none⟩), .pointer (some ⟨b, 4, none⟩), .int .i64 (10 + (i : Int))]] #[]) ∧ wx.cell? ⟨b, 44 + q * 5 + 2, none⟩ = some (.int .u64 o)) (go_keep)
    (((with_reducible refine (HC.out _ HP3.out).mono ?_); rintro e w4 hE; obtain ⟨rfl, _⟩ := id hE; obtain ⟨e3, e2⟩ := HCE.out _ _ _ _ hE; have HE := Lib.hid hE; clear hE))
  go_wp2
  go_ret2
  exact BusEnd.behind HB3.out HE.out

set_option maxHeartbeats 1000000 in
theorem busWrite_ram {w : World} {b g : Nat} {K : Nat → Nat} {vp : Value} {ul : List Nat} {st : BS} (h : BusP w b K g vp ul st) (a n v : Int) (ha : In64 a) (hk : M3.okN n = true) (q : Nat) (hq : regK st.size ul.length a = q) (hq11 : q < 11) (hF : wrF b g ul q = .func (.func 26) #[.pointer (some ⟨g, 0, none⟩)] #[]) (r : Bool) (st' : BS)
    (hC : ∀ w', BusP w' b K g vp ul st → Calls Tryz.prog 26 #[.pointer (some ⟨g, 0, none⟩), .int .u64 (offK ul.length q a), .int .i64 n, .int .u64 v] w' (BusEnd w' b K g vp ul (.bool r) st')) :
    Calls Tryz.prog 9 #[.pointer (some ⟨b, 0, none⟩), .int .u64 a, .int .i64 n, .int .u64 v] w (BusEnd w b K g vp ul (.bool r) st') := by
  have HFI : Hid (∀ w', BusP w' b K g vp ul st → Calls Tryz.prog 34 #[.pointer (some ⟨b, 0, none⟩), .int .u64 a, .int .i64 n] w' fun e w'' => e = .returned (.pointer (some ⟨b, 44 + q * 5, none⟩)) ∧ Below w'.heap.size w' w'') := Lib.hid fun w' h' => by
    have := find_any h' a n ha
    rw [findV_is hk hq hq11] at this
    exact this
  have hw := (offK_is hq h.le hq11 ha h.fits.2.1 h.fits.2.2.1).1
  have HC := Lib.hid hC
  have H := Lib.hid h
  have HFF := Lib.hid hF
  clear hC h hF hk hq ha
  generalize offK ul.length q a = D at *
  generalize ho : (if q = 0 then (0 : Int) else regBase ul.length q) = o at *
  have HOO := Lib.hid ho
  clear ho
  go_enter Tryz.func9, Tryz.ntmps9
  go_wp2_with fail
  (with_reducible refine (HFI.out _ H.out).mono ?_)
  rintro e w2 ⟨rfl, hb⟩
  have HP2 := Lib.hid (H.out.below hb)
  have HB2 : Hid (Only (fun i => ¬ K i = 0) w w2) := Lib.hid (Only.of_below _ hb)
  have c3 := HP2.out.wrCell hq11
  have c2 := HP2.out.orgCell hq11
  rw [HFF.out] at c3
  rw [HOO.out] at c2
  have HCE : Hid (∀ w4 r4 st4 e4, BusEnd w2.drew b K g vp ul r4 st4 e4 w4 → w4.cell? ⟨b, 44 + q * 5 + 4, none⟩ = some (.func (.func 26) #[.pointer (some ⟨g, 0, none⟩)] #[]) ∧ w4.cell? ⟨b, 44 + q * 5 + 2, none⟩ = some (.int .u64 o)) := Lib.hid fun w4 r4 st4 e4 k => by
    obtain ⟨_, _, K4, _, hp4⟩ := k
    have d3 := hp4.wrCell hq11
    have d2 := hp4.orgCell hq11
    rw [HFF.out] at d3
    rw [HOO.out] at d2
    exact ⟨d3, d2⟩
  have HP3 : Hid (BusP w2.drew b K g vp ul st) := Lib.hid (HP2.out.below (Below.refl _ _).drew)
  have HB3 : Hid (Only (fun i => ¬ K i = 0) w w2.drew) := Lib.hid (HB2.out.drewN 1)
  clear hb HFI H HFF HOO hq11 HP2 HB2
  go_wp2_with fail
  go_region_held3 (fun wx => wx.cell? ⟨b, 44 + q * 5 + 4, none⟩ = some (.func (.func 26) #[.pointer (some ⟨g, 0, none⟩)] #[]) ∧ wx.cell? ⟨b, 44 + q * 5 + 2, none⟩ = some (.int .u64 o)) (go_keep)
    (((with_reducible refine (HC.out _ HP3.out).mono ?_); rintro e w4 hE; obtain ⟨rfl, _⟩ := id hE; obtain ⟨e3, e2⟩ := HCE.out _ _ _ _ hE; have HE := Lib.hid hE; clear hE))
  go_wp2
  go_ret
  exact BusEnd.behind HB3.out HE.out

set_option maxHeartbeats 1000000 in
theorem busWrite_clint {w : World} {b g : Nat} {K : Nat → Nat} {vp : Value} {ul : List Nat} {st : BS} (h : BusP w b K g vp ul st) (a n v : Int) (ha : In64 a) (hk : M3.okN n = true) (q : Nat) (hq : regK st.size ul.length a = q) (hq11 : q < 11) (hF : wrF b g ul q = .func (.func 79) #[.pointer (some ⟨b, 1, none⟩)] #[]) (r : Bool) (st' : BS)
    (hC : ∀ w', BusP w' b K g vp ul st → Calls Tryz.prog 79 #[.pointer (some ⟨b, 1, none⟩), .int .u64 (offK ul.length q a), .int .i64 n, .int .u64 v] w' (BusEnd w' b K g vp ul (.bool r) st')) :
    Calls Tryz.prog 9 #[.pointer (some ⟨b, 0, none⟩), .int .u64 a, .int .i64 n, .int .u64 v] w (BusEnd w b K g vp ul (.bool r) st') := by
  have HFI : Hid (∀ w', BusP w' b K g vp ul st → Calls Tryz.prog 34 #[.pointer (some ⟨b, 0, none⟩), .int .u64 a, .int .i64 n] w' fun e w'' => e = .returned (.pointer (some ⟨b, 44 + q * 5, none⟩)) ∧ Below w'.heap.size w' w'') := Lib.hid fun w' h' => by
    have := find_any h' a n ha
    rw [findV_is hk hq hq11] at this
    exact this
  have hw := (offK_is hq h.le hq11 ha h.fits.2.1 h.fits.2.2.1).1
  have HC := Lib.hid hC
  have H := Lib.hid h
  have HFF := Lib.hid hF
  clear hC h hF hk hq ha
  generalize offK ul.length q a = D at *
  generalize ho : (if q = 0 then (0 : Int) else regBase ul.length q) = o at *
  have HOO := Lib.hid ho
  clear ho
  go_enter Tryz.func9, Tryz.ntmps9
  go_wp2_with fail
  (with_reducible refine (HFI.out _ H.out).mono ?_)
  rintro e w2 ⟨rfl, hb⟩
  have HP2 := Lib.hid (H.out.below hb)
  have HB2 : Hid (Only (fun i => ¬ K i = 0) w w2) := Lib.hid (Only.of_below _ hb)
  have c3 := HP2.out.wrCell hq11
  have c2 := HP2.out.orgCell hq11
  rw [HFF.out] at c3
  rw [HOO.out] at c2
  have HCE : Hid (∀ w4 r4 st4 e4, BusEnd w2.drew b K g vp ul r4 st4 e4 w4 → w4.cell? ⟨b, 44 + q * 5 + 4, none⟩ = some (.func (.func 79) #[.pointer (some ⟨b, 1, none⟩)] #[]) ∧ w4.cell? ⟨b, 44 + q * 5 + 2, none⟩ = some (.int .u64 o)) := Lib.hid fun w4 r4 st4 e4 k => by
    obtain ⟨_, _, K4, _, hp4⟩ := k
    have d3 := hp4.wrCell hq11
    have d2 := hp4.orgCell hq11
    rw [HFF.out] at d3
    rw [HOO.out] at d2
    exact ⟨d3, d2⟩
  have HP3 : Hid (BusP w2.drew b K g vp ul st) := Lib.hid (HP2.out.below (Below.refl _ _).drew)
  have HB3 : Hid (Only (fun i => ¬ K i = 0) w w2.drew) := Lib.hid (HB2.out.drewN 1)
  clear hb HFI H HFF HOO hq11 HP2 HB2
  go_wp2_with fail
  go_region_held3 (fun wx => wx.cell? ⟨b, 44 + q * 5 + 4, none⟩ = some (.func (.func 79) #[.pointer (some ⟨b, 1, none⟩)] #[]) ∧ wx.cell? ⟨b, 44 + q * 5 + 2, none⟩ = some (.int .u64 o)) (go_keep)
    (((with_reducible refine (HC.out _ HP3.out).mono ?_); rintro e w4 hE; obtain ⟨rfl, _⟩ := id hE; obtain ⟨e3, e2⟩ := HCE.out _ _ _ _ hE; have HE := Lib.hid hE; clear hE))
  go_wp2
  go_ret
  exact BusEnd.behind HB3.out HE.out

set_option maxHeartbeats 1000000 in
theorem busWrite_plic {w : World} {b g : Nat} {K : Nat → Nat} {vp : Value} {ul : List Nat} {st : BS} (h : BusP w b K g vp ul st) (a n v : Int) (ha : In64 a) (hk : M3.okN n = true) (q : Nat) (hq : regK st.size ul.length a = q) (hq11 : q < 11) (hF : wrF b g ul q = .func (.func 81) #[.pointer (some ⟨b, 4, none⟩)] #[]) (r : Bool) (st' : BS)
    (hC : ∀ w', BusP w' b K g vp ul st → Calls Tryz.prog 81 #[.pointer (some ⟨b, 4, none⟩), .int .u64 (offK ul.length q a), .int .i64 n, .int .u64 v] w' (BusEnd w' b K g vp ul (.bool r) st')) :
    Calls Tryz.prog 9 #[.pointer (some ⟨b, 0, none⟩), .int .u64 a, .int .i64 n, .int .u64 v] w (BusEnd w b K g vp ul (.bool r) st') := by
  have HFI : Hid (∀ w', BusP w' b K g vp ul st → Calls Tryz.prog 34 #[.pointer (some ⟨b, 0, none⟩), .int .u64 a, .int .i64 n] w' fun e w'' => e = .returned (.pointer (some ⟨b, 44 + q * 5, none⟩)) ∧ Below w'.heap.size w' w'') := Lib.hid fun w' h' => by
    have := find_any h' a n ha
    rw [findV_is hk hq hq11] at this
    exact this
  have hw := (offK_is hq h.le hq11 ha h.fits.2.1 h.fits.2.2.1).1
  have HC := Lib.hid hC
  have H := Lib.hid h
  have HFF := Lib.hid hF
  clear hC h hF hk hq ha
  generalize offK ul.length q a = D at *
  generalize ho : (if q = 0 then (0 : Int) else regBase ul.length q) = o at *
  have HOO := Lib.hid ho
  clear ho
  go_enter Tryz.func9, Tryz.ntmps9
  go_wp2_with fail
  (with_reducible refine (HFI.out _ H.out).mono ?_)
  rintro e w2 ⟨rfl, hb⟩
  have HP2 := Lib.hid (H.out.below hb)
  have HB2 : Hid (Only (fun i => ¬ K i = 0) w w2) := Lib.hid (Only.of_below _ hb)
  have c3 := HP2.out.wrCell hq11
  have c2 := HP2.out.orgCell hq11
  rw [HFF.out] at c3
  rw [HOO.out] at c2
  have HCE : Hid (∀ w4 r4 st4 e4, BusEnd w2.drew b K g vp ul r4 st4 e4 w4 → w4.cell? ⟨b, 44 + q * 5 + 4, none⟩ = some (.func (.func 81) #[.pointer (some ⟨b, 4, none⟩)] #[]) ∧ w4.cell? ⟨b, 44 + q * 5 + 2, none⟩ = some (.int .u64 o)) := Lib.hid fun w4 r4 st4 e4 k => by
    obtain ⟨_, _, K4, _, hp4⟩ := k
    have d3 := hp4.wrCell hq11
    have d2 := hp4.orgCell hq11
    rw [HFF.out] at d3
    rw [HOO.out] at d2
    exact ⟨d3, d2⟩
  have HP3 : Hid (BusP w2.drew b K g vp ul st) := Lib.hid (HP2.out.below (Below.refl _ _).drew)
  have HB3 : Hid (Only (fun i => ¬ K i = 0) w w2.drew) := Lib.hid (HB2.out.drewN 1)
  clear hb HFI H HFF HOO hq11 HP2 HB2
  go_wp2_with fail
  go_region_held3 (fun wx => wx.cell? ⟨b, 44 + q * 5 + 4, none⟩ = some (.func (.func 81) #[.pointer (some ⟨b, 4, none⟩)] #[]) ∧ wx.cell? ⟨b, 44 + q * 5 + 2, none⟩ = some (.int .u64 o)) (go_keep)
    (((with_reducible refine (HC.out _ HP3.out).mono ?_); rintro e w4 hE; obtain ⟨rfl, _⟩ := id hE; obtain ⟨e3, e2⟩ := HCE.out _ _ _ _ hE; have HE := Lib.hid hE; clear hE))
  go_wp2
  go_ret
  exact BusEnd.behind HB3.out HE.out

set_option maxHeartbeats 1000000 in
theorem busWrite_port {w : World} {b g : Nat} {K : Nat → Nat} {vp : Value} {ul : List Nat} {st : BS} (h : BusP w b K g vp ul st) (a n v : Int) (ha : In64 a) (hk : M3.okN n = true) (q : Nat) (hq : regK st.size ul.length a = q) (hq11 : q < 11) (i : Nat) (uv : Nat) (hF : wrF b g ul q = .func (.func 83) #[.agg #[.pointer (some ⟨uv, 0, none⟩), .pointer (some ⟨b, 4, none⟩), .int .i64 (10 + (i : Int))]] #[]) (r : Bool) (st' : BS)
    (hC : ∀ w', BusP w' b K g vp ul st → Calls Tryz.prog 83 #[.agg #[.pointer (some ⟨uv, 0, none⟩), .pointer (some ⟨b, 4, none⟩), .int .i64 (10 + (i : Int))], .int .u64 (offK ul.length q a), .int .i64 n, .int .u64 v] w' (BusEnd w' b K g vp ul (.bool r) st')) :
    Calls Tryz.prog 9 #[.pointer (some ⟨b, 0, none⟩), .int .u64 a, .int .i64 n, .int .u64 v] w (BusEnd w b K g vp ul (.bool r) st') := by
  have HFI : Hid (∀ w', BusP w' b K g vp ul st → Calls Tryz.prog 34 #[.pointer (some ⟨b, 0, none⟩), .int .u64 a, .int .i64 n] w' fun e w'' => e = .returned (.pointer (some ⟨b, 44 + q * 5, none⟩)) ∧ Below w'.heap.size w' w'') := Lib.hid fun w' h' => by
    have := find_any h' a n ha
    rw [findV_is hk hq hq11] at this
    exact this
  have hw := (offK_is hq h.le hq11 ha h.fits.2.1 h.fits.2.2.1).1
  have HC := Lib.hid hC
  have H := Lib.hid h
  have HFF := Lib.hid hF
  clear hC h hF hk hq ha
  generalize offK ul.length q a = D at *
  generalize ho : (if q = 0 then (0 : Int) else regBase ul.length q) = o at *
  have HOO := Lib.hid ho
  clear ho
  go_enter Tryz.func9, Tryz.ntmps9
  go_wp2_with fail
  (with_reducible refine (HFI.out _ H.out).mono ?_)
  rintro e w2 ⟨rfl, hb⟩
  have HP2 := Lib.hid (H.out.below hb)
  have HB2 : Hid (Only (fun i => ¬ K i = 0) w w2) := Lib.hid (Only.of_below _ hb)
  have c3 := HP2.out.wrCell hq11
  have c2 := HP2.out.orgCell hq11
  rw [HFF.out] at c3
  rw [HOO.out] at c2
  have HCE : Hid (∀ w4 r4 st4 e4, BusEnd w2.drew b K g vp ul r4 st4 e4 w4 → w4.cell? ⟨b, 44 + q * 5 + 4, none⟩ = some (.func (.func 83) #[.agg #[.pointer (some ⟨uv, 0, none⟩), .pointer (some ⟨b, 4, none⟩), .int .i64 (10 + (i : Int))]] #[]) ∧ w4.cell? ⟨b, 44 + q * 5 + 2, none⟩ = some (.int .u64 o)) := Lib.hid fun w4 r4 st4 e4 k => by
    obtain ⟨_, _, K4, _, hp4⟩ := k
    have d3 := hp4.wrCell hq11
    have d2 := hp4.orgCell hq11
    rw [HFF.out] at d3
    rw [HOO.out] at d2
    exact ⟨d3, d2⟩
  have HP3 : Hid (BusP w2.drew b K g vp ul st) := Lib.hid (HP2.out.below (Below.refl _ _).drew)
  have HB3 : Hid (Only (fun i => ¬ K i = 0) w w2.drew) := Lib.hid (HB2.out.drewN 1)
  clear hb HFI H HFF HOO hq11 HP2 HB2
  go_wp2_with fail
  go_region_held3 (fun wx => wx.cell? ⟨b, 44 + q * 5 + 4, none⟩ = some (.func (.func 83) #[.agg #[.pointer (some ⟨uv, 0, none⟩), .pointer (some ⟨b, 4, none⟩), .int .i64 (10 + (i : Int))]] #[]) ∧ wx.cell? ⟨b, 44 + q * 5 + 2, none⟩ = some (.int .u64 o)) (go_keep)
    (((with_reducible refine (HC.out _ HP3.out).mono ?_); rintro e w4 hE; obtain ⟨rfl, _⟩ := id hE; obtain ⟨e3, e2⟩ := HCE.out _ _ _ _ hE; have HE := Lib.hid hE; clear hE))
  go_wp2
  go_ret
  exact BusEnd.behind HB3.out HE.out

end Go.Proofs.YtbcnkhfpogglmaaGreatDoor
