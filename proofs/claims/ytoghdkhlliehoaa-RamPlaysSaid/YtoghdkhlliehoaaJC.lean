/- Joined: Pk1 Pk2 Pk3 Pk4 Pk5 -/
import Derived.Test.YtoghdkhlliehoaaJB
import Derived.RangeFuncGives
import Derived.Shelf.AbstractIn
import Derived.Sort.MapsRangeIn
import Derived.Sort.KeysCollected
import Derived.WalkKit
import Derived.OwnWalkIn
import Derived.TacticsInMore
import Derived.RegionIn
import Derived.LoopNIn
import Derived.LoopIn
import Derived.Shelf.SlIter.Collect
import Derived.Maps.AppendAt
import Derived.Sort.Walk0
import Derived.Sort.LotA
import Derived.BigGuard
import Derived.BigCall
import Derived.CellFam
import Derived.Deep.Draws
import Derived.Deep.QuietTactic
import Derived.BigQuiet
import Derived.BigRegion
namespace Go.Proofs.Ytoghdkhlliehoaa
open Go.RowKit Go.Maps Go.Sort Go.Shelf
set_option linter.unusedVariables false
set_option maxRecDepth 100000

/-- What has come so far: no number twice; those of the map that are no longer to come. -/
def CollU (D : DataW Unit) (left : Lit → Bool) (ss : List Int) : Prop := ss.Nodup ∧ ∀ x, x ∈ ss ↔ Maps.has D (.int .u64 x) = true ∧ left (.int .u64 x) = false
theorem CollU.start (D : DataW Unit) : CollU D (Maps.has D) [] := ⟨List.nodup_nil, fun x => by cases Maps.has D (.int .u64 x) <;> simp⟩
theorem CollU.step {D : DataW Unit} {left : Lit → Bool} {ss : List Int} (h : CollU D left ss) {x : Int} (hh : Maps.has D (.int .u64 x) = true) (hl : left (.int .u64 x) = true) : CollU D (fun z => left z && !z.sameKey (.int .u64 x)) (ss ++ [x]) := by
  have hn : x ∉ ss := fun hx => by have := ((h.2 x).1 hx).2; rw [hl] at this; cases this
  refine ⟨List.nodup_append.2 ⟨h.1, by simp, fun a ha b hb => ?_⟩, fun y => ?_⟩
  · simp only [List.mem_singleton] at hb
    subst hb
    exact fun e => hn (e ▸ ha)
  · by_cases c : y = x
    · subst c; simp [hh, sameKey_u64]
    · have e : (y == x) = false := by simpa using c
      simp [h.2 y, sameKey_u64, e, c]
/-- All numbers of the map, each once. -/
def AllU (D : DataW Unit) (ss : List Int) : Prop := ss.Nodup ∧ ∀ x, x ∈ ss ↔ Maps.has D (.int .u64 x) = true

set_option maxRecDepth 100000 in
set_option maxHeartbeats 1000000 in
theorem keysIter_in (n : Nat) (hn : 1 ≤ n) (l Bm mb nn : Nat) (D : DataW Unit) (J : List Int → World → Prop) (W : World) (hJ : AbidesFrom W.heap.size J)
    (hY : ∀ pre x W1, J pre W1 → pre.length < Maps.size D → YieldAt Fence.wide (n - 1) Try.prog l #[.int .u64 x] W1 fun e W' => e = .returned (.bool true) ∧ J (pre ++ [x]) W' ∧ KeepsWalks W1 W')
    (hm : W.cell? ⟨Bm, 0, none⟩ = some (.map (some mb))) (hown : W.ownsMap Try.prog 22 ptrElem mb nn D) (h0 : J [] W) :
    CallsIn Fence.wide n Try.prog 40 #[.func (.yield l) #[] #[], .pointer (some ⟨Bm, 0, none⟩)] W fun e W' => (∃ v, e = .returned v) ∧ ∃ ss, AllU D ss ∧ J ss W' := by
  refine callsIn_of_wp Try.func40 rfl trivial ?_ rfl
  simp only [Try.ntmps40, List.size_toArray, List.length_cons, List.length_nil, Nat.reduceAdd, Nat.reduceSub, Array.replicate_succ, Array.replicate_zero, List.push_toArray, List.append_toArray, List.nil_append, List.cons_append]
  gi_wp2_with (first
    | (gi_at_range; refine wpListIn_range_own _ rfl _ 51 rfl 22 59 (int_keyed Try.underlying22) Try.underlying51 _ mb nn _ rfl hown ?_; intro w0 hrg0 hg0 hs0)
    | gi_in)
  try go_frame
  gi_loopw [3] (fun _ wr => ∃ (left : Lit → Bool) (cnt : Nat) (ss : List Int), wr.ranges Try.prog 22 ptrElem mb W.heap.size nn D left cnt ∧ ss.length + cnt ≤ Maps.size D ∧ CollU D left ss ∧ J ss wr)
    (fun _ wr => wr.rangeLeft mb W.heap.size)
  case atStart => exact ⟨_, _, [], hrg0, by simp, CollU.start D, hJ [] W w0 none h0 hg0 (fun r e => by cases e)⟩
  case round =>
    obtain ⟨left, cnt, ss, hrg, hcs, hC, hJs⟩ := hrel
    gi_wp2_with (first
      | (gi_at_next; refine wpListIn_next_ranges _ rfl _ rfl 22 (int_keyed Try.underlying22) ptrElem (Value.int .u64) id (fun key kl hk => (by obtain ⟨x, hx, _⟩ := Maps.keyOf_int_inv Try.underlying22 hk; exact ⟨x, hx⟩)) (fun v _ _ => ⟨v, rfl⟩) mb W.heap.size nn _ _ _ rfl hrg ?_ ?_)
      | gi_in)
    · intro hc0 hl0
      gi_wp2
      go_end0
      exact ⟨⟨_, rfl⟩, ss, ⟨hC.1, fun x => by rw [hC.2 x, hl0]; simp⟩, hJs⟩
    · intro x c kl yd yp w2 cnt2 hkey hlk hv hat hrg2 hlt hg2 hs2 hen
      obtain ⟨x', ex, rfl, _⟩ := Maps.keyOf_int_inv Try.underlying22 hkey
      injection ex with _ ex
      subst ex
      have hJ2 : J ss w2 := hJ ss wr w2 (some W.heap.size) hJs hg2 (fun r e => by cases e; exact ⟨Nat.le_refl _, hrg.iter_walk⟩)
      obtain ⟨fn, tmps, assign, body, hy, hR⟩ := hY ss x w2 hJ2 (by omega)
      have hhas := Maps.has_true_of_atKey hat
      clear hs2
      gi_wp2
      refine hR.mono ?_
      rintro e W3 ⟨rfl, hJ3, hk3⟩
      gi_wp2
      have hrg3 := hrg2.of_walks hk3
      go_roundw
      case rel => exact ⟨_, cnt2, ss ++ [x], hrg3, by simp; omega, hC.step hhas hlk, hJ3⟩
      case measure => rw [hrg3.left_eq, hrg.left_eq]; exact hlt

/-- The iterator over a map's numbers, in later worlds too. -/
theorem keys_gives (n : Nat) (hn : 1 ≤ n) (Bm mb nn : Nat) (D : DataW Unit) (w : World) (hBm : Bm < w.heap.size) (hm : w.cell? ⟨Bm, 0, none⟩ = some (.map (some mb))) (hown : w.ownsMap Try.prog 22 ptrElem mb nn D) :
    SeqGives Fence.wide n Try.prog 40 #[.pointer (some ⟨Bm, 0, none⟩)] (Value.int .u64) (AllU D) (Maps.size D) w := fun l J W hW hJ hY h0 => by
  have hown' : W.ownsMap Try.prog 22 ptrElem mb nn D := by
    have hbl := hown.lt
    obtain ⟨es, clock, hb, r⟩ := hown
    exact ⟨es, clock, (hW.block mb hbl).trans hb, r⟩
  exact keysIter_in n hn l Bm mb nn D J W hJ hY ((hW.cell (p := ⟨Bm, 0, none⟩) hBm).trans hm) hown' h0

theorem keys_any (mb : Option Nat) (w : World) :
    Calls Try.prog 29 #[.map mb] w fun e w' =>
      e = .returned (.func (.func 40) #[] #[.pointer (some ⟨w.heap.size, 0, none⟩)]) ∧ w' = w.alloc (.cells #[.map mb] 51) := by
  go_enter Try.func29, Try.ntmps29
  go_wp2
  go_ret
  exact ⟨rfl, rfl⟩

end Go.Proofs.Ytoghdkhlliehoaa

namespace Go.Proofs.Ytoghdkhlliehoaa
open Go.RowKit Go.Maps Go.Sort Go.Shelf
set_option linter.unusedVariables false
set_option maxRecDepth 100000

/-- The two codes of the first range over a function. -/
def rfOf (c : Code) : Code × Code := match c with
  | .seq _ (.seq (.seq _ (.block _ (.rangeFunc _ _ a b))) _) => (a, b)
  | _ => (.ret, .ret)
/-- The loop's codes in AppendSeq. -/
def IsRf (a b : Code) : Prop := rfOf (Try.f45.body.getD .ret) = (a, b)

/-- The loop's record: the slice is boxed in block Bs; sv: the iterator's value. -/
def apRec (ca cb : Code) (fn : FuncId) (sv : Value) (Bs D : Nat) (st : LoopState) (pend : Option Code) : Loop :=
  { state := st, pending := pend, fn, tmps := #[.slice none 0 0, sv, .pointer (some ⟨Bs, 0, none⟩), undef, .slice none 0 0, undef, sv, undef, undef, undef, undef, undef, undef], params := #[7], assign := ca, body := cb, defers := D }

/-- Between two rounds: the box holds a slice of one's own with what has come. -/
structure Collecting (ca cb : Code) (w0 : World) (fn : FuncId) (sv : Value) (Bs l D : Nat) (ss : List Int) (W : World) : Prop where
  box : ∃ v, W.heap[Bs]? = some (.cells #[v] 43 (0, 0)) ∧ W.ownsRow w0.heap.size 22 1 v ss.length (ss.map (Value.int .u64)) ∧ (v = .slice none 0 0 ↔ ss = [])
  loop : W.heap[l]? = some (.loop (apRec ca cb fn sv Bs D .ready none))
  defers : W.heap[D]? = some (.deferred (some []))
  below : Below w0.heap.size w0 W

theorem collecting_abides (ca cb : Code) (w0 : World) (fn : FuncId) (sv : Value) (Bs l D B : Nat) (hB : w0.heap.size ≤ B) : AbidesFrom B (Collecting ca cb w0 fn sv Bs l D) := fun s W W' row h hg hrow => by
  have hr2 : ∀ r, row = some r → ∃ o : Obj, W.heap[r]? = some o ∧ o.isWalk = true := fun r e => (hrow r e).2
  obtain ⟨v, hv, hr, hn⟩ := h.box
  exact ⟨⟨v, (grownBy_keeps hg hr2 hv rfl).trans hv, ownsRow_abides_a hr hg hr2, hn⟩, (grownBy_keeps hg hr2 h.loop rfl).trans h.loop, (grownBy_keeps hg hr2 h.defers rfl).trans h.defers,
    h.below.grown hg h.below.size (fun k e => Nat.le_trans hB (hrow k e).1)⟩

theorem u64_ne : (43 : TypeId) ≠ 22 := by decide
theorem box_ne {v : Value} (cur : Array Value) : (Obj.cells #[v] 43 (0, 0)) ≠ .cells cur 22 (0, 0) := fun e => u64_ne (Obj.cells.inj e).2.1

set_option maxRecDepth 100000 in
set_option maxHeartbeats 2000000 in
theorem collect_yield {ca cb : Code} (hcode : IsRf ca cb) (m : Nat) (w0 : World) (fn : FuncId) (sv : Value) (Bs l D : Nat) (hBl : Bs ≠ l) (hDl : D ≠ l) (hDB : D ≠ Bs) (h0B : w0.heap.size ≤ Bs) (h0l : w0.heap.size ≤ l)
    (N : Nat) (hN : N ≤ 1000000) (ss : List Int) (x : Int) (W : World) (h : Collecting ca cb w0 fn sv Bs l D ss W) (hlen : ss.length < N) :
    YieldAt Fence.wide m Try.prog l #[.int .u64 x] W fun e W' => e = .returned (.bool true) ∧ Collecting ca cb w0 fn sv Bs l D (ss ++ [x]) W' ∧ KeepsWalks W W' := by
  obtain ⟨i0, hi, hz0, hz1, hz2⟩ := info_parts info_u64
  obtain ⟨v, hv, hrow, _⟩ := h.box
  refine ⟨fn, #[.slice none 0 0, sv, .pointer (some ⟨Bs, 0, none⟩), undef, .slice none 0 0, undef, sv, .int .u64 x, undef, undef, undef, undef, undef], ca, cb, by simpa [apRec] using run_yield (P := Try.prog) (args := #[.int .u64 x]) h.loop rfl, roundIn_of_wpIn trivial ?_⟩
  have hl : l < W.heap.size := (Array.getElem?_eq_some_iff.1 h.loop).1
  have hbr := run_beginRound (P := Try.prog) h.loop rfl
  obtain ⟨W2, hW2⟩ : ∃ W2, W.putObj l (.loop { apRec ca cb fn sv Bs D .ready none with state := .busy }) = W2 := ⟨_, rfl⟩
  rw [hW2] at hbr
  have hg2 : W.grownBy W2 (some l) := by rw [← hW2]; exact grownBy_putObj_a _ _ _
  have hk2 : KeepsWalks W W2 := by rw [← hW2]; exact KeepsWalks.putObj _ h.loop rfl
  have hv2 : W2.heap[Bs]? = some (.cells #[v] 43 (0, 0)) := by rw [← hW2]; exact (World.putObj_heap_other hBl).trans hv
  have hK2 : W2.heap[D]? = some (.deferred (some [])) := by rw [← hW2]; exact (World.putObj_heap_other hDl).trans h.defers
  have hL2 : W2.heap[l]? = some (.loop { apRec ca cb fn sv Bs D .ready none with state := .busy }) := by rw [← hW2]; exact World.putObj_heap_same hl
  have hrow2 : W2.ownsRow w0.heap.size 22 1 v ss.length (ss.map (Value.int .u64)) := hrow.kept hg2 (ownsRow_ne_a hrow h.loop (fun cur e => by cases e))
  have hb2 : Below w0.heap.size w0 W2 := h.below.grown hg2 h.below.size (fun k e => by cases e; exact h0l)
  obtain ⟨hc2, hf2⟩ := cell_of_box_a hv2
  have hBlt : Bs < W2.heap.size := (Array.getElem?_eq_some_iff.1 hv2).1
  have hl2 : l < W2.heap.size := (Array.getElem?_eq_some_iff.1 hL2).1
  have hDlt : D < W2.heap.size := (Array.getElem?_eq_some_iff.1 hK2).1
  have ne_of : ∀ {j : Nat} {o : Obj}, W2.heap[j]? = some o → (∀ cur, o ≠ .cells cur 22 (0, 0)) → some j ≠ v.ownBlock := fun hj hno => by
    rcases ownsRow_ne_a hrow2 hj hno with e | e
    · rw [e]; simp
    · exact fun e' => e e'.symm
  clear hW2
  simp only [IsRf, rfOf, Try.f45, Option.getD, Prod.mk.injEq] at hcode
  obtain ⟨hca, hcb⟩ := hcode
  generalize hP : (fun (e : Ending) (W' : World) => e = Ending.returned (.bool true) ∧ Collecting ca cb w0 fn sv Bs l D (ss ++ [x]) W' ∧ KeepsWalks W W') = R
  rw [← hca]
  have HCA := Lib.hid hca
  have HP := Lib.hid hP
  have HL2 := Lib.hid hL2
  clear hca hP hL2
  have HCB := Lib.hid hcb
  clear hcb
  gi_wp2_with gi_round_op_a
  rw [← HCB.out]
  gi_wp2_with (first
    | (gi_at_builtin; refine wpListIn_append_own _ rfl _ _ 43 rfl w0.heap.size 22 i0 (.int .u64 0) 1 8 Try.underlying43 hi hz0 hz1 hz2 rfl (by decide) _ _ _ rfl (hrow2.alloc _) ⟨W2.heap.size, 0, none⟩ 1 1 [.int .u64 x] rfl rfl (cell_one_new _ _ _) (by simp [Value.oneCell']) (by unfold maxLen; omega) (by omega) (by have := hb2.size; simp; omega) ?_; intro v' w3 hown' hg3 hnil3
       have hv3 : w3.heap[Bs]? = some (.cells #[v] 43 (0, 0)) := (hg3.block Bs (by simp; omega) (ne_of hv2 (fun cur => box_ne cur))).trans ((Below.heap_alloc _ _ Bs hBlt).trans hv2)
       obtain ⟨hc3, hf3⟩ := cell_of_box_a hv3
       obtain ⟨g', cap', cur', rfl, hbase', hgb', hr1, hr2, hr3, hr4⟩ : ∃ g' cap' cur', v' = .slice (some ⟨g', 0, none⟩) (ss.length + 1) cap' ∧ w0.heap.size ≤ g' ∧ w3.heap[g']? = some (.cells cur' 22 (0, 0)) ∧ ss.length + 1 ≤ cap' ∧ cap' ≤ maxLen ∧ cur'.size = cap' * 1 ∧ cur'.toList.take ((ss.length + 1) * 1) = ss.map (Value.int .u64) ++ [.int .u64 x] := by
         rcases hown'.2 with ⟨_, h0⟩ | h'
         · exact absurd h0 (by omega)
         · exact h'
       go_frame)
    | gi_round_op_a)
  have hL2 := HL2.out
  have hg3' : (W2.alloc (.cells #[.int .u64 x] 22)).grownBy w3 v.ownBlock := hg3
  have hL3 : w3.heap[l]? = some (.loop { apRec ca cb fn sv Bs D .ready none with state := .busy }) := (hg3'.block l (by simp; omega) (ne_of hL2 (fun cur e => by cases e))).trans ((Below.heap_alloc _ _ l hl2).trans hL2)
  have hK3 : w3.heap[D]? = some (.deferred (some [])) := (hg3'.block D (by simp; omega) (ne_of hK2 (fun cur e => by cases e))).trans ((Below.heap_alloc _ _ D hDlt).trans hK2)
  obtain ⟨w4, hw4⟩ : ∃ w4, w3.setCell ⟨Bs, 0, none⟩ (.slice (some ⟨g', 0, none⟩) (ss.length + 1) cap') = w4 := ⟨_, rfl⟩
  rw [hw4]
  have hg4 : w3.grownBy w4 (some Bs) := by rw [← hw4]; exact grownBy_setCell0_a _ _ _
  have hv4 : w4.heap[Bs]? = some (.cells #[.slice (some ⟨g', 0, none⟩) (ss.length + 1) cap'] 43 (0, 0)) := by rw [← hw4]; exact heap_setCell_box_a _ hv3
  have hL4 : w4.heap[l]? = some (.loop { apRec ca cb fn sv Bs D .ready none with state := .busy }) := (hg4.block l (Array.getElem?_eq_some_iff.1 hL3).1 (fun e => hBl (by cases e; rfl))).trans hL3
  have hK4 : w4.heap[D]? = some (.deferred (some [])) := (hg4.block D (Array.getElem?_eq_some_iff.1 hK3).1 (fun e => hDB (by cases e; rfl))).trans hK3
  have hrow4 := hown'.kept hg4 (ownsRow_ne_a hown' hv3 (fun cur => box_ne cur))
  have hl4 : l < w4.heap.size := (Array.getElem?_eq_some_iff.1 hL4).1
  have hb3 : Below w0.heap.size w0 w3 := (hb2.alloc hb2.size _).grown hg3' (by have := hb2.size; simp; omega) (fun k e => (hrow2.lt k e).1)
  have hb4 : Below w0.heap.size w0 w4 := hb3.grown hg4 hb3.size (fun k e => by cases e; exact h0B)
  have hk4 : KeepsWalks W w4 := ((hk2.trans (KeepsWalks.alloc _ _)).trans (KeepsWalks.of_grownBy hg3' (ownsRow_not_walk_a (hrow2.alloc _)))).trans (by rw [← hw4]; exact KeepsWalks.setCell _ _ _)
  clear hw4
  rw [← HP.out]
  refine ⟨_, _, run_endRound none hL4, rfl, ⟨⟨_, (World.putObj_heap_other hBl).trans hv4, ?_, by simp⟩, World.putObj_heap_same hl4, (World.putObj_heap_other hDl).trans hK4, hb4.grown (grownBy_putObj_a _ _ _) hb4.size (fun k e => by cases e; exact h0l)⟩, hk4.trans (KeepsWalks.putObj _ hL4 rfl)⟩
  have := hrow4.kept (grownBy_putObj_a w4 l (.loop { { apRec ca cb fn sv Bs D .ready none with state := .busy } with state := if (none : Option Code).isNone then .ready else .done, pending := none })) (ownsRow_ne_a hrow4 hL4 (fun cur e => by cases e))
  simpa using this

set_option maxRecDepth 100000 in
set_option maxHeartbeats 2000000 in
theorem appendSeq_in (n : Nat) (hn : 2 ≤ n) (g : Nat) (lb : Array Value) (eg : ∀ args w, (callFunc g args).run Try.prog w = .ok (.enter g args) w) (S : List Int → Prop) (N : Nat) (hN : N ≤ 1000000) (w : World) (hseq : SeqGives Fence.wide (n - 1) Try.prog g lb (Value.int .u64) S N w) :
    CallsIn Fence.wide n Try.prog 45 #[.slice none 0 0, .func (.func g) #[] lb] w fun e w' => ∃ (v : Value) (ss : List Int), e = .returned v ∧ S ss ∧ w'.ownsRow w.heap.size 22 1 v ss.length (ss.map (Value.int .u64)) ∧ (v = .slice none 0 0 ↔ ss = []) ∧ Below w.heap.size w w' := by
  have h1 : 1 ≤ n := by omega
  refine callsIn_of_wp_marks Try.func45 rfl trivial ?_ rfl
  simp only [Try.ntmps45, List.size_toArray, List.length_cons, List.length_nil, Nat.reduceAdd, Nat.reduceSub, Array.replicate_succ, Array.replicate_zero, List.push_toArray, List.append_toArray, List.nil_append, List.cons_append]
  gi_wp2
  refine wpIn_rangeFunc ?_
  intro fn hfn
  generalize hA : Code.region 2 _ false = ca
  generalize hB : Code.block 1 _ = cb
  have hcode : IsRf ca cb := by rw [← hA, ← hB]; rfl
  clear hA hB
  obtain ⟨W0, hW0⟩ : ∃ W0, w.alloc (.cells #[.slice none 0 0] 43) = W0 := ⟨_, rfl⟩
  have hs0 : W0.heap.size = w.heap.size + 1 := by rw [← hW0]; simp
  have hv0 : W0.heap[w.heap.size]? = some (.cells #[.slice none 0 0] 43 (0, 0)) := by rw [← hW0]; exact World.alloc_heap_new w _
  have hb0 : Below w.heap.size w W0 := by rw [← hW0]; exact (Below.refl _ w).alloc (Nat.le_refl _) _
  rw [hW0]
  obtain ⟨W1, hW1⟩ : ∃ W1, (W0.alloc (.deferred (some []))).alloc (.loop (apRec ca cb fn (.func (.func g) #[] lb) w.heap.size W0.heap.size .ready none)) = W1 := ⟨_, rfl⟩
  have hold : ∀ k, k < W0.heap.size → W1.heap[k]? = W0.heap[k]? := fun k hk => by
    rw [← hW1]; exact (Below.heap_alloc _ _ k (by simp; omega)).trans (Below.heap_alloc _ _ k hk)
  have hb1 : Below w.heap.size w W1 := by rw [← hW1]; exact (hb0.alloc hb0.size _).alloc (by have := hb0.size; simp; omega) _
  have hs1 : W1.heap.size = W0.heap.size + 2 := by rw [← hW1]; simp
  have hM : Collecting ca cb w fn (.func (.func g) #[] lb) w.heap.size (W0.heap.size + 1) W0.heap.size [] W1 :=
    ⟨⟨_, (hold w.heap.size (by omega)).trans hv0, ⟨rfl, .inl ⟨rfl, rfl⟩⟩, by simp⟩,
     by rw [← hW1]; have := World.alloc_heap_new (W0.alloc (.deferred (some []))) (.loop (apRec ca cb fn (.func (.func g) #[] lb) w.heap.size W0.heap.size .ready none)); rwa [World.size_alloc] at this,
     by rw [← hW1]; exact (Below.heap_alloc _ _ _ (by simp)).trans (World.alloc_heap_new W0 _), hb1⟩
  refine ⟨W0.heap.size + 1, [{ target := .collected W0.heap.size, args := #[] }], W1, { target := .fn (.func g) lb, args := #[.func (.yield (W0.heap.size + 1)) #[] #[]] }, W1, g,
    #[.func (.yield (W0.heap.size + 1)) #[] #[]] ++ lb, W1, ?_, ?_, ?_, ?_, fun _ => h1, ?_⟩
  · rw [← hW1]; exact run_enterLoop_outer _ _ _ _ _
  · simp [resolve, go_sem]
  · intro f' hf'; trivial
  · simp [invoke, go_sem, eg]
  · refine (hseq (W0.heap.size + 1) (Collecting ca cb w fn (.func (.func g) #[] lb) w.heap.size (W0.heap.size + 1) W0.heap.size) W1 hb1 (collecting_abides ca cb _ _ _ _ _ _ _ hb1.size)
      (fun pre x W hJ hl => collect_yield hcode (n - 1 - 1) w fn _ w.heap.size (W0.heap.size + 1) W0.heap.size (by omega) (by omega) (by omega) (Nat.le_refl _) (by omega) N hN pre x W hJ hl) hM).mono ?_
    rintro e W2 ⟨⟨v0, rfl⟩, ss, hS, h2⟩
    obtain ⟨v, hv, hrow, hnil⟩ := h2.box
    have hend := run_endLoop (P := Try.prog) h2.loop (by simp [apRec])
    obtain ⟨W3, hW3⟩ : ∃ W3, W2.putObj (W0.heap.size + 1) (.loop { apRec ca cb fn (.func (.func g) #[] lb) w.heap.size W0.heap.size .ready none with state := .exhausted }) = W3 := ⟨_, rfl⟩
    rw [hW3] at hend
    have hg3 : W2.grownBy W3 (some (W0.heap.size + 1)) := by rw [← hW3]; exact grownBy_putObj_a _ _ _
    have hv3 : W3.heap[w.heap.size]? = some (.cells #[v] 43 (0, 0)) := by rw [← hW3]; exact (World.putObj_heap_other (by omega)).trans hv
    have hK3 : W3.heap[W0.heap.size]? = some (.deferred (some [])) := by rw [← hW3]; exact (World.putObj_heap_other (by omega)).trans h2.defers
    have hrow3 := hrow.kept hg3 (ownsRow_ne_a hrow h2.loop (fun cur e => by cases e))
    have hb3 : Below w.heap.size w W3 := h2.below.grown hg3 h2.below.size (fun k e => by cases e; omega)
    obtain ⟨hc3, hf3⟩ := cell_of_box_a hv3
    clear hW3
    refine ⟨none, W3, hend, ?_⟩
    gi_wp2
    rw [← hs0]
    refine ⟨by simp, .inl ⟨_, _, rfl, run_takeDeferred hK3, ?_⟩⟩
    exact ⟨_, results_tmp rfl _ _ _, v, ss, rfl, hS, hrow3.kept (grownBy_putObj_a _ _ _) (ownsRow_ne_a hrow3 hK3 (fun cur e => by cases e)), hnil, hb3.grown (grownBy_putObj_a _ _ _) hb3.size (fun k e => by cases e; omega)⟩

set_option maxHeartbeats 1000000 in
theorem collect_in (n : Nat) (hn : 3 ≤ n) (g : Nat) (lb : Array Value) (eg : ∀ args w, (callFunc g args).run Try.prog w = .ok (.enter g args) w) (S : List Int → Prop) (N : Nat) (hN : N ≤ 1000000) (w : World) (hseq : SeqGives Fence.wide (n - 1 - 1) Try.prog g lb (Value.int .u64) S N w) :
    CallsIn Fence.wide n Try.prog 38 #[.func (.func g) #[] lb] w fun e w' => ∃ (v : Value) (ss : List Int), e = .returned v ∧ S ss ∧ w'.ownsRow w.heap.size 22 1 v ss.length (ss.map (Value.int .u64)) ∧ (v = .slice none 0 0 ↔ ss = []) ∧ Below w.heap.size w w' := by
  have hf : Fence.wide.fn 45 := trivial
  refine callsIn_of_wp Try.func38 rfl trivial ?_ rfl
  simp only [Try.ntmps38, List.size_toArray, List.length_cons, List.length_nil, Nat.reduceAdd, Nat.reduceSub, Array.replicate_succ, Array.replicate_zero, List.push_toArray, List.append_toArray, List.nil_append, List.cons_append]
  gi_wp2_with fail
  refine ⟨fun _ => by omega, (appendSeq_in (n - 1) (by omega) g lb eg S N hN _ hseq).mono ?_⟩
  rintro e w' ⟨v, ss, rfl, hS, hrow, hnil, hb⟩
  gi_wp2
  go_ret
  exact ⟨v, ss, rfl, hS, hrow, hnil, hb⟩

/-- Collect over a map's numbers. -/
theorem collect_keys (Bm mb nn : Nat) (D : DataW Unit) (w : World) (hBm : Bm < w.heap.size) (hm : w.cell? ⟨Bm, 0, none⟩ = some (.map (some mb))) (hown : w.ownsMap Try.prog 22 ptrElem mb nn D) (hN : Maps.size D ≤ 1000000) :
    Calls Try.prog 38 #[.func (.func 40) #[] #[.pointer (some ⟨Bm, 0, none⟩)]] w fun e w' =>
      ∃ (v : Value) (ss : List Int), e = .returned v ∧ AllU D ss ∧ w'.ownsRow w.heap.size 22 1 v ss.length (ss.map (Value.int .u64)) ∧ (v = .slice none 0 0 ↔ ss = []) ∧ Below w.heap.size w w' :=
  (callsIn_wide (n := 3)).1 (collect_in 3 (by omega) _ _ (enters_of Try.func40 (by kernel_rfl) rfl) (AllU D) (Maps.size D) hN w (keys_gives 1 (by omega) Bm mb nn D w hBm hm hown))

end Go.Proofs.Ytoghdkhlliehoaa

namespace Go.Proofs.Ytoghdkhlliehoaa
open Go.RowKit Go.Maps Go.Sort
set_option linter.unusedVariables false
set_option maxRecDepth 100000

theorem isNaN_any (x : Int) (w : World) : Calls Try.prog 68 #[.int .u64 x] w fun e w' => e = .returned (.bool false) ∧ w = w' := by
  go_enter Try.func68, Try.ntmps68
  go_wp2
  go_ret
  exact ⟨rfl, rfl⟩
theorem less_any (x y : Int) (w : World) : Calls Try.prog 57 #[.int .u64 x, .int .u64 y] w fun e w' => e = .returned (.bool (ltInt x y)) ∧ w' = w := by
  go_enter Try.func57, Try.ntmps57
  go_wp2_with (go_at_call 68; refine (isNaN_any _ _).mono ?_; rintro e w' ⟨rfl, rfl⟩)
  go_ret
  exact ⟨rfl, rfl⟩

section
variable {α : Type} [Inhabited α] (lt : α → α → Bool)
theorem inner_go (a j : Nat) (d : Array α) (hj : a < j) (hl : lt d[j]! d[j - 1]! = true) : insInner lt a j d = insInner lt a (j - 1) (swp d j (j - 1)) := by
  obtain ⟨k, rfl⟩ : ∃ k, j = k + 1 := ⟨j - 1, by omega⟩
  rw [Nat.add_sub_cancel] at hl ⊢
  rw [insInner]
  simp [hj, hl]
theorem inner_stop (a j : Nat) (d : Array α) (h : j ≤ a ∨ lt d[j]! d[j - 1]! = false) : insInner lt a j d = d := by
  cases j with
  | zero => rw [insInner]
  | succ k =>
    rw [insInner]
    rw [Nat.add_sub_cancel] at h
    rcases h with h | h
    · simp [show ¬ a < k + 1 by omega]
    · simp [h]
theorem outer_go (a b i : Nat) (d : Array α) (h : i < b) : insOuter lt a b i d = insOuter lt a b (i + 1) (insInner lt a i d) := by rw [insOuter, if_pos h]
theorem outer_stop (a b i : Nat) (d : Array α) (h : ¬ i < b) : insOuter lt a b i d = d := by rw [insOuter, if_neg h]
end

/-- Block g holds those numbers from its beginning on, d of them, and may be written. -/
theorem row_drewN (w : World) (m q blk off : Nat) (d : Array Int) : (putRow (Value.int .u64) (Sort.ahead w m) blk off d).drewN q = putRow (Value.int .u64) (Sort.ahead w (m + q)) blk off d := by
  show Sort.ahead (putRow (Value.int .u64) (Sort.ahead w m) blk off d) q = _
  rw [putRow_ahead (Value.int .u64) w m, ahead_ahead, ← putRow_ahead]
theorem row_swapped (w : World) (m q blk off : Nat) (d : Array Int) (j k : Nat) (hj : j < d.size) (hk : k < d.size) :
    (((putRow (Value.int .u64) (Sort.ahead w m) blk off d).drewN q).setCell ⟨blk, off + j, none⟩ (.int .u64 d[k]!)).setCell ⟨blk, off + k, none⟩ (.int .u64 d[j]!) = putRow (Value.int .u64) (Sort.ahead w (m + q)) blk off (swp d j k) := by
  rw [row_drewN]
  exact putRow_swp (Value.int .u64) _ blk off d j k hj hk

/-- What the sort leaves. -/
def SortEnd (w : World) (blk off : Nat) (d : Array Int) (e : Ending) (w' : World) : Prop := e = .returned (.tuple #[]) ∧ ∃ n, w' = putRow (Value.int .u64) (Sort.ahead w n) blk off d

set_option maxHeartbeats 2000000 in
theorem insertion_any (blk off cap b : Nat) (d : Array Int) (w : World) (hH : Holds (Value.int .u64) w blk off d) (hb : b ≤ d.size) (hsz : d.size < 1000000) :
    Calls Try.prog 51 #[.slice (some ⟨blk, off, none⟩) d.size cap, .int .i64 (0 : Nat), .int .i64 b] w (SortEnd w blk off (Sort.insertionSort ltInt d 0 b)) := by
  go_enter Try.func51, Try.ntmps51
  go_wp2
  go_loopw [6] (fun vi wr => ∃ (i n : Nat) (dk : Array Int), vi = .int .i64 i ∧ 0 < i ∧ i ≤ b + 1 ∧ dk.size = d.size ∧ wr = putRow (Value.int .u64) (Sort.ahead w n) blk off dk ∧ insOuter ltInt 0 b i dk = insOuter ltInt 0 b 1 d)
    (fun vi _ => b + 1 - (intOf vi).toNat)
  case atStart => exact ⟨1, 0, d, by go_num, by omega, by omega, rfl, (putRow_self _ _ _ _ _ hH).symm, rfl⟩
  case round =>
    obtain ⟨i, n, dk, rfl, hai, hib, hsk, hwr, hO⟩ := hrel
    have HO := Lib.hid hO
    clear hO
    by_cases hlt : i < b
    · go_wp2
      go_loopw [7] (fun vj wr2 => ∃ (j m : Nat) (dj : Array Int), vj = .int .i64 j ∧ j ≤ i ∧ dj.size = d.size ∧ wr2 = putRow (Value.int .u64) (Sort.ahead w m) blk off dj ∧ insInner ltInt 0 j dj = insInner ltInt 0 i dk)
        (fun vj _ => (intOf vj).toNat)
      case atStart => exact ⟨i, n, dk, rfl, Nat.le_refl _, hsk, rfl, rfl⟩
      case round =>
        obtain ⟨j, m, dj, rfl, hji, hsj, hw2, hI⟩ := hrel
        obtain ⟨G, hG⟩ : ∃ G : Nat → Int, ∀ t, G t = dj[t]! := ⟨fun t => dj[t]!, fun _ => rfl⟩
        have hcw : ∀ t, t < d.size → wr.cell? ⟨blk, off + t, none⟩ = some (.int .u64 (G t)) := fun t ht => by
          rw [hw2, hG]; exact cell?_putRow _ _ _ _ d dj (holds_ahead _ _ _ _ _ _ hH) hsj t (by omega)
        have hfw : ∀ t, t < d.size → wr.frozen? ⟨blk, off + t, none⟩ = false := fun t ht => by
          rw [hw2, frozen?_putRow]; exact ((holds_ahead _ _ m _ _ _ hH) t ht).2
        have HW := Lib.hid hw2
        have HG := Lib.hid hG
        have HI := Lib.hid hI
        have HH := Lib.hid hH
        have HWR := Lib.hid hwr
        have OUT : Hid ((j = 0 ∨ ltInt dj[j]! dj[j - 1]! = false) → ∀ q, ∃ (i' n' : Nat) (dk' : Array Int), Value.int .i64 ((i : Int) + 1) = .int .i64 (i' : Nat) ∧ 0 < i' ∧ i' ≤ b + 1 ∧ dk'.size = d.size ∧
            wr.drewN q = putRow (Value.int .u64) (Sort.ahead w n') blk off dk' ∧ insOuter ltInt 0 b i' dk' = insOuter ltInt 0 b 1 d) := Lib.hid fun hs q =>
          ⟨i + 1, m + q, dj, by go_num, by omega, by omega, hsj, by rw [HW.out]; exact row_drewN _ _ _ _ _ _,
            by rw [← HO.out, outer_go _ _ _ _ _ hlt, ← HI.out, inner_stop _ _ _ _ (hs.imp (by omega) id)]⟩
        clear hw2 hG hI hH hwr
        go_wp2
        by_cases hja : 0 < j
        · go_quiet (first | (go_at_call 57; refine Calls.quiet_of_same (less_any _ _ _)))
          go_wp2
          · have hl : ltInt (G j) (G (j - 1)) = true := by assumption
            go_region
            all_goals go_wp2
            go_roundw
            case rel =>
              refine ⟨j - 1, m + (nq + 1), swp dj j (j - 1), by congr 1; omega, by omega, by rw [size_swp]; exact hsj, ?_, ?_⟩
              · rw [HW.out, HG.out, HG.out]
                exact row_swapped w m (nq + 1) blk off dj j (j - 1) (by omega) (by omega)
              · rw [← HI.out, inner_go ltInt 0 j dj hja (by rw [← HG.out, ← HG.out]; exact hl)]
            case measure => simp [intOf]; omega
          · have hl : ltInt (G j) (G (j - 1)) = false := by assumption
            go_roundw
            case rel => exact OUT.out (Or.inr (by rw [← HG.out, ← HG.out]; exact hl)) nq
            case measure => simp [intOf]; omega
        · have hd : decide ((0 : Int) < (j : Int)) = false := by simpa using hja
          go_quiet (first | (go_at_call 57; refine Calls.quiet_of_same (less_any _ _ _)))
          go_wp2
          go_roundw
          case rel => exact OUT.out (Or.inl (by omega)) nq
          case measure => simp [intOf]; omega
    · have HWR := Lib.hid hwr
      clear hwr
      go_wp2
      go_end0
      exact ⟨rfl, n, by unfold Sort.insertionSort; rw [← HO.out, outer_stop _ _ _ _ _ hlt, HWR.out]⟩

end Go.Proofs.Ytoghdkhlliehoaa

/- Few numbers in order: Sort, Sorted, Pages. -/
namespace Go.Proofs.Ytoghdkhlliehoaa
open Go.RowKit Go.Maps Go.Sort
set_option linter.unusedVariables false
set_option maxRecDepth 100000

/-- Some number is told; the world is as it was. -/
def SomeInt (w : World) (e : Ending) (w' : World) : Prop := (∃ k : Int, e = .returned (.int .i64 k)) ∧ w = w'

set_option maxRecDepth 1000000 in
set_option maxHeartbeats 2000000 in
theorem len64_few (n : Nat) (h : n ≤ 12) (w : World) : Calls Try.prog 61 #[.int .u64 n] w (SomeInt w) := by
  have : n = 0 ∨ n = 1 ∨ n = 2 ∨ n = 3 ∨ n = 4 ∨ n = 5 ∨ n = 6 ∨ n = 7 ∨ n = 8 ∨ n = 9 ∨ n = 10 ∨ n = 11 ∨ n = 12 := by omega
  rcases this with rfl | rfl | rfl | rfl | rfl | rfl | rfl | rfl | rfl | rfl | rfl | rfl | rfl
  all_goals
    go_enter Try.func61, Try.ntmps61
    go_wp2
    go_ret
    exact ⟨⟨_, rfl⟩, rfl⟩

theorem bitsLen_few (n : Nat) (h : n ≤ 12) (w : World) : Calls Try.prog 47 #[.int .u64 n] w (SomeInt w) := by
  go_enter Try.func47, Try.ntmps47
  go_wp2_with (go_at_call 61; refine (len64_few n h _).mono ?_; rintro e w' ⟨⟨k, rfl⟩, rfl⟩)
  go_ret
  exact ⟨⟨_, rfl⟩, rfl⟩

/-- Nothing is told; the world is as it was. -/
def Nothing (w : World) (e : Ending) (w' : World) : Prop := e = .returned (.tuple #[]) ∧ w = w'

theorem insertion_none (a : Option Addr) (cap : Nat) (w : World) : Calls Try.prog 51 #[.slice a 0 cap, .int .i64 0, .int .i64 0] w (Nothing w) := by
  go_enter Try.func51, Try.ntmps51
  go_wp2
  refine wp_loop_rounds 1 ?_
  rw [rounds_succ]
  go_wp2
  go_end0
  exact ⟨rfl, rfl⟩

set_option maxRecDepth 100000 in
set_option maxHeartbeats 1000000 in
theorem pdq_few (blk off cap : Nat) (d : Array Int) (limit : Int) (w : World) (hH : Holds (Value.int .u64) w blk off d) (hsz : d.size ≤ 12) :
    Calls Try.prog 46 #[.slice (some ⟨blk, off, none⟩) d.size cap, .int .i64 0, .int .i64 d.size, .int .i64 limit] w (SortEnd w blk off (Sort.insertionSort ltInt d 0 d.size)) := by
  have HH := Lib.hid hH
  clear hH
  go_enter Try.func46, Try.ntmps46
  go_wp2
  refine wp_loop_rounds 1 ?_
  rw [rounds_succ]
  go_wp2_with (go_at_call 51; refine (insertion_any blk off cap d.size d _ HH.out (Nat.le_refl _) (by omega)).mono ?_; rintro e w' hE; obtain ⟨rfl, n, rfl⟩ := hE)
  go_end0
  exact ⟨rfl, n, rfl⟩

set_option maxRecDepth 100000 in
theorem pdq_none (a : Option Addr) (cap : Nat) (limit : Int) (w : World) :
    Calls Try.prog 46 #[.slice a 0 cap, .int .i64 0, .int .i64 0, .int .i64 limit] w (Nothing w) := by
  go_enter Try.func46, Try.ntmps46
  go_wp2
  refine wp_loop_rounds 1 ?_
  rw [rounds_succ]
  go_wp2_with fail
  refine (insertion_none _ _ _).mono ?_
  rintro e w' hE
  obtain ⟨rfl, rfl⟩ := hE
  go_wp2
  go_end0
  exact ⟨rfl, rfl⟩

theorem sort_few (blk off cap : Nat) (d : Array Int) (w : World) (hH : Holds (Value.int .u64) w blk off d) (hsz : d.size ≤ 12) :
    Calls Try.prog 39 #[.slice (some ⟨blk, off, none⟩) d.size cap] w (SortEnd w blk off (Sort.insertionSort ltInt d 0 d.size)) := by
  have HH := Lib.hid hH
  clear hH
  go_enter Try.func39, Try.ntmps39
  go_wp2_with (first
    | (go_at_call 47; refine (bitsLen_few d.size hsz _).mono ?_; rintro e w' ⟨⟨k, rfl⟩, rfl⟩)
    | (go_at_call 46; refine (pdq_few blk off cap d _ _ HH.out hsz).mono ?_; rintro e w' hE; obtain ⟨rfl, n, rfl⟩ := hE))
  go_end0
  exact ⟨rfl, n, rfl⟩
theorem sort_none (a : Option Addr) (cap : Nat) (w : World) :
    Calls Try.prog 39 #[.slice a 0 cap] w (Nothing w) := by
  go_enter Try.func39, Try.ntmps39
  go_wp2_with (first
    | (go_at_call 47; refine (bitsLen_few 0 (by omega) _).mono ?_; rintro e w' ⟨⟨k, rfl⟩, rfl⟩)
    | (go_at_call 46; refine (pdq_none _ _ _ _).mono ?_; rintro e w' hE; obtain ⟨rfl, rfl⟩ := hE))
  go_end0
  exact ⟨rfl, rfl⟩

theorem swoInt : SWO ltInt := ⟨fun x => by simp [ltInt], fun x y z h k => by simp [ltInt] at *; omega, fun x y z h k => by simp [ltInt] at *; omega⟩

/-- What the sort makes of numbers that differ. -/
def sortedOf (ss : List Int) : List Int := (Sort.insertionSort ltInt ss.toArray 0 ss.length).toList
theorem sortedOf_is {ss : List Int} (hn : ss.Nodup) : (sortedOf ss).length = ss.length ∧ (∀ x, x ∈ sortedOf ss ↔ x ∈ ss) ∧ Rises (sortedOf ss) := by
  obtain ⟨⟨h1, _, h3⟩, h4⟩ := insertionSort_holds swoInt ss.toArray 0 ss.length (Nat.zero_le _) (by simp)
  have hs : (Sort.insertionSort ltInt ss.toArray 0 ss.length).size = ss.length := by rw [h1]; simp
  have hp : (sortedOf ss).Perm ss := by
    have e0 : ∀ (X : Array Int) (n : Nat), X.size = n → X.extract 0 n = X := by rintro X n rfl; simp
    have e1 := e0 _ _ hs
    have e2 : ss.toArray.extract 0 ss.length = ss.toArray := by simp
    rw [e1, e2] at h3
    simpa [sortedOf] using h3
  refine ⟨hp.length_eq, fun x => hp.mem_iff, ?_⟩
  have hnd : (sortedOf ss).Nodup := hp.nodup_iff.2 hn
  unfold Rises
  rw [List.pairwise_iff_getElem]
  intro i j hi hj hij
  have hi' : i < ss.length := by rw [← hp.length_eq]; exact hi
  have hj' : j < ss.length := by rw [← hp.length_eq]; exact hj
  have h5 := h4 i j (Nat.zero_le _) hij hj'
  rw [getElem!_pos _ i (by omega), getElem!_pos _ j (by omega)] at h5
  have h6 : (sortedOf ss)[i] ≠ (sortedOf ss)[j] := List.pairwise_iff_getElem.1 hnd i j hi hj hij
  have e1 : (sortedOf ss)[i] = (Sort.insertionSort ltInt ss.toArray 0 ss.length)[i]'(by omega) := rfl
  have e2 : (sortedOf ss)[j] = (Sort.insertionSort ltInt ss.toArray 0 ss.length)[j]'(by omega) := rfl
  rw [e1, e2] at h6 ⊢
  simp [ltInt] at h5
  omega

end Go.Proofs.Ytoghdkhlliehoaa

/- The program's memory of layer 3: Pages, where there are few. -/
namespace Go.Proofs.Ytoghdkhlliehoaa
open Go.RowKit Go.Maps Go.Sort
set_option linter.unusedVariables false
set_option maxRecDepth 100000

/-- Block g holds those numbers, in an array of cap words. -/
def RowN (w : World) (g : Nat) (xs : List Int) (cap : Nat) : Prop :=
  ∃ cur, w.heap[g]? = some (.cells cur 22 (0, 0)) ∧ cur.size = cap ∧ xs.length ≤ cap ∧ cap ≤ maxLen ∧ ∀ i, i < xs.length → cur[i]? = some (.int .u64 (xs.getD i 0))
theorem RowN.cell {w : World} {g cap : Nat} {xs : List Int} (h : RowN w g xs cap) {i : Nat} (hi : i < xs.length) : w.cell? ⟨g, i, none⟩ = some (.int .u64 (xs.getD i 0)) := by
  obtain ⟨cur, h1, _, _, _, h2⟩ := h
  rw [cell_of_row w g i _ _ _ h1]; exact h2 i hi
theorem RowN.frozen {w : World} {g cap : Nat} {xs : List Int} (h : RowN w g xs cap) (i : Nat) : w.frozen? ⟨g, i, none⟩ = false := by
  obtain ⟨cur, h1, _⟩ := h; exact frozen_of_row w g i _ _ h1
theorem RowN.set {w : World} {g cap : Nat} {xs : List Int} (h : RowN w g xs cap) (k : Nat) (v : Int) : RowN (w.setCell ⟨g, k, none⟩ (.int .u64 v)) g (xs.set k v) cap := by
  obtain ⟨cur, h1, h2, h3, h4, h5⟩ := h
  refine ⟨_, heap_setCell_same w g k cur _ _ h1, by simpa using h2, by simpa using h3, h4, fun i hi => ?_⟩
  have hi' : i < xs.length := by simpa using hi
  by_cases e : k = i
  · subst e
    have : k < cur.size := by omega
    simp [List.getD, hi', this]
  · rw [Array.getElem?_setIfInBounds_ne (by omega), h5 i hi']
    simp [List.getD, List.getElem?_set, e]
theorem RowN.own {w : World} {g cap B : Nat} {xs : List Int} (h : RowN w g xs cap) (hB : B ≤ g) : w.ownsRow B 22 1 (.slice (some ⟨g, 0, none⟩) xs.length cap) xs.length (xs.map (Value.int .u64)) := by
  obtain ⟨cur, h1, h2, h3, h4, h5⟩ := h
  refine ⟨by simp, .inr ⟨g, cap, cur, rfl, hB, h1, h3, h4, by omega, ?_⟩⟩
  apply List.ext_getElem?
  intro i
  rw [List.getElem?_take]
  by_cases c : i < xs.length
  · rw [if_pos (by omega), Array.getElem?_toList, h5 i c]
    simp [List.getD, c]
  · rw [if_neg (by omega), List.getElem?_eq_none (by rw [List.length_map]; omega)]

theorem row_sorted {w : World} {g n cap : Nat} {cur : Array Value} {ts : List Int} (hb : w.heap[g]? = some (.cells cur 22 (0, 0))) (hc : cur.size = cap) (h1 : ts.length ≤ cap) (h2 : cap ≤ maxLen) :
    RowN (putRow (Value.int .u64) (Sort.ahead w n) g 0 ts.toArray) g ts cap := by
  refine ⟨putCells (Value.int .u64) 0 ts.toArray cur, by simp [putRow, mapBlock, Sort.ahead, Array.getElem?_modify, hb, onCells], by simp [putCells, hc], h1, h2, fun i hi => ?_⟩
  have : i < cur.size := by omega
  simp [putCells, hi, this, List.getD]

/-- What Sorted leaves. -/
def SortedEnd (w : World) (D : DataW Unit) (e : Ending) (w' : World) : Prop :=
  Below w.heap.size w w' ∧ ∃ ss, AllU D ss ∧ ((ss = [] ∧ e = .returned (.slice none 0 0)) ∨ ∃ g cap, e = .returned (.slice (some ⟨g, 0, none⟩) ss.length cap) ∧ w.heap.size ≤ g ∧ RowN w' g (sortedOf ss) cap)

theorem allU_few {w : World} {mb nn : Nat} {D : DataW Unit} (hown : w.ownsMap Try.prog 22 ptrElem mb nn D) {N : Nat} {lo : Int} (hN : ∀ q, Maps.has D (.int .u64 q) = true → lo ≤ q ∧ q < lo + N) {ss : List Int} (h : AllU D ss) : ss.length ≤ N :=
  nodup_le N lo ss h.1 fun x hx => hN x ((h.2 x).1 hx)

set_option maxHeartbeats 1000000 in
theorem sorted_few (Bm mb nn : Nat) (D : DataW Unit) (w : World) (hBm : Bm < w.heap.size) (hm : w.cell? ⟨Bm, 0, none⟩ = some (.map (some mb))) (hown : w.ownsMap Try.prog 22 ptrElem mb nn D) (hs : Maps.size D ≤ 1000000) (lo : Int) (hN : ∀ q, Maps.has D (.int .u64 q) = true → lo ≤ q ∧ q < lo + (12 : Nat)) :
    Calls Try.prog 28 #[.func (.func 40) #[] #[.pointer (some ⟨Bm, 0, none⟩)]] w (SortedEnd w D) := by
  have HN := Lib.hid hN
  have HW := Lib.hid hown
  have HM := Lib.hid hm
  clear hN hown hm
  go_enter Try.func28, Try.ntmps28
  go_wp2_with fail
  refine (collect_keys Bm mb nn D _ hBm HM.out HW.out hs).mono ?_
  rintro e W ⟨v, ss, rfl, hS, hrow, hnil, hb⟩
  have hl := allU_few HW.out HN.out hS
  have HB := Lib.hid hb
  have HS := Lib.hid hS
  rcases hrow.2 with ⟨rfl, hz⟩ | ⟨g, cap, cur, rfl, hbase, hgb, r1, r2, r3, r4⟩
  · have hss : ss = [] := List.eq_nil_of_length_eq_zero hz
    subst hss
    clear hrow hnil hb hS
    go_wp2_with fail
    refine (sort_none none 0 W).mono ?_
    rintro e w' hE
    obtain ⟨rfl, rfl⟩ := hE
    go_wp2
    go_ret
    exact ⟨HB.out, [], HS.out, .inl ⟨rfl, rfl⟩⟩
  · have hH : Holds (Value.int .u64) W g 0 ss.toArray := by
      intro j hj
      have hj' : j < ss.length := by simpa using hj
      refine ⟨?_, by simp [World.frozen?, hgb]⟩
      have h1 : (cur.toList.take (ss.length * 1))[j]? = (ss.map (Value.int .u64))[j]? := by rw [r4]
      rw [List.getElem?_take, if_pos (by omega), Array.getElem?_toList] at h1
      rw [Nat.zero_add, cell_of_row W g j _ _ _ hgb, h1]
      simp [hj']
    have hcall := sort_few g 0 cap ss.toArray W hH (by simpa using hl)
    have HROW : ∀ n, Hid (RowN (putRow (Value.int .u64) (Sort.ahead W n) g 0 (Sort.insertionSort ltInt ss.toArray 0 ss.toArray.size)) g (sortedOf ss) cap) := fun n => by
      have hs := (sortedOf_is HS.out.1).1
      have := row_sorted (n := n) (ts := sortedOf ss) hgb (by omega) (by omega) r2
      refine Lib.hid ?_
      simpa [sortedOf] using this
    have HBL : ∀ n, Hid (Below w.heap.size w (putRow (Value.int .u64) (Sort.ahead W n) g 0 (Sort.insertionSort ltInt ss.toArray 0 ss.toArray.size))) := fun n => by
      refine Lib.hid (HB.out.trans ⟨rfl, rfl, rfl, by simp, fun k hk => ?_⟩)
      have : g ≠ k := by omega
      simp [putRow, mapBlock, Sort.ahead, Array.getElem?_modify, this]
    clear hrow hnil hb hS hH
    rw [show ss.toArray.size = ss.length by simp] at hcall
    rw [show ss.toArray.size = ss.length by simp] at HROW HBL
    go_wp2_with fail
    refine hcall.mono ?_
    rintro e w' hE
    obtain ⟨rfl, n, rfl⟩ := hE
    have H1 := HROW n
    have H2 := HBL n
    clear HROW HBL hcall
    generalize putRow (Value.int .u64) (Sort.ahead W n) g 0 (Sort.insertionSort ltInt ss.toArray 0 ss.length) = w9 at *
    go_wp2
    go_ret
    exact ⟨H2.out, ss, HS.out, .inr ⟨g, cap, rfl, hbase, H1.out⟩⟩

theorem size_1000000 {w : World} {b mb : Nat} {S : Nat → Prop} {base size : Int} {m : Int → Int} {pg : Int → Option Nat} (hp : Parts w b mb S base size m pg) (hf : Fits base size) :
    ∃ n D, w.ownsMap Try.prog 22 ptrElem mb n D ∧ Maps.size D ≤ 1000000 ∧ (∀ q, D.atKey (.int .u64 q) (encP none) = encP (pg q)) ∧ ∀ kl, Maps.has D kl = true → ∃ q, In64 q ∧ kl = .int .u64 q ∧ pg q ≠ none := by
  obtain ⟨n, D, h1, h2, h3, h4, h5⟩ := hp.ok.map.size_le Try.underlying22 (pages_16384 hp hf)
  exact ⟨n, D, h3, by omega, h4, h5⟩

/-- The numbers of the map are those of the pages that are not all 0. -/
theorem has_page {w : World} {b mb : Nat} {S : Nat → Prop} {base size : Int} {m : Int → Int} {pg : Int → Option Nat} (hp : Parts w b mb S base size m pg) {D : DataW Unit} (h2 : ∀ q, D.atKey (.int .u64 q) (encP none) = encP (pg q))
    (h3 : ∀ kl, Maps.has D kl = true → ∃ q, In64 q ∧ kl = .int .u64 q ∧ pg q ≠ none) (q : Int) : Maps.has D (.int .u64 q) = true ↔ ∃ y, ¬ m y = 0 ∧ y / 4096 = q := by
  constructor
  · intro h
    obtain ⟨q', _, e, hne⟩ := h3 _ h
    injection e with _ e
    subst e
    cases e2 : pg q with
    | none => exact absurd e2 hne
    | some g =>
      obtain ⟨_, _, _, _, i, hi, hy⟩ := hp.ok.page q g e2
      exact ⟨_, hy, by omega⟩
  · rintro ⟨y, hy, rfl⟩
    cases e : Maps.has D (.int .u64 (y / 4096)) with
    | true => rfl
    | false =>
      have := Maps.atKey_of_not_has (H := Unit) (D := D) e (encP none)
      rw [h2] at this
      have h0 := hp.ok.gone _ (encP_inj this) (y % 4096).toNat (by omega)
      rw [show y / 4096 * 4096 + ((y % 4096).toNat : Int) = y by omega] at h0
      exact absurd h0 hy

/-- The first k of them are multiplied. -/
def mulTo (ys : List Int) (k : Nat) : List Int := (List.range ys.length).map fun i => if i < k then ys.getD i 0 * 4096 else ys.getD i 0
theorem mulTo_len (ys : List Int) (k : Nat) : (mulTo ys k).length = ys.length := by unfold mulTo; simp
theorem mulTo_get (ys : List Int) (k i : Nat) (h : i < ys.length) : (mulTo ys k).getD i 0 = if i < k then ys.getD i 0 * 4096 else ys.getD i 0 := by
  unfold mulTo; simp [List.getD, h]
theorem list_ext {xs ys : List Int} (h : xs.length = ys.length) (e : ∀ i, i < xs.length → xs.getD i 0 = ys.getD i 0) : xs = ys := by
  apply List.ext_getElem h
  intro i h1 h2
  have := e i h1
  simpa [List.getD, h1, h2] using this
theorem mulTo_zero (ys : List Int) : mulTo ys 0 = ys := list_ext (mulTo_len ys 0) fun i hi => by
  rw [mulTo_len] at hi
  rw [mulTo_get ys 0 i hi, if_neg (by omega)]
theorem mulTo_set (ys : List Int) (k : Nat) (h : k < ys.length) : (mulTo ys k).set k (ys.getD k 0 * 4096) = mulTo ys (k + 1) := list_ext (by simp [mulTo_len]) fun i hi => by
  have hi' : i < ys.length := by simpa [mulTo_len] using hi
  rw [mulTo_get ys (k + 1) i hi']
  by_cases e : k = i
  · subst e
    rw [if_pos (by omega)]
    simp [List.getD, mulTo_len, h]
  · have : ((mulTo ys k).set k (ys.getD k 0 * 4096)).getD i 0 = (mulTo ys k).getD i 0 := by simp [List.getD, List.getElem?_set, e]
    rw [this, mulTo_get ys k i hi']
    by_cases c : i < k
    · rw [if_pos c, if_pos (by omega)]
    · rw [if_neg c, if_neg (by omega)]
theorem mulTo_all (ys : List Int) : mulTo ys ys.length = ys.map (· * 4096) := list_ext (by simp [mulTo_len]) fun i hi => by
  rw [mulTo_len] at hi
  rw [mulTo_get ys _ i hi, if_pos hi]
  simp [List.getD, hi]

/-- What Pages tells, out of the sorted numbers. -/
theorem pages_told {D : DataW Unit} {m : Int → Int} {ss : List Int} (hS : AllU D ss) (hh : ∀ q, Maps.has D (.int .u64 q) = true ↔ ∃ y, ¬ m y = 0 ∧ y / 4096 = q) :
    Rises ((sortedOf ss).map (· * 4096)) ∧ ∀ p, p ∈ (sortedOf ss).map (· * 4096) ↔ ∃ y, ¬ m y = 0 ∧ pageOf y = p := by
  obtain ⟨_, h2, h3⟩ := sortedOf_is hS.1
  refine ⟨?_, fun p => ?_⟩
  · unfold Rises at *
    rw [List.pairwise_map]
    exact h3.imp fun h => by omega
  · rw [List.mem_map]
    constructor
    · rintro ⟨q, hq, rfl⟩
      obtain ⟨y, hy, e⟩ := (hh q).1 ((hS.2 q).1 ((h2 q).1 hq))
      exact ⟨y, hy, by unfold pageOf; rw [e]⟩
    · rintro ⟨y, hy, rfl⟩
      exact ⟨y / 4096, (h2 _).2 ((hS.2 _).2 ((hh _).2 ⟨y, hy, rfl⟩)), rfl⟩

set_option maxHeartbeats 1000000 in
theorem progPages_few {w : World} {b : Nat} {S : Nat → Prop} {base size : Int} {m : Int → Int} (h : ProgMem w b S base size m) (hf : Fits base size) (hs : size ≤ 49152) :
    Calls Try.prog 13 #[.pointer (some ⟨b, 0, none⟩)] w (PagesEnd w m) := by
  obtain ⟨mb, pg, hp⟩ := h.parts
  obtain ⟨c0, c1, c2⟩ := ram_cells hp.row
  obtain ⟨n, D, hown, hsz, h2, h3⟩ := size_1000000 hp hf
  have hN : ∀ q, Maps.has D (.int .u64 q) = true → base / 4096 ≤ q ∧ q < base / 4096 + (12 : Nat) := fun q hq => by
    obtain ⟨y, hy, rfl⟩ := (has_page hp h2 h3 q).1 hq
    have := hp.sup y hy
    have := hp.al1
    omega
  have HU : Hid (∀ q, Maps.has D (.int .u64 q) = true → 0 ≤ q ∧ q * 4096 ≤ 9223372036854775807) := Lib.hid fun q hq => by
    obtain ⟨y, hy, rfl⟩ := (has_page hp h2 h3 q).1 hq
    have := hp.sup y hy
    unfold Fits at hf
    omega
  have HH := Lib.hid (has_page hp h2 h3)
  have hb1 : Below w.heap.size w (w.alloc (.cells #[.map (some mb)] 51)) := (Below.refl _ _).alloc (Nat.le_refl _) _
  have hm1 : (w.alloc (.cells #[.map (some mb)] 51)).cell? ⟨w.heap.size, 0, none⟩ = some (.map (some mb)) := by
    rw [cell_of_row _ _ 0 _ _ _ (heap_alloc_new w _)]; rfl
  have hown1 : (w.alloc (.cells #[.map (some mb)] 51)).ownsMap Try.prog 22 ptrElem mb n D := hown.alloc _
  have hcall := sorted_few w.heap.size mb n D (w.alloc (.cells #[.map (some mb)] 51)) (by simp) hm1 hown1 hsz _ hN
  have HB1 := Lib.hid hb1
  have HCALL := Lib.hid hcall
  clear hcall hown1 hm1 hb1 hN h2 h3 hown hsz hp h hf
  go_enter Try.func13, Try.ntmps13
  go_wp2_with (go_at_call 29; refine (keys_any _ _).mono ?_; rintro e w' ⟨rfl, rfl⟩)
  refine HCALL.out.mono ?_
  rintro e w1 ⟨hb, ss, hS, hor⟩
  have HB := Lib.hid (HB1.out.trans (hb.mono (by simp)))
  have HS := Lib.hid hS
  have hge : w.heap.size ≤ (w.alloc (.cells #[.map (some mb)] 51)).heap.size := by simp
  clear hb hS HCALL c0 c1 c2
  rcases hor with ⟨rfl, rfl⟩ | ⟨g, cap, rfl, hg, hrow⟩
  · go_wp2
    refine wp_loop_rounds 1 ?_
    rw [rounds_succ]
    go_wp2
    go_ret
    refine ⟨HB.out, none, 0, 0, [], rfl, World.ownsRow_nil _ _ _ _, List.Pairwise.nil, fun p => ⟨fun h => by simp at h, ?_⟩⟩
    rintro ⟨y, hy, rfl⟩
    have := (HS.out.2 (y / 4096)).2 ((HH.out _).2 ⟨y, hy, rfl⟩)
    simp at this
  · have hlen := (sortedOf_is HS.out.1).1
    have HTOLD := Lib.hid (pages_told HS.out HH.out)
    have HQ : Hid (∀ i, i < ss.length → 0 ≤ (sortedOf ss).getD i 0 ∧ (sortedOf ss).getD i 0 * 4096 ≤ 9223372036854775807) := Lib.hid fun i hi => by
      refine HU.out _ ((HS.out.2 _).1 (((sortedOf_is HS.out.1).2.1 _).1 ?_))
      have : i < (sortedOf ss).length := by omega
      simp [List.getD, this]
    have hml : ss.length ≤ maxLen := by
      obtain ⟨_, _, _, h3, h4, _⟩ := hrow
      omega
    unfold maxLen at hml
    generalize hys : sortedOf ss = ys at *
    have HL := Lib.hid hlen
    have HY := Lib.hid hys
    have hg2 : w.heap.size ≤ g := Nat.le_trans hge hg
    have HROW : Hid (RowN w1 g (mulTo ys 0) cap) := by rw [mulTo_zero]; exact Lib.hid hrow
    clear hlen hys hrow hg hge HU HH HB1
    go_wp2
    go_loopw [15] (fun i wr => ∃ k : Nat, k ≤ ss.length ∧ i = .int .i64 k ∧ RowN wr g (mulTo ys k) cap ∧ Below w.heap.size w wr) (fun i _ => ss.length - (intOf i).toNat)
    case atStart => exact ⟨0, Nat.zero_le _, rfl, HROW.out, HB.out⟩
    case round =>
      obtain ⟨k, hk, rfl, hr, hb⟩ := hrel
      by_cases hlt : k < ss.length
      · have hky : k < ys.length := by rw [HL.out]; exact hlt
        have hc := hr.cell (i := k) (by rw [mulTo_len]; exact hky)
        rw [mulTo_get ys k k hky, if_neg (by omega)] at hc
        have hf := hr.frozen k
        have hq := HQ.out k hlt
        have HNEXT : Hid (RowN (wr.setCell ⟨g, k, none⟩ (.int .u64 (ys.getD k 0 * 4096))) g (mulTo ys (k + 1)) cap) := by
          have := hr.set k (ys.getD k 0 * 4096)
          rw [mulTo_set ys k hky] at this
          exact Lib.hid this
        have HBB := Lib.hid (hb.setCell (p := ⟨g, k, none⟩) hg2 (.int .u64 (ys.getD k 0 * 4096)))
        generalize ys.getD k 0 = y at *
        have hq1 := hq.1
        have hq2 : y * 4096 ≤ 18446744073709551615 := by omega
        have hq3 : 0 ≤ y * 4096 := by omega
        clear hr hb hky hq
        go_wp2
        go_roundw
        case rel => exact ⟨k + 1, by omega, by go_num, HNEXT.out, HBB.out⟩
        case measure => simp [intOf]; omega
      · obtain rfl : k = ss.length := by omega
        have HB2 := Lib.hid hb
        have HR2 := Lib.hid hr
        clear hb hr
        go_wp2
        go_ret
        have e1 : mulTo ys ss.length = ys.map (· * 4096) := by rw [← HL.out]; exact mulTo_all ys
        have hown := HR2.out.own hg2
        rw [mulTo_len, HL.out, e1] at hown
        exact ⟨HB2.out, _, _, _, ys.map (· * 4096), rfl, by rw [List.length_map, HL.out]; exact hown, HTOLD.out.1, HTOLD.out.2⟩

end Go.Proofs.Ytoghdkhlliehoaa
