/- Laws for operations, guarded ones too: a whole array of bytes loaded, built, compared, copied into. Plain Lean over the model; nothing of the program. -/
import Derived.Test.YtoghdkhlliehoaaArrEq
import Derived.Laws.CopyOwn
namespace Go.Proofs.Ytoghdkhlliehoaa
open Go.RowKit
set_option linter.unusedVariables false
set_option maxRecDepth 100000

section
variable {P : Program} {ops : Array Oper} {rest : List Oper} {o : Oper} {a : Act} {w : World} {Q : Exit → Act → World → Prop}

theorem wpList_want (hw : Region.wanted o (yielded ops a.tmps) = true) (h : o.wp P a w (wpList P ops Q rest) Q) : wpList P ops Q (o :: rest) a w := by
  simp only [wpList, hw, if_true]
  exact .inl h

theorem wpList_load_u (hw : Region.wanted o (yielded ops a.tmps) = true) (ty : TypeId) (x : Operand) (ho : o.op = .load ty x)
    (g : Nat) (hx : a.eval x = .pointer (some ⟨g, 0, none⟩)) (t : TypeId) (n : Nat) (f : Nat → Int) (e : TypeId) (hg : w.heap[g]? = some (.cells (uarr n f) t (0, 0)))
    (hu : P.underlying ty = some (.array n e)) (hi : (P.info? ty).map (·.size) = some n)
    (h : wpList P ops Q rest (a.put o.dst (.agg (uarr n f))) w) : wpList P ops Q (o :: rest) a w :=
  wpList_want hw (wp_load_row ty x ho g hx t _ _ _ hg hu rfl (by rw [uarr_size]; exact hi) h)

theorem wpList_build_u (hw : Region.wanted o (yielded ops a.tmps) = true) (t : TypeId) (ho : o.op = .build t #[]) (n : Nat) (f : Nat → Int) (hb : P.built t [] = some (uarr n f))
    (h : wpList P ops Q rest (a.put o.dst (.agg (uarr n f))) w) : wpList P ops Q (o :: rest) a w :=
  wpList_want hw (wp_build t #[] ho (by simp [hb]) (by simpa [hb] using h))

theorem wpList_eql_u (hw : Region.wanted o (yielded ops a.tmps) = true) (t ty : TypeId) (x y : Operand) (ho : o.op = .binOp .eql t x y ty) (e : TypeId) (n : Nat) (f g : Nat → Int)
    (hx : a.eval x = .agg (uarr n f)) (hy : a.eval y = .agg (uarr n g)) (ht : P.underlying t = some (.array n e)) (hs : (sizeOf e).run P w = .ok 1 w) (ha : (isAgg e).run P w = .ok false w) (he : P.underlying e = some (.int .u8))
    (hm : P.eqGuardType P.depth t = false)
    (h : wpList P ops Q rest (a.put o.dst (.bool (alike n f g))) w) : wpList P ops Q (o :: rest) a w := by
  refine wpList_want hw ?_
  unfold Oper.wp execOp
  simp only [ho, hx, hy, Sem.run_bind, run_eqGuard_agg w .eql t x y _ _ hm, run_eql_bytes w ht hs ha he f g, Result.andThen_ok, Sem.run_pure]
  exact h

/-- xs laid over f from off on. -/
def overU (f : Nat → Int) (off : Nat) (xs : List Int) (k : Nat) : Int := if off ≤ k ∧ k < off + xs.length then xs.getD (k - off) 0 else f k

theorem uarr_splice (n : Nat) (f : Nat → Int) (off : Nat) (xs : List Int) (h : off + xs.length ≤ n) :
    ((uarr n f).toList.take off ++ (xs.map (Value.int .u8) ++ (uarr n f).toList.drop (off + (xs.map (Value.int .u8)).length))).toArray = uarr n (overU f off xs) := by
  have hl : (uarr n f).toList = (List.range n).map fun i => Value.int .u8 (f i) := by unfold uarr varr; rfl
  have hr : uarr n (overU f off xs) = ((List.range n).map fun i => Value.int .u8 (overU f off xs i)).toArray := rfl
  rw [hl, hr, List.length_map]
  congr 1
  apply List.ext_getElem?
  intro k
  by_cases c : k < off
  · rw [List.getElem?_append_left (by simp; omega), List.getElem?_take, if_pos c]
    unfold overU
    simp only [List.getElem?_map]
    cases hk : (List.range n)[k]? with
    | none => rfl
    | some j =>
      have : j = k := by
        have := List.getElem?_eq_some_iff.1 hk
        obtain ⟨_, h2⟩ := this
        simpa using h2.symm
      subst this
      simp only [Option.map_some]
      rw [if_neg (by omega)]
  · rw [List.getElem?_append_right (by simp; omega)]
    simp only [List.length_take, List.length_map, List.length_range]
    rw [show min off n = off by omega]
    by_cases d : k < off + xs.length
    · rw [List.getElem?_append_left (by simp; omega)]
      have hk : k < n := by omega
      simp only [List.getElem?_map, List.getElem?_range hk, Option.map_some]
      unfold overU
      rw [if_pos ⟨by omega, d⟩]
      have : k - off < xs.length := by omega
      simp [List.getElem?_eq_getElem this, List.getD]
    · rw [List.getElem?_append_right (by simp; omega)]
      simp only [List.length_map, List.getElem?_drop]
      rw [show off + xs.length + (k - off - xs.length) = k by omega]
      simp only [List.getElem?_map]
      cases hk : (List.range n)[k]? with
      | none => rfl
      | some j =>
        have : j = k := by
          obtain ⟨_, h2⟩ := List.getElem?_eq_some_iff.1 hk
          simpa using h2.symm
        subst this
        simp only [Option.map_some]
        unfold overU
        rw [if_neg (by omega)]

theorem wpList_copy_u (hgd : o.guard = none) (d s : Operand) (dT sT : TypeId)
    (ho : o.op = .call { callee := .builtin .copy, args := #[d, s], argTypes := #[dT, sT] }) (elem : TypeId) (hu : P.underlying dT = some (.slice elem)) (hsz : (P.info? elem).map (·.size) = some 1)
    (g off dLen dCap : Nat) (ad : Addr) (sLen sCap : Nat) (hd : a.eval d = .slice (some ⟨g, off, none⟩) dLen dCap) (hs : a.eval s = .slice (some ad) sLen sCap)
    (n : Nat) (f : Nat → Int) (t : TypeId) (hg : w.heap[g]? = some (.cells (uarr n f) t (0, 0))) (xs : List Int) (hn : xs.length = Nat.min sLen dLen)
    (hsrc : ∀ j, j < xs.length → w.cell? (ad.add j) = some (.int .u8 (xs.getD j 0))) (hfit : off + xs.length ≤ n)
    (h : wpList P ops Q rest (a.put o.dst (goInt xs.length)) (w.setRow g (uarr n (overU f off xs)))) : wpList P ops Q (o :: rest) a w := by
  refine wpList_copy_own hgd d s dT sT ho elem hu hsz g off dLen dCap ad sLen sCap hd hs (uarr n f) t hg (xs.map (Value.int .u8)) (by simpa using hn) ?_ (by rw [uarr_size]; simpa using hfit) ?_ ?_
  · intro j v hj
    rw [List.getElem?_map, Option.map_eq_some_iff] at hj
    obtain ⟨x, hx, rfl⟩ := hj
    have hl := (List.getElem?_eq_some_iff.1 hx).1
    rw [hsrc j hl]
    simp [List.getD, hx]
  · intro v hv
    obtain ⟨x, _, rfl⟩ := List.mem_map.1 hv
    rfl
  · rw [uarr_splice n f off xs hfit, List.length_map]
    exact h

/-- 'p[l:]' of a pointer to an array. -/
theorem run_slice_from {t e : TypeId} {n : Nat} (ht : P.underlying t = some (.array n e)) (hs : (sizeOf e).run P w = .ok 1 w) (g l : Nat) (hl : l < n) :
    (Instr.sliceAt t (.pointer (some ⟨g, 0, none⟩)) (some (.int .i64 l)) none none).run P w = .ok (.slice (some ⟨g, l, none⟩) (n - l) (n - l)) w := by
  have e1 : ¬ n = l := by omega
  have e2 : (⟨g, 0, none⟩ : Addr).add l = ⟨g, l, none⟩ := by
    unfold Addr.add; simp
    intro h; omega
  have e3 : l ≤ n := by omega
  simp [Instr.sliceAt, run_underlying ht, Instr.sureAddr, Instr.sliceBounds, Instr.sliceBound, asIntOf, hs, e1, e2, e3, Result.andThen]
/-- 'a[:h]' of an array. -/
theorem run_slice_upto {t e : TypeId} {n : Nat} (ht : P.underlying t = some (.array n e)) (hs : (sizeOf e).run P w = .ok 1 w) (g h : Nat) (hh : h ≤ n) (hn : 0 < n) :
    (Instr.sliceAt t (.pointer (some ⟨g, 0, none⟩)) none (some (.int .i64 h)) none).run P w = .ok (.slice (some ⟨g, 0, none⟩) h n) w := by
  have e1 : ¬ n = 0 := by omega
  have e2 : (⟨g, 0, none⟩ : Addr).add 0 = ⟨g, 0, none⟩ := by unfold Addr.add; simp
  simp [Instr.sliceAt, run_underlying ht, Instr.sureAddr, Instr.sliceBounds, Instr.sliceBound, asIntOf, hs, e1, e2, hh, Result.andThen]
end

end Go.Proofs.Ytoghdkhlliehoaa
