/- Walks with the frame a variable: shifts by a variable amount, comparisons, conversions; an operation whose guard itself was skipped. -/
import Derived.Test.YtkfhpmleelmcfaaWk5
namespace Go.Proofs.Ytkfhpmleelmcfaa
open Go.RowKit
set_option linter.unusedVariables false
set_option maxRecDepth 100000

section
variable {w : World} {o : Oper} {a : Act} {l : List (Nat × Value)} {n : Nat}

theorem R_shrX (hA : FrA l n a) {x y : Operand} (ho : o.op = .binOp .shr 22 x y 22) {u : Int} {k : Nat} (hx : evL l x = some (.int .u64 u)) (h0 : 0 ≤ u) (hk : k < 64) (hy : evL l y = some (.int .u64 (k : Int))) (w : World) : (execOp a.eval o).run Try.prog w = .ok (.value (.int .u64 (u / 2 ^ k))) w := by
  unfold execOp; simp only [ho, hA.ev hx, hA.ev hy]; simp [go_sem, hk]

theorem R_shlX (hA : FrA l n a) {x y : Operand} (ho : o.op = .binOp .shl 22 x y 22) {k : Nat} (hk : k < 64) (hx : evL l x = some (.int .u64 1)) (hy : evL l y = some (.int .u64 (k : Int))) (w : World) : (execOp a.eval o).run Try.prog w = .ok (.value (.int .u64 (2 ^ k))) w := by
  have h2 : (2 : Int) ^ k < 18446744073709551616 := by
    have : (2 : Int) ^ k < 2 ^ 64 := by exact_mod_cast Nat.pow_lt_pow_right (by omega) hk
    omega
  have h3 : (0 : Int) < 2 ^ k := by exact_mod_cast Nat.two_pow_pos k
  unfold execOp; simp only [ho, hA.ev hx, hA.ev hy]; simp [go_sem]
  rw [IntKind.wrap_u64]
  omega

theorem R_gtrU (hA : FrA l n a) {x y : Operand} (ho : o.op = .binOp .gtr 22 x y 22) {u v : Int} (hx : evL l x = some (.int .u64 u)) (hy : evL l y = some (.int .u64 v)) (w : World) : (execOp a.eval o).run Try.prog w = .ok (.value (.bool (decide (v < u)))) w := by
  unfold execOp; simp only [ho, hA.ev hx, hA.ev hy]; simp [go_sem]

theorem R_geqI (hA : FrA l n a) {x y : Operand} (ho : o.op = .binOp .geq 3 x y 3) {u v : Int} (hx : evL l x = some (.int .i64 u)) (hy : evL l y = some (.int .i64 v)) (w : World) : (execOp a.eval o).run Try.prog w = .ok (.value (.bool (decide (v ≤ u)))) w := by
  unfold execOp; simp only [ho, hA.ev hx, hA.ev hy]; simp [go_sem]

theorem R_cvIU (hA : FrA l n a) {x : Operand} (ho : o.op = .convert 3 34 x) {k : Nat} (hx : evL l x = some (.int .i64 (k : Int))) (w : World) (hk : k < 1000000 := by omega) : (execOp a.eval o).run Try.prog w = .ok (.value (.int .u64 (k : Int))) w := by
  have e : IntKind.u64.wrap (k : Int) = k := by rw [IntKind.wrap_u64]; omega
  unfold execOp; simp only [ho, hA.ev hx]; simp [go_sem, e]

theorem R_cvIQ (hA : FrA l n a) {x : Operand} (ho : o.op = .convert 3 22 x) {k : Nat} (hx : evL l x = some (.int .i64 (k : Int))) (w : World) (hk : k < 1000000 := by omega) : (execOp a.eval o).run Try.prog w = .ok (.value (.int .u64 (k : Int))) w := by
  have e : IntKind.u64.wrap (k : Int) = k := by rw [IntKind.wrap_u64]; omega
  unfold execOp; simp only [ho, hA.ev hx]; simp [go_sem, e]
end

section
variable {Q : Exit → Act → World → Prop} {w : World} {ops : Array Oper} {rest : List Oper} {o : Oper} {a : Act} {l : List (Nat × Value)} {n d : Nat}

theorem W_gskipU (hA : FrA l n a) {j dj : Nat} {want : Bool} (hg : o.guard = some (j, want)) (hdj : ((ops[j]?).bind (·.dst)) = some dj) (hq : l.lookup dj = some undef) (d : Nat) (hd : o.dst = some d) (hdn : d < n)
    (h : ∀ a', FrA ((d, undef) :: l) n a' → wpList Try.prog ops Q rest a' w) : wpList Try.prog ops Q (o :: rest) a w := by
  refine wpList_step fun K hK => ?_
  have e : a.eval (.tmp dj) = undef := hA.get _ _ hq
  have e' : a.tmps.getD dj undef = undef := e
  have hw : Region.wanted o (yielded ops a.tmps) = false := by
    rw [Array.getD_eq_getD_getElem?] at e'
    simp only [Region.wanted, hg, yielded, hdj, Option.bind_some]
    cases c : a.tmps[dj]? with
    | none => cases want <;> rfl
    | some u => rw [c] at e'; simp only [Option.getD_some] at e'; subst e'; cases want <;> rfl
  rw [hw, if_neg (by simp), hd]
  exact hK _ _ (h _ (hA.put hdn undef))
end

end Go.Proofs.Ytkfhpmleelmcfaa
