/- Walks with the frame a variable: more operations, on words, bytes and numbers (general). -/
import Derived.Test.YtflaadnlmcgfoaaRWkG
import Derived.Test.YtflaadnlmcgfoaaRBv
namespace Go.Proofs.YtflaadnlmcgfoaaR
open Go.RowKit
set_option linter.unusedVariables false
set_option maxRecDepth 100000

section
variable {w : World} {o : Oper} {a : Act} {l : List (Nat × Value)} {n : Nat}
theorem R_neqB (hA : FrA l n a) {x y : Operand} (ho : o.op = .binOp .neq 5 x y 5) {u v : Int} (hx : evL l x = some (.int .u8 u)) (hy : evL l y = some (.int .u8 v)) (w : World) : (execOp a.eval o).run Try.prog w = .ok (.value (.bool (u != v))) w := by
  unfold execOp; simp only [ho, hA.ev hx, hA.ev hy]; simp [go_sem]
theorem R_eqlB (hA : FrA l n a) {x y : Operand} (ho : o.op = .binOp .eql 5 x y 5) {u v : Int} (hx : evL l x = some (.int .u8 u)) (hy : evL l y = some (.int .u8 v)) (w : World) : (execOp a.eval o).run Try.prog w = .ok (.value (.bool (u == v))) w := by
  unfold execOp; simp only [ho, hA.ev hx, hA.ev hy]; simp [go_sem]
theorem R_rem (hA : FrA l n a) {x y : Operand} (ho : o.op = .binOp .rem 23 x y 23) {u m : Int} (h0 : 0 ≤ u) (hm : 0 < m ∧ m < 18446744073709551616) (hx : evL l x = some (.int .u64 u)) (hy : evL l y = some (.int .u64 m)) (w : World) : (execOp a.eval o).run Try.prog w = .ok (.value (.int .u64 (u % m))) w := by
  have e : u.tmod m = u % m := Int.tmod_eq_emod_of_nonneg h0
  have h1 : 0 ≤ u % m := Int.emod_nonneg _ (by omega)
  have h2 : u % m < m := Int.emod_lt_of_pos _ hm.1
  have e2 : IntKind.u64.wrap (u % m) = u % m := by rw [IntKind.wrap_u64]; omega
  have e3 : ¬ m = 0 := by omega
  unfold execOp; simp only [ho, hA.ev hx, hA.ev hy]; simp [go_sem, e, e2, e3]
theorem R_sub (hA : FrA l n a) {x y : Operand} (ho : o.op = .binOp .sub 23 x y 23) {u v : Int} (hx : evL l x = some (.int .u64 u)) (hy : evL l y = some (.int .u64 v)) (r : Int) (hr : IntKind.u64.wrap (u - v) = r) (w : World) : (execOp a.eval o).run Try.prog w = .ok (.value (.int .u64 r)) w := by
  subst hr
  unfold execOp; simp only [ho, hA.ev hx, hA.ev hy]; simp [go_sem]
theorem R_shrI (hA : FrA l n a) {x y : Operand} (ho : o.op = .binOp .shr 23 x y 37) {u k : Int} (hx : evL l x = some (.int .u64 u)) (h0 : 0 ≤ u) (hk : 0 ≤ k ∧ k < 64) (hy : evL l y = some (.int .u64 k)) (w : World) : (execOp a.eval o).run Try.prog w = .ok (.value (.int .u64 (u / 2 ^ k.toNat))) w := by
  obtain ⟨j, rfl⟩ : ∃ j : Nat, k = (j : Int) := ⟨k.toNat, by omega⟩
  have hj : j < 64 := by omega
  exact R_shrN hA ho j hx h0 hj hy w
theorem R_shrM (hA : FrA l n a) {x y : Operand} (ho : o.op = .binOp .shr 23 x y 23) {u k : Int} (hx : evL l x = some (.int .u64 u)) (h0 : 0 ≤ u) (hk : 0 ≤ k ∧ k < 64) (hy : evL l y = some (.int .u64 k)) (w : World) : (execOp a.eval o).run Try.prog w = .ok (.value (.int .u64 (u / 2 ^ k.toNat))) w := by
  obtain ⟨j, rfl⟩ : ∃ j : Nat, k = (j : Int) := ⟨k.toNat, by omega⟩
  have hj : j < 64 := by omega
  exact R_shrX hA ho hx h0 hj hy w
theorem R_shlI (hA : FrA l n a) {x y : Operand} (ho : o.op = .binOp .shl 23 x y 37) {k : Nat} (hk : k < 64) (hx : evL l x = some (.int .u64 1)) (hy : evL l y = some (.int .u64 (k : Int))) (w : World) : (execOp a.eval o).run Try.prog w = .ok (.value (.int .u64 (2 ^ k))) w := by
  have h2 : (2 : Int) ^ k < 18446744073709551616 := by
    have : (2 : Int) ^ k < 2 ^ 64 := by exact_mod_cast Nat.pow_lt_pow_right (by omega) hk
    omega
  have h3 : (0 : Int) < 2 ^ k := by exact_mod_cast Nat.two_pow_pos k
  unfold execOp; simp only [ho, hA.ev hx, hA.ev hy]; simp [go_sem]
  rw [IntKind.wrap_u64]
  omega
theorem R_shlN (hA : FrA l n a) {x y : Operand} (ho : o.op = .binOp .shl 23 x y 37) {u : Int} (hx : evL l x = some (.int .u64 u)) (hy : evL l y = some (.int .u64 11)) (w : World) : (execOp a.eval o).run Try.prog w = .ok (.value (.int .u64 (IntKind.u64.wrap (u * 2 ^ 11)))) w := by
  unfold execOp; simp only [ho, hA.ev hx, hA.ev hy]; simp [go_sem]
theorem R_andB (hA : FrA l n a) {x y : Operand} (ho : o.op = .binOp .and 5 x y 5) {u v : Int} (hx : evL l x = some (.int .u8 u)) (hy : evL l y = some (.int .u8 v)) (w : World) : (execOp a.eval o).run Try.prog w = .ok (.value (.int .u8 (bits .and .u8 u v))) w := by
  unfold execOp; simp only [ho, hA.ev hx, hA.ev hy]; simp [go_sem]
theorem R_cvUB (hA : FrA l n a) {x : Operand} (ho : o.op = .convert 23 5 x) {u : Int} (hx : evL l x = some (.int .u64 u)) (r : Int) (hr : IntKind.u8.wrap u = r) (w : World) : (execOp a.eval o).run Try.prog w = .ok (.value (.int .u8 r)) w := by
  subst hr
  unfold execOp; simp only [ho, hA.ev hx]; simp [go_sem]
theorem R_cvIB (hA : FrA l n a) {x : Operand} (ho : o.op = .convert 3 5 x) {u : Int} (hx : evL l x = some (.int .i64 u)) (r : Int) (hr : IntKind.u8.wrap u = r) (w : World) : (execOp a.eval o).run Try.prog w = .ok (.value (.int .u8 r)) w := by
  subst hr
  unfold execOp; simp only [ho, hA.ev hx]; simp [go_sem]
theorem R_cvBU (hA : FrA l n a) {x : Operand} (ho : o.op = .convert 5 23 x) {u : Int} (hx : evL l x = some (.int .u8 u)) (hu : In64 u) (w : World) : (execOp a.eval o).run Try.prog w = .ok (.value (.int .u64 u)) w := by
  have e : IntKind.u64.wrap u = u := by rw [IntKind.wrap_u64]; unfold In64 at hu; omega
  unfold execOp; simp only [ho, hA.ev hx]; simp [go_sem, e]
theorem R_eqlIT (hA : FrA l n a) {x y : Operand} (ho : o.op = .binOp .eql 3 x y 3) {u v : Int} (hx : evL l x = some (.int .i64 u)) (hy : evL l y = some (.int .i64 v)) (q : Bool) (he : (u == v) = q) (w : World) : (execOp a.eval o).run Try.prog w = .ok (.value (.bool q)) w := by
  subst he; exact R_eqlI hA ho hx hy w
theorem R_neqIT (hA : FrA l n a) {x y : Operand} (ho : o.op = .binOp .neq 3 x y 3) {u v : Int} (hx : evL l x = some (.int .i64 u)) (hy : evL l y = some (.int .i64 v)) (q : Bool) (he : (u != v) = q) (w : World) : (execOp a.eval o).run Try.prog w = .ok (.value (.bool q)) w := by
  subst he
  unfold execOp; simp only [ho, hA.ev hx, hA.ev hy]; simp [go_sem]
theorem R_addIT (hA : FrA l n a) {x y : Operand} (ho : o.op = .binOp .add 3 x y 3) {u v : Int} (hx : evL l x = some (.int .i64 u)) (hy : evL l y = some (.int .i64 v)) (r : Int) (he : IntKind.i64.wrap (u + v) = r) (w : World) : (execOp a.eval o).run Try.prog w = .ok (.value (.int .i64 r)) w := by
  subst he; exact R_addI hA ho hx hy w
theorem R_eqlBN (hA : FrA l n a) {x y : Operand} (ho : o.op = .binOp .eql 5 x y 5) {u v : Int} (hx : evL l x = some (.int .u8 u)) (hy : evL l y = some (.int .u8 v)) (z : Bool) (he : (u == v) = z) (w : World) : (execOp a.eval o).run Try.prog w = .ok (.value (.bool z)) w := by
  subst he; exact R_eqlB hA ho hx hy w
theorem R_neqBN (hA : FrA l n a) {x y : Operand} (ho : o.op = .binOp .neq 5 x y 5) {u v : Int} (hx : evL l x = some (.int .u8 u)) (hy : evL l y = some (.int .u8 v)) (z : Bool) (he : (u != v) = z) (w : World) : (execOp a.eval o).run Try.prog w = .ok (.value (.bool z)) w := by
  subst he; exact R_neqB hA ho hx hy w
theorem R_gtrB (hA : FrA l n a) {x y : Operand} (ho : o.op = .binOp .gtr 5 x y 5) {u v : Int} (hx : evL l x = some (.int .u8 u)) (hy : evL l y = some (.int .u8 v)) (w : World) : (execOp a.eval o).run Try.prog w = .ok (.value (.bool (decide (v < u)))) w := by
  unfold execOp; simp only [ho, hA.ev hx, hA.ev hy]; simp [go_sem]
theorem R_geqU (hA : FrA l n a) {x y : Operand} (ho : o.op = .binOp .geq 23 x y 23) {u v : Int} (hx : evL l x = some (.int .u64 u)) (hy : evL l y = some (.int .u64 v)) (w : World) : (execOp a.eval o).run Try.prog w = .ok (.value (.bool (decide (v ≤ u)))) w := by
  unfold execOp; simp only [ho, hA.ev hx, hA.ev hy]; simp [go_sem]
theorem R_gtrI (hA : FrA l n a) {x y : Operand} (ho : o.op = .binOp .gtr 3 x y 3) {u v : Int} (hx : evL l x = some (.int .i64 u)) (hy : evL l y = some (.int .i64 v)) (w : World) : (execOp a.eval o).run Try.prog w = .ok (.value (.bool (decide (v < u)))) w := by
  unfold execOp; simp only [ho, hA.ev hx, hA.ev hy]; simp [go_sem]
theorem R_neqI (hA : FrA l n a) {x y : Operand} (ho : o.op = .binOp .neq 3 x y 3) {u v : Int} (hx : evL l x = some (.int .i64 u)) (hy : evL l y = some (.int .i64 v)) (w : World) : (execOp a.eval o).run Try.prog w = .ok (.value (.bool (u != v))) w := by
  unfold execOp; simp only [ho, hA.ev hx, hA.ev hy]; simp [go_sem]
theorem R_eqlBo (hA : FrA l n a) {x y : Operand} (ho : o.op = .binOp .eql 4 x y 4) {u v : Bool} (hx : evL l x = some (.bool u)) (hy : evL l y = some (.bool v)) (w : World) : (execOp a.eval o).run Try.prog w = .ok (.value (.bool (u == v))) w := R_eqlBT hA ho hx hy _ rfl w
theorem R_neqBo (hA : FrA l n a) {x y : Operand} (ho : o.op = .binOp .neq 4 x y 4) {u v : Bool} (hx : evL l x = some (.bool u)) (hy : evL l y = some (.bool v)) (w : World) : (execOp a.eval o).run Try.prog w = .ok (.value (.bool (u != v))) w := R_neqBT hA ho hx hy _ rfl w
theorem R_mulT (hA : FrA l n a) {x y : Operand} (ho : o.op = .binOp .mul 23 x y 23) {u v : Int} (hx : evL l x = some (.int .u64 u)) (hy : evL l y = some (.int .u64 v)) (r : Int) (hr : IntKind.u64.wrap (u * v) = r) (w : World) : (execOp a.eval o).run Try.prog w = .ok (.value (.int .u64 r)) w := by
  subst hr; exact R_mul hA ho hx hy w
theorem R_addT (hA : FrA l n a) {x y : Operand} (ho : o.op = .binOp .add 23 x y 23) {u v : Int} (hx : evL l x = some (.int .u64 u)) (hy : evL l y = some (.int .u64 v)) (r : Int) (hr : IntKind.u64.wrap (u + v) = r) (w : World) : (execOp a.eval o).run Try.prog w = .ok (.value (.int .u64 r)) w := by
  subst hr; exact R_add hA ho hx hy w
theorem R_quoT (hA : FrA l n a) {x y : Operand} (ho : o.op = .binOp .quo 23 x y 23) {u m : Int} (h0 : 0 ≤ u) (hu : u < 18446744073709551616) (hm : 0 < m) (hx : evL l x = some (.int .u64 u)) (hy : evL l y = some (.int .u64 m)) (w : World) : (execOp a.eval o).run Try.prog w = .ok (.value (.int .u64 (u / m))) w := by
  have e : u.tdiv m = u / m := Int.tdiv_eq_ediv_of_nonneg h0
  have h1 : 0 ≤ u / m := Int.ediv_nonneg h0 (by omega)
  have h2 : u / m ≤ u := Int.ediv_le_self _ h0
  have e2 : IntKind.u64.wrap (u / m) = u / m := by rw [IntKind.wrap_u64]; omega
  have e3 : ¬ m = 0 := by omega
  unfold execOp; simp only [ho, hA.ev hx, hA.ev hy]; simp [go_sem, e, e2, e3]
theorem ag_intT (w : World) : (isAgg 3).run Try.prog w = .ok false w := by kernel_rfl
end
section
variable {ops : Array Oper} {md : Region.Mode} {Q : Exit → Act → World → Prop} {S : World → Prop} {l : List (Nat × Value)} {n : Nat} {fuel : Nat} {listed : Array Bool} {a : Act} {w : World}
theorem A_split (hA : FrA l n a) (s : Nat) {q : Bool} (hs : l.lookup s = some (.bool q)) (ht : q = true → FrA ((s, .bool true) :: l) n a → wpAnyH Try.prog md ops Q S fuel listed a w) (hf : q = false → FrA ((s, .bool false) :: l) n a → wpAnyH Try.prog md ops Q S fuel listed a w) : wpAnyH Try.prog md ops Q S fuel listed a w := by
  cases q
  · exact hf rfl (hA.add s _ (hA.get s _ hs))
  · exact ht rfl (hA.add s _ (hA.get s _ hs))
end
end Go.Proofs.YtflaadnlmcgfoaaR
