/- Walks with the frame a variable: in a region that draws, a hart's block made and filled; remainders. -/
import Derived.Test.YtiblfdgmleckiaaWk7
namespace Go.Proofs.Ytiblfdgmleckiaa
open Go.RowKit
set_option linter.unusedVariables false
set_option maxRecDepth 100000

section
variable {ops : Array Oper} {md : Region.Mode} {Q : Exit → Act → World → Prop} {S : World → Prop} {l : List (Nat × Value)} {n : Nat} {fuel : Nat} {listed : Array Bool} {a : Act} {w : World}
theorem ready_allocH {i : Nat} {oi : Oper} {rs : List Nat} (hA : FrA l n a) (d : Nat) (hi : ops[i]? = some oi) (hd : oi.dst = some d) (hdn : d < n) (hg : oi.guard = none) (ho : oi.op = .alloc 25) (hSS : ∀ w', Below w.heap.size w w' → S w')
    (h : ∀ w' b a', FrA ((d, .pointer (some ⟨b, 0, none⟩)) :: l) n a' → Below w.heap.size w w' → HartB w' b hZ → w.heap.size ≤ b → wpAnyH Try.prog md ops Q S fuel (listed.setIfInBounds i true) a' w') (hrs : AllReadyH Try.prog md ops Q S fuel listed a w rs) : AllReadyH Try.prog md ops Q S fuel listed a w (i :: rs) :=
  AllReadyH.cons hi (fun K hK => by
    simp only [Region.wanted, hg, if_true]
    unfold Oper.wp
    rw [R_alloc hA ho zero_hart w, Oper.upon_value, hd]
    exact hK.out _ _ (hSS _ ((Below.refl _ _).alloc (Nat.le_refl _) _)) (fun _ => h _ _ _ (hA.put hdn _) ((Below.refl _ _).alloc (Nat.le_refl _) _) (HartB.new w hZ) (Nat.le_refl _))) hrs
theorem ready_cpH {i : Nat} {oi : Oper} {rs : List Nat} (hA : FrA l n a) (hi : ops[i]? = some oi) (hd : oi.dst = none) (hg : oi.guard = none) {x y : Operand} (ho : oi.op = .store 25 x y) {b : Nat} {t s : HS} (hx : evL l x = some (.pointer (some ⟨b, 0, none⟩))) (hy : evL l y = some (hartV s)) (hb : HartB w b t)
    (hSS : ∀ w', Tch b w w' → S w') (h : ∀ w', Tch b w w' → HartB w' b s → wpAnyH Try.prog md ops Q S fuel (listed.setIfInBounds i true) a w') (hrs : AllReadyH Try.prog md ops Q S fuel listed a w rs) : AllReadyH Try.prog md ops Q S fuel listed a w (i :: rs) :=
  AllReadyH.cons hi (fun K hK => by
    simp only [Region.wanted, hg, if_true]
    unfold Oper.wp execOp
    simp only [ho, hA.ev hx, hA.ev hy, Instr.storeAt, Instr.sureAddr, Sem.run_bind, Sem.run_pure, Result.andThen_ok, run_storeVar_row w b 25 25 (varr 77 (hCell t)) (varr 77 (hCell s)) hb (size_hartR s) (by rw [varr_size, varr_size]) (hcell_all s)]
    have := hK.out (a.put oi.dst undef) (w.setRow b (varr 77 (hCell s))) (hSS _ (Tch.setRow _)) (fun _ => by rw [hd]; exact h _ (Tch.setRow _) (setRow_heap _ _ _ _ _ _ hb))
    exact this) hrs
end
section
variable {w : World} {o : Oper} {a : Act} {l : List (Nat × Value)} {n : Nat}
theorem R_cvB (hA : FrA l n a) {x : Operand} (ho : o.op = .convert 5 3 x) {u : Int} (h0 : 0 ≤ u) (h1 : u < 256) (hx : evL l x = some (.int .u8 u)) (w : World) : (execOp a.eval o).run Try.prog w = .ok (.value (.int .i64 u)) w := by
  have e : IntKind.i64.wrap u = u := IntWalk.i64_in _ (by omega)
  unfold execOp; simp only [ho, hA.ev hx]; simp [go_sem, e]
theorem R_rem9 (hA : FrA l n a) {x y : Operand} (ho : o.op = .binOp .rem 3 x y 3) {u : Int} (h0 : 0 ≤ u) (h1 : u < 256) (hx : evL l x = some (.int .i64 u)) (hy : evL l y = some (.int .i64 9)) {i : Nat} (hi : u % 9 = i) (w : World) : (execOp a.eval o).run Try.prog w = .ok (.value (.int .i64 i)) w := by
  have e : u.tmod 9 = u % 9 := Int.tmod_eq_emod_of_nonneg h0
  have e2 : IntKind.i64.wrap (u % 9) = u % 9 := IntWalk.i64_in _ (by omega)
  unfold execOp; simp only [ho, hA.ev hx, hA.ev hy]; simp [go_sem, e, e2, hi]
end
end Go.Proofs.Ytiblfdgmleckiaa
