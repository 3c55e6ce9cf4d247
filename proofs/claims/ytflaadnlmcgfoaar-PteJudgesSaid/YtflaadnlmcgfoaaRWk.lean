/- Walks with the frame a variable: what it is known to hold is a list; one law for each kind of operation. For great switches: a test costs what it costs in a small function. -/
import Derived.Test.YtflaadnlmcgfoaaRArr
import Derived.Test.YtflaadnlmcgfoaaRRows
import Derived.Lib.Hide
import Derived.Below
import Derived.Deep.CutBlock
import Derived.Great.Frames
import Derived.Laws.Rows
import Derived.Laws.Tables
import Derived.WalkLawsBesides
import Derived.WalkSmall
namespace Go.Proofs.YtflaadnlmcgfoaaR
open Go.RowKit
set_option linter.unusedVariables false
set_option maxRecDepth 100000

structure FrA (l : List (Nat × Value)) (n : Nat) (a : Act) : Prop where
  get : ∀ i v, l.lookup i = some v → a.eval (.tmp i) = v
  sz : a.tmps.size = n
  df : a.defers = []

def evL (l : List (Nat × Value)) : Operand → Option Value
  | .tmp i => l.lookup i
  | .const c => some c
  | _ => none

theorem FrA.ev {l : List (Nat × Value)} {n : Nat} {a : Act} (h : FrA l n a) {x : Operand} {v : Value} (hx : evL l x = some v) : a.eval x = v := by
  cases x with
  | tmp i => exact h.get i v hx
  | const c => simp only [evL, Option.some.injEq] at hx; exact hx
  | _ => cases hx

theorem FrA.put {l : List (Nat × Value)} {n : Nat} {a : Act} (h : FrA l n a) {e : Nat} (he : e < n) (v : Value) : FrA ((e, v) :: l) n (a.put (some e) v) :=
  ⟨fun i u hi => by
    by_cases c : e = i
    · subst c
      simp at hi
      rw [Act.eval_put_same _ _ _ (by rw [h.sz]; exact he)]; exact hi
    · rw [Act.eval_put_ne _ _ _ _ c]
      refine h.get i u ?_
      rw [List.lookup_cons] at hi
      rw [show (i == e) = false by simpa using fun q : i = e => c q.symm] at hi
      exact hi, by rw [Act.size_put]; exact h.sz, by rw [Act.defers_put']; exact h.df⟩

theorem FrA.skip {l : List (Nat × Value)} {n : Nat} {a : Act} (h : FrA l n a) {e : Nat} (he : l.lookup e = none) (v : Value) : FrA l n (a.put (some e) v) :=
  ⟨fun i u hi => by
    by_cases c : e = i
    · subst c; rw [he] at hi; cases hi
    · rw [Act.eval_put_ne _ _ _ _ c]; exact h.get i u hi, by rw [Act.size_put]; exact h.sz, by rw [Act.defers_put']; exact h.df⟩

theorem FrA.non {l : List (Nat × Value)} {n : Nat} {a : Act} (h : FrA l n a) (v : Value) : FrA l n (a.put none v) := h

theorem FrA.sub {l l' : List (Nat × Value)} {n : Nat} {a : Act} (h : FrA l n a) (hs : ∀ p, p ∈ l' → l.lookup p.1 = some p.2) : FrA l' n a :=
  ⟨fun i v hi => h.get i v (by
    have : (i, v) ∈ l' := by
      induction l' with
      | nil => cases hi
      | cons q t ih =>
        rw [List.lookup_cons] at hi
        by_cases c : i == q.1
        · rw [c] at hi
          have e1 := eq_of_beq c
          simp only [Option.some.injEq] at hi
          rw [e1, ← hi]; exact List.mem_cons_self
        · rw [Bool.not_eq_true] at c
          rw [c] at hi
          exact List.mem_cons_of_mem _ (ih (fun p hp => hs p (List.mem_cons_of_mem _ hp)) hi)
    exact hs _ this), h.sz, h.df⟩

section

variable {Q : Exit → Act → World → Prop} {w : World} {ops : Array Oper} {rest : List Oper} {o : Oper} {a : Act} {l : List (Nat × Value)} {n d : Nat}

/-! ends of blocks -/
theorem then_nrm {K : Act → World → Prop} (h : K a w) : Exit.then K Q .normal a w := h

theorem then_ret {K : Act → World → Prop} (h : Q .ret a w) : Exit.then K Q .ret a w := h

theorem then_ext {K : Act → World → Prop} {i : Nat} (h : Q (.exit i) a w) : Exit.then K Q (.exit i) a w := h

theorem blk_nrm {i : Nat} (h : Q .normal a w) : Exit.inBlock i Q .normal a w := h

theorem blk_ret {i : Nat} (h : Q .ret a w) : Exit.inBlock i Q .ret a w := h

theorem blk_eq {i : Nat} (h : Q .normal a w) : Exit.inBlock i Q (.exit i) a w := by show (if i = i then _ else _); rw [if_pos rfl]; exact h

theorem blk_ne {i j : Nat} (hij : ¬ i = j) (h : Q (.exit i) a w) : Exit.inBlock j Q (.exit i) a w := by show (if i = j then _ else _); rw [if_neg hij]; exact h

/-! operations -/
theorem W_val (hA : FrA l n a) (hg : o.guard = none) (d : Nat) (hd : o.dst = some d) (hdn : d < n) (v : Value) (w' : World) (hrun : (execOp a.eval o).run Try.prog w = .ok (.value v) w')
    (h : ∀ a', FrA ((d, v) :: l) n a' → wpList Try.prog ops Q rest a' w') : wpList Try.prog ops Q (o :: rest) a w := by
  refine wpList_plain hg fun K hK => ?_
  unfold Oper.wp
  rw [hrun, Oper.upon_value, hd]
  exact hK _ _ (h _ (hA.put hdn v))

theorem W_nil (h : Q .normal a w) : wpList Try.prog ops Q [] a w := h

theorem R_asg (hA : FrA l n a) {x : Operand} (ho : o.op = .assign x) {v : Value} (hx : evL l x = some v) (w : World) : (execOp a.eval o).run Try.prog w = .ok (.value v) w := by
  unfold execOp; simp only [ho, hA.ev hx]; rfl

theorem R_mov (hA : FrA l n a) {x : Operand} (ho : o.op = .move x) {v : Value} (hx : evL l x = some v) (w : World) : (execOp a.eval o).run Try.prog w = .ok (.value (v)) w := by
  unfold execOp; simp only [ho, hA.ev hx]; rfl

theorem R_fa (hA : FrA l n a) {T : TypeId} {x : Operand} {i : Nat} (ho : o.op = .fieldAddr T x i) {v r : Value} (hx : evL l x = some v) (hT : ∀ w, (Instr.fieldAt T v i).run Try.prog w = .ok r w) (w : World) : (execOp a.eval o).run Try.prog w = .ok (.value (r)) w := by
  unfold execOp; simp only [ho, hA.ev hx]; simp only [Sem.run_bind, hT, Result.andThen_ok, Sem.run_pure]

theorem R_and (hA : FrA l n a) {x y : Operand} (ho : o.op = .binOp .and 23 x y 23) {u v : Int} (hx : evL l x = some (.int .u64 u)) (hy : evL l y = some (.int .u64 v)) (w : World) : (execOp a.eval o).run Try.prog w = .ok (.value (.int .u64 (bits .and .u64 u v))) w := by
  unfold execOp; simp only [ho, hA.ev hx, hA.ev hy]; simp [go_sem]

theorem R_or (hA : FrA l n a) {x y : Operand} (ho : o.op = .binOp .or 23 x y 23) {u v : Int} (hx : evL l x = some (.int .u64 u)) (hy : evL l y = some (.int .u64 v)) (w : World) : (execOp a.eval o).run Try.prog w = .ok (.value (.int .u64 (bits .or .u64 u v))) w := by
  unfold execOp; simp only [ho, hA.ev hx, hA.ev hy]; simp [go_sem]

theorem R_xorU (hA : FrA l n a) {x : Operand} (ho : o.op = .unOp .xor 23 x) {u r : Int} (hx : evL l x = some (.int .u64 u)) (hr : bits .xor .u64 18446744073709551615 u = r) (w : World) : (execOp a.eval o).run Try.prog w = .ok (.value (.int .u64 r)) w := by
  subst hr; unfold execOp; simp only [ho, hA.ev hx]; simp [go_sem]; rfl

theorem R_ld (hA : FrA l n a) {T : TypeId} {x : Operand} (ho : o.op = .load T x) {p : Addr} (hx : evL l x = some (.pointer (some p))) {v : Value} (hag : ∀ w, (isAgg T).run Try.prog w = .ok false w) (hc : w.cell? p = some v) : (execOp a.eval o).run Try.prog w = .ok (.value (v)) w := by
  unfold execOp; simp only [ho, hA.ev hx, Instr.loadAt, Instr.sureAddr, Sem.run_bind, Sem.run_pure, Result.andThen_ok, loadVar, hag]; simp [go_sem, hc]

/-- A switch's test. -/
theorem W_test (hA : FrA l n a) {ix e f : Nat} {x : Operand} {k j : Int} {p1 p2 : String} {ty ty2 : TypeId} {af : Array Edge} {X Y : Code} (hx : evL l x = some (.int .i64 k)) (he : e < n) (hf : f < n) (hle : l.lookup e = none) (hlf : l.lookup f = none)
    (hy : (k == j) = true → ∀ a', FrA l n a' → X.wp Try.prog Q a' w) (hn : (k == j) = false → ∀ a', FrA l n a' → Y.wp Try.prog Q a' w) :
    ((Code.region ix #[{ dst := some e, op := .binOp .eql 3 x (.const (.int .i64 j)) 3, type := ty, pos := p1, after := #[], guard := none }, { dst := some f, op := .assign (.tmp e), type := ty2, pos := p2, after := af, guard := none }] false).seq (Code.cond (.tmp f) X Y)).wp Try.prog Q a w := by
  refine wp_seq (wp_region_list ?_)
  refine W_val hA rfl e rfl he (.bool (k == j)) w (by unfold execOp; simp only [hA.ev hx, hA.ev (show evL l (.const (.int .i64 j)) = some (.int .i64 j) from rfl)]; simp [go_sem]) fun a1 h1 => ?_
  refine wpList_plain rfl fun K hK => ?_
  have hK' := hK (a1.put (some f) (.bool (k == j))) w
  unfold Oper.wp execOp
  simp only [h1.ev (show evL ((e, Value.bool (k == j)) :: l) (.tmp e) = some (.bool (k == j)) by simp [evL])]
  refine hK' (W_nil ?_)
  show (Code.cond (.tmp f) X Y).wp Try.prog Q _ w
  have h0 : FrA l n a1 := ⟨fun i v hi => h1.get i v (by
    rw [List.lookup_cons]
    by_cases c : i == e
    · rw [eq_of_beq c] at hi; rw [hle] at hi; cases hi
    · rw [Bool.not_eq_true] at c; rw [c]; exact hi), h1.sz, h1.df⟩
  have h2 := h0.skip hlf (.bool (k == j))
  refine wp_cond_split (t := (k == j)) (Act.eval_put_same _ _ _ (by rw [h1.sz]; exact hf)) (fun h => hy h _ h2) (fun h => hn h _ h2)

end

end Go.Proofs.YtflaadnlmcgfoaaR
