/- Layer 9: the document's RowOf, Form, has. -/
import Derived.Test.YtehlihhnkojjeaaDoorDcB
import Derived.Deep.CutBlock
import Derived.Great.Frames
import Derived.Laws.Tables
namespace Go.Proofs.YtehlihhnkojjeaaDoor
open Go.RowKit
set_option linter.unusedVariables false
set_option maxRecDepth 100000

/-- The forms' letters. -/
def letT : Nat → Nat
  | 0 => 85
  | 1 => 74
  | 2 => 73
  | 3 => 66
  | 4 => 83
  | 5 => 72
  | 6 => 87
  | 7 => 82
  | 8 => 76
  | 9 => 65
  | 10 => 78
  | 11 => 70
  | 12 => 67
  | 13 => 90
  | 14 => 86
  | _ => 0

section
variable {Q : Exit → Act → World → Prop} {w : World} {ops : Array Oper} {rest : List Oper} {o : Oper} {a : Act} {k : Int} {n : Nat}
/-- What the frame holds in the switch. -/
structure At3 (k : Int) (n : Nat) (a : Act) : Prop where
  t3 : a.eval (.tmp 3) = .int .i64 k
  t2 : a.eval (.tmp 2) = .pointer (some ⟨n, 0, none⟩)
  sz : a.tmps.size = 344
  df : a.defers = []
theorem At3.put (h : At3 k n a) {e : Nat} (he : 3 < e) (v : Value) : At3 k n (a.put (some e) v) :=
  ⟨by rw [Act.eval_put_ne _ _ _ _ (by omega)]; exact h.t3, by rw [Act.eval_put_ne _ _ _ _ (by omega)]; exact h.t2, by rw [Act.size_put]; exact h.sz, by rw [Act.defers_put']; exact h.df⟩
theorem wpList_eqlI (hg : o.guard = none) {y : Int} (ho : o.op = .binOp .eql 3 (.tmp 3) (.const (.int .i64 y)) 3) {m : Int} (hx : a.eval (.tmp 3) = .int .i64 m) (h : wpList Tryd.prog ops Q rest (a.put o.dst (.bool (m == y))) w) : wpList Tryd.prog ops Q (o :: rest) a w := by
  refine wpList_plain hg fun K hK => ?_
  have hK' := hK _ _ h
  have hy : a.eval (.const (.int .i64 y)) = .int .i64 y := rfl
  unfold Oper.wp execOp
  simp only [ho, hx, hy]
  simp [go_sem]
  exact hK'
theorem wpList_asg (hg : o.guard = none) {x : Operand} (ho : o.op = .assign x) (h : wpList Tryd.prog ops Q rest (a.put o.dst (a.eval x)) w) : wpList Tryd.prog ops Q (o :: rest) a w :=
  by
  refine wpList_plain hg fun K hK => ?_
  have hK' := hK _ _ h
  unfold Oper.wp execOp
  simp only [ho]
  exact hK'
theorem chain {kk : Nat} (j : Nat) {n ix d : Nat} (ha : At3 kk n a) (hd : 3 < d) (hd2 : d + 1 < 344) {p1 p2 : String} {ty : TypeId} {af : Array Edge} {X Y : Code}
    (hy : kk = j → ∀ a', At3 kk n a' → X.wp Tryd.prog Q a' w) (hn : ¬ kk = j → ∀ a', At3 kk n a' → Y.wp Tryd.prog Q a' w) :
    ((Code.region ix #[{ dst := some (d + 1), op := .binOp .eql 3 (.tmp 3) (.const (.int .i64 j)) 3, type := ty, pos := p1, after := #[], guard := none }, { dst := some d, op := .assign (.tmp (d + 1)), type := ty, pos := p2, after := af, guard := none }] false).seq (Code.cond (.tmp d) X Y)).wp Tryd.prog Q a w := by
  refine wp_seq (wp_region_list ?_)
  refine wpList_eqlI rfl rfl ha.t3 ?_
  refine wpList_asg rfl rfl (wpList_nil ?_)
  rw [Act.eval_put_same _ _ _ (by rw [ha.sz]; omega)]
  show (Code.cond (.tmp d) X Y).wp Tryd.prog Q _ w
  have ha' := (ha.put (show 3 < d + 1 by omega) (.bool ((kk : Int) == j))).put hd (.bool ((kk : Int) == j))
  refine wp_cond_split (t := ((kk : Int) == j)) (Act.eval_put_same _ _ _ (by rw [Act.size_put, ha.sz]; omega)) (fun h => hy (by have := beq_iff_eq.1 h; omega) _ ha') (fun h => hn (by have := beq_eq_false_iff_ne.1 h; omega) _ ha')
theorem bldX (s : ByteArray) (mk mt l : Int) : Tryd.prog.built 65 [(0, .string s), (1, .int .u32 mk), (2, .int .u32 mt), (3, .int .u8 l)] = some #[.string s, .int .u32 mk, .int .u32 mt, .int .u8 l] := by kernel_rfl
theorem size_rowX : (Tryd.prog.info? 65).map (·.size) = some 4 := by kernel_rfl
theorem hres : Tryd.f23.results = #[.cell 2 65] := by kernel_rfl
/-- A case: its row is built, stored, told. -/
theorem row_yes {R : Ending → World → Prop} {kk : Int} {n e ix : Nat} {old : Array Value} (ha : At3 kk n a) (he : 3 < e) (he2 : e < 344) {s : ByteArray} {mk mt l : Int} {p1 p2 : String} {ty ty2 : TypeId} {af : Array Edge}
    (hw : w.heap[n]? = some (.cells old 65 (0, 0))) (ho : old.size = 4) (hQ : ∀ a' w', bodyPost Tryd.prog Tryd.f23 R .ret a' w' → Q .ret a' w')
    (hR : R (.returned (.agg #[.string s, .int .u32 mk, .int .u32 mt, .int .u8 l])) (w.setRow n #[.string s, .int .u32 mk, .int .u32 mt, .int .u8 l])) :
    ((Code.region ix #[{ dst := some e, op := .build 65 #[(0, .const (.string s)), (1, .const (.int .u32 mk)), (2, .const (.int .u32 mt)), (3, .const (.int .u8 l))], type := ty, pos := p1, after := #[], guard := none }, { dst := none, op := .store 65 (.tmp 2) (.tmp e), type := ty2, pos := p2, after := af, guard := none }] false).seq Code.ret).wp Tryd.prog Q a w := by
  refine wp_seq (wp_region_list ?_)
  refine wpList_build rfl _ _ rfl (by simp [Act.eval, bldX]) ?_
  simp only [List.map_toArray, List.map_cons, List.map_nil]
  have hev : Tryd.prog.built 65 [(0, a.eval (.const (.string s))), (1, a.eval (.const (.int .u32 mk))), (2, a.eval (.const (.int .u32 mt))), (3, a.eval (.const (.int .u8 l)))] = some #[.string s, .int .u32 mk, .int .u32 mt, .int .u8 l] := bldX s mk mt l
  rw [hev]
  have ha' := ha.put he (.agg #[.string s, .int .u32 mk, .int .u32 mt, .int .u8 l])
  refine wpList_store_row rfl _ _ _ rfl n #[.string s, .int .u32 mk, .int .u32 mt, .int .u8 l] ha'.t2 (Act.eval_put_same _ _ _ (by rw [ha.sz]; omega)) _ old hw size_rowX ho (by simp [Value.oneCell']) (wpList_nil ?_)
  show Code.ret.wp Tryd.prog Q _ _
  refine wp_ret (hQ _ _ ?_)
  exact bodyPost_ret (results_cell_row hres _ _ n 65 _ _ _ ha'.t2 (setRow_heap _ _ _ _ _ _ hw) Tryd.underlying65 rfl size_rowX) ha'.df hR
end

set_option maxHeartbeats 4000000 in
theorem refRow_any (k : Nat) (h1 : 1 ≤ k) (h2 : k ≤ 113) (w : World) :
    Calls Tryd.prog 23 #[.int .i64 k] w fun e w' => e = .returned (.agg #[.string (nameT k), .int .u32 (mskT k), .int .u32 (matT k), .int .u8 (letT (frmT k))]) ∧ Below w.heap.size w w' := by
  let R0 : Ending → World → Prop := fun e w' => e = .returned (.agg #[.string (nameT k), .int .u32 (mskT k), .int .u32 (matT k), .int .u8 (letT (frmT k))]) ∧ Below w.heap.size w w'
  go_enter Tryd.func23, Tryd.ntmps23
  go_upto_block 0 with (fail)
  refine wp_block ?_
  have hw := heap_alloc_new w (.cells #[.string ⟨#[]⟩, .int .u32 0, .int .u32 0, .int .u8 0] 65)
  have hb : ∀ cs, Below w.heap.size w ((w.alloc (.cells #[.string ⟨#[]⟩, .int .u32 0, .int .u32 0, .int .u8 0] 65)).setRow w.heap.size cs) := fun cs => below_setRow ((Below.refl _ _).alloc (Nat.le_refl _) _) (Nat.le_refl _) cs
  generalize w.alloc (.cells #[.string ⟨#[]⟩, .int .u32 0, .int .u32 0, .int .u8 0] 65) = w1 at *
  refine chain 1 ⟨rfl, rfl, rfl, rfl⟩ (by omega) (by omega) (fun e a' ha => row_yes (R := R0) ha (by omega) (by omega) hw rfl (fun _ _ h => h) ⟨by subst e; rfl, hb _⟩) (fun c1 a1 h1 => ?_)
  refine chain 2 h1 (by omega) (by omega) (fun e a' ha => row_yes (R := R0) ha (by omega) (by omega) hw rfl (fun _ _ h => h) ⟨by subst e; rfl, hb _⟩) (fun c2 a2 h2 => ?_)
  refine chain 3 h2 (by omega) (by omega) (fun e a' ha => row_yes (R := R0) ha (by omega) (by omega) hw rfl (fun _ _ h => h) ⟨by subst e; rfl, hb _⟩) (fun c3 a3 h3 => ?_)
  refine chain 4 h3 (by omega) (by omega) (fun e a' ha => row_yes (R := R0) ha (by omega) (by omega) hw rfl (fun _ _ h => h) ⟨by subst e; rfl, hb _⟩) (fun c4 a4 h4 => ?_)
  refine chain 5 h4 (by omega) (by omega) (fun e a' ha => row_yes (R := R0) ha (by omega) (by omega) hw rfl (fun _ _ h => h) ⟨by subst e; rfl, hb _⟩) (fun c5 a5 h5 => ?_)
  refine chain 6 h5 (by omega) (by omega) (fun e a' ha => row_yes (R := R0) ha (by omega) (by omega) hw rfl (fun _ _ h => h) ⟨by subst e; rfl, hb _⟩) (fun c6 a6 h6 => ?_)
  refine chain 7 h6 (by omega) (by omega) (fun e a' ha => row_yes (R := R0) ha (by omega) (by omega) hw rfl (fun _ _ h => h) ⟨by subst e; rfl, hb _⟩) (fun c7 a7 h7 => ?_)
  refine chain 8 h7 (by omega) (by omega) (fun e a' ha => row_yes (R := R0) ha (by omega) (by omega) hw rfl (fun _ _ h => h) ⟨by subst e; rfl, hb _⟩) (fun c8 a8 h8 => ?_)
  refine chain 9 h8 (by omega) (by omega) (fun e a' ha => row_yes (R := R0) ha (by omega) (by omega) hw rfl (fun _ _ h => h) ⟨by subst e; rfl, hb _⟩) (fun c9 a9 h9 => ?_)
  refine chain 10 h9 (by omega) (by omega) (fun e a' ha => row_yes (R := R0) ha (by omega) (by omega) hw rfl (fun _ _ h => h) ⟨by subst e; rfl, hb _⟩) (fun c10 a10 h10 => ?_)
  refine chain 11 h10 (by omega) (by omega) (fun e a' ha => row_yes (R := R0) ha (by omega) (by omega) hw rfl (fun _ _ h => h) ⟨by subst e; rfl, hb _⟩) (fun c11 a11 h11 => ?_)
  refine chain 12 h11 (by omega) (by omega) (fun e a' ha => row_yes (R := R0) ha (by omega) (by omega) hw rfl (fun _ _ h => h) ⟨by subst e; rfl, hb _⟩) (fun c12 a12 h12 => ?_)
  refine chain 13 h12 (by omega) (by omega) (fun e a' ha => row_yes (R := R0) ha (by omega) (by omega) hw rfl (fun _ _ h => h) ⟨by subst e; rfl, hb _⟩) (fun c13 a13 h13 => ?_)
  refine chain 14 h13 (by omega) (by omega) (fun e a' ha => row_yes (R := R0) ha (by omega) (by omega) hw rfl (fun _ _ h => h) ⟨by subst e; rfl, hb _⟩) (fun c14 a14 h14 => ?_)
  refine chain 15 h14 (by omega) (by omega) (fun e a' ha => row_yes (R := R0) ha (by omega) (by omega) hw rfl (fun _ _ h => h) ⟨by subst e; rfl, hb _⟩) (fun c15 a15 h15 => ?_)
  refine chain 16 h15 (by omega) (by omega) (fun e a' ha => row_yes (R := R0) ha (by omega) (by omega) hw rfl (fun _ _ h => h) ⟨by subst e; rfl, hb _⟩) (fun c16 a16 h16 => ?_)
  refine chain 17 h16 (by omega) (by omega) (fun e a' ha => row_yes (R := R0) ha (by omega) (by omega) hw rfl (fun _ _ h => h) ⟨by subst e; rfl, hb _⟩) (fun c17 a17 h17 => ?_)
  refine chain 18 h17 (by omega) (by omega) (fun e a' ha => row_yes (R := R0) ha (by omega) (by omega) hw rfl (fun _ _ h => h) ⟨by subst e; rfl, hb _⟩) (fun c18 a18 h18 => ?_)
  refine chain 19 h18 (by omega) (by omega) (fun e a' ha => row_yes (R := R0) ha (by omega) (by omega) hw rfl (fun _ _ h => h) ⟨by subst e; rfl, hb _⟩) (fun c19 a19 h19 => ?_)
  refine chain 20 h19 (by omega) (by omega) (fun e a' ha => row_yes (R := R0) ha (by omega) (by omega) hw rfl (fun _ _ h => h) ⟨by subst e; rfl, hb _⟩) (fun c20 a20 h20 => ?_)
  refine chain 21 h20 (by omega) (by omega) (fun e a' ha => row_yes (R := R0) ha (by omega) (by omega) hw rfl (fun _ _ h => h) ⟨by subst e; rfl, hb _⟩) (fun c21 a21 h21 => ?_)
  refine chain 22 h21 (by omega) (by omega) (fun e a' ha => row_yes (R := R0) ha (by omega) (by omega) hw rfl (fun _ _ h => h) ⟨by subst e; rfl, hb _⟩) (fun c22 a22 h22 => ?_)
  refine chain 23 h22 (by omega) (by omega) (fun e a' ha => row_yes (R := R0) ha (by omega) (by omega) hw rfl (fun _ _ h => h) ⟨by subst e; rfl, hb _⟩) (fun c23 a23 h23 => ?_)
  refine chain 24 h23 (by omega) (by omega) (fun e a' ha => row_yes (R := R0) ha (by omega) (by omega) hw rfl (fun _ _ h => h) ⟨by subst e; rfl, hb _⟩) (fun c24 a24 h24 => ?_)
  refine chain 25 h24 (by omega) (by omega) (fun e a' ha => row_yes (R := R0) ha (by omega) (by omega) hw rfl (fun _ _ h => h) ⟨by subst e; rfl, hb _⟩) (fun c25 a25 h25 => ?_)
  refine chain 26 h25 (by omega) (by omega) (fun e a' ha => row_yes (R := R0) ha (by omega) (by omega) hw rfl (fun _ _ h => h) ⟨by subst e; rfl, hb _⟩) (fun c26 a26 h26 => ?_)
  refine chain 27 h26 (by omega) (by omega) (fun e a' ha => row_yes (R := R0) ha (by omega) (by omega) hw rfl (fun _ _ h => h) ⟨by subst e; rfl, hb _⟩) (fun c27 a27 h27 => ?_)
  refine chain 28 h27 (by omega) (by omega) (fun e a' ha => row_yes (R := R0) ha (by omega) (by omega) hw rfl (fun _ _ h => h) ⟨by subst e; rfl, hb _⟩) (fun c28 a28 h28 => ?_)
  refine chain 29 h28 (by omega) (by omega) (fun e a' ha => row_yes (R := R0) ha (by omega) (by omega) hw rfl (fun _ _ h => h) ⟨by subst e; rfl, hb _⟩) (fun c29 a29 h29 => ?_)
  refine chain 30 h29 (by omega) (by omega) (fun e a' ha => row_yes (R := R0) ha (by omega) (by omega) hw rfl (fun _ _ h => h) ⟨by subst e; rfl, hb _⟩) (fun c30 a30 h30 => ?_)
  refine chain 31 h30 (by omega) (by omega) (fun e a' ha => row_yes (R := R0) ha (by omega) (by omega) hw rfl (fun _ _ h => h) ⟨by subst e; rfl, hb _⟩) (fun c31 a31 h31 => ?_)
  refine chain 32 h31 (by omega) (by omega) (fun e a' ha => row_yes (R := R0) ha (by omega) (by omega) hw rfl (fun _ _ h => h) ⟨by subst e; rfl, hb _⟩) (fun c32 a32 h32 => ?_)
  refine chain 33 h32 (by omega) (by omega) (fun e a' ha => row_yes (R := R0) ha (by omega) (by omega) hw rfl (fun _ _ h => h) ⟨by subst e; rfl, hb _⟩) (fun c33 a33 h33 => ?_)
  refine chain 34 h33 (by omega) (by omega) (fun e a' ha => row_yes (R := R0) ha (by omega) (by omega) hw rfl (fun _ _ h => h) ⟨by subst e; rfl, hb _⟩) (fun c34 a34 h34 => ?_)
  refine chain 35 h34 (by omega) (by omega) (fun e a' ha => row_yes (R := R0) ha (by omega) (by omega) hw rfl (fun _ _ h => h) ⟨by subst e; rfl, hb _⟩) (fun c35 a35 h35 => ?_)
  refine chain 36 h35 (by omega) (by omega) (fun e a' ha => row_yes (R := R0) ha (by omega) (by omega) hw rfl (fun _ _ h => h) ⟨by subst e; rfl, hb _⟩) (fun c36 a36 h36 => ?_)
  refine chain 37 h36 (by omega) (by omega) (fun e a' ha => row_yes (R := R0) ha (by omega) (by omega) hw rfl (fun _ _ h => h) ⟨by subst e; rfl, hb _⟩) (fun c37 a37 h37 => ?_)
  refine chain 38 h37 (by omega) (by omega) (fun e a' ha => row_yes (R := R0) ha (by omega) (by omega) hw rfl (fun _ _ h => h) ⟨by subst e; rfl, hb _⟩) (fun c38 a38 h38 => ?_)
  refine chain 39 h38 (by omega) (by omega) (fun e a' ha => row_yes (R := R0) ha (by omega) (by omega) hw rfl (fun _ _ h => h) ⟨by subst e; rfl, hb _⟩) (fun c39 a39 h39 => ?_)
  refine chain 40 h39 (by omega) (by omega) (fun e a' ha => row_yes (R := R0) ha (by omega) (by omega) hw rfl (fun _ _ h => h) ⟨by subst e; rfl, hb _⟩) (fun c40 a40 h40 => ?_)
  refine chain 41 h40 (by omega) (by omega) (fun e a' ha => row_yes (R := R0) ha (by omega) (by omega) hw rfl (fun _ _ h => h) ⟨by subst e; rfl, hb _⟩) (fun c41 a41 h41 => ?_)
  refine chain 42 h41 (by omega) (by omega) (fun e a' ha => row_yes (R := R0) ha (by omega) (by omega) hw rfl (fun _ _ h => h) ⟨by subst e; rfl, hb _⟩) (fun c42 a42 h42 => ?_)
  refine chain 43 h42 (by omega) (by omega) (fun e a' ha => row_yes (R := R0) ha (by omega) (by omega) hw rfl (fun _ _ h => h) ⟨by subst e; rfl, hb _⟩) (fun c43 a43 h43 => ?_)
  refine chain 44 h43 (by omega) (by omega) (fun e a' ha => row_yes (R := R0) ha (by omega) (by omega) hw rfl (fun _ _ h => h) ⟨by subst e; rfl, hb _⟩) (fun c44 a44 h44 => ?_)
  refine chain 45 h44 (by omega) (by omega) (fun e a' ha => row_yes (R := R0) ha (by omega) (by omega) hw rfl (fun _ _ h => h) ⟨by subst e; rfl, hb _⟩) (fun c45 a45 h45 => ?_)
  refine chain 46 h45 (by omega) (by omega) (fun e a' ha => row_yes (R := R0) ha (by omega) (by omega) hw rfl (fun _ _ h => h) ⟨by subst e; rfl, hb _⟩) (fun c46 a46 h46 => ?_)
  refine chain 47 h46 (by omega) (by omega) (fun e a' ha => row_yes (R := R0) ha (by omega) (by omega) hw rfl (fun _ _ h => h) ⟨by subst e; rfl, hb _⟩) (fun c47 a47 h47 => ?_)
  refine chain 48 h47 (by omega) (by omega) (fun e a' ha => row_yes (R := R0) ha (by omega) (by omega) hw rfl (fun _ _ h => h) ⟨by subst e; rfl, hb _⟩) (fun c48 a48 h48 => ?_)
  refine chain 49 h48 (by omega) (by omega) (fun e a' ha => row_yes (R := R0) ha (by omega) (by omega) hw rfl (fun _ _ h => h) ⟨by subst e; rfl, hb _⟩) (fun c49 a49 h49 => ?_)
  refine chain 50 h49 (by omega) (by omega) (fun e a' ha => row_yes (R := R0) ha (by omega) (by omega) hw rfl (fun _ _ h => h) ⟨by subst e; rfl, hb _⟩) (fun c50 a50 h50 => ?_)
  refine chain 51 h50 (by omega) (by omega) (fun e a' ha => row_yes (R := R0) ha (by omega) (by omega) hw rfl (fun _ _ h => h) ⟨by subst e; rfl, hb _⟩) (fun c51 a51 h51 => ?_)
  refine chain 52 h51 (by omega) (by omega) (fun e a' ha => row_yes (R := R0) ha (by omega) (by omega) hw rfl (fun _ _ h => h) ⟨by subst e; rfl, hb _⟩) (fun c52 a52 h52 => ?_)
  refine chain 53 h52 (by omega) (by omega) (fun e a' ha => row_yes (R := R0) ha (by omega) (by omega) hw rfl (fun _ _ h => h) ⟨by subst e; rfl, hb _⟩) (fun c53 a53 h53 => ?_)
  refine chain 54 h53 (by omega) (by omega) (fun e a' ha => row_yes (R := R0) ha (by omega) (by omega) hw rfl (fun _ _ h => h) ⟨by subst e; rfl, hb _⟩) (fun c54 a54 h54 => ?_)
  refine chain 55 h54 (by omega) (by omega) (fun e a' ha => row_yes (R := R0) ha (by omega) (by omega) hw rfl (fun _ _ h => h) ⟨by subst e; rfl, hb _⟩) (fun c55 a55 h55 => ?_)
  refine chain 56 h55 (by omega) (by omega) (fun e a' ha => row_yes (R := R0) ha (by omega) (by omega) hw rfl (fun _ _ h => h) ⟨by subst e; rfl, hb _⟩) (fun c56 a56 h56 => ?_)
  refine chain 57 h56 (by omega) (by omega) (fun e a' ha => row_yes (R := R0) ha (by omega) (by omega) hw rfl (fun _ _ h => h) ⟨by subst e; rfl, hb _⟩) (fun c57 a57 h57 => ?_)
  refine chain 58 h57 (by omega) (by omega) (fun e a' ha => row_yes (R := R0) ha (by omega) (by omega) hw rfl (fun _ _ h => h) ⟨by subst e; rfl, hb _⟩) (fun c58 a58 h58 => ?_)
  refine chain 59 h58 (by omega) (by omega) (fun e a' ha => row_yes (R := R0) ha (by omega) (by omega) hw rfl (fun _ _ h => h) ⟨by subst e; rfl, hb _⟩) (fun c59 a59 h59 => ?_)
  refine chain 60 h59 (by omega) (by omega) (fun e a' ha => row_yes (R := R0) ha (by omega) (by omega) hw rfl (fun _ _ h => h) ⟨by subst e; rfl, hb _⟩) (fun c60 a60 h60 => ?_)
  refine chain 61 h60 (by omega) (by omega) (fun e a' ha => row_yes (R := R0) ha (by omega) (by omega) hw rfl (fun _ _ h => h) ⟨by subst e; rfl, hb _⟩) (fun c61 a61 h61 => ?_)
  refine chain 62 h61 (by omega) (by omega) (fun e a' ha => row_yes (R := R0) ha (by omega) (by omega) hw rfl (fun _ _ h => h) ⟨by subst e; rfl, hb _⟩) (fun c62 a62 h62 => ?_)
  refine chain 63 h62 (by omega) (by omega) (fun e a' ha => row_yes (R := R0) ha (by omega) (by omega) hw rfl (fun _ _ h => h) ⟨by subst e; rfl, hb _⟩) (fun c63 a63 h63 => ?_)
  refine chain 64 h63 (by omega) (by omega) (fun e a' ha => row_yes (R := R0) ha (by omega) (by omega) hw rfl (fun _ _ h => h) ⟨by subst e; rfl, hb _⟩) (fun c64 a64 h64 => ?_)
  refine chain 65 h64 (by omega) (by omega) (fun e a' ha => row_yes (R := R0) ha (by omega) (by omega) hw rfl (fun _ _ h => h) ⟨by subst e; rfl, hb _⟩) (fun c65 a65 h65 => ?_)
  refine chain 66 h65 (by omega) (by omega) (fun e a' ha => row_yes (R := R0) ha (by omega) (by omega) hw rfl (fun _ _ h => h) ⟨by subst e; rfl, hb _⟩) (fun c66 a66 h66 => ?_)
  refine chain 67 h66 (by omega) (by omega) (fun e a' ha => row_yes (R := R0) ha (by omega) (by omega) hw rfl (fun _ _ h => h) ⟨by subst e; rfl, hb _⟩) (fun c67 a67 h67 => ?_)
  refine chain 68 h67 (by omega) (by omega) (fun e a' ha => row_yes (R := R0) ha (by omega) (by omega) hw rfl (fun _ _ h => h) ⟨by subst e; rfl, hb _⟩) (fun c68 a68 h68 => ?_)
  refine chain 69 h68 (by omega) (by omega) (fun e a' ha => row_yes (R := R0) ha (by omega) (by omega) hw rfl (fun _ _ h => h) ⟨by subst e; rfl, hb _⟩) (fun c69 a69 h69 => ?_)
  refine chain 70 h69 (by omega) (by omega) (fun e a' ha => row_yes (R := R0) ha (by omega) (by omega) hw rfl (fun _ _ h => h) ⟨by subst e; rfl, hb _⟩) (fun c70 a70 h70 => ?_)
  refine chain 71 h70 (by omega) (by omega) (fun e a' ha => row_yes (R := R0) ha (by omega) (by omega) hw rfl (fun _ _ h => h) ⟨by subst e; rfl, hb _⟩) (fun c71 a71 h71 => ?_)
  refine chain 72 h71 (by omega) (by omega) (fun e a' ha => row_yes (R := R0) ha (by omega) (by omega) hw rfl (fun _ _ h => h) ⟨by subst e; rfl, hb _⟩) (fun c72 a72 h72 => ?_)
  refine chain 73 h72 (by omega) (by omega) (fun e a' ha => row_yes (R := R0) ha (by omega) (by omega) hw rfl (fun _ _ h => h) ⟨by subst e; rfl, hb _⟩) (fun c73 a73 h73 => ?_)
  refine chain 74 h73 (by omega) (by omega) (fun e a' ha => row_yes (R := R0) ha (by omega) (by omega) hw rfl (fun _ _ h => h) ⟨by subst e; rfl, hb _⟩) (fun c74 a74 h74 => ?_)
  refine chain 75 h74 (by omega) (by omega) (fun e a' ha => row_yes (R := R0) ha (by omega) (by omega) hw rfl (fun _ _ h => h) ⟨by subst e; rfl, hb _⟩) (fun c75 a75 h75 => ?_)
  refine chain 76 h75 (by omega) (by omega) (fun e a' ha => row_yes (R := R0) ha (by omega) (by omega) hw rfl (fun _ _ h => h) ⟨by subst e; rfl, hb _⟩) (fun c76 a76 h76 => ?_)
  refine chain 77 h76 (by omega) (by omega) (fun e a' ha => row_yes (R := R0) ha (by omega) (by omega) hw rfl (fun _ _ h => h) ⟨by subst e; rfl, hb _⟩) (fun c77 a77 h77 => ?_)
  refine chain 78 h77 (by omega) (by omega) (fun e a' ha => row_yes (R := R0) ha (by omega) (by omega) hw rfl (fun _ _ h => h) ⟨by subst e; rfl, hb _⟩) (fun c78 a78 h78 => ?_)
  refine chain 79 h78 (by omega) (by omega) (fun e a' ha => row_yes (R := R0) ha (by omega) (by omega) hw rfl (fun _ _ h => h) ⟨by subst e; rfl, hb _⟩) (fun c79 a79 h79 => ?_)
  refine chain 80 h79 (by omega) (by omega) (fun e a' ha => row_yes (R := R0) ha (by omega) (by omega) hw rfl (fun _ _ h => h) ⟨by subst e; rfl, hb _⟩) (fun c80 a80 h80 => ?_)
  refine chain 81 h80 (by omega) (by omega) (fun e a' ha => row_yes (R := R0) ha (by omega) (by omega) hw rfl (fun _ _ h => h) ⟨by subst e; rfl, hb _⟩) (fun c81 a81 h81 => ?_)
  refine chain 82 h81 (by omega) (by omega) (fun e a' ha => row_yes (R := R0) ha (by omega) (by omega) hw rfl (fun _ _ h => h) ⟨by subst e; rfl, hb _⟩) (fun c82 a82 h82 => ?_)
  refine chain 83 h82 (by omega) (by omega) (fun e a' ha => row_yes (R := R0) ha (by omega) (by omega) hw rfl (fun _ _ h => h) ⟨by subst e; rfl, hb _⟩) (fun c83 a83 h83 => ?_)
  refine chain 84 h83 (by omega) (by omega) (fun e a' ha => row_yes (R := R0) ha (by omega) (by omega) hw rfl (fun _ _ h => h) ⟨by subst e; rfl, hb _⟩) (fun c84 a84 h84 => ?_)
  refine chain 85 h84 (by omega) (by omega) (fun e a' ha => row_yes (R := R0) ha (by omega) (by omega) hw rfl (fun _ _ h => h) ⟨by subst e; rfl, hb _⟩) (fun c85 a85 h85 => ?_)
  refine chain 86 h85 (by omega) (by omega) (fun e a' ha => row_yes (R := R0) ha (by omega) (by omega) hw rfl (fun _ _ h => h) ⟨by subst e; rfl, hb _⟩) (fun c86 a86 h86 => ?_)
  refine chain 87 h86 (by omega) (by omega) (fun e a' ha => row_yes (R := R0) ha (by omega) (by omega) hw rfl (fun _ _ h => h) ⟨by subst e; rfl, hb _⟩) (fun c87 a87 h87 => ?_)
  refine chain 88 h87 (by omega) (by omega) (fun e a' ha => row_yes (R := R0) ha (by omega) (by omega) hw rfl (fun _ _ h => h) ⟨by subst e; rfl, hb _⟩) (fun c88 a88 h88 => ?_)
  refine chain 89 h88 (by omega) (by omega) (fun e a' ha => row_yes (R := R0) ha (by omega) (by omega) hw rfl (fun _ _ h => h) ⟨by subst e; rfl, hb _⟩) (fun c89 a89 h89 => ?_)
  refine chain 90 h89 (by omega) (by omega) (fun e a' ha => row_yes (R := R0) ha (by omega) (by omega) hw rfl (fun _ _ h => h) ⟨by subst e; rfl, hb _⟩) (fun c90 a90 h90 => ?_)
  refine chain 91 h90 (by omega) (by omega) (fun e a' ha => row_yes (R := R0) ha (by omega) (by omega) hw rfl (fun _ _ h => h) ⟨by subst e; rfl, hb _⟩) (fun c91 a91 h91 => ?_)
  refine chain 92 h91 (by omega) (by omega) (fun e a' ha => row_yes (R := R0) ha (by omega) (by omega) hw rfl (fun _ _ h => h) ⟨by subst e; rfl, hb _⟩) (fun c92 a92 h92 => ?_)
  refine chain 93 h92 (by omega) (by omega) (fun e a' ha => row_yes (R := R0) ha (by omega) (by omega) hw rfl (fun _ _ h => h) ⟨by subst e; rfl, hb _⟩) (fun c93 a93 h93 => ?_)
  refine chain 94 h93 (by omega) (by omega) (fun e a' ha => row_yes (R := R0) ha (by omega) (by omega) hw rfl (fun _ _ h => h) ⟨by subst e; rfl, hb _⟩) (fun c94 a94 h94 => ?_)
  refine chain 95 h94 (by omega) (by omega) (fun e a' ha => row_yes (R := R0) ha (by omega) (by omega) hw rfl (fun _ _ h => h) ⟨by subst e; rfl, hb _⟩) (fun c95 a95 h95 => ?_)
  refine chain 96 h95 (by omega) (by omega) (fun e a' ha => row_yes (R := R0) ha (by omega) (by omega) hw rfl (fun _ _ h => h) ⟨by subst e; rfl, hb _⟩) (fun c96 a96 h96 => ?_)
  refine chain 97 h96 (by omega) (by omega) (fun e a' ha => row_yes (R := R0) ha (by omega) (by omega) hw rfl (fun _ _ h => h) ⟨by subst e; rfl, hb _⟩) (fun c97 a97 h97 => ?_)
  refine chain 98 h97 (by omega) (by omega) (fun e a' ha => row_yes (R := R0) ha (by omega) (by omega) hw rfl (fun _ _ h => h) ⟨by subst e; rfl, hb _⟩) (fun c98 a98 h98 => ?_)
  refine chain 99 h98 (by omega) (by omega) (fun e a' ha => row_yes (R := R0) ha (by omega) (by omega) hw rfl (fun _ _ h => h) ⟨by subst e; rfl, hb _⟩) (fun c99 a99 h99 => ?_)
  refine chain 100 h99 (by omega) (by omega) (fun e a' ha => row_yes (R := R0) ha (by omega) (by omega) hw rfl (fun _ _ h => h) ⟨by subst e; rfl, hb _⟩) (fun c100 a100 h100 => ?_)
  refine chain 101 h100 (by omega) (by omega) (fun e a' ha => row_yes (R := R0) ha (by omega) (by omega) hw rfl (fun _ _ h => h) ⟨by subst e; rfl, hb _⟩) (fun c101 a101 h101 => ?_)
  refine chain 102 h101 (by omega) (by omega) (fun e a' ha => row_yes (R := R0) ha (by omega) (by omega) hw rfl (fun _ _ h => h) ⟨by subst e; rfl, hb _⟩) (fun c102 a102 h102 => ?_)
  refine chain 103 h102 (by omega) (by omega) (fun e a' ha => row_yes (R := R0) ha (by omega) (by omega) hw rfl (fun _ _ h => h) ⟨by subst e; rfl, hb _⟩) (fun c103 a103 h103 => ?_)
  refine chain 104 h103 (by omega) (by omega) (fun e a' ha => row_yes (R := R0) ha (by omega) (by omega) hw rfl (fun _ _ h => h) ⟨by subst e; rfl, hb _⟩) (fun c104 a104 h104 => ?_)
  refine chain 105 h104 (by omega) (by omega) (fun e a' ha => row_yes (R := R0) ha (by omega) (by omega) hw rfl (fun _ _ h => h) ⟨by subst e; rfl, hb _⟩) (fun c105 a105 h105 => ?_)
  refine chain 106 h105 (by omega) (by omega) (fun e a' ha => row_yes (R := R0) ha (by omega) (by omega) hw rfl (fun _ _ h => h) ⟨by subst e; rfl, hb _⟩) (fun c106 a106 h106 => ?_)
  refine chain 107 h106 (by omega) (by omega) (fun e a' ha => row_yes (R := R0) ha (by omega) (by omega) hw rfl (fun _ _ h => h) ⟨by subst e; rfl, hb _⟩) (fun c107 a107 h107 => ?_)
  refine chain 108 h107 (by omega) (by omega) (fun e a' ha => row_yes (R := R0) ha (by omega) (by omega) hw rfl (fun _ _ h => h) ⟨by subst e; rfl, hb _⟩) (fun c108 a108 h108 => ?_)
  refine chain 109 h108 (by omega) (by omega) (fun e a' ha => row_yes (R := R0) ha (by omega) (by omega) hw rfl (fun _ _ h => h) ⟨by subst e; rfl, hb _⟩) (fun c109 a109 h109 => ?_)
  refine chain 110 h109 (by omega) (by omega) (fun e a' ha => row_yes (R := R0) ha (by omega) (by omega) hw rfl (fun _ _ h => h) ⟨by subst e; rfl, hb _⟩) (fun c110 a110 h110 => ?_)
  refine chain 111 h110 (by omega) (by omega) (fun e a' ha => row_yes (R := R0) ha (by omega) (by omega) hw rfl (fun _ _ h => h) ⟨by subst e; rfl, hb _⟩) (fun c111 a111 h111 => ?_)
  refine chain 112 h111 (by omega) (by omega) (fun e a' ha => row_yes (R := R0) ha (by omega) (by omega) hw rfl (fun _ _ h => h) ⟨by subst e; rfl, hb _⟩) (fun c112 a112 h112 => ?_)
  refine chain 113 h112 (by omega) (by omega) (fun e a' ha => row_yes (R := R0) ha (by omega) (by omega) hw rfl (fun _ _ h => h) ⟨by subst e; rfl, hb _⟩) (fun c113 a113 h113 => ?_)
  exfalso; omega

end Go.Proofs.YtehlihhnkojjeaaDoor
