/- Layer 11: the document's Name (written by gen_cnb.py). -/
import Derived.Test.YtcnalabhcalfnaaCnM
import Derived.Test.YtcnalabhcalfnaaRows
import Derived.WalkSmall
import Derived.Laws.Rows
import Derived.Laws.Tables
import Derived.WalkLawsBesides
import Derived.Deep.CutBlock
import Derived.Great.Frames
namespace Go.Proofs.Ytcnalabhcalfnaa
open Go.RowKit
set_option linter.unusedVariables false
set_option maxRecDepth 100000

section
variable {Q : Exit → Act → World → Prop} {w : World} {ops : Array Oper} {rest : List Oper} {o : Oper} {a : Act} {k : Int}
structure AtR (k : Int) (a : Act) : Prop where
  t3 : a.eval (.tmp 3) = .int .i64 k
  sz : a.tmps.size = 116
  df : a.defers = []
theorem AtR.put (h : AtR k a) {e : Nat} (he : 3 < e) (v : Value) : AtR k (a.put (some e) v) :=
  ⟨by rw [Act.eval_put_ne _ _ _ _ (by omega)]; exact h.t3, by rw [Act.size_put]; exact h.sz, by rw [Act.defers_put']; exact h.df⟩
theorem wpList_eqlR (hg : o.guard = none) {y : Int} (ho : o.op = .binOp .eql 3 (.tmp 3) (.const (.int .i64 y)) 3) {m : Int} (hx : a.eval (.tmp 3) = .int .i64 m) (h : wpList Try.prog ops Q rest (a.put o.dst (.bool (m == y))) w) : wpList Try.prog ops Q (o :: rest) a w := by
  refine wpList_plain hg fun K hK => ?_
  have hK' := hK _ _ h
  have hy : a.eval (.const (.int .i64 y)) = .int .i64 y := rfl
  unfold Oper.wp execOp
  simp only [ho, hx, hy]
  simp [go_sem]
  exact hK'
theorem wpList_asgR (hg : o.guard = none) {x : Operand} (ho : o.op = .assign x) (h : wpList Try.prog ops Q rest (a.put o.dst (a.eval x)) w) : wpList Try.prog ops Q (o :: rest) a w := by
  refine wpList_plain hg fun K hK => ?_
  have hK' := hK _ _ h
  unfold Oper.wp execOp
  simp only [ho]
  exact hK'
theorem chainR {kk : Int} (j : Nat) {ix d : Nat} (ha : AtR kk a) (hd : 3 < d) (hd2 : d + 1 < 116) {p1 p2 : String} {ty : TypeId} {af : Array Edge} {X Y : Code}
    (hy : kk = j → ∀ a', AtR kk a' → X.wp Try.prog Q a' w) (hn : ¬ kk = j → ∀ a', AtR kk a' → Y.wp Try.prog Q a' w) :
    ((Code.region ix #[{ dst := some (d + 1), op := .binOp .eql 3 (.tmp 3) (.const (.int .i64 j)) 3, type := ty, pos := p1, after := #[], guard := none }, { dst := some d, op := .assign (.tmp (d + 1)), type := ty, pos := p2, after := af, guard := none }] false).seq (Code.cond (.tmp d) X Y)).wp Try.prog Q a w := by
  refine wp_seq (wp_region_list ?_)
  refine wpList_eqlR rfl rfl ha.t3 ?_
  refine wpList_asgR rfl rfl (wpList_nil ?_)
  rw [Act.eval_put_same _ _ _ (by rw [ha.sz]; omega)]
  show (Code.cond (.tmp d) X Y).wp Try.prog Q _ w
  have ha' := (ha.put (show 3 < d + 1 by omega) (.bool (kk == j))).put hd (.bool (kk == j))
  refine wp_cond_split (t := (kk == j)) (Act.eval_put_same _ _ _ (by rw [Act.size_put, ha.sz]; omega)) (fun h => hy (beq_iff_eq.1 h) _ ha') (fun h => hn (beq_eq_false_iff_ne.1 h) _ ha')
theorem hresR : Try.f11.results = #[.tmp 2] := by kernel_rfl
theorem name_case {R : Ending → World → Prop} {kk : Int} {ix : Nat} (ha : AtR kk a) (he : 2 < 116) {s : ByteArray} {p1 : String} {ty : TypeId} {af : Array Edge}
    (hQ : ∀ a' w', bodyPost Try.prog Try.f11 R .ret a' w' → Q .ret a' w')
    (hR : R (.returned (.string s)) w) :
    ((Code.region ix #[{ dst := some 2, op := .assign (.const (.string s)), type := ty, pos := p1, after := af, guard := none }] false).seq Code.ret).wp Try.prog Q a w := by
  refine wp_seq (wp_region_list ?_)
  refine wpList_asgR rfl rfl (wpList_nil ?_)
  show Code.ret.wp Try.prog Q _ _
  refine wp_ret (hQ _ _ ?_)
  refine bodyPost_ret (v := .string s) ?_ (by rw [Act.defers_put']; exact ha.df) hR
  have e : (a.put (some 2) (a.eval (.const (.string s)))).eval (.tmp 2) = .string s := by
    rw [Act.eval_put_same _ _ _ (by rw [ha.sz]; omega)]; rfl
  have e' : (a.put (some 2) (a.eval (.const (.string s)))).tmps.getD 2 undef = .string s := e
  simp [results, hresR, go_sem, e']
  intro h; have := ha.sz; omega
end

set_option maxHeartbeats 4000000 in
theorem refName_any (no : Int) (w : World) :
    Calls Try.prog 11 #[.int .i64 no] w fun e w' => e = .returned (.string (nameN no)) ∧ w = w' := by
  let R0 : Ending → World → Prop := fun e w' => e = .returned (.string (nameN no)) ∧ w = w'
  go_enter Try.func11, Try.ntmps11
  go_upto_block 0 with (fail)
  refine wp_block ?_
  refine chainR 256 ⟨rfl, rfl, rfl⟩ (by omega) (by omega) (fun e a' ha => name_case (R := R0) ha (by omega) (fun _ _ h => h) ⟨by subst e; rfl, rfl⟩) (fun c0 a0 h0 => ?_)
  refine chainR 260 h0 (by omega) (by omega) (fun e a' ha => name_case (R := R0) ha (by omega) (fun _ _ h => h) ⟨by subst e; rfl, rfl⟩) (fun c1 a1 h1 => ?_)
  refine chainR 261 h1 (by omega) (by omega) (fun e a' ha => name_case (R := R0) ha (by omega) (fun _ _ h => h) ⟨by subst e; rfl, rfl⟩) (fun c2 a2 h2 => ?_)
  refine chainR 262 h2 (by omega) (by omega) (fun e a' ha => name_case (R := R0) ha (by omega) (fun _ _ h => h) ⟨by subst e; rfl, rfl⟩) (fun c3 a3 h3 => ?_)
  refine chainR 320 h3 (by omega) (by omega) (fun e a' ha => name_case (R := R0) ha (by omega) (fun _ _ h => h) ⟨by subst e; rfl, rfl⟩) (fun c4 a4 h4 => ?_)
  refine chainR 321 h4 (by omega) (by omega) (fun e a' ha => name_case (R := R0) ha (by omega) (fun _ _ h => h) ⟨by subst e; rfl, rfl⟩) (fun c5 a5 h5 => ?_)
  refine chainR 322 h5 (by omega) (by omega) (fun e a' ha => name_case (R := R0) ha (by omega) (fun _ _ h => h) ⟨by subst e; rfl, rfl⟩) (fun c6 a6 h6 => ?_)
  refine chainR 323 h6 (by omega) (by omega) (fun e a' ha => name_case (R := R0) ha (by omega) (fun _ _ h => h) ⟨by subst e; rfl, rfl⟩) (fun c7 a7 h7 => ?_)
  refine chainR 324 h7 (by omega) (by omega) (fun e a' ha => name_case (R := R0) ha (by omega) (fun _ _ h => h) ⟨by subst e; rfl, rfl⟩) (fun c8 a8 h8 => ?_)
  refine chainR 384 h8 (by omega) (by omega) (fun e a' ha => name_case (R := R0) ha (by omega) (fun _ _ h => h) ⟨by subst e; rfl, rfl⟩) (fun c9 a9 h9 => ?_)
  refine chainR 512 h9 (by omega) (by omega) (fun e a' ha => name_case (R := R0) ha (by omega) (fun _ _ h => h) ⟨by subst e; rfl, rfl⟩) (fun c10 a10 h10 => ?_)
  refine chainR 516 h10 (by omega) (by omega) (fun e a' ha => name_case (R := R0) ha (by omega) (fun _ _ h => h) ⟨by subst e; rfl, rfl⟩) (fun c11 a11 h11 => ?_)
  refine chainR 517 h11 (by omega) (by omega) (fun e a' ha => name_case (R := R0) ha (by omega) (fun _ _ h => h) ⟨by subst e; rfl, rfl⟩) (fun c12 a12 h12 => ?_)
  refine chainR 576 h12 (by omega) (by omega) (fun e a' ha => name_case (R := R0) ha (by omega) (fun _ _ h => h) ⟨by subst e; rfl, rfl⟩) (fun c13 a13 h13 => ?_)
  refine chainR 577 h13 (by omega) (by omega) (fun e a' ha => name_case (R := R0) ha (by omega) (fun _ _ h => h) ⟨by subst e; rfl, rfl⟩) (fun c14 a14 h14 => ?_)
  refine chainR 578 h14 (by omega) (by omega) (fun e a' ha => name_case (R := R0) ha (by omega) (fun _ _ h => h) ⟨by subst e; rfl, rfl⟩) (fun c15 a15 h15 => ?_)
  refine chainR 579 h15 (by omega) (by omega) (fun e a' ha => name_case (R := R0) ha (by omega) (fun _ _ h => h) ⟨by subst e; rfl, rfl⟩) (fun c16 a16 h16 => ?_)
  refine chainR 580 h16 (by omega) (by omega) (fun e a' ha => name_case (R := R0) ha (by omega) (fun _ _ h => h) ⟨by subst e; rfl, rfl⟩) (fun c17 a17 h17 => ?_)
  refine chainR 640 h17 (by omega) (by omega) (fun e a' ha => name_case (R := R0) ha (by omega) (fun _ _ h => h) ⟨by subst e; rfl, rfl⟩) (fun c18 a18 h18 => ?_)
  refine chainR 768 h18 (by omega) (by omega) (fun e a' ha => name_case (R := R0) ha (by omega) (fun _ _ h => h) ⟨by subst e; rfl, rfl⟩) (fun c19 a19 h19 => ?_)
  refine chainR 769 h19 (by omega) (by omega) (fun e a' ha => name_case (R := R0) ha (by omega) (fun _ _ h => h) ⟨by subst e; rfl, rfl⟩) (fun c20 a20 h20 => ?_)
  refine chainR 770 h20 (by omega) (by omega) (fun e a' ha => name_case (R := R0) ha (by omega) (fun _ _ h => h) ⟨by subst e; rfl, rfl⟩) (fun c21 a21 h21 => ?_)
  refine chainR 771 h21 (by omega) (by omega) (fun e a' ha => name_case (R := R0) ha (by omega) (fun _ _ h => h) ⟨by subst e; rfl, rfl⟩) (fun c22 a22 h22 => ?_)
  refine chainR 772 h22 (by omega) (by omega) (fun e a' ha => name_case (R := R0) ha (by omega) (fun _ _ h => h) ⟨by subst e; rfl, rfl⟩) (fun c23 a23 h23 => ?_)
  refine chainR 773 h23 (by omega) (by omega) (fun e a' ha => name_case (R := R0) ha (by omega) (fun _ _ h => h) ⟨by subst e; rfl, rfl⟩) (fun c24 a24 h24 => ?_)
  refine chainR 774 h24 (by omega) (by omega) (fun e a' ha => name_case (R := R0) ha (by omega) (fun _ _ h => h) ⟨by subst e; rfl, rfl⟩) (fun c25 a25 h25 => ?_)
  refine chainR 832 h25 (by omega) (by omega) (fun e a' ha => name_case (R := R0) ha (by omega) (fun _ _ h => h) ⟨by subst e; rfl, rfl⟩) (fun c26 a26 h26 => ?_)
  refine chainR 833 h26 (by omega) (by omega) (fun e a' ha => name_case (R := R0) ha (by omega) (fun _ _ h => h) ⟨by subst e; rfl, rfl⟩) (fun c27 a27 h27 => ?_)
  refine chainR 834 h27 (by omega) (by omega) (fun e a' ha => name_case (R := R0) ha (by omega) (fun _ _ h => h) ⟨by subst e; rfl, rfl⟩) (fun c28 a28 h28 => ?_)
  refine chainR 835 h28 (by omega) (by omega) (fun e a' ha => name_case (R := R0) ha (by omega) (fun _ _ h => h) ⟨by subst e; rfl, rfl⟩) (fun c29 a29 h29 => ?_)
  refine chainR 836 h29 (by omega) (by omega) (fun e a' ha => name_case (R := R0) ha (by omega) (fun _ _ h => h) ⟨by subst e; rfl, rfl⟩) (fun c30 a30 h30 => ?_)
  refine chainR 842 h30 (by omega) (by omega) (fun e a' ha => name_case (R := R0) ha (by omega) (fun _ _ h => h) ⟨by subst e; rfl, rfl⟩) (fun c31 a31 h31 => ?_)
  refine chainR 843 h31 (by omega) (by omega) (fun e a' ha => name_case (R := R0) ha (by omega) (fun _ _ h => h) ⟨by subst e; rfl, rfl⟩) (fun c32 a32 h32 => ?_)
  refine chainR 1536 h32 (by omega) (by omega) (fun e a' ha => name_case (R := R0) ha (by omega) (fun _ _ h => h) ⟨by subst e; rfl, rfl⟩) (fun c33 a33 h33 => ?_)
  refine chainR 1538 h33 (by omega) (by omega) (fun e a' ha => name_case (R := R0) ha (by omega) (fun _ _ h => h) ⟨by subst e; rfl, rfl⟩) (fun c34 a34 h34 => ?_)
  refine chainR 1539 h34 (by omega) (by omega) (fun e a' ha => name_case (R := R0) ha (by omega) (fun _ _ h => h) ⟨by subst e; rfl, rfl⟩) (fun c35 a35 h35 => ?_)
  refine chainR 1540 h35 (by omega) (by omega) (fun e a' ha => name_case (R := R0) ha (by omega) (fun _ _ h => h) ⟨by subst e; rfl, rfl⟩) (fun c36 a36 h36 => ?_)
  refine chainR 1541 h36 (by omega) (by omega) (fun e a' ha => name_case (R := R0) ha (by omega) (fun _ _ h => h) ⟨by subst e; rfl, rfl⟩) (fun c37 a37 h37 => ?_)
  refine chainR 1542 h37 (by omega) (by omega) (fun e a' ha => name_case (R := R0) ha (by omega) (fun _ _ h => h) ⟨by subst e; rfl, rfl⟩) (fun c38 a38 h38 => ?_)
  refine chainR 1543 h38 (by omega) (by omega) (fun e a' ha => name_case (R := R0) ha (by omega) (fun _ _ h => h) ⟨by subst e; rfl, rfl⟩) (fun c39 a39 h39 => ?_)
  refine chainR 1603 h39 (by omega) (by omega) (fun e a' ha => name_case (R := R0) ha (by omega) (fun _ _ h => h) ⟨by subst e; rfl, rfl⟩) (fun c40 a40 h40 => ?_)
  refine chainR 1604 h40 (by omega) (by omega) (fun e a' ha => name_case (R := R0) ha (by omega) (fun _ _ h => h) ⟨by subst e; rfl, rfl⟩) (fun c41 a41 h41 => ?_)
  refine chainR 1605 h41 (by omega) (by omega) (fun e a' ha => name_case (R := R0) ha (by omega) (fun _ _ h => h) ⟨by subst e; rfl, rfl⟩) (fun c42 a42 h42 => ?_)
  refine chainR 1610 h42 (by omega) (by omega) (fun e a' ha => name_case (R := R0) ha (by omega) (fun _ _ h => h) ⟨by subst e; rfl, rfl⟩) (fun c43 a43 h43 => ?_)
  refine chainR 1664 h43 (by omega) (by omega) (fun e a' ha => name_case (R := R0) ha (by omega) (fun _ _ h => h) ⟨by subst e; rfl, rfl⟩) (fun c44 a44 h44 => ?_)
  refine chainR 2816 h44 (by omega) (by omega) (fun e a' ha => name_case (R := R0) ha (by omega) (fun _ _ h => h) ⟨by subst e; rfl, rfl⟩) (fun c45 a45 h45 => ?_)
  refine chainR 2818 h45 (by omega) (by omega) (fun e a' ha => name_case (R := R0) ha (by omega) (fun _ _ h => h) ⟨by subst e; rfl, rfl⟩) (fun c46 a46 h46 => ?_)
  refine chainR 3072 h46 (by omega) (by omega) (fun e a' ha => name_case (R := R0) ha (by omega) (fun _ _ h => h) ⟨by subst e; rfl, rfl⟩) (fun c47 a47 h47 => ?_)
  refine chainR 3073 h47 (by omega) (by omega) (fun e a' ha => name_case (R := R0) ha (by omega) (fun _ _ h => h) ⟨by subst e; rfl, rfl⟩) (fun c48 a48 h48 => ?_)
  refine chainR 3074 h48 (by omega) (by omega) (fun e a' ha => name_case (R := R0) ha (by omega) (fun _ _ h => h) ⟨by subst e; rfl, rfl⟩) (fun c49 a49 h49 => ?_)
  refine chainR 3602 h49 (by omega) (by omega) (fun e a' ha => name_case (R := R0) ha (by omega) (fun _ _ h => h) ⟨by subst e; rfl, rfl⟩) (fun c50 a50 h50 => ?_)
  refine chainR 3857 h50 (by omega) (by omega) (fun e a' ha => name_case (R := R0) ha (by omega) (fun _ _ h => h) ⟨by subst e; rfl, rfl⟩) (fun c51 a51 h51 => ?_)
  refine chainR 3858 h51 (by omega) (by omega) (fun e a' ha => name_case (R := R0) ha (by omega) (fun _ _ h => h) ⟨by subst e; rfl, rfl⟩) (fun c52 a52 h52 => ?_)
  refine chainR 3859 h52 (by omega) (by omega) (fun e a' ha => name_case (R := R0) ha (by omega) (fun _ _ h => h) ⟨by subst e; rfl, rfl⟩) (fun c53 a53 h53 => ?_)
  refine chainR 3860 h53 (by omega) (by omega) (fun e a' ha => name_case (R := R0) ha (by omega) (fun _ _ h => h) ⟨by subst e; rfl, rfl⟩) (fun c54 a54 h54 => ?_)
  refine chainR 3861 h54 (by omega) (by omega) (fun e a' ha => name_case (R := R0) ha (by omega) (fun _ _ h => h) ⟨by subst e; rfl, rfl⟩) (fun c55 a55 h55 => ?_)
  have hx : ixN no = 56 := ixN_none fun i hi => match i, hi with
      | 0, _ => fun e => c0 e.symm
      | 1, _ => fun e => c1 e.symm
      | 2, _ => fun e => c2 e.symm
      | 3, _ => fun e => c3 e.symm
      | 4, _ => fun e => c4 e.symm
      | 5, _ => fun e => c5 e.symm
      | 6, _ => fun e => c6 e.symm
      | 7, _ => fun e => c7 e.symm
      | 8, _ => fun e => c8 e.symm
      | 9, _ => fun e => c9 e.symm
      | 10, _ => fun e => c10 e.symm
      | 11, _ => fun e => c11 e.symm
      | 12, _ => fun e => c12 e.symm
      | 13, _ => fun e => c13 e.symm
      | 14, _ => fun e => c14 e.symm
      | 15, _ => fun e => c15 e.symm
      | 16, _ => fun e => c16 e.symm
      | 17, _ => fun e => c17 e.symm
      | 18, _ => fun e => c18 e.symm
      | 19, _ => fun e => c19 e.symm
      | 20, _ => fun e => c20 e.symm
      | 21, _ => fun e => c21 e.symm
      | 22, _ => fun e => c22 e.symm
      | 23, _ => fun e => c23 e.symm
      | 24, _ => fun e => c24 e.symm
      | 25, _ => fun e => c25 e.symm
      | 26, _ => fun e => c26 e.symm
      | 27, _ => fun e => c27 e.symm
      | 28, _ => fun e => c28 e.symm
      | 29, _ => fun e => c29 e.symm
      | 30, _ => fun e => c30 e.symm
      | 31, _ => fun e => c31 e.symm
      | 32, _ => fun e => c32 e.symm
      | 33, _ => fun e => c33 e.symm
      | 34, _ => fun e => c34 e.symm
      | 35, _ => fun e => c35 e.symm
      | 36, _ => fun e => c36 e.symm
      | 37, _ => fun e => c37 e.symm
      | 38, _ => fun e => c38 e.symm
      | 39, _ => fun e => c39 e.symm
      | 40, _ => fun e => c40 e.symm
      | 41, _ => fun e => c41 e.symm
      | 42, _ => fun e => c42 e.symm
      | 43, _ => fun e => c43 e.symm
      | 44, _ => fun e => c44 e.symm
      | 45, _ => fun e => c45 e.symm
      | 46, _ => fun e => c46 e.symm
      | 47, _ => fun e => c47 e.symm
      | 48, _ => fun e => c48 e.symm
      | 49, _ => fun e => c49 e.symm
      | 50, _ => fun e => c50 e.symm
      | 51, _ => fun e => c51 e.symm
      | 52, _ => fun e => c52 e.symm
      | 53, _ => fun e => c53 e.symm
      | 54, _ => fun e => c54 e.symm
      | 55, _ => fun e => c55 e.symm
      | i + 56, h => absurd h (by omega)
  clear c0 c1 c2 c3 c4 c5 c6 c7 c8 c9 c10 c11 c12 c13 c14 c15 c16 c17 c18 c19 c20 c21 c22 c23 c24 c25 c26 c27 c28 c29 c30 c31 c32 c33 c34 c35 c36 c37 c38 c39 c40 c41 c42 c43 c44 c45 c46 c47 c48 c49 c50 c51 c52 c53 c54 c55
  generalize a55 = aa at *
  clear h0 h1 h2 h3 h4 h5 h6 h7 h8 h9 h10 h11 h12 h13 h14 h15 h16 h17 h18 h19 h20 h21 h22 h23 h24 h25 h26 h27 h28 h29 h30 h31 h32 h33 h34 h35 h36 h37 h38 h39 h40 h41 h42 h43 h44 h45 h46 h47 h48 h49 h50 h51 h52 h53 h54
  refine wp_skip ?_
  rename_i hK
  refine hK _ _ ?_
  exact name_case (R := R0) h55 (by omega) (fun _ _ h => h) ⟨by unfold nameN; rw [hx]; rfl, rfl⟩

end Go.Proofs.Ytcnalabhcalfnaa
