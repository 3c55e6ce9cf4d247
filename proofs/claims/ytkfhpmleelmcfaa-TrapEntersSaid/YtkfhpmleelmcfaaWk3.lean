/- Walks with the frame a variable: harts and lines in blocks, made, turned, copied. -/
import Derived.Test.YtkfhpmleelmcfaaWk2
import Derived.Test.YtkfhpmleelmcfaaHaSt
import Derived.Below
namespace Go.Proofs.Ytkfhpmleelmcfaa
open Go.RowKit
set_option linter.unusedVariables false
set_option maxRecDepth 100000

/-! the tables of fields -/

def offA (i : Nat) : Nat := if i = 0 then 0 else if i = 1 then 1 else i + 31

theorem fa_hart0 (b i : Nat) (hi : i < 46) (w : World) : (Instr.fieldAt 25 (.pointer (some ⟨b, 0, none⟩)) i).run Try.prog w = .ok (.pointer (some ⟨b, offA i, none⟩)) w :=
  match i, hi with
  | 0, _ => by kernel_rfl
  | 1, _ => by kernel_rfl
  | 2, _ => by kernel_rfl
  | 3, _ => by kernel_rfl
  | 4, _ => by kernel_rfl
  | 5, _ => by kernel_rfl
  | 6, _ => by kernel_rfl
  | 7, _ => by kernel_rfl
  | 8, _ => by kernel_rfl
  | 9, _ => by kernel_rfl
  | 10, _ => by kernel_rfl
  | 11, _ => by kernel_rfl
  | 12, _ => by kernel_rfl
  | 13, _ => by kernel_rfl
  | 14, _ => by kernel_rfl
  | 15, _ => by kernel_rfl
  | 16, _ => by kernel_rfl
  | 17, _ => by kernel_rfl
  | 18, _ => by kernel_rfl
  | 19, _ => by kernel_rfl
  | 20, _ => by kernel_rfl
  | 21, _ => by kernel_rfl
  | 22, _ => by kernel_rfl
  | 23, _ => by kernel_rfl
  | 24, _ => by kernel_rfl
  | 25, _ => by kernel_rfl
  | 26, _ => by kernel_rfl
  | 27, _ => by kernel_rfl
  | 28, _ => by kernel_rfl
  | 29, _ => by kernel_rfl
  | 30, _ => by kernel_rfl
  | 31, _ => by kernel_rfl
  | 32, _ => by kernel_rfl
  | 33, _ => by kernel_rfl
  | 34, _ => by kernel_rfl
  | 35, _ => by kernel_rfl
  | 36, _ => by kernel_rfl
  | 37, _ => by kernel_rfl
  | 38, _ => by kernel_rfl
  | 39, _ => by kernel_rfl
  | 40, _ => by kernel_rfl
  | 41, _ => by kernel_rfl
  | 42, _ => by kernel_rfl
  | 43, _ => by kernel_rfl
  | 44, _ => by kernel_rfl
  | 45, _ => by kernel_rfl
  | k + 46, h => absurd h (by omega)

theorem fa_hart (b i k : Nat) (hi : i < 46) (hk : offA i = k) (w : World) : (Instr.fieldAt 25 (.pointer (some ⟨b, 0, none⟩)) i).run Try.prog w = .ok (.pointer (some ⟨b, k, none⟩)) w := by
  subst hk; exact fa_hart0 b i hi w

theorem hcell_all (t : HS) : (varr 77 (hCell t)).all (·.oneCell') = true := varr_one fun i => hCell_one t i

theorem HartB.wt {w : World} {b : Nat} {t : HS} (h : HartB w b t) : w.cell? ⟨b, 35, none⟩ = some (.bool t.wait) := by rw [h.cell (by omega)]; rfl

theorem HartB.hd {w : World} {b : Nat} {t : HS} (h : HartB w b t) : w.cell? ⟨b, 36, none⟩ = some (.bool t.held) := by rw [h.cell (by omega)]; rfl

def hZ : HS := ⟨fun _ => 0, false, false, false⟩

theorem zero_hart (w : World) : (zeroValue 25).run Try.prog w = .ok (.agg (varr 77 (hCell hZ))) w := by kernel_rfl

/-- What comes in. -/
structure LS where
  ms : Bool
  mt : Bool
  me : Bool
  se : Bool
  g : Int
  tm : Int

structure LOk (l : LS) : Prop where
  g : In64 l.g
  tm : In64 l.tm
abbrev lineR (l : LS) : Array Value := #[.bool l.ms, .bool l.mt, .bool l.me, .bool l.se, .int .u64 l.g, .int .u64 l.tm]
abbrev linesV (l : LS) : Value := .agg (lineR l)

def LnB (w : World) (b : Nat) (l : LS) : Prop := w.heap[b]? = some (.cells (lineR l) 0 (0, 0))

theorem LnB.lt {w : World} {b : Nat} {t : LS} (h : LnB w b t) : b < w.heap.size := (Array.getElem?_eq_some_iff.1 h).1

theorem LnB.below {w w' : World} {b : Nat} {t : LS} (h : LnB w b t) (o : Below w.heap.size w w') : LnB w' b t := (o.block b h.lt).trans h

theorem LnB.cell {w : World} {b : Nat} {l : LS} (h : LnB w b l) (i : Nat) : w.cell? ⟨b, i, none⟩ = (lineR l)[i]? := cell_of_row w b i _ _ _ h

theorem LnB.c0 {w : World} {b : Nat} {l : LS} (h : LnB w b l) : w.cell? ⟨b, 0, none⟩ = some (.bool l.ms) := by rw [h.cell]; rfl

theorem LnB.c1 {w : World} {b : Nat} {l : LS} (h : LnB w b l) : w.cell? ⟨b, 1, none⟩ = some (.bool l.mt) := by rw [h.cell]; rfl

theorem LnB.c2 {w : World} {b : Nat} {l : LS} (h : LnB w b l) : w.cell? ⟨b, 2, none⟩ = some (.bool l.me) := by rw [h.cell]; rfl

theorem LnB.c3 {w : World} {b : Nat} {l : LS} (h : LnB w b l) : w.cell? ⟨b, 3, none⟩ = some (.bool l.se) := by rw [h.cell]; rfl

theorem LnB.c4 {w : World} {b : Nat} {l : LS} (h : LnB w b l) : w.cell? ⟨b, 4, none⟩ = some (.int .u64 l.g) := by rw [h.cell]; rfl

theorem LnB.c5 {w : World} {b : Nat} {l : LS} (h : LnB w b l) : w.cell? ⟨b, 5, none⟩ = some (.int .u64 l.tm) := by rw [h.cell]; rfl

theorem size_hartR (t : HS) : (Try.prog.info? 25).map (·.size) = some (varr 77 (hCell t)).size := size_hart.trans (by rw [varr_size])

/-- Of the blocks that were there just b has turned. -/
structure Tch (b : Nat) (w w' : World) : Prop where
  bel : ∀ N, N ≤ b → Below N w w'
  oth : ∀ j, ¬ j = b → w'.heap[j]? = w.heap[j]?
  sz : w'.heap.size = w.heap.size

theorem Tch.hart {b j : Nat} {w w' : World} {t : HS} (h : Tch b w w') (hj : HartB w j t) (hn : ¬ j = b) : HartB w' j t := (h.oth j hn).trans hj

theorem Tch.lines {b j : Nat} {w w' : World} {t : LS} (h : Tch b w w') (hj : LnB w j t) (hn : ¬ j = b) : LnB w' j t := (h.oth j hn).trans hj

theorem Tch.setCell {b k : Nat} {w : World} (v : Value) : Tch b w (w.setCell ⟨b, k, none⟩ v) :=
  ⟨fun N hN => (Below.refl _ _).setCell hN v, fun j hj => Below.heap_setCell _ _ _ _ hj, by simp [World.setCell]⟩

theorem Tch.setRow {b : Nat} {w : World} (cs : Array Value) : Tch b w (w.setRow b cs) :=
  ⟨fun N hN => below_setRow (Below.refl _ _) hN cs, fun j hj => Go.setRow_other w b j cs hj, by rw [size_setRow]⟩

theorem stU {w : World} {b : Nat} {t : HS} (h : HartB w b t) (k : Nat) (hk : k < 77) (hu : k < 33 ∨ 36 < k) (x : Int) : (storeVar 22 ⟨b, k, none⟩ (.int .u64 x)).run Try.prog w = .ok () (w.setCell ⟨b, k, none⟩ (.int .u64 x)) := by
  simp [go_sem, storeVar, h.u k hk hu, h.free k]

theorem stP {w : World} {b : Nat} {t : HS} (h : HartB w b t) (x : Int) : (storeVar 5 ⟨b, 33, none⟩ (.int .u8 x)).run Try.prog w = .ok () (w.setCell ⟨b, 33, none⟩ (.int .u8 x)) := by
  simp [go_sem, storeVar, h.p, h.free 33]

theorem stV {w : World} {b : Nat} {t : HS} (h : HartB w b t) (x : Bool) : (storeVar 4 ⟨b, 34, none⟩ (.bool x)).run Try.prog w = .ok () (w.setCell ⟨b, 34, none⟩ (.bool x)) := by
  simp [go_sem, storeVar, h.v, h.free 34]

section

variable {Q : Exit → Act → World → Prop} {w : World} {ops : Array Oper} {rest : List Oper} {o : Oper} {a : Act} {l : List (Nat × Value)} {n d : Nat}

theorem W_boxH (hA : FrA l n a) (hg : o.guard = none) (d : Nat) (hd : o.dst = some d) (hdn : d < n) {x : Operand} (ho : o.op = .box 25 x) {t : HS} (hx : evL l x = some (hartV t))
    (h : ∀ w' b a', FrA ((d, .pointer (some ⟨b, 0, none⟩)) :: l) n a' → Below w.heap.size w w' → HartB w' b t → w.heap.size ≤ b → wpList Try.prog ops Q rest a' w') : wpList Try.prog ops Q (o :: rest) a w :=
  W_val hA hg d hd hdn _ _ (R_box hA ho hx w) fun a hA => h _ _ a hA ((Below.refl _ _).alloc (Nat.le_refl _) _) (HartB.new w t) (Nat.le_refl _)

theorem W_allocH (hA : FrA l n a) (hg : o.guard = none) (d : Nat) (hd : o.dst = some d) (hdn : d < n) (ho : o.op = .alloc 25)
    (h : ∀ w' b a', FrA ((d, .pointer (some ⟨b, 0, none⟩)) :: l) n a' → Below w.heap.size w w' → HartB w' b hZ → w.heap.size ≤ b → wpList Try.prog ops Q rest a' w') : wpList Try.prog ops Q (o :: rest) a w :=
  W_val hA hg d hd hdn _ _ (R_alloc hA ho zero_hart w) fun a hA => h _ _ a hA ((Below.refl _ _).alloc (Nat.le_refl _) _) (HartB.new w hZ) (Nat.le_refl _)

theorem W_stU (hA : FrA l n a) (hg : o.guard = none) (hd : o.dst = none) {x y : Operand} (ho : o.op = .store 22 x y) {b k : Nat} {v : Int} (hx : evL l x = some (.pointer (some ⟨b, k, none⟩))) (hy : evL l y = some (.int .u64 v)) {t : HS} (hb : HartB w b t) (hk : k < 77) (hu : k < 33 ∨ 36 < k)
    (h : ∀ w', Tch b w w' → HartB w' b (t.put k v) → wpList Try.prog ops Q rest a w') : wpList Try.prog ops Q (o :: rest) a w :=
  W_st hA hg hd ho hx hy (stU hb k hk hu v) (h _ (Tch.setCell _) (hb.putU v hu))

theorem W_stP (hA : FrA l n a) (hg : o.guard = none) (hd : o.dst = none) {x y : Operand} (ho : o.op = .store 5 x y) {b : Nat} {v : Int} (hx : evL l x = some (.pointer (some ⟨b, 33, none⟩))) (hy : evL l y = some (.int .u8 v)) {t : HS} (hb : HartB w b t)
    (h : ∀ w', Tch b w w' → HartB w' b (t.put 33 v) → wpList Try.prog ops Q rest a w') : wpList Try.prog ops Q (o :: rest) a w :=
  W_st hA hg hd ho hx hy (stP hb v) (h _ (Tch.setCell _) (hb.putP v))

theorem W_stV (hA : FrA l n a) (hg : o.guard = none) (hd : o.dst = none) {x y : Operand} (ho : o.op = .store 4 x y) {b : Nat} {v : Bool} (hx : evL l x = some (.pointer (some ⟨b, 34, none⟩))) (hy : evL l y = some (.bool v)) {t : HS} (hb : HartB w b t)
    (h : ∀ w', Tch b w w' → HartB w' b (t.putV v) → wpList Try.prog ops Q rest a w') : wpList Try.prog ops Q (o :: rest) a w :=
  W_st hA hg hd ho hx hy (stV hb v) (h _ (Tch.setCell _) (hb.putVB v))

theorem W_cpH (hA : FrA l n a) (hg : o.guard = none) (hd : o.dst = none) {x y : Operand} (ho : o.op = .store 25 x y) {b : Nat} {t s : HS} (hx : evL l x = some (.pointer (some ⟨b, 0, none⟩))) (hy : evL l y = some (hartV s)) (hb : HartB w b t)
    (h : ∀ w', Tch b w w' → HartB w' b s → wpList Try.prog ops Q rest a w') : wpList Try.prog ops Q (o :: rest) a w :=
  W_strow hA hg hd ho hx hy hb (size_hartR s) (by rw [varr_size, varr_size]) (hcell_all s) (h _ (Tch.setRow _) (setRow_heap _ _ _ _ _ _ hb))

theorem ret_hart {fn : Func} {R : Ending → World → Prop} {j b : Nat} {t : HS} (hr : fn.results = #[.cell j 25]) (hA : FrA l n a) (hv : l.lookup j = some (.pointer (some ⟨b, 0, none⟩))) (hw : HartB w b t) (hR : R (.returned (hartV t)) w) : bodyPost Try.prog fn R .ret a w :=
  ret_row hr hA hv hw Try.underlying25 (size_hartR t) hR

end

section

variable {ops : Array Oper} {md : Region.Mode} {Q : Exit → Act → World → Prop} {S : World → Prop} {l : List (Nat × Value)} {n : Nat} {fuel : Nat} {listed : Array Bool} {a : Act} {w : World}

/-- In a region that draws: whichever is ready comes up. -/
theorem ready_val {i : Nat} {oi : Oper} {v : Value} {rs : List Nat} (hA : FrA l n a) (d : Nat) (hi : ops[i]? = some oi) (hd : oi.dst = some d) (hdn : d < n) (hg : oi.guard = none) (hS : S w) (hy : (execOp a.eval oi).run Try.prog w = .ok (.value v) w)
    (h : ∀ a', FrA ((d, v) :: l) n a' → wpAnyH Try.prog md ops Q S fuel (listed.setIfInBounds i true) a' w) (hrs : AllReadyH Try.prog md ops Q S fuel listed a w rs) : AllReadyH Try.prog md ops Q S fuel listed a w (i :: rs) :=
  AllReadyH.cons hi (fun K hK => by
    simp only [Region.wanted, hg, if_true]
    unfold Oper.wp
    rw [hy, Oper.upon_value, hd]
    exact hK.out _ _ hS (fun _ => h _ (hA.put hdn v))) hrs

theorem ready_call {i f d : Nat} {xs : Array Operand} {ts : Array TypeId} {ty : TypeId} {ps : String} {af : Array Edge} {v : Value} {args : Array Value} {S' : World → Prop} {rs : List Nat} (hA : FrA l n a) (hdn : d < n)
    (hi : ops[i]? = some { dst := some d, op := .call { callee := .value (.func f), args := xs, argTypes := ts }, type := ty, pos := ps, after := af, guard := none })
    (hcf : ∀ vs w, (callFunc f vs).run Try.prog w = .ok (.enter f vs) w) (hargs : xs.map a.eval = args) (hc : Calls Try.prog f args w fun e w' => e = .returned v ∧ S' w') (hSS : ∀ w', S' w' → S w')
    (h : ∀ w', S' w' → ∀ a', FrA ((d, v) :: l) n a' → wpAnyH Try.prog md ops Q S fuel (listed.setIfInBounds i true) a' w') (hrs : AllReadyH Try.prog md ops Q S fuel listed a w rs) : AllReadyH Try.prog md ops Q S fuel listed a w (i :: rs) :=
  AllReadyH.cons hi (fun K hK => by
    simp only [Region.wanted, if_true]
    have e1 : execOp a.eval { dst := some d, op := .call { callee := .value (.func f), args := xs, argTypes := ts }, type := ty, pos := ps, after := af, guard := none } = callFunc f (#[] ++ xs.map a.eval ++ #[]) := rfl
    unfold Oper.wp
    rw [e1, hargs, Array.empty_append, Array.append_empty, hcf, Oper.upon_enter]
    refine hc.mono fun e w'' hh => ?_
    obtain ⟨rfl, hs⟩ := hh
    exact hK.out _ _ (hSS _ hs) (fun _ => h _ hs _ (hA.put hdn v))) hrs

theorem ready_stU {i : Nat} {oi : Oper} {rs : List Nat} (hA : FrA l n a) (hi : ops[i]? = some oi) (hd : oi.dst = none) (hg : oi.guard = none) {x y : Operand} (ho : oi.op = .store 22 x y) {b k : Nat} {v : Int} (hx : evL l x = some (.pointer (some ⟨b, k, none⟩))) (hy : evL l y = some (.int .u64 v)) {t : HS} (hb : HartB w b t) (hk : k < 77) (hu : k < 33 ∨ 36 < k)
    (hSS : ∀ w', Tch b w w' → S w') (h : ∀ w', Tch b w w' → HartB w' b (t.put k v) → wpAnyH Try.prog md ops Q S fuel (listed.setIfInBounds i true) a w') (hrs : AllReadyH Try.prog md ops Q S fuel listed a w rs) : AllReadyH Try.prog md ops Q S fuel listed a w (i :: rs) :=
  AllReadyH.cons hi (fun K hK => by
    simp only [Region.wanted, hg, if_true]
    unfold Oper.wp execOp
    simp only [ho, hA.ev hx, hA.ev hy, Instr.storeAt, Instr.sureAddr, Sem.run_bind, Sem.run_pure, Result.andThen_ok, stU hb k hk hu v]
    have := hK.out (a.put oi.dst undef) (w.setCell ⟨b, k, none⟩ (.int .u64 v)) (hSS _ (Tch.setCell _)) (fun _ => by rw [hd]; exact h _ (Tch.setCell _) (hb.putU v hu))
    exact this) hrs

end

end Go.Proofs.Ytkfhpmleelmcfaa
