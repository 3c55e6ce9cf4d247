/- Layer 14: what the walks of traps need: a hart's other bools in a block, operations, traps in blocks, regions that draw and store. -/
import Derived.Test.YtkfhpmleelmcfaaTrIn
import Derived.Test.YtkfhpmleelmcfaaTpD
import Derived.Test.YtkfhpmleelmcfaaWk9
import Derived.Test.YtkfhpmleelmcfaaHaIn
import Derived.Test.YtkfhpmleelmcfaaWk5
import Derived.Test.YtkfhpmleelmcfaaCsKa
import Derived.Deep.MidRow
namespace Go.Proofs.Ytkfhpmleelmcfaa
open Go.RowKit
set_option linter.unusedVariables false
set_option maxRecDepth 100000

theorem HS.same {t s : HS} (h : ∀ i, t.n i = s.n i) (hv : t.v = s.v) (hw : t.wait = s.wait) (hh : t.held = s.held) : t = s := by
  cases t; cases s; simp only at h hv hw hh; subst hv hw hh; rw [funext h]
def HS.putW (t : HS) (b : Bool) : HS := { t with wait := b }
def HS.putH (t : HS) (b : Bool) : HS := { t with held := b }
theorem HartB.putWB {w : World} {b : Nat} {t : HS} (h : HartB w b t) (q : Bool) : HartB (w.setCell ⟨b, 35, none⟩ (.bool q)) b (t.putW q) := by
  unfold HartB
  rw [heap_setCell_same w b _ _ _ _ h, varr_set]
  refine congrArg (fun c => some (Obj.cells c 25 (0, 0))) (varr_congr fun i _ => ?_)
  by_cases e : i = 35
  · subst e
    rw [if_pos rfl]; rfl
  · rw [if_neg e]
    unfold hCell
    by_cases h1 : i = 33
    · rw [if_pos h1, if_pos h1]; rfl
    · by_cases h2 : i = 34
      · rw [if_neg h1, if_neg h1, if_pos h2, if_pos h2]; rfl
      · rw [if_neg h1, if_neg h1, if_neg h2, if_neg h2, if_neg e, if_neg e]; rfl
theorem HartB.putHB {w : World} {b : Nat} {t : HS} (h : HartB w b t) (q : Bool) : HartB (w.setCell ⟨b, 36, none⟩ (.bool q)) b (t.putH q) := by
  unfold HartB
  rw [heap_setCell_same w b _ _ _ _ h, varr_set]
  refine congrArg (fun c => some (Obj.cells c 25 (0, 0))) (varr_congr fun i _ => ?_)
  by_cases e : i = 36
  · subst e
    rw [if_pos rfl]; rfl
  · rw [if_neg e]
    unfold hCell
    by_cases h1 : i = 33
    · rw [if_pos h1, if_pos h1]; rfl
    · by_cases h2 : i = 34
      · rw [if_neg h1, if_neg h1, if_pos h2, if_pos h2]; rfl
      · by_cases h3 : i = 35
        · rw [if_neg h1, if_neg h1, if_neg h2, if_neg h2, if_pos h3, if_pos h3]; rfl
        · rw [if_neg h1, if_neg h1, if_neg h2, if_neg h2, if_neg h3, if_neg h3, if_neg e, if_neg e]; rfl
theorem stW {w : World} {b : Nat} {t : HS} (h : HartB w b t) (x : Bool) : (storeVar 4 ⟨b, 35, none⟩ (.bool x)).run Try.prog w = .ok () (w.setCell ⟨b, 35, none⟩ (.bool x)) := by
  simp [go_sem, storeVar, h.wt, h.free 35]
theorem stHd {w : World} {b : Nat} {t : HS} (h : HartB w b t) (x : Bool) : (storeVar 4 ⟨b, 36, none⟩ (.bool x)).run Try.prog w = .ok () (w.setCell ⟨b, 36, none⟩ (.bool x)) := by
  simp [go_sem, storeVar, h.hd, h.free 36]
theorem stT0 {w : World} {b : Nat} {s : TS} (h : TsB w b s) (x : Bool) : (storeVar 4 ⟨b, 0, none⟩ (.bool x)).run Try.prog w = .ok () (w.setCell ⟨b, 0, none⟩ (.bool x)) := by
  simp [go_sem, storeVar, h.cell 0 _ rfl, frozen_of_row w b 0 _ _ h]
def TS.on (s : TS) : TS := { s with is := true }
theorem TOk.on {s : TS} (h : TOk s) : TOk s.on := ⟨h.c, h.tv, h.tv2, h.ti⟩
section
variable {w : World} {o : Oper} {a : Act} {l : List (Nat × Value)} {n : Nat}
theorem R_rem (hA : FrA l n a) {x y : Operand} (ho : o.op = .binOp .rem 22 x y 22) {u m : Int} (h0 : 0 ≤ u) (hm : 0 < m ∧ m < 18446744073709551616) (hx : evL l x = some (.int .u64 u)) (hy : evL l y = some (.int .u64 m)) (w : World) : (execOp a.eval o).run Try.prog w = .ok (.value (.int .u64 (u % m))) w := by
  have e : u.tmod m = u % m := Int.tmod_eq_emod_of_nonneg h0
  have h1 : 0 ≤ u % m := Int.emod_nonneg _ (by omega)
  have h2 : u % m < m := Int.emod_lt_of_pos _ hm.1
  have e2 : IntKind.u64.wrap (u % m) = u % m := by rw [IntKind.wrap_u64]; omega
  have e3 : ¬ m = 0 := by omega
  unfold execOp; simp only [ho, hA.ev hx, hA.ev hy]; simp [go_sem, e, e2, e3]
theorem R_sub (hA : FrA l n a) {x y : Operand} (ho : o.op = .binOp .sub 22 x y 22) {u v : Int} (hx : evL l x = some (.int .u64 u)) (hy : evL l y = some (.int .u64 v)) (r : Int) (hr : IntKind.u64.wrap (u - v) = r) (w : World) : (execOp a.eval o).run Try.prog w = .ok (.value (.int .u64 r)) w := by
  subst hr
  unfold execOp; simp only [ho, hA.ev hx, hA.ev hy]; simp [go_sem]
theorem R_shrI (hA : FrA l n a) {x y : Operand} (ho : o.op = .binOp .shr 22 x y 34) {u k : Int} (hx : evL l x = some (.int .u64 u)) (h0 : 0 ≤ u) (hk : 0 ≤ k ∧ k < 64) (hy : evL l y = some (.int .u64 k)) (w : World) : (execOp a.eval o).run Try.prog w = .ok (.value (.int .u64 (u / 2 ^ k.toNat))) w := by
  obtain ⟨j, rfl⟩ : ∃ j : Nat, k = (j : Int) := ⟨k.toNat, by omega⟩
  have hj : j < 64 := by omega
  exact R_shrN hA ho j hx h0 hj hy w
theorem R_shrM (hA : FrA l n a) {x y : Operand} (ho : o.op = .binOp .shr 22 x y 22) {u k : Int} (hx : evL l x = some (.int .u64 u)) (h0 : 0 ≤ u) (hk : 0 ≤ k ∧ k < 64) (hy : evL l y = some (.int .u64 k)) (w : World) : (execOp a.eval o).run Try.prog w = .ok (.value (.int .u64 (u / 2 ^ k.toNat))) w := by
  obtain ⟨j, rfl⟩ : ∃ j : Nat, k = (j : Int) := ⟨k.toNat, by omega⟩
  have hj : j < 64 := by omega
  exact R_shrX hA ho hx h0 hj hy w
theorem R_shlI (hA : FrA l n a) {x y : Operand} (ho : o.op = .binOp .shl 22 x y 34) {k : Nat} (hk : k < 64) (hx : evL l x = some (.int .u64 1)) (hy : evL l y = some (.int .u64 (k : Int))) (w : World) : (execOp a.eval o).run Try.prog w = .ok (.value (.int .u64 (2 ^ k))) w := by
  have h2 : (2 : Int) ^ k < 18446744073709551616 := by
    have : (2 : Int) ^ k < 2 ^ 64 := by exact_mod_cast Nat.pow_lt_pow_right (by omega) hk
    omega
  have h3 : (0 : Int) < 2 ^ k := by exact_mod_cast Nat.two_pow_pos k
  unfold execOp; simp only [ho, hA.ev hx, hA.ev hy]; simp [go_sem]
  rw [IntKind.wrap_u64]
  omega
theorem R_shlN (hA : FrA l n a) {x y : Operand} (ho : o.op = .binOp .shl 22 x y 34) {u : Int} (hx : evL l x = some (.int .u64 u)) (hy : evL l y = some (.int .u64 11)) (w : World) : (execOp a.eval o).run Try.prog w = .ok (.value (.int .u64 (IntKind.u64.wrap (u * 2 ^ 11)))) w := by
  unfold execOp; simp only [ho, hA.ev hx, hA.ev hy]; simp [go_sem]
theorem R_andB (hA : FrA l n a) {x y : Operand} (ho : o.op = .binOp .and 5 x y 5) {u v : Int} (hx : evL l x = some (.int .u8 u)) (hy : evL l y = some (.int .u8 v)) (w : World) : (execOp a.eval o).run Try.prog w = .ok (.value (.int .u8 (bits .and .u8 u v))) w := by
  unfold execOp; simp only [ho, hA.ev hx, hA.ev hy]; simp [go_sem]
theorem R_cvUB (hA : FrA l n a) {x : Operand} (ho : o.op = .convert 22 5 x) {u : Int} (hx : evL l x = some (.int .u64 u)) (r : Int) (hr : IntKind.u8.wrap u = r) (w : World) : (execOp a.eval o).run Try.prog w = .ok (.value (.int .u8 r)) w := by
  subst hr
  unfold execOp; simp only [ho, hA.ev hx]; simp [go_sem]
theorem R_cvIB (hA : FrA l n a) {x : Operand} (ho : o.op = .convert 3 5 x) {u : Int} (hx : evL l x = some (.int .i64 u)) (r : Int) (hr : IntKind.u8.wrap u = r) (w : World) : (execOp a.eval o).run Try.prog w = .ok (.value (.int .u8 r)) w := by
  subst hr
  unfold execOp; simp only [ho, hA.ev hx]; simp [go_sem]
theorem R_cvBU (hA : FrA l n a) {x : Operand} (ho : o.op = .convert 5 22 x) {u : Int} (hx : evL l x = some (.int .u8 u)) (hu : In64 u) (w : World) : (execOp a.eval o).run Try.prog w = .ok (.value (.int .u64 u)) w := by
  have e : IntKind.u64.wrap u = u := by rw [IntKind.wrap_u64]; unfold In64 at hu; omega
  unfold execOp; simp only [ho, hA.ev hx]; simp [go_sem, e]
theorem R_eqlIT (hA : FrA l n a) {x y : Operand} (ho : o.op = .binOp .eql 3 x y 3) {u v : Int} (hx : evL l x = some (.int .i64 u)) (hy : evL l y = some (.int .i64 v)) (q : Bool) (he : (u == v) = q) (w : World) : (execOp a.eval o).run Try.prog w = .ok (.value (.bool q)) w := by
  subst he; exact R_eqlI hA ho hx hy w
theorem R_neqIT (hA : FrA l n a) {x y : Operand} (ho : o.op = .binOp .neq 3 x y 3) {u v : Int} (hx : evL l x = some (.int .i64 u)) (hy : evL l y = some (.int .i64 v)) (q : Bool) (he : (u != v) = q) (w : World) : (execOp a.eval o).run Try.prog w = .ok (.value (.bool q)) w := by
  subst he
  unfold execOp; simp only [ho, hA.ev hx, hA.ev hy]; simp [go_sem]
theorem R_addIT (hA : FrA l n a) {x y : Operand} (ho : o.op = .binOp .add 3 x y 3) {u v : Int} (hx : evL l x = some (.int .i64 u)) (hy : evL l y = some (.int .i64 v)) (r : Int) (he : IntKind.i64.wrap (u + v) = r) (w : World) : (execOp a.eval o).run Try.prog w = .ok (.value (.int .i64 r)) w := by
  subst he; exact R_addI hA ho hx hy w
theorem R_eqlBN (hA : FrA l n a) {x y : Operand} (ho : o.op = .binOp .eql 5 x y 5) {u v : Int} (hx : evL l x = some (.int .u8 u)) (hy : evL l y = some (.int .u8 v)) (z : Bool) (he : (u == v) = z) (w : World) : (execOp a.eval o).run Try.prog w = .ok (.value (.bool z)) w := by
  subst he; exact R_eqlB hA ho hx hy w
theorem R_neqBN (hA : FrA l n a) {x y : Operand} (ho : o.op = .binOp .neq 5 x y 5) {u v : Int} (hx : evL l x = some (.int .u8 u)) (hy : evL l y = some (.int .u8 v)) (z : Bool) (he : (u != v) = z) (w : World) : (execOp a.eval o).run Try.prog w = .ok (.value (.bool z)) w := by
  subst he; exact R_neqB hA ho hx hy w
/-- A hart's row of registers. -/
abbrev rowX (t : HS) : Array Value := varr 32 fun i => .int .u64 (t.n (1 + i))
theorem R_ldX (hA : FrA l n a) {x : Operand} (ho : o.op = .load 23 x) {b : Nat} {t : HS} (hx : evL l x = some (.pointer (some ⟨b, 1, none⟩))) (hb : HartB w b t) : (execOp a.eval o).run Try.prog w = .ok (.value (.agg (rowX t))) w := by
  have hr : w.rangeAt b 1 ((List.range 32).map fun i => Value.int .u64 (t.n (1 + i))) := fun j v hv => by
    rw [List.getElem?_map] at hv
    by_cases hj : j < 32
    · rw [List.getElem?_range hj] at hv
      rw [hb.u (1 + j) (by omega) (by omega)]
      exact hv
    · rw [List.getElem?_eq_none (by simp; omega)] at hv; cases hv
  have := run_loadAt_mid (P := Try.prog) w b 1 23 _ _ hr Try.underlying23 rfl (by kernel_rfl)
  unfold execOp; simp only [ho, hA.ev hx, Sem.run_bind, this, Result.andThen_ok, Sem.run_pure]
  rfl
theorem eq_rowX (t s : HS) (h : ∀ i, i < 32 → t.n (1 + i) = s.n (1 + i)) : rowX t = rowX s := by
  refine varr_congr fun i hi => ?_
  rw [h i hi]
theorem R_eqlX (hA : FrA l n a) {x y : Operand} {T : TypeId} (ho : o.op = .binOp .eql 23 x y T) {t : HS} (hx : evL l x = some (.agg (rowX t))) (hy : evL l y = some (.agg (rowX t))) (w : World) : (execOp a.eval o).run Try.prog w = .ok (.value (.bool true)) w := by
  have e : (Op.equalIn 10000 23 (.agg (rowX t)) (.agg (rowX t))).run Try.prog w = .ok true w := by
    have a64 : (isAgg 22).run Try.prog w = .ok false w := by kernel_rfl
    have s64 : (sizeOf 22).run Try.prog w = .ok 1 w := by kernel_rfl
    have := run_equalIn_arr (P := Try.prog) w (d := 9999) Try.underlying23 s64 (rowX t) (rowX t) (fun i => t.n (1 + i) == t.n (1 + i)) fun i hi => ⟨.int .u64 (t.n (1 + i)), .int .u64 (t.n (1 + i)), by rw [Nat.mul_one, run_part_one w a64 hi], by rw [Nat.mul_one, run_part_one w a64 hi], run_equalIn_int w 9998 _ .u64 .u64 _ _ Try.underlying22⟩
    rw [this]
    simp
  unfold execOp; simp only [ho, hA.ev hx, hA.ev hy]; simp [go_sem, e]
end
section
variable {Q : Exit → Act → World → Prop} {w : World} {ops : Array Oper} {rest : List Oper} {o : Oper} {a : Act} {l : List (Nat × Value)} {n d : Nat}
theorem W_stW (hA : FrA l n a) (hg : o.guard = none) (hd : o.dst = none) {x y : Operand} (ho : o.op = .store 4 x y) {b : Nat} {v : Bool} (hx : evL l x = some (.pointer (some ⟨b, 35, none⟩))) (hy : evL l y = some (.bool v)) {t : HS} (hb : HartB w b t)
    (h : ∀ w', Tch b w w' → HartB w' b (t.putW v) → wpList Try.prog ops Q rest a w') : wpList Try.prog ops Q (o :: rest) a w :=
  W_st hA hg hd ho hx hy (stW hb v) (h _ (Tch.setCell _) (hb.putWB v))
theorem W_stHd (hA : FrA l n a) (hg : o.guard = none) (hd : o.dst = none) {x y : Operand} (ho : o.op = .store 4 x y) {b : Nat} {v : Bool} (hx : evL l x = some (.pointer (some ⟨b, 36, none⟩))) (hy : evL l y = some (.bool v)) {t : HS} (hb : HartB w b t)
    (h : ∀ w', Tch b w w' → HartB w' b (t.putH v) → wpList Try.prog ops Q rest a w') : wpList Try.prog ops Q (o :: rest) a w :=
  W_st hA hg hd ho hx hy (stHd hb v) (h _ (Tch.setCell _) (hb.putHB v))
theorem W_stT0 (hA : FrA l n a) (hg : o.guard = none) (hd : o.dst = none) {x : Operand} (ho : o.op = .store 4 x (.const (.bool true))) {b : Nat} (hx : evL l x = some (.pointer (some ⟨b, 0, none⟩))) {s : TS} (hb : TsB w b s)
    (h : ∀ w', Tch b w w' → TsB w' b s.on → wpList Try.prog ops Q rest a w') : wpList Try.prog ops Q (o :: rest) a w :=
  W_st hA hg hd ho hx rfl (stT0 hb true) (h _ (Tch.setCell _) (by unfold TsB; rw [heap_setCell_same w b 0 _ _ _ hb]; rfl))
theorem W_boxT (hA : FrA l n a) (hg : o.guard = none) (d : Nat) (hd : o.dst = some d) (hdn : d < n) {x : Operand} (ho : o.op = .box 27 x) {s : TS} (hx : evL l x = some (tsV s))
    (h : ∀ w' b a', FrA ((d, .pointer (some ⟨b, 0, none⟩)) :: l) n a' → Below w.heap.size w w' → TsB w' b s → w.heap.size ≤ b → wpList Try.prog ops Q rest a' w') : wpList Try.prog ops Q (o :: rest) a w :=
  W_val hA hg d hd hdn _ _ (R_box hA ho hx w) fun a hA => h _ _ a hA ((Below.refl _ _).alloc (Nat.le_refl _) _) (heap_alloc_new w _) (Nat.le_refl _)
end
/-- Of the blocks that were there just b may have turned; there may be new ones. -/
structure Grw (b : Nat) (w w' : World) : Prop where
  bel : ∀ N, N ≤ b → Below N w w'
  oth : ∀ j, j < w.heap.size → ¬ j = b → w'.heap[j]? = w.heap[j]?
  sz : w.heap.size ≤ w'.heap.size
theorem Grw.refl (b : Nat) (w : World) : Grw b w w := ⟨fun _ _ => Below.refl _ _, fun _ _ _ => rfl, Nat.le_refl _⟩
theorem Grw.trans {b : Nat} {w w1 w2 : World} (h : Grw b w w1) (k : Grw b w1 w2) : Grw b w w2 :=
  ⟨fun N hN => (h.bel N hN).trans (k.bel N hN), fun j hj hb => (k.oth j (Nat.lt_of_lt_of_le hj h.sz) hb).trans (h.oth j hj hb), Nat.le_trans h.sz k.sz⟩
theorem Tch.grw {b : Nat} {w w' : World} (h : Tch b w w') : Grw b w w' := ⟨h.bel, fun j _ hb => h.oth j hb, Nat.le_of_eq h.sz.symm⟩
theorem bel_grw {b : Nat} {w w' : World} (h : Below w.heap.size w w') (hb : b < w.heap.size) : Grw b w w' :=
  ⟨fun N hN => h.mono (by omega), fun j hj _ => h.block j hj, h.size⟩
theorem Grw.hart {b j : Nat} {w w' : World} {t : HS} (h : Grw b w w') (hj : HartB w j t) (hn : ¬ j = b) : HartB w' j t := (h.oth j hj.lt hn).trans hj
theorem Grw.ts {b j : Nat} {w w' : World} {s : TS} (h : Grw b w w') (hj : TsB w j s) (hn : ¬ j = b) : TsB w' j s := (h.oth j hj.lt hn).trans hj
theorem below_drew (w : World) : Below w.heap.size w w.drew := (Below.refl _ _).drew
theorem hart_drew {w : World} {b : Nat} {t : HS} (h : HartB w b t) : HartB w.drew b t := h.below (below_drew w)
theorem ts_drew {w : World} {b : Nat} {t : TS} (h : TsB w b t) : TsB w.drew b t := h.below (below_drew w)
theorem grw_drew {b : Nat} {w0 w : World} (h : Grw b w0 w) (hb : b < w.heap.size) : Grw b w0 w.drew := h.trans (bel_grw (below_drew w) hb)
/-- What stands through a region that draws: of a hart in a block these cells (and its second bool, if asked) are as they were; and X. -/
def NearH (b : Nat) (t : HS) (ks : List Nat) (vk : Bool) (X : World → Prop) (w : World) : Prop := (∃ s, HartB w b s ∧ (∀ k, k ∈ ks → s.n k = t.n k) ∧ (vk = true → s.v = t.v)) ∧ X w
theorem NearH.new {b : Nat} {t : HS} {w : World} (h : HartB w b t) (ks : List Nat) (vk : Bool) {X : World → Prop} (hX : X w) : NearH b t ks vk X w := ⟨⟨t, h, fun _ _ => rfl, fun _ => rfl⟩, hX⟩
theorem NearH.u {b : Nat} {t : HS} {ks : List Nat} {vk : Bool} {X : World → Prop} {w : World} (h : NearH b t ks vk X w) (k : Nat) (hk : k < 77) (hu : k < 33 ∨ 36 < k) (hm : k ∈ ks) : w.cell? ⟨b, k, none⟩ = some (.int .u64 (t.n k)) := by
  obtain ⟨⟨s, hs, hn, _⟩, _⟩ := h
  rw [hs.u k hk hu, hn k hm]
theorem NearH.p {b : Nat} {t : HS} {ks : List Nat} {vk : Bool} {X : World → Prop} {w : World} (h : NearH b t ks vk X w) (hm : 33 ∈ ks) : w.cell? ⟨b, 33, none⟩ = some (.int .u8 (t.n 33)) := by
  obtain ⟨⟨s, hs, hn, _⟩, _⟩ := h
  rw [hs.p, hn 33 hm]
theorem NearH.v {b : Nat} {t : HS} {ks : List Nat} {X : World → Prop} {w : World} (h : NearH b t ks true X w) : w.cell? ⟨b, 34, none⟩ = some (.bool t.v) := by
  obtain ⟨⟨s, hs, _, hv⟩, _⟩ := h
  rw [hs.v, hv rfl]
/-- X stands when just b turns. -/
def Stays (b : Nat) (X : World → Prop) : Prop := ∀ w w', Tch b w w' → X w → X w'
theorem stays_ts {b j : Nat} {s : TS} (h : ¬ j = b) : Stays b (fun w => TsB w j s) := fun _ _ h1 h2 => h1.ts h2 h
theorem stays_true (b : Nat) : Stays b (fun _ => True) := fun _ _ _ _ => trivial
section
variable {ops : Array Oper} {md : Region.Mode} {Q : Exit → Act → World → Prop} {l : List (Nat × Value)} {n : Nat} {fuel : Nat} {listed : Array Bool} {a : Act} {w : World} {b : Nat} {t0 : HS} {ks : List Nat} {vk : Bool} {X : World → Prop}
theorem ready_nU {i : Nat} {oi : Oper} (hr : Region.ready md ops listed = [i]) (hA : FrA l n a) (hi : ops[i]? = some oi) (hd : oi.dst = none) (hg : oi.guard = none) {x y : Operand} (ho : oi.op = .store 22 x y) {k : Nat} {v : Int} (hx : evL l x = some (.pointer (some ⟨b, k, none⟩))) (hy : evL l y = some (.int .u64 v)) {t : HS} (hb : HartB w b t) (hk : k < 77) (hu : k < 33 ∨ 36 < k)
    (hS : NearH b t0 ks vk X w) (hks : ¬ k ∈ ks) (hX : Stays b X)
    (h : ∀ w', Tch b w w' → HartB w' b (t.put k v) → NearH b t0 ks vk X w' → wpAnyH Try.prog md ops Q (NearH b t0 ks vk X) fuel (listed.setIfInBounds i true) a w') : wpAnyH Try.prog md ops Q (NearH b t0 ks vk X) (fuel + 1) listed a w :=
  wpAnyH_ready hr (by simp) (AllReadyH.cons hi (fun K hK => by
    simp only [Region.wanted, hg, if_true]
    unfold Oper.wp execOp
    simp only [ho, hA.ev hx, hA.ev hy, Instr.storeAt, Instr.sureAddr, Sem.run_bind, Sem.run_pure, Result.andThen_ok, stU hb k hk hu v]
    have hN : NearH b t0 ks vk X (w.setCell ⟨b, k, none⟩ (.int .u64 v)) := by
      obtain ⟨⟨s, hs, hn, hv⟩, hx⟩ := hS
      exact ⟨⟨s.put k v, hs.putU v hu, fun j hj => by rw [HS.put_other _ _ (fun e => hks (by rw [← e]; exact hj)), hn j hj], hv⟩, hX _ _ (Tch.setCell _) hx⟩
    exact hK.out (a.put oi.dst undef) _ hN (fun _ => by rw [hd]; exact h _ (Tch.setCell _) (hb.putU v hu) hN)) AllReadyH.nil)
theorem ready_nP {i : Nat} {oi : Oper} (hr : Region.ready md ops listed = [i]) (hA : FrA l n a) (hi : ops[i]? = some oi) (hd : oi.dst = none) (hg : oi.guard = none) {x y : Operand} (ho : oi.op = .store 5 x y) {v : Int} (hx : evL l x = some (.pointer (some ⟨b, 33, none⟩))) (hy : evL l y = some (.int .u8 v)) {t : HS} (hb : HartB w b t)
    (hS : NearH b t0 ks vk X w) (hks : ¬ 33 ∈ ks) (hX : Stays b X)
    (h : ∀ w', Tch b w w' → HartB w' b (t.put 33 v) → NearH b t0 ks vk X w' → wpAnyH Try.prog md ops Q (NearH b t0 ks vk X) fuel (listed.setIfInBounds i true) a w') : wpAnyH Try.prog md ops Q (NearH b t0 ks vk X) (fuel + 1) listed a w :=
  wpAnyH_ready hr (by simp) (AllReadyH.cons hi (fun K hK => by
    simp only [Region.wanted, hg, if_true]
    unfold Oper.wp execOp
    simp only [ho, hA.ev hx, hA.ev hy, Instr.storeAt, Instr.sureAddr, Sem.run_bind, Sem.run_pure, Result.andThen_ok, stP hb v]
    have hN : NearH b t0 ks vk X (w.setCell ⟨b, 33, none⟩ (.int .u8 v)) := by
      obtain ⟨⟨s, hs, hn, hv⟩, hx⟩ := hS
      exact ⟨⟨s.put 33 v, hs.putP v, fun j hj => by rw [HS.put_other _ _ (fun e => hks (by rw [← e]; exact hj)), hn j hj], hv⟩, hX _ _ (Tch.setCell _) hx⟩
    exact hK.out (a.put oi.dst undef) _ hN (fun _ => by rw [hd]; exact h _ (Tch.setCell _) (hb.putP v) hN)) AllReadyH.nil)
theorem ready_nV {i : Nat} {oi : Oper} (hr : Region.ready md ops listed = [i]) (hA : FrA l n a) (hi : ops[i]? = some oi) (hd : oi.dst = none) (hg : oi.guard = none) {x y : Operand} (ho : oi.op = .store 4 x y) {v : Bool} (hx : evL l x = some (.pointer (some ⟨b, 34, none⟩))) (hy : evL l y = some (.bool v)) {t : HS} (hb : HartB w b t)
    (hS : NearH b t0 ks false X w) (hX : Stays b X)
    (h : ∀ w', Tch b w w' → HartB w' b (t.putV v) → NearH b t0 ks false X w' → wpAnyH Try.prog md ops Q (NearH b t0 ks false X) fuel (listed.setIfInBounds i true) a w') : wpAnyH Try.prog md ops Q (NearH b t0 ks false X) (fuel + 1) listed a w :=
  wpAnyH_ready hr (by simp) (AllReadyH.cons hi (fun K hK => by
    simp only [Region.wanted, hg, if_true]
    unfold Oper.wp execOp
    simp only [ho, hA.ev hx, hA.ev hy, Instr.storeAt, Instr.sureAddr, Sem.run_bind, Sem.run_pure, Result.andThen_ok, stV hb v]
    have hN : NearH b t0 ks false X (w.setCell ⟨b, 34, none⟩ (.bool v)) := by
      obtain ⟨⟨s, hs, hn, hv⟩, hx⟩ := hS
      exact ⟨⟨s.putV v, hs.putVB v, hn, fun e => by cases e⟩, hX _ _ (Tch.setCell _) hx⟩
    exact hK.out (a.put oi.dst undef) _ hN (fun _ => by rw [hd]; exact h _ (Tch.setCell _) (hb.putVB v) hN)) AllReadyH.nil)
theorem ready_nL {i : Nat} {oi : Oper} {v : Value} (hr : Region.ready md ops listed = [i]) (hA : FrA l n a) (d : Nat) (hi : ops[i]? = some oi) (hd : oi.dst = some d) (hdn : d < n) (hg : oi.guard = none) (hS : NearH b t0 ks vk X w) (hy : (execOp a.eval oi).run Try.prog w = .ok (.value v) w)
    (h : ∀ a', FrA ((d, v) :: l) n a' → wpAnyH Try.prog md ops Q (NearH b t0 ks vk X) fuel (listed.setIfInBounds i true) a' w) : wpAnyH Try.prog md ops Q (NearH b t0 ks vk X) (fuel + 1) listed a w :=
  wpAnyH_ready hr (by simp) (ready_val hA d hi hd hdn hg hS hy h AllReadyH.nil)
theorem ready_nC {i f d : Nat} {xs : Array Operand} {ts : Array TypeId} {ty : TypeId} {ps : String} {af : Array Edge} {v : Value} {args : Array Value} (hr : Region.ready md ops listed = [i]) (hA : FrA l n a) (hdn : d < n)
    (hi : ops[i]? = some { dst := some d, op := .call { callee := .value (.func f), args := xs, argTypes := ts }, type := ty, pos := ps, after := af, guard := none })
    (hcf : ∀ vs w, (callFunc f vs).run Try.prog w = .ok (.enter f vs) w) (hargs : xs.map a.eval = args) (hc : Calls Try.prog f args w fun e w' => e = .returned v ∧ w = w') (hS : NearH b t0 ks vk X w)
    (h : ∀ a', FrA ((d, v) :: l) n a' → wpAnyH Try.prog md ops Q (NearH b t0 ks vk X) fuel (listed.setIfInBounds i true) a' w) : wpAnyH Try.prog md ops Q (NearH b t0 ks vk X) (fuel + 1) listed a w :=
  wpAnyH_ready hr (by simp) (ready_call hA hdn hi hcf hargs hc (fun _ e => e ▸ hS) (fun w' e a' hA => by subst e; exact h a' hA) AllReadyH.nil)
end
end Go.Proofs.Ytkfhpmleelmcfaa
