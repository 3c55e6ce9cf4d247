/- Layer 15 (pte): in plain words; the document's side (written by gen_pta.py by walkt.py). -/
import Derived.Test.YtflaadnlmcgfoaaRWkT
import Derived.Test.YtflaadnlmcgfoaaRWkU
import Derived.Test.YtflaadnlmcgfoaaRBz
import Derived.Test.YtflaadnlmcgfoaaRRefA
namespace Go.Proofs.YtflaadnlmcgfoaaR
open Go.RowKit
set_option linter.unusedVariables false
set_option maxRecDepth 100000

/-- An access. -/
structure WS where
  kind : Int
  ex : Bool
  priv : Int
  v : Bool
  sum : Bool
  mxr : Bool
  vmxr : Bool
structure WOk (s : WS) : Prop where
  kind : 0 ≤ s.kind ∧ s.kind < 256
  priv : 0 ≤ s.priv ∧ s.priv < 256
abbrev wantC (s : WS) : Array Value := #[.int .u8 s.kind, .bool s.ex, .int .u8 s.priv, .bool s.v, .bool s.sum, .bool s.mxr, .bool s.vmxr]
abbrev wantV (s : WS) : Value := .agg (wantC s)
def pageZ (x : Int) : Int := x / 1024 % 17592186044416
def freeZ (x : Int) : Int := x / 18014398509481984
abbrev entC (x : Int) : Array Value := #[.bool (bitZ x 0), .bool (bitZ x 1), .bool (bitZ x 2), .bool (bitZ x 3), .bool (bitZ x 4), .bool (bitZ x 5), .bool (bitZ x 6), .bool (bitZ x 7), .int .u64 (pageZ x), .int .u64 (freeZ x)]
abbrev entV (x : Int) : Value := .agg (entC x)
def leafB (x : Int) : Bool := bitZ x 1 || bitZ x 3
def okB (x : Int) : Bool :=
  if !bitZ x 0 || bitZ x 2 && !bitZ x 1 || freeZ x != 0 then false else leafB x || !bitZ x 6 && !bitZ x 7 && !bitZ x 4
def allowB (x : Int) (s : WS) : Bool :=
  if decide (2 < s.kind) then false
  else if (s.priv == 0) && !bitZ x 4 then false
  else if (s.priv != 0) && bitZ x 4 && ((s.kind == 2) || !s.sum) then false
  else if s.kind == 2 then bitZ x 3
  else if s.kind == 1 then bitZ x 2
  else if s.ex then bitZ x 3
  else bitZ x 1 || bitZ x 3 && s.mxr || bitZ x 3 && s.v && s.vmxr
def fullB (x : Int) (s : WS) : Bool := if s.kind == 1 then bitZ x 6 && bitZ x 7 else bitZ x 6
def makeZ (p f : Int) : Int := p % 17592186044416 * 1024 + f % 256
def sizeZ (lv : Int) : Int := if decide (lv < 1) then 1 else if lv == 1 then 512 else 262144
def judgeZ (e lv : Int) (s : WS) : Int :=
  if !okB e then 0 else if !leafB e then (if decide (lv < 1) then 0 else 1) else if pageZ e % sizeZ lv != 0 then 0 else if !allowB e s then 0 else 2
def indexZ (a lv : Int) : Int := a / 4096 / sizeZ lv % 512
def paZ (e lv a : Int) : Int := pageZ e * 4096 / (4096 * sizeZ lv) * (4096 * sizeZ lv) + a % (4096 * sizeZ lv)
theorem size_is (lv : Int) : sizeZ lv = 1 ∨ sizeZ lv = 512 ∨ sizeZ lv = 262144 := by
  unfold sizeZ; split; exact .inl rfl; split; exact .inr (.inl rfl); exact .inr (.inr rfl)
theorem page_lt {x : Int} (hx : In64 x) : 0 ≤ pageZ x ∧ pageZ x < 17592186044416 := by unfold pageZ; omega
theorem page_in {x : Int} (hx : In64 x) : In64 (pageZ x) := by have := page_lt hx; unfold In64; omega
theorem free_in {x : Int} (hx : In64 x) : In64 (freeZ x) := by unfold freeZ In64 at *; omega
theorem make_in (p f : Int) : In64 (makeZ p f) := by unfold makeZ In64; omega
theorem field_bz (x : Int) (lo n : Int) (h : 0 ≤ lo ∧ lo < 64) (i : Nat) (hi : i < 64) : bitZ (U (fieldB (V x) lo n)) i = (decide ((i : Int) < n) && bitZ x (i + lo.toNat)) := by
  unfold bitZ; rw [V_U, field_bit _ _ h, decide_eq_true hi, Bool.true_and]
theorem bz_ge (x : Int) {i : Nat} (h : 64 ≤ i) : bitZ x i = false := bit_of_ge _ h
/-- A piece of a word, by division. -/
theorem field_div {x : Int} (hx : In64 x) (lo n : Nat) (hlo : lo < 64) : U (fieldB (V x) lo n) = x / 2 ^ lo % 2 ^ n := by
  have hq : In64 (x / 2 ^ lo) := by
    have h0 : 0 ≤ x / 2 ^ lo := Int.ediv_nonneg hx.1 (by exact_mod_cast Nat.zero_le _)
    have h1 : x / 2 ^ lo ≤ x := Int.ediv_le_self _ hx.1
    unfold In64 at *; omega
  have hm : In64 (x / 2 ^ lo % 2 ^ n) := by
    have hp : (0 : Int) < 2 ^ n := by exact_mod_cast Nat.two_pow_pos n
    have h0 : 0 ≤ x / 2 ^ lo % 2 ^ n := Int.emod_nonneg _ (by omega)
    have h2 : x / 2 ^ lo % 2 ^ n ≤ x / 2 ^ lo := by
      have := Int.emod_add_mul_ediv (x / 2 ^ lo) (2 ^ n)
      have : 0 ≤ 2 ^ n * (x / 2 ^ lo / 2 ^ n) := Int.mul_nonneg (by omega) (Int.ediv_nonneg hq.1 (by omega))
      omega
    unfold In64 at *; omega
  refine bz_ext (U_in _) hm fun i hi => ?_
  rw [field_bz x lo n ⟨by omega, by omega⟩ i hi, bz_mod hq]
  have e1 : decide ((i : Int) < (n : Int)) = decide (i < n) := by rw [decide_eq_decide]; omega
  rw [e1]
  congr 1
  rw [show ((lo : Int)).toNat = lo by omega]
  by_cases h64 : i + lo < 64
  · rw [bz_div hq, bz_div hx, Int.ediv_ediv_of_nonneg (by exact_mod_cast Nat.zero_le _), ← Int.pow_add, Nat.add_comm i lo]
  · rw [bz_ge x (by omega)]
    have : x / 2 ^ lo < 2 ^ (64 - lo) := by
      have h1 := hx.2
      refine Int.ediv_lt_of_lt_mul (by exact_mod_cast Nat.two_pow_pos lo) ?_
      rw [← Int.pow_add, show 64 - lo + lo = 64 by omega]; exact h1
    exact (bz_high hq this (by omega)).symm
theorem field_page {x : Int} (hx : In64 x) : U (fieldB (V x) 10 44) = pageZ x := field_div hx 10 44 (by decide)
theorem field_free {x : Int} (hx : In64 x) : U (fieldB (V x) 54 10) = freeZ x := by
  have := field_div hx 54 10 (by decide)
  rw [show U (fieldB (V x) 54 10) = _ from this]
  unfold freeZ In64 at *
  omega
theorem fa_want (b i : Nat) (hi : i < 7) (w : World) : (Instr.fieldAt 25 (.pointer (some ⟨b, 0, none⟩)) i).run Try.prog w = .ok (.pointer (some ⟨b, i, none⟩)) w :=
  match i, hi with
  | 0, _ => by kernel_rfl
  | 1, _ => by kernel_rfl
  | 2, _ => by kernel_rfl
  | 3, _ => by kernel_rfl
  | 4, _ => by kernel_rfl
  | 5, _ => by kernel_rfl
  | 6, _ => by kernel_rfl
  | i + 7, h => absurd h (by omega)
theorem zero_want (w : World) : (zeroValue 25).run Try.prog w = .ok (.agg (#[.int .u8 0, .bool false, .int .u8 0, .bool false, .bool false, .bool false, .bool false])) w := by kernel_rfl
theorem fa_ent (b i : Nat) (hi : i < 10) (w : World) : (Instr.fieldAt 33 (.pointer (some ⟨b, 0, none⟩)) i).run Try.prog w = .ok (.pointer (some ⟨b, i, none⟩)) w :=
  match i, hi with
  | 0, _ => by kernel_rfl
  | 1, _ => by kernel_rfl
  | 2, _ => by kernel_rfl
  | 3, _ => by kernel_rfl
  | 4, _ => by kernel_rfl
  | 5, _ => by kernel_rfl
  | 6, _ => by kernel_rfl
  | 7, _ => by kernel_rfl
  | 8, _ => by kernel_rfl
  | 9, _ => by kernel_rfl
  | i + 10, h => absurd h (by omega)
theorem zero_ent (w : World) : (zeroValue 33).run Try.prog w = .ok (.agg (#[.bool false, .bool false, .bool false, .bool false, .bool false, .bool false, .bool false, .bool false, .int .u64 0, .int .u64 0])) w := by kernel_rfl
theorem zero_b64 (w : World) : (zeroValue 45).run Try.prog w = .ok (.agg (barr 64 fun _ => false)) w := by kernel_rfl
theorem R_ixT {o : Oper} {a : Act} {l : List (Nat × Value)} {n : Nat} (hA : FrA l n a) {T : TypeId} {x y : Operand} (ho : o.op = .indexAddr T x y) {u v r : Value} (hx : evL l x = some u) (hy : evL l y = some v) (hT : ∀ w, (Instr.indexAt T u v).run Try.prog w = .ok r w) (w : World) : (execOp a.eval o).run Try.prog w = .ok (.value r) w := by
  unfold execOp; simp only [ho, hA.ev hx, hA.ev hy, Sem.run_bind, hT, Result.andThen_ok, Sem.run_pure]
theorem refFieldP_any (x : Int) (hx : In64 x) (w : World) : Calls Try.prog 35 #[.int .u64 x, .int .i64 10, .int .i64 44] w fun e w' => e = .returned (.int .u64 (pageZ x)) ∧ Below w.heap.size w w' := field_page hx ▸ refField_any x 10 44 hx w
theorem refFieldF_any (x : Int) (hx : In64 x) (w : World) : Calls Try.prog 35 #[.int .u64 x, .int .i64 54, .int .i64 10] w fun e w' => e = .returned (.int .u64 (freeZ x)) ∧ Below w.heap.size w w' := field_free hx ▸ refField_any x 54 10 hx w
set_option maxHeartbeats 8000000 in
theorem of_any (x : Int) (hx : In64 x) (w : World) : Calls Try.prog 18 #[.int .u64 x] w fun e w' => e = .returned (entV x) ∧ Below w.heap.size w w' := by
  have HB := Below.refl w.heap.size w
  go_enter Try.func18, Try.ntmps18
  refine begin_fr [(0, .int .u64 x)] 31 ?_ (fun a hA => ?_)
  · exact FrA.add (FrA.nil (by rfl) (by rfl)) 0 _ (by rfl)
  refine wp_seq ?_
  refine wp_region_list ?_
  refine W_allocT (cs := #[.bool false, .bool false, .bool false, .bool false, .bool false, .bool false, .bool false, .bool false, .int .u64 0, .int .u64 0]) hA rfl 2 rfl (by decide) rfl zero_ent (fun w1 bB2 a hA hb B2 gB2 => ?_)
  replace gB2 := Nat.le_trans HB.size gB2
  replace HB := HB.trans (hb.mono HB.size)
  clear hb
  refine W_nil ?_
  refine then_nrm ?_
  show Code.wp Try.prog _ _ _ _
  refine wp_seq ?_
  refine wp_region_list ?_
  refine W_val hA rfl 5 rfl (by decide) _ _ (R_mov hA rfl rfl _) (fun a hA => ?_)
  refine W_callA hA (by decide) (fun _ _ => by kernel_rfl) (args1 hA rfl) (split_any x hx _) (fun w2 hw a hA => ?_)
  replace HB := HB.trans (hw.mono HB.size)
  replace B2 := B2.below hw
  clear hw
  refine W_allocT (cs := barr 64 fun _ => false) hA rfl 3 rfl (by decide) rfl zero_b64 (fun w3 bB3 a hA hb B3 gB3 => ?_)
  have nB2B3 : bB2 < bB3 := by have := B2.lt; omega
  replace gB3 := Nat.le_trans HB.size gB3
  replace HB := HB.trans (hb.mono HB.size)
  replace B2 := B2.below hb
  clear hb
  refine W_cpT (cs := barr 64 (V x).getLsbD) hA rfl rfl rfl rfl rfl B3 (size48.trans (by rw [barr_size])) (by rw [barr_size, barr_size]) (varr_one fun i => rfl) (fun w4 hT HN => ?_)
  replace HB := HB.trans (hT.bel _ gB3)
  replace B2 := hT.row B2 (by omega)
  replace B3 := HN
  clear hT HN
  refine W_nil ?_
  refine then_nrm ?_
  show Code.wp Try.prog _ _ _ _
  refine wp_seq ?_
  refine wp_region_list ?_
  refine W_val hA rfl 7 rfl (by decide) _ _ (R_ixT hA rfl rfl rfl (r := .pointer (some ⟨bB3, 0, none⟩)) (fun w => by kernel_rfl) _) (fun a hA => ?_)
  refine W_val hA rfl 8 rfl (by decide) _ _ (R_ld (v := .bool (bitZ x 0)) hA rfl rfl ag_bool (RowC.cell B3 0 _ (varr_get 64 _ 0 (by decide)))) (fun a hA => ?_)
  refine W_val hA rfl 9 rfl (by decide) _ _ (R_ixT hA rfl rfl rfl (r := .pointer (some ⟨bB3, 1, none⟩)) (fun w => by kernel_rfl) _) (fun a hA => ?_)
  refine W_val hA rfl 10 rfl (by decide) _ _ (R_ld (v := .bool (bitZ x 1)) hA rfl rfl ag_bool (RowC.cell B3 1 _ (varr_get 64 _ 1 (by decide)))) (fun a hA => ?_)
  refine W_val hA rfl 11 rfl (by decide) _ _ (R_ixT hA rfl rfl rfl (r := .pointer (some ⟨bB3, 2, none⟩)) (fun w => by kernel_rfl) _) (fun a hA => ?_)
  refine W_val hA rfl 12 rfl (by decide) _ _ (R_ld (v := .bool (bitZ x 2)) hA rfl rfl ag_bool (RowC.cell B3 2 _ (varr_get 64 _ 2 (by decide)))) (fun a hA => ?_)
  refine W_val hA rfl 13 rfl (by decide) _ _ (R_ixT hA rfl rfl rfl (r := .pointer (some ⟨bB3, 3, none⟩)) (fun w => by kernel_rfl) _) (fun a hA => ?_)
  refine W_val hA rfl 14 rfl (by decide) _ _ (R_ld (v := .bool (bitZ x 3)) hA rfl rfl ag_bool (RowC.cell B3 3 _ (varr_get 64 _ 3 (by decide)))) (fun a hA => ?_)
  refine W_val hA rfl 15 rfl (by decide) _ _ (R_ixT hA rfl rfl rfl (r := .pointer (some ⟨bB3, 4, none⟩)) (fun w => by kernel_rfl) _) (fun a hA => ?_)
  refine W_val hA rfl 16 rfl (by decide) _ _ (R_ld (v := .bool (bitZ x 4)) hA rfl rfl ag_bool (RowC.cell B3 4 _ (varr_get 64 _ 4 (by decide)))) (fun a hA => ?_)
  refine W_val hA rfl 17 rfl (by decide) _ _ (R_ixT hA rfl rfl rfl (r := .pointer (some ⟨bB3, 5, none⟩)) (fun w => by kernel_rfl) _) (fun a hA => ?_)
  refine W_val hA rfl 18 rfl (by decide) _ _ (R_ld (v := .bool (bitZ x 5)) hA rfl rfl ag_bool (RowC.cell B3 5 _ (varr_get 64 _ 5 (by decide)))) (fun a hA => ?_)
  refine W_val hA rfl 19 rfl (by decide) _ _ (R_ixT hA rfl rfl rfl (r := .pointer (some ⟨bB3, 6, none⟩)) (fun w => by kernel_rfl) _) (fun a hA => ?_)
  refine W_val hA rfl 20 rfl (by decide) _ _ (R_ld (v := .bool (bitZ x 6)) hA rfl rfl ag_bool (RowC.cell B3 6 _ (varr_get 64 _ 6 (by decide)))) (fun a hA => ?_)
  refine W_val hA rfl 21 rfl (by decide) _ _ (R_ixT hA rfl rfl rfl (r := .pointer (some ⟨bB3, 7, none⟩)) (fun w => by kernel_rfl) _) (fun a hA => ?_)
  refine W_val hA rfl 22 rfl (by decide) _ _ (R_ld (v := .bool (bitZ x 7)) hA rfl rfl ag_bool (RowC.cell B3 7 _ (varr_get 64 _ 7 (by decide)))) (fun a hA => ?_)
  refine W_val hA rfl 23 rfl (by decide) _ _ (R_build (ps := [(0, .tmp 8), (1, .tmp 10), (2, .tmp 12), (3, .tmp 14), (4, .tmp 16), (5, .tmp 18), (6, .tmp 20), (7, .tmp 22)]) hA rfl [(0, .bool (bitZ x 0)), (1, .bool (bitZ x 1)), (2, .bool (bitZ x 2)), (3, .bool (bitZ x 3)), (4, .bool (bitZ x 4)), (5, .bool (bitZ x 5)), (6, .bool (bitZ x 6)), (7, .bool (bitZ x 7))] rfl (cs := #[.bool (bitZ x 0), .bool (bitZ x 1), .bool (bitZ x 2), .bool (bitZ x 3), .bool (bitZ x 4), .bool (bitZ x 5), .bool (bitZ x 6), .bool (bitZ x 7), .int .u64 0, .int .u64 0]) (by kernel_rfl) _) (fun a hA => ?_)
  refine W_allocT (cs := #[.bool false, .bool false, .bool false, .bool false, .bool false, .bool false, .bool false, .bool false, .int .u64 0, .int .u64 0]) hA rfl 4 rfl (by decide) rfl zero_ent (fun w5 bB4 a hA hb B4 gB4 => ?_)
  have nB2B4 : bB2 < bB4 := by have := B2.lt; omega
  have nB3B4 : bB3 < bB4 := by have := B3.lt; omega
  replace gB4 := Nat.le_trans HB.size gB4
  replace HB := HB.trans (hb.mono HB.size)
  replace B2 := B2.below hb
  replace B3 := B3.below hb
  clear hb
  refine W_cpT (cs := #[.bool (bitZ x 0), .bool (bitZ x 1), .bool (bitZ x 2), .bool (bitZ x 3), .bool (bitZ x 4), .bool (bitZ x 5), .bool (bitZ x 6), .bool (bitZ x 7), .int .u64 0, .int .u64 0]) hA rfl rfl rfl rfl rfl B4 (by kernel_rfl) rfl (by simp [Value.oneCell']) (fun w6 hT HN => ?_)
  replace HB := HB.trans (hT.bel _ gB4)
  replace B2 := hT.row B2 (by omega)
  replace B3 := hT.row B3 (by omega)
  replace B4 := HN
  clear hT HN
  refine W_nil ?_
  refine then_nrm ?_
  show Code.wp Try.prog _ _ _ _
  refine wp_seq ?_
  refine wp_region_list ?_
  refine W_val hA rfl 24 rfl (by decide) _ _ (R_mov hA rfl rfl _) (fun a hA => ?_)
  refine W_callA hA (by decide) (fun _ _ => by kernel_rfl) (args3 hA rfl rfl rfl) (refFieldP_any x hx _) (fun w7 hw a hA => ?_)
  replace HB := HB.trans (hw.mono HB.size)
  replace B2 := B2.below hw
  replace B3 := B3.below hw
  replace B4 := B4.below hw
  clear hw
  refine W_val hA rfl 26 rfl (by decide) _ _ (R_fa hA rfl rfl (fun w => fa_ent _ 8 (by decide) w) _) (fun a hA => ?_)
  refine W_stT (cs' := #[.bool (bitZ x 0), .bool (bitZ x 1), .bool (bitZ x 2), .bool (bitZ x 3), .bool (bitZ x 4), .bool (bitZ x 5), .bool (bitZ x 6), .bool (bitZ x 7), .int .u64 (pageZ x), .int .u64 0]) hA rfl rfl rfl rfl rfl B4 (stT_u B4 _ rfl) rfl (fun w8 hT HN => ?_)
  replace HB := HB.trans (hT.bel _ gB4)
  replace B2 := hT.row B2 (by omega)
  replace B3 := hT.row B3 (by omega)
  replace B4 := HN
  clear hT HN
  refine W_nil ?_
  refine then_nrm ?_
  show Code.wp Try.prog _ _ _ _
  refine wp_seq ?_
  refine wp_region_list ?_
  refine W_val hA rfl 27 rfl (by decide) _ _ (R_mov hA rfl rfl _) (fun a hA => ?_)
  refine W_callA hA (by decide) (fun _ _ => by kernel_rfl) (args3 hA rfl rfl rfl) (refFieldF_any x hx _) (fun w9 hw a hA => ?_)
  replace HB := HB.trans (hw.mono HB.size)
  replace B2 := B2.below hw
  replace B3 := B3.below hw
  replace B4 := B4.below hw
  clear hw
  refine W_val hA rfl 29 rfl (by decide) _ _ (R_fa hA rfl rfl (fun w => fa_ent _ 9 (by decide) w) _) (fun a hA => ?_)
  refine W_stT (cs' := #[.bool (bitZ x 0), .bool (bitZ x 1), .bool (bitZ x 2), .bool (bitZ x 3), .bool (bitZ x 4), .bool (bitZ x 5), .bool (bitZ x 6), .bool (bitZ x 7), .int .u64 (pageZ x), .int .u64 (freeZ x)]) hA rfl rfl rfl rfl rfl B4 (stT_u B4 _ rfl) rfl (fun w10 hT HN => ?_)
  replace HB := HB.trans (hT.bel _ gB4)
  replace B2 := hT.row B2 (by omega)
  replace B3 := hT.row B3 (by omega)
  replace B4 := HN
  clear hT HN
  refine W_nil ?_
  refine then_nrm ?_
  show Code.wp Try.prog _ _ _ _
  refine wp_seq ?_
  refine wp_region_list ?_
  refine W_val hA rfl 30 rfl (by decide) _ _ (R_row hA rfl rfl B4 Try.underlying33 (by kernel_rfl)) (fun a hA => ?_)
  refine W_cpT (cs := #[.bool (bitZ x 0), .bool (bitZ x 1), .bool (bitZ x 2), .bool (bitZ x 3), .bool (bitZ x 4), .bool (bitZ x 5), .bool (bitZ x 6), .bool (bitZ x 7), .int .u64 (pageZ x), .int .u64 (freeZ x)]) hA rfl rfl rfl rfl rfl B2 (by kernel_rfl) rfl (by simp [Value.oneCell']) (fun w11 hT HN => ?_)
  replace HB := HB.trans (hT.bel _ gB2)
  replace B3 := hT.row B3 (by omega)
  replace B4 := hT.row B4 (by omega)
  replace B2 := HN
  clear hT HN
  refine W_nil ?_
  refine then_nrm ?_
  show Code.wp Try.prog _ _ _ _
  refine wp_ret ?_
  refine ret_rowT (j := 2) (by kernel_rfl) hA rfl B2 Try.underlying33 (by kernel_rfl) ⟨rfl, HB⟩
set_option maxHeartbeats 8000000 in
theorem dmake_any (p f : Int) (hp : In64 p) (hf : In64 f) (w : World) : Calls Try.prog 19 #[.int .u64 p, .int .u64 f] w fun e w' => e = .returned (.int .u64 (makeZ p f)) ∧ w = w' := by
  have HB := Below.refl w.heap.size w
  go_enter Try.func19, Try.ntmps19
  refine begin_fr [(1, .int .u64 f), (0, .int .u64 p)] 11 ?_ (fun a hA => ?_)
  · exact FrA.add (FrA.add (FrA.nil (by rfl) (by rfl)) 0 _ (by rfl)) 1 _ (by rfl)
  refine wp_seq ?_
  refine wp_region_list ?_
  refine W_val hA rfl 4 rfl (by decide) _ _ (R_asg hA rfl rfl _) (fun a hA => ?_)
  refine W_nil ?_
  refine then_nrm ?_
  show Code.wp Try.prog _ _ _ _
  refine wp_seq ?_
  refine wp_region_list ?_
  refine W_val hA rfl 5 rfl (by decide) _ _ (R_mov hA rfl rfl _) (fun a hA => ?_)
  refine W_val hA rfl 6 rfl (by decide) _ _ (R_rem hA rfl hp.1 ⟨by decide, by decide⟩ rfl rfl _) (fun a hA => ?_)
  refine W_val hA rfl 7 rfl (by decide) _ _ (R_mulT hA rfl rfl rfl (p % 17592186044416 * 1024) (by rw [IntKind.wrap_u64]; omega) _) (fun a hA => ?_)
  refine W_val hA rfl 8 rfl (by decide) _ _ (R_mov hA rfl rfl _) (fun a hA => ?_)
  refine W_val hA rfl 9 rfl (by decide) _ _ (R_rem hA rfl hf.1 ⟨by decide, by decide⟩ rfl rfl _) (fun a hA => ?_)
  refine W_val hA rfl 10 rfl (by decide) _ _ (R_addT hA rfl rfl rfl (makeZ p f) (by unfold makeZ; rw [IntKind.wrap_u64]; omega) _) (fun a hA => ?_)
  refine W_val hA rfl 4 rfl (by decide) _ _ (R_asg hA rfl rfl _) (fun a hA => ?_)
  refine W_nil ?_
  refine then_nrm ?_
  show Code.wp Try.prog _ _ _ _
  refine wp_ret ?_
  refine ret_tmp (j := 4) (by kernel_rfl) hA (by decide) rfl ⟨congrArg (fun x : Int => Ending.returned (.int .u64 x)) ?_, rfl⟩
  rfl
set_option maxHeartbeats 8000000 in
theorem dleaf_any (x : Int) (w : World) : Calls Try.prog 22 #[entV x] w fun e w' => e = .returned (.bool (leafB x)) ∧ Below w.heap.size w w' := by
  have HB := Below.refl w.heap.size w
  go_enter Try.func22, Try.ntmps22
  refine begin_fr [(0, entV x)] 9 ?_ (fun a hA => ?_)
  · exact FrA.add (FrA.nil (by rfl) (by rfl)) 0 _ (by rfl)
  refine wp_seq ?_
  refine wp_region_list ?_
  refine W_boxT (cs := entC x) hA rfl 1 rfl (by decide) rfl rfl (fun w1 bB1 a hA hb B1 gB1 => ?_)
  replace gB1 := Nat.le_trans HB.size gB1
  replace HB := HB.trans (hb.mono HB.size)
  clear hb
  refine W_val hA rfl 2 rfl (by decide) _ _ (R_asg hA rfl rfl _) (fun a hA => ?_)
  refine W_nil ?_
  refine then_nrm ?_
  show Code.wp Try.prog _ _ _ _
  refine wp_seq ?_
  refine wp_region_list ?_
  refine W_val hA rfl 3 rfl (by decide) _ _ (R_fa hA rfl rfl (fun w => fa_ent _ 1 (by decide) w) _) (fun a hA => ?_)
  refine W_val hA rfl 4 rfl (by decide) _ _ (R_ld (v := .bool (bitZ x 1)) hA rfl rfl ag_bool (RowC.cell B1 1 _ rfl)) (fun a hA => ?_)
  refine W_val hA rfl 5 rfl (by decide) _ _ (R_mov hA rfl rfl _) (fun a hA => ?_)
  refine W_split hA 5 rfl (fun c1 hA => ?_) (fun c1 hA => ?_)
  · skip
    refine W_gskip hA rfl rfl rfl 6 rfl (by decide) (fun a hA => ?_)
    refine W_gskip hA rfl rfl rfl 7 rfl (by decide) (fun a hA => ?_)
    refine W_val hA rfl 8 rfl (by decide) _ _ (R_pick hA rfl rfl rfl _) (fun a hA => ?_)
    refine W_val hA rfl 2 rfl (by decide) _ _ (R_asg hA rfl rfl _) (fun a hA => ?_)
    refine W_nil ?_
    refine then_nrm ?_
    show Code.wp Try.prog _ _ _ _
    refine wp_ret ?_
    refine ret_tmp (j := 2) (by kernel_rfl) hA (by decide) rfl ⟨congrArg (fun x : Bool => Ending.returned (.bool x)) ?_, HB⟩
    unfold leafB
    first
      | (simp only [c1, if_true, if_false, Bool.false_eq_true, Bool.not_true, Bool.not_false, Bool.true_and, Bool.false_and, Bool.and_true, Bool.and_false, Bool.true_or, Bool.false_or, Bool.or_true, Bool.or_false]; done)
      | (exfalso; simp_all; done)
      | (exfalso; simp_all; omega)
  refine W_gval hA rfl rfl rfl 6 rfl (by decide) _ _ (R_fa hA rfl rfl (fun w => fa_ent _ 3 (by decide) w) _) (fun a hA => ?_)
  refine W_gval hA rfl rfl rfl 7 rfl (by decide) _ _ (R_ld (v := .bool (bitZ x 3)) hA rfl rfl ag_bool (RowC.cell B1 3 _ rfl)) (fun a hA => ?_)
  refine W_val hA rfl 8 rfl (by decide) _ _ (R_pick hA rfl rfl rfl _) (fun a hA => ?_)
  refine W_val hA rfl 2 rfl (by decide) _ _ (R_asg hA rfl rfl _) (fun a hA => ?_)
  refine W_nil ?_
  refine then_nrm ?_
  show Code.wp Try.prog _ _ _ _
  refine wp_ret ?_
  refine ret_tmp (j := 2) (by kernel_rfl) hA (by decide) rfl ⟨congrArg (fun x : Bool => Ending.returned (.bool x)) ?_, HB⟩
  unfold leafB
  first
    | (simp only [c1, if_true, if_false, Bool.false_eq_true, Bool.not_true, Bool.not_false, Bool.true_and, Bool.false_and, Bool.and_true, Bool.and_false, Bool.true_or, Bool.false_or, Bool.or_true, Bool.or_false]; done)
    | (exfalso; simp_all; done)
    | (exfalso; simp_all; omega)
set_option maxHeartbeats 8000000 in
theorem dok_any (x : Int) (w : World) : Calls Try.prog 21 #[entV x] w fun e w' => e = .returned (.bool (okB x)) ∧ Below w.heap.size w w' := by
  have HB := Below.refl w.heap.size w
  go_enter Try.func21, Try.ntmps21
  refine begin_fr [(0, entV x)] 37 ?_ (fun a hA => ?_)
  · exact FrA.add (FrA.nil (by rfl) (by rfl)) 0 _ (by rfl)
  refine wp_seq ?_
  refine wp_region_list ?_
  refine W_boxT (cs := entC x) hA rfl 1 rfl (by decide) rfl rfl (fun w1 bB1 a hA hb B1 gB1 => ?_)
  replace gB1 := Nat.le_trans HB.size gB1
  replace HB := HB.trans (hb.mono HB.size)
  clear hb
  refine W_val hA rfl 2 rfl (by decide) _ _ (R_asg hA rfl rfl _) (fun a hA => ?_)
  refine W_nil ?_
  refine then_nrm ?_
  show Code.wp Try.prog _ _ _ _
  refine wp_seq ?_
  refine wp_seq ?_
  refine wp_region_list ?_
  refine W_val hA rfl 3 rfl (by decide) _ _ (R_fa hA rfl rfl (fun w => fa_ent _ 0 (by decide) w) _) (fun a hA => ?_)
  refine W_val hA rfl 4 rfl (by decide) _ _ (R_ld (v := .bool (bitZ x 0)) hA rfl rfl ag_bool (RowC.cell B1 0 _ rfl)) (fun a hA => ?_)
  refine W_val hA rfl 5 rfl (by decide) _ _ (R_not hA rfl rfl _) (fun a hA => ?_)
  refine W_val hA rfl 6 rfl (by decide) _ _ (R_mov hA rfl rfl _) (fun a hA => ?_)
  refine W_split hA 6 rfl (fun c1 hA => ?_) (fun c1 hA => ?_)
  · skip
    refine W_gskip hA rfl rfl rfl 7 rfl (by decide) (fun a hA => ?_)
    refine W_gskip hA rfl rfl rfl 8 rfl (by decide) (fun a hA => ?_)
    refine W_gskip hA rfl rfl rfl 9 rfl (by decide) (fun a hA => ?_)
    refine W_gskipU hA rfl rfl rfl 10 rfl (by decide) (fun a hA => ?_)
    refine W_gskipU hA rfl rfl rfl 11 rfl (by decide) (fun a hA => ?_)
    refine W_gskipU hA rfl rfl rfl 12 rfl (by decide) (fun a hA => ?_)
    refine W_gskip hA rfl rfl rfl 13 rfl (by decide) (fun a hA => ?_)
    refine W_val hA rfl 14 rfl (by decide) _ _ (R_pick hA rfl rfl rfl _) (fun a hA => ?_)
    refine W_val hA rfl 15 rfl (by decide) _ _ (R_mov hA rfl rfl _) (fun a hA => ?_)
    refine W_gskip hA rfl rfl rfl 16 rfl (by decide) (fun a hA => ?_)
    refine W_gskip hA rfl rfl rfl 17 rfl (by decide) (fun a hA => ?_)
    refine W_gskip hA rfl rfl rfl 18 rfl (by decide) (fun a hA => ?_)
    refine W_val hA rfl 19 rfl (by decide) _ _ (R_pick hA rfl rfl rfl _) (fun a hA => ?_)
    refine W_nil ?_
    refine then_nrm ?_
    show Code.wp Try.prog _ _ _ _
    refine wp_cond_true (hA.ev (x := .tmp 19) rfl) ?_
    refine wp_seq ?_
    refine wp_region_list ?_
    refine W_val hA rfl 2 rfl (by decide) _ _ (R_asg hA rfl rfl _) (fun a hA => ?_)
    refine W_nil ?_
    refine then_nrm ?_
    show Code.wp Try.prog _ _ _ _
    refine wp_ret ?_
    refine then_ret ?_
    refine ret_tmp (j := 2) (by kernel_rfl) hA (by decide) rfl ⟨congrArg (fun x : Bool => Ending.returned (.bool x)) ?_, HB⟩
    unfold okB
    first
      | (simp only [c1, if_true, if_false, Bool.false_eq_true, Bool.not_true, Bool.not_false, Bool.true_and, Bool.false_and, Bool.and_true, Bool.and_false, Bool.true_or, Bool.false_or, Bool.or_true, Bool.or_false]; done)
      | (exfalso; simp_all; done)
      | (exfalso; simp_all; omega)
  refine W_gval hA rfl rfl rfl 7 rfl (by decide) _ _ (R_fa hA rfl rfl (fun w => fa_ent _ 2 (by decide) w) _) (fun a hA => ?_)
  refine W_gval hA rfl rfl rfl 8 rfl (by decide) _ _ (R_ld (v := .bool (bitZ x 2)) hA rfl rfl ag_bool (RowC.cell B1 2 _ rfl)) (fun a hA => ?_)
  refine W_gval hA rfl rfl rfl 9 rfl (by decide) _ _ (R_mov hA rfl rfl _) (fun a hA => ?_)
  refine W_split hA 9 rfl (fun c2 hA => ?_) (fun c2 hA => ?_)
  · skip
    refine W_gval hA rfl rfl rfl 10 rfl (by decide) _ _ (R_fa hA rfl rfl (fun w => fa_ent _ 1 (by decide) w) _) (fun a hA => ?_)
    refine W_gval hA rfl rfl rfl 11 rfl (by decide) _ _ (R_ld (v := .bool (bitZ x 1)) hA rfl rfl ag_bool (RowC.cell B1 1 _ rfl)) (fun a hA => ?_)
    refine W_gval hA rfl rfl rfl 12 rfl (by decide) _ _ (R_not hA rfl rfl _) (fun a hA => ?_)
    refine W_gval hA rfl rfl rfl 13 rfl (by decide) _ _ (R_pick hA rfl rfl rfl _) (fun a hA => ?_)
    refine W_val hA rfl 14 rfl (by decide) _ _ (R_pick hA rfl rfl rfl _) (fun a hA => ?_)
    refine W_val hA rfl 15 rfl (by decide) _ _ (R_mov hA rfl rfl _) (fun a hA => ?_)
    refine W_split hA 15 rfl (fun c3 hA => ?_) (fun c3 hA => ?_)
    · skip
      refine W_gskip hA rfl rfl rfl 16 rfl (by decide) (fun a hA => ?_)
      refine W_gskip hA rfl rfl rfl 17 rfl (by decide) (fun a hA => ?_)
      refine W_gskip hA rfl rfl rfl 18 rfl (by decide) (fun a hA => ?_)
      refine W_val hA rfl 19 rfl (by decide) _ _ (R_pick hA rfl rfl rfl _) (fun a hA => ?_)
      refine W_nil ?_
      refine then_nrm ?_
      show Code.wp Try.prog _ _ _ _
      refine wp_cond_true (hA.ev (x := .tmp 19) rfl) ?_
      refine wp_seq ?_
      refine wp_region_list ?_
      refine W_val hA rfl 2 rfl (by decide) _ _ (R_asg hA rfl rfl _) (fun a hA => ?_)
      refine W_nil ?_
      refine then_nrm ?_
      show Code.wp Try.prog _ _ _ _
      refine wp_ret ?_
      refine then_ret ?_
      refine ret_tmp (j := 2) (by kernel_rfl) hA (by decide) rfl ⟨congrArg (fun x : Bool => Ending.returned (.bool x)) ?_, HB⟩
      unfold okB
      first
        | (simp only [c1, c2, c3, if_true, if_false, Bool.false_eq_true, Bool.not_true, Bool.not_false, Bool.true_and, Bool.false_and, Bool.and_true, Bool.and_false, Bool.true_or, Bool.false_or, Bool.or_true, Bool.or_false]; done)
        | (exfalso; simp_all; done)
        | (exfalso; simp_all; omega)
    refine W_gval hA rfl rfl rfl 16 rfl (by decide) _ _ (R_fa hA rfl rfl (fun w => fa_ent _ 9 (by decide) w) _) (fun a hA => ?_)
    refine W_gval hA rfl rfl rfl 17 rfl (by decide) _ _ (R_ld (v := .int .u64 (freeZ x)) hA rfl rfl ag_u64 (RowC.cell B1 9 _ rfl)) (fun a hA => ?_)
    refine W_gval hA rfl rfl rfl 18 rfl (by decide) _ _ (R_neqU hA rfl rfl rfl _) (fun a hA => ?_)
    refine W_val hA rfl 19 rfl (by decide) _ _ (R_pick hA rfl rfl rfl _) (fun a hA => ?_)
    refine W_nil ?_
    refine then_nrm ?_
    show Code.wp Try.prog _ _ _ _
    refine wp_cond_split (hA.ev (x := .tmp 19) rfl) (fun c4 => ?_) (fun c4 => ?_)
    · skip
      refine wp_seq ?_
      refine wp_region_list ?_
      refine W_val hA rfl 2 rfl (by decide) _ _ (R_asg hA rfl rfl _) (fun a hA => ?_)
      refine W_nil ?_
      refine then_nrm ?_
      show Code.wp Try.prog _ _ _ _
      refine wp_ret ?_
      refine then_ret ?_
      refine ret_tmp (j := 2) (by kernel_rfl) hA (by decide) rfl ⟨congrArg (fun x : Bool => Ending.returned (.bool x)) ?_, HB⟩
      unfold okB
      first
        | (simp only [c1, c2, c3, c4, if_true, if_false, Bool.false_eq_true, Bool.not_true, Bool.not_false, Bool.true_and, Bool.false_and, Bool.and_true, Bool.and_false, Bool.true_or, Bool.false_or, Bool.or_true, Bool.or_false]; done)
        | (exfalso; simp_all; done)
        | (exfalso; simp_all; omega)
    refine wp_skip ?_
    refine then_nrm ?_
    show Code.wp Try.prog _ _ _ _
    refine wp_seq ?_
    refine wp_region_list ?_
    refine W_val hA rfl 20 rfl (by decide) _ _ (R_row hA rfl rfl B1 Try.underlying33 (by kernel_rfl)) (fun a hA => ?_)
    refine W_callA hA (by decide) (fun _ _ => by kernel_rfl) (args1 hA rfl) (dleaf_any x _) (fun w2 hw a hA => ?_)
    replace HB := HB.trans (hw.mono HB.size)
    replace B1 := B1.below hw
    clear hw
    refine W_val hA rfl 22 rfl (by decide) _ _ (R_mov hA rfl rfl _) (fun a hA => ?_)
    refine W_split hA 22 rfl (fun c5 hA => ?_) (fun c5 hA => ?_)
    · skip
      refine W_gskip hA rfl rfl rfl 23 rfl (by decide) (fun a hA => ?_)
      refine W_gskip hA rfl rfl rfl 24 rfl (by decide) (fun a hA => ?_)
      refine W_gskip hA rfl rfl rfl 25 rfl (by decide) (fun a hA => ?_)
      refine W_gskip hA rfl rfl rfl 26 rfl (by decide) (fun a hA => ?_)
      refine W_gskipU hA rfl rfl rfl 27 rfl (by decide) (fun a hA => ?_)
      refine W_gskipU hA rfl rfl rfl 28 rfl (by decide) (fun a hA => ?_)
      refine W_gskipU hA rfl rfl rfl 29 rfl (by decide) (fun a hA => ?_)
      refine W_gskip hA rfl rfl rfl 30 rfl (by decide) (fun a hA => ?_)
      refine W_gskip hA rfl rfl rfl 31 rfl (by decide) (fun a hA => ?_)
      refine W_gskipU hA rfl rfl rfl 32 rfl (by decide) (fun a hA => ?_)
      refine W_gskipU hA rfl rfl rfl 33 rfl (by decide) (fun a hA => ?_)
      refine W_gskipU hA rfl rfl rfl 34 rfl (by decide) (fun a hA => ?_)
      refine W_gskip hA rfl rfl rfl 35 rfl (by decide) (fun a hA => ?_)
      refine W_val hA rfl 36 rfl (by decide) _ _ (R_pick hA rfl rfl rfl _) (fun a hA => ?_)
      refine W_val hA rfl 2 rfl (by decide) _ _ (R_asg hA rfl rfl _) (fun a hA => ?_)
      refine W_nil ?_
      refine then_nrm ?_
      show Code.wp Try.prog _ _ _ _
      refine wp_ret ?_
      refine ret_tmp (j := 2) (by kernel_rfl) hA (by decide) rfl ⟨congrArg (fun x : Bool => Ending.returned (.bool x)) ?_, HB⟩
      unfold okB
      first
        | (simp only [c1, c2, c3, c4, c5, if_true, if_false, Bool.false_eq_true, Bool.not_true, Bool.not_false, Bool.true_and, Bool.false_and, Bool.and_true, Bool.and_false, Bool.true_or, Bool.false_or, Bool.or_true, Bool.or_false]; done)
        | (exfalso; simp_all; done)
        | (exfalso; simp_all; omega)
    refine W_gval hA rfl rfl rfl 23 rfl (by decide) _ _ (R_fa hA rfl rfl (fun w => fa_ent _ 6 (by decide) w) _) (fun a hA => ?_)
    refine W_gval hA rfl rfl rfl 24 rfl (by decide) _ _ (R_ld (v := .bool (bitZ x 6)) hA rfl rfl ag_bool (RowC.cell B1 6 _ rfl)) (fun a hA => ?_)
    refine W_gval hA rfl rfl rfl 25 rfl (by decide) _ _ (R_not hA rfl rfl _) (fun a hA => ?_)
    refine W_gval hA rfl rfl rfl 26 rfl (by decide) _ _ (R_mov hA rfl rfl _) (fun a hA => ?_)
    refine W_split hA 26 rfl (fun c6 hA => ?_) (fun c6 hA => ?_)
    · skip
      refine W_gval hA rfl rfl rfl 27 rfl (by decide) _ _ (R_fa hA rfl rfl (fun w => fa_ent _ 7 (by decide) w) _) (fun a hA => ?_)
      refine W_gval hA rfl rfl rfl 28 rfl (by decide) _ _ (R_ld (v := .bool (bitZ x 7)) hA rfl rfl ag_bool (RowC.cell B1 7 _ rfl)) (fun a hA => ?_)
      refine W_gval hA rfl rfl rfl 29 rfl (by decide) _ _ (R_not hA rfl rfl _) (fun a hA => ?_)
      refine W_gval hA rfl rfl rfl 30 rfl (by decide) _ _ (R_pick hA rfl rfl rfl _) (fun a hA => ?_)
      refine W_gval hA rfl rfl rfl 31 rfl (by decide) _ _ (R_mov hA rfl rfl _) (fun a hA => ?_)
      refine W_split hA 31 rfl (fun c7 hA => ?_) (fun c7 hA => ?_)
      · skip
        refine W_gval hA rfl rfl rfl 32 rfl (by decide) _ _ (R_fa hA rfl rfl (fun w => fa_ent _ 4 (by decide) w) _) (fun a hA => ?_)
        refine W_gval hA rfl rfl rfl 33 rfl (by decide) _ _ (R_ld (v := .bool (bitZ x 4)) hA rfl rfl ag_bool (RowC.cell B1 4 _ rfl)) (fun a hA => ?_)
        refine W_gval hA rfl rfl rfl 34 rfl (by decide) _ _ (R_not hA rfl rfl _) (fun a hA => ?_)
        refine W_gval hA rfl rfl rfl 35 rfl (by decide) _ _ (R_pick hA rfl rfl rfl _) (fun a hA => ?_)
        refine W_val hA rfl 36 rfl (by decide) _ _ (R_pick hA rfl rfl rfl _) (fun a hA => ?_)
        refine W_val hA rfl 2 rfl (by decide) _ _ (R_asg hA rfl rfl _) (fun a hA => ?_)
        refine W_nil ?_
        refine then_nrm ?_
        show Code.wp Try.prog _ _ _ _
        refine wp_ret ?_
        refine ret_tmp (j := 2) (by kernel_rfl) hA (by decide) rfl ⟨congrArg (fun x : Bool => Ending.returned (.bool x)) ?_, HB⟩
        unfold okB
        first
          | (simp only [c1, c2, c3, c4, c5, c6, c7, if_true, if_false, Bool.false_eq_true, Bool.not_true, Bool.not_false, Bool.true_and, Bool.false_and, Bool.and_true, Bool.and_false, Bool.true_or, Bool.false_or, Bool.or_true, Bool.or_false]; done)
          | (exfalso; simp_all; done)
          | (exfalso; simp_all; omega)
      refine W_gskip hA rfl rfl rfl 32 rfl (by decide) (fun a hA => ?_)
      refine W_gskip hA rfl rfl rfl 33 rfl (by decide) (fun a hA => ?_)
      refine W_gskip hA rfl rfl rfl 34 rfl (by decide) (fun a hA => ?_)
      refine W_gval hA rfl rfl rfl 35 rfl (by decide) _ _ (R_pick hA rfl rfl rfl _) (fun a hA => ?_)
      refine W_val hA rfl 36 rfl (by decide) _ _ (R_pick hA rfl rfl rfl _) (fun a hA => ?_)
      refine W_val hA rfl 2 rfl (by decide) _ _ (R_asg hA rfl rfl _) (fun a hA => ?_)
      refine W_nil ?_
      refine then_nrm ?_
      show Code.wp Try.prog _ _ _ _
      refine wp_ret ?_
      refine ret_tmp (j := 2) (by kernel_rfl) hA (by decide) rfl ⟨congrArg (fun x : Bool => Ending.returned (.bool x)) ?_, HB⟩
      unfold okB
      first
        | (simp only [c1, c2, c3, c4, c5, c6, c7, if_true, if_false, Bool.false_eq_true, Bool.not_true, Bool.not_false, Bool.true_and, Bool.false_and, Bool.and_true, Bool.and_false, Bool.true_or, Bool.false_or, Bool.or_true, Bool.or_false]; done)
        | (exfalso; simp_all; done)
        | (exfalso; simp_all; omega)
    refine W_gskip hA rfl rfl rfl 27 rfl (by decide) (fun a hA => ?_)
    refine W_gskip hA rfl rfl rfl 28 rfl (by decide) (fun a hA => ?_)
    refine W_gskip hA rfl rfl rfl 29 rfl (by decide) (fun a hA => ?_)
    refine W_gval hA rfl rfl rfl 30 rfl (by decide) _ _ (R_pick hA rfl rfl rfl _) (fun a hA => ?_)
    refine W_gval hA rfl rfl rfl 31 rfl (by decide) _ _ (R_mov hA rfl rfl _) (fun a hA => ?_)
    refine W_gskip hA rfl rfl rfl 32 rfl (by decide) (fun a hA => ?_)
    refine W_gskip hA rfl rfl rfl 33 rfl (by decide) (fun a hA => ?_)
    refine W_gskip hA rfl rfl rfl 34 rfl (by decide) (fun a hA => ?_)
    refine W_gval hA rfl rfl rfl 35 rfl (by decide) _ _ (R_pick hA rfl rfl rfl _) (fun a hA => ?_)
    refine W_val hA rfl 36 rfl (by decide) _ _ (R_pick hA rfl rfl rfl _) (fun a hA => ?_)
    refine W_val hA rfl 2 rfl (by decide) _ _ (R_asg hA rfl rfl _) (fun a hA => ?_)
    refine W_nil ?_
    refine then_nrm ?_
    show Code.wp Try.prog _ _ _ _
    refine wp_ret ?_
    refine ret_tmp (j := 2) (by kernel_rfl) hA (by decide) rfl ⟨congrArg (fun x : Bool => Ending.returned (.bool x)) ?_, HB⟩
    unfold okB
    first
      | (simp only [c1, c2, c3, c4, c5, c6, if_true, if_false, Bool.false_eq_true, Bool.not_true, Bool.not_false, Bool.true_and, Bool.false_and, Bool.and_true, Bool.and_false, Bool.true_or, Bool.false_or, Bool.or_true, Bool.or_false]; done)
      | (exfalso; simp_all; done)
      | (exfalso; simp_all; omega)
  refine W_gskip hA rfl rfl rfl 10 rfl (by decide) (fun a hA => ?_)
  refine W_gskip hA rfl rfl rfl 11 rfl (by decide) (fun a hA => ?_)
  refine W_gskip hA rfl rfl rfl 12 rfl (by decide) (fun a hA => ?_)
  refine W_gval hA rfl rfl rfl 13 rfl (by decide) _ _ (R_pick hA rfl rfl rfl _) (fun a hA => ?_)
  refine W_val hA rfl 14 rfl (by decide) _ _ (R_pick hA rfl rfl rfl _) (fun a hA => ?_)
  refine W_val hA rfl 15 rfl (by decide) _ _ (R_mov hA rfl rfl _) (fun a hA => ?_)
  refine W_gval hA rfl rfl rfl 16 rfl (by decide) _ _ (R_fa hA rfl rfl (fun w => fa_ent _ 9 (by decide) w) _) (fun a hA => ?_)
  refine W_gval hA rfl rfl rfl 17 rfl (by decide) _ _ (R_ld (v := .int .u64 (freeZ x)) hA rfl rfl ag_u64 (RowC.cell B1 9 _ rfl)) (fun a hA => ?_)
  refine W_gval hA rfl rfl rfl 18 rfl (by decide) _ _ (R_neqU hA rfl rfl rfl _) (fun a hA => ?_)
  refine W_val hA rfl 19 rfl (by decide) _ _ (R_pick hA rfl rfl rfl _) (fun a hA => ?_)
  refine W_nil ?_
  refine then_nrm ?_
  show Code.wp Try.prog _ _ _ _
  refine wp_cond_split (hA.ev (x := .tmp 19) rfl) (fun c8 => ?_) (fun c8 => ?_)
  · skip
    refine wp_seq ?_
    refine wp_region_list ?_
    refine W_val hA rfl 2 rfl (by decide) _ _ (R_asg hA rfl rfl _) (fun a hA => ?_)
    refine W_nil ?_
    refine then_nrm ?_
    show Code.wp Try.prog _ _ _ _
    refine wp_ret ?_
    refine then_ret ?_
    refine ret_tmp (j := 2) (by kernel_rfl) hA (by decide) rfl ⟨congrArg (fun x : Bool => Ending.returned (.bool x)) ?_, HB⟩
    unfold okB
    first
      | (simp only [c1, c2, c8, if_true, if_false, Bool.false_eq_true, Bool.not_true, Bool.not_false, Bool.true_and, Bool.false_and, Bool.and_true, Bool.and_false, Bool.true_or, Bool.false_or, Bool.or_true, Bool.or_false]; done)
      | (exfalso; simp_all; done)
      | (exfalso; simp_all; omega)
  refine wp_skip ?_
  refine then_nrm ?_
  show Code.wp Try.prog _ _ _ _
  refine wp_seq ?_
  refine wp_region_list ?_
  refine W_val hA rfl 20 rfl (by decide) _ _ (R_row hA rfl rfl B1 Try.underlying33 (by kernel_rfl)) (fun a hA => ?_)
  refine W_callA hA (by decide) (fun _ _ => by kernel_rfl) (args1 hA rfl) (dleaf_any x _) (fun w3 hw a hA => ?_)
  replace HB := HB.trans (hw.mono HB.size)
  replace B1 := B1.below hw
  clear hw
  refine W_val hA rfl 22 rfl (by decide) _ _ (R_mov hA rfl rfl _) (fun a hA => ?_)
  refine W_split hA 22 rfl (fun c9 hA => ?_) (fun c9 hA => ?_)
  · skip
    refine W_gskip hA rfl rfl rfl 23 rfl (by decide) (fun a hA => ?_)
    refine W_gskip hA rfl rfl rfl 24 rfl (by decide) (fun a hA => ?_)
    refine W_gskip hA rfl rfl rfl 25 rfl (by decide) (fun a hA => ?_)
    refine W_gskip hA rfl rfl rfl 26 rfl (by decide) (fun a hA => ?_)
    refine W_gskipU hA rfl rfl rfl 27 rfl (by decide) (fun a hA => ?_)
    refine W_gskipU hA rfl rfl rfl 28 rfl (by decide) (fun a hA => ?_)
    refine W_gskipU hA rfl rfl rfl 29 rfl (by decide) (fun a hA => ?_)
    refine W_gskip hA rfl rfl rfl 30 rfl (by decide) (fun a hA => ?_)
    refine W_gskip hA rfl rfl rfl 31 rfl (by decide) (fun a hA => ?_)
    refine W_gskipU hA rfl rfl rfl 32 rfl (by decide) (fun a hA => ?_)
    refine W_gskipU hA rfl rfl rfl 33 rfl (by decide) (fun a hA => ?_)
    refine W_gskipU hA rfl rfl rfl 34 rfl (by decide) (fun a hA => ?_)
    refine W_gskip hA rfl rfl rfl 35 rfl (by decide) (fun a hA => ?_)
    refine W_val hA rfl 36 rfl (by decide) _ _ (R_pick hA rfl rfl rfl _) (fun a hA => ?_)
    refine W_val hA rfl 2 rfl (by decide) _ _ (R_asg hA rfl rfl _) (fun a hA => ?_)
    refine W_nil ?_
    refine then_nrm ?_
    show Code.wp Try.prog _ _ _ _
    refine wp_ret ?_
    refine ret_tmp (j := 2) (by kernel_rfl) hA (by decide) rfl ⟨congrArg (fun x : Bool => Ending.returned (.bool x)) ?_, HB⟩
    unfold okB
    first
      | (simp only [c1, c2, c8, c9, if_true, if_false, Bool.false_eq_true, Bool.not_true, Bool.not_false, Bool.true_and, Bool.false_and, Bool.and_true, Bool.and_false, Bool.true_or, Bool.false_or, Bool.or_true, Bool.or_false]; done)
      | (exfalso; simp_all; done)
      | (exfalso; simp_all; omega)
  refine W_gval hA rfl rfl rfl 23 rfl (by decide) _ _ (R_fa hA rfl rfl (fun w => fa_ent _ 6 (by decide) w) _) (fun a hA => ?_)
  refine W_gval hA rfl rfl rfl 24 rfl (by decide) _ _ (R_ld (v := .bool (bitZ x 6)) hA rfl rfl ag_bool (RowC.cell B1 6 _ rfl)) (fun a hA => ?_)
  refine W_gval hA rfl rfl rfl 25 rfl (by decide) _ _ (R_not hA rfl rfl _) (fun a hA => ?_)
  refine W_gval hA rfl rfl rfl 26 rfl (by decide) _ _ (R_mov hA rfl rfl _) (fun a hA => ?_)
  refine W_split hA 26 rfl (fun c10 hA => ?_) (fun c10 hA => ?_)
  · skip
    refine W_gval hA rfl rfl rfl 27 rfl (by decide) _ _ (R_fa hA rfl rfl (fun w => fa_ent _ 7 (by decide) w) _) (fun a hA => ?_)
    refine W_gval hA rfl rfl rfl 28 rfl (by decide) _ _ (R_ld (v := .bool (bitZ x 7)) hA rfl rfl ag_bool (RowC.cell B1 7 _ rfl)) (fun a hA => ?_)
    refine W_gval hA rfl rfl rfl 29 rfl (by decide) _ _ (R_not hA rfl rfl _) (fun a hA => ?_)
    refine W_gval hA rfl rfl rfl 30 rfl (by decide) _ _ (R_pick hA rfl rfl rfl _) (fun a hA => ?_)
    refine W_gval hA rfl rfl rfl 31 rfl (by decide) _ _ (R_mov hA rfl rfl _) (fun a hA => ?_)
    refine W_split hA 31 rfl (fun c11 hA => ?_) (fun c11 hA => ?_)
    · skip
      refine W_gval hA rfl rfl rfl 32 rfl (by decide) _ _ (R_fa hA rfl rfl (fun w => fa_ent _ 4 (by decide) w) _) (fun a hA => ?_)
      refine W_gval hA rfl rfl rfl 33 rfl (by decide) _ _ (R_ld (v := .bool (bitZ x 4)) hA rfl rfl ag_bool (RowC.cell B1 4 _ rfl)) (fun a hA => ?_)
      refine W_gval hA rfl rfl rfl 34 rfl (by decide) _ _ (R_not hA rfl rfl _) (fun a hA => ?_)
      refine W_gval hA rfl rfl rfl 35 rfl (by decide) _ _ (R_pick hA rfl rfl rfl _) (fun a hA => ?_)
      refine W_val hA rfl 36 rfl (by decide) _ _ (R_pick hA rfl rfl rfl _) (fun a hA => ?_)
      refine W_val hA rfl 2 rfl (by decide) _ _ (R_asg hA rfl rfl _) (fun a hA => ?_)
      refine W_nil ?_
      refine then_nrm ?_
      show Code.wp Try.prog _ _ _ _
      refine wp_ret ?_
      refine ret_tmp (j := 2) (by kernel_rfl) hA (by decide) rfl ⟨congrArg (fun x : Bool => Ending.returned (.bool x)) ?_, HB⟩
      unfold okB
      first
        | (simp only [c1, c2, c8, c9, c10, c11, if_true, if_false, Bool.false_eq_true, Bool.not_true, Bool.not_false, Bool.true_and, Bool.false_and, Bool.and_true, Bool.and_false, Bool.true_or, Bool.false_or, Bool.or_true, Bool.or_false]; done)
        | (exfalso; simp_all; done)
        | (exfalso; simp_all; omega)
    refine W_gskip hA rfl rfl rfl 32 rfl (by decide) (fun a hA => ?_)
    refine W_gskip hA rfl rfl rfl 33 rfl (by decide) (fun a hA => ?_)
    refine W_gskip hA rfl rfl rfl 34 rfl (by decide) (fun a hA => ?_)
    refine W_gval hA rfl rfl rfl 35 rfl (by decide) _ _ (R_pick hA rfl rfl rfl _) (fun a hA => ?_)
    refine W_val hA rfl 36 rfl (by decide) _ _ (R_pick hA rfl rfl rfl _) (fun a hA => ?_)
    refine W_val hA rfl 2 rfl (by decide) _ _ (R_asg hA rfl rfl _) (fun a hA => ?_)
    refine W_nil ?_
    refine then_nrm ?_
    show Code.wp Try.prog _ _ _ _
    refine wp_ret ?_
    refine ret_tmp (j := 2) (by kernel_rfl) hA (by decide) rfl ⟨congrArg (fun x : Bool => Ending.returned (.bool x)) ?_, HB⟩
    unfold okB
    first
      | (simp only [c1, c2, c8, c9, c10, c11, if_true, if_false, Bool.false_eq_true, Bool.not_true, Bool.not_false, Bool.true_and, Bool.false_and, Bool.and_true, Bool.and_false, Bool.true_or, Bool.false_or, Bool.or_true, Bool.or_false]; done)
      | (exfalso; simp_all; done)
      | (exfalso; simp_all; omega)
  refine W_gskip hA rfl rfl rfl 27 rfl (by decide) (fun a hA => ?_)
  refine W_gskip hA rfl rfl rfl 28 rfl (by decide) (fun a hA => ?_)
  refine W_gskip hA rfl rfl rfl 29 rfl (by decide) (fun a hA => ?_)
  refine W_gval hA rfl rfl rfl 30 rfl (by decide) _ _ (R_pick hA rfl rfl rfl _) (fun a hA => ?_)
  refine W_gval hA rfl rfl rfl 31 rfl (by decide) _ _ (R_mov hA rfl rfl _) (fun a hA => ?_)
  refine W_gskip hA rfl rfl rfl 32 rfl (by decide) (fun a hA => ?_)
  refine W_gskip hA rfl rfl rfl 33 rfl (by decide) (fun a hA => ?_)
  refine W_gskip hA rfl rfl rfl 34 rfl (by decide) (fun a hA => ?_)
  refine W_gval hA rfl rfl rfl 35 rfl (by decide) _ _ (R_pick hA rfl rfl rfl _) (fun a hA => ?_)
  refine W_val hA rfl 36 rfl (by decide) _ _ (R_pick hA rfl rfl rfl _) (fun a hA => ?_)
  refine W_val hA rfl 2 rfl (by decide) _ _ (R_asg hA rfl rfl _) (fun a hA => ?_)
  refine W_nil ?_
  refine then_nrm ?_
  show Code.wp Try.prog _ _ _ _
  refine wp_ret ?_
  refine ret_tmp (j := 2) (by kernel_rfl) hA (by decide) rfl ⟨congrArg (fun x : Bool => Ending.returned (.bool x)) ?_, HB⟩
  unfold okB
  first
    | (simp only [c1, c2, c8, c9, c10, if_true, if_false, Bool.false_eq_true, Bool.not_true, Bool.not_false, Bool.true_and, Bool.false_and, Bool.and_true, Bool.and_false, Bool.true_or, Bool.false_or, Bool.or_true, Bool.or_false]; done)
    | (exfalso; simp_all; done)
    | (exfalso; simp_all; omega)
set_option maxHeartbeats 8000000 in
theorem dallow_any (x : Int) (s : WS) (w : World) : Calls Try.prog 23 #[entV x, wantV s] w fun e w' => e = .returned (.bool (allowB x s)) ∧ Below w.heap.size w w' := by
  have HB := Below.refl w.heap.size w
  go_enter Try.func23, Try.ntmps23
  refine begin_fr [(1, wantV s), (0, entV x)] 69 ?_ (fun a hA => ?_)
  · exact FrA.add (FrA.add (FrA.nil (by rfl) (by rfl)) 0 _ (by rfl)) 1 _ (by rfl)
  refine wp_seq ?_
  refine wp_region_list ?_
  refine W_boxT (cs := entC x) hA rfl 2 rfl (by decide) rfl rfl (fun w1 bB2 a hA hb B2 gB2 => ?_)
  replace gB2 := Nat.le_trans HB.size gB2
  replace HB := HB.trans (hb.mono HB.size)
  clear hb
  refine W_boxT (cs := wantC s) hA rfl 3 rfl (by decide) rfl rfl (fun w2 bB3 a hA hb B3 gB3 => ?_)
  have nB2B3 : bB2 < bB3 := by have := B2.lt; omega
  replace gB3 := Nat.le_trans HB.size gB3
  replace HB := HB.trans (hb.mono HB.size)
  replace B2 := B2.below hb
  clear hb
  refine W_val hA rfl 4 rfl (by decide) _ _ (R_asg hA rfl rfl _) (fun a hA => ?_)
  refine W_nil ?_
  refine then_nrm ?_
  show Code.wp Try.prog _ _ _ _
  refine wp_seq ?_
  refine wp_seq ?_
  refine wp_region_list ?_
  refine W_val hA rfl 5 rfl (by decide) _ _ (R_fa hA rfl rfl (fun w => fa_want _ 0 (by decide) w) _) (fun a hA => ?_)
  refine W_val hA rfl 6 rfl (by decide) _ _ (R_ld (v := .int .u8 s.kind) hA rfl rfl ag_u8 (RowC.cell B3 0 _ rfl)) (fun a hA => ?_)
  refine W_val hA rfl 7 rfl (by decide) _ _ (R_gtrB hA rfl rfl rfl _) (fun a hA => ?_)
  refine W_nil ?_
  refine then_nrm ?_
  show Code.wp Try.prog _ _ _ _
  refine wp_cond_split (hA.ev (x := .tmp 7) rfl) (fun c1 => ?_) (fun c1 => ?_)
  · skip
    refine wp_seq ?_
    refine wp_region_list ?_
    refine W_val hA rfl 4 rfl (by decide) _ _ (R_asg hA rfl rfl _) (fun a hA => ?_)
    refine W_nil ?_
    refine then_nrm ?_
    show Code.wp Try.prog _ _ _ _
    refine wp_ret ?_
    refine then_ret ?_
    refine ret_tmp (j := 4) (by kernel_rfl) hA (by decide) rfl ⟨congrArg (fun x : Bool => Ending.returned (.bool x)) ?_, HB⟩
    unfold allowB
    first
      | (simp only [c1, if_true, if_false, Bool.false_eq_true, Bool.not_true, Bool.not_false, Bool.true_and, Bool.false_and, Bool.and_true, Bool.and_false, Bool.true_or, Bool.false_or, Bool.or_true, Bool.or_false]; done)
      | (exfalso; simp_all; done)
      | (exfalso; simp_all; omega)
  refine wp_skip ?_
  refine then_nrm ?_
  show Code.wp Try.prog _ _ _ _
  refine wp_seq ?_
  refine wp_seq ?_
  refine wp_region_list ?_
  refine W_val hA rfl 8 rfl (by decide) _ _ (R_fa hA rfl rfl (fun w => fa_want _ 2 (by decide) w) _) (fun a hA => ?_)
  refine W_val hA rfl 9 rfl (by decide) _ _ (R_ld (v := .int .u8 s.priv) hA rfl rfl ag_u8 (RowC.cell B3 2 _ rfl)) (fun a hA => ?_)
  refine W_val hA rfl 10 rfl (by decide) _ _ (R_eqlB hA rfl rfl rfl _) (fun a hA => ?_)
  refine W_val hA rfl 11 rfl (by decide) _ _ (R_mov hA rfl rfl _) (fun a hA => ?_)
  refine W_split hA 11 rfl (fun c2 hA => ?_) (fun c2 hA => ?_)
  · skip
    refine W_gval hA rfl rfl rfl 12 rfl (by decide) _ _ (R_fa hA rfl rfl (fun w => fa_ent _ 4 (by decide) w) _) (fun a hA => ?_)
    refine W_gval hA rfl rfl rfl 13 rfl (by decide) _ _ (R_ld (v := .bool (bitZ x 4)) hA rfl rfl ag_bool (RowC.cell B2 4 _ rfl)) (fun a hA => ?_)
    refine W_gval hA rfl rfl rfl 14 rfl (by decide) _ _ (R_not hA rfl rfl _) (fun a hA => ?_)
    refine W_val hA rfl 15 rfl (by decide) _ _ (R_pick hA rfl rfl rfl _) (fun a hA => ?_)
    refine W_nil ?_
    refine then_nrm ?_
    show Code.wp Try.prog _ _ _ _
    refine wp_cond_split (hA.ev (x := .tmp 15) rfl) (fun c3 => ?_) (fun c3 => ?_)
    · skip
      refine wp_seq ?_
      refine wp_region_list ?_
      refine W_val hA rfl 4 rfl (by decide) _ _ (R_asg hA rfl rfl _) (fun a hA => ?_)
      refine W_nil ?_
      refine then_nrm ?_
      show Code.wp Try.prog _ _ _ _
      refine wp_ret ?_
      refine then_ret ?_
      refine ret_tmp (j := 4) (by kernel_rfl) hA (by decide) rfl ⟨congrArg (fun x : Bool => Ending.returned (.bool x)) ?_, HB⟩
      unfold allowB
      first
        | (simp only [c1, c2, c3, if_true, if_false, Bool.false_eq_true, Bool.not_true, Bool.not_false, Bool.true_and, Bool.false_and, Bool.and_true, Bool.and_false, Bool.true_or, Bool.false_or, Bool.or_true, Bool.or_false]; done)
        | (exfalso; simp_all; done)
        | (exfalso; simp_all; omega)
    refine wp_skip ?_
    refine then_nrm ?_
    show Code.wp Try.prog _ _ _ _
    refine wp_seq ?_
    refine wp_seq ?_
    refine wp_region_list ?_
    refine W_val hA rfl 16 rfl (by decide) _ _ (R_fa hA rfl rfl (fun w => fa_want _ 2 (by decide) w) _) (fun a hA => ?_)
    refine W_val hA rfl 17 rfl (by decide) _ _ (R_ld (v := .int .u8 s.priv) hA rfl rfl ag_u8 (RowC.cell B3 2 _ rfl)) (fun a hA => ?_)
    refine W_val hA rfl 18 rfl (by decide) _ _ (R_neqB hA rfl rfl rfl _) (fun a hA => ?_)
    refine W_val hA rfl 19 rfl (by decide) _ _ (R_mov hA rfl rfl _) (fun a hA => ?_)
    refine W_split hA 19 rfl (fun c4 hA => ?_) (fun c4 hA => ?_)
    · skip
      refine W_gval hA rfl rfl rfl 20 rfl (by decide) _ _ (R_fa hA rfl rfl (fun w => fa_ent _ 4 (by decide) w) _) (fun a hA => ?_)
      refine W_gval hA rfl rfl rfl 21 rfl (by decide) _ _ (R_ld (v := .bool (bitZ x 4)) hA rfl rfl ag_bool (RowC.cell B2 4 _ rfl)) (fun a hA => ?_)
      refine W_val hA rfl 22 rfl (by decide) _ _ (R_pick hA rfl rfl rfl _) (fun a hA => ?_)
      refine W_val hA rfl 23 rfl (by decide) _ _ (R_mov hA rfl rfl _) (fun a hA => ?_)
      refine W_split hA 23 rfl (fun c5 hA => ?_) (fun c5 hA => ?_)
      · skip
        refine W_gval hA rfl rfl rfl 24 rfl (by decide) _ _ (R_fa hA rfl rfl (fun w => fa_want _ 0 (by decide) w) _) (fun a hA => ?_)
        refine W_gval hA rfl rfl rfl 25 rfl (by decide) _ _ (R_ld (v := .int .u8 s.kind) hA rfl rfl ag_u8 (RowC.cell B3 0 _ rfl)) (fun a hA => ?_)
        refine W_gval hA rfl rfl rfl 26 rfl (by decide) _ _ (R_eqlB hA rfl rfl rfl _) (fun a hA => ?_)
        refine W_gval hA rfl rfl rfl 27 rfl (by decide) _ _ (R_mov hA rfl rfl _) (fun a hA => ?_)
        refine W_split hA 27 rfl (fun c6 hA => ?_) (fun c6 hA => ?_)
        · skip
          refine W_gskip hA rfl rfl rfl 28 rfl (by decide) (fun a hA => ?_)
          refine W_gskip hA rfl rfl rfl 29 rfl (by decide) (fun a hA => ?_)
          refine W_gskip hA rfl rfl rfl 30 rfl (by decide) (fun a hA => ?_)
          refine W_gval hA rfl rfl rfl 31 rfl (by decide) _ _ (R_pick hA rfl rfl rfl _) (fun a hA => ?_)
          refine W_val hA rfl 32 rfl (by decide) _ _ (R_pick hA rfl rfl rfl _) (fun a hA => ?_)
          refine W_nil ?_
          refine then_nrm ?_
          show Code.wp Try.prog _ _ _ _
          refine wp_cond_true (hA.ev (x := .tmp 32) rfl) ?_
          refine wp_seq ?_
          refine wp_region_list ?_
          refine W_val hA rfl 4 rfl (by decide) _ _ (R_asg hA rfl rfl _) (fun a hA => ?_)
          refine W_nil ?_
          refine then_nrm ?_
          show Code.wp Try.prog _ _ _ _
          refine wp_ret ?_
          refine then_ret ?_
          refine ret_tmp (j := 4) (by kernel_rfl) hA (by decide) rfl ⟨congrArg (fun x : Bool => Ending.returned (.bool x)) ?_, HB⟩
          unfold allowB
          first
            | (simp only [c1, c2, c3, c4, c5, c6, if_true, if_false, Bool.false_eq_true, Bool.not_true, Bool.not_false, Bool.true_and, Bool.false_and, Bool.and_true, Bool.and_false, Bool.true_or, Bool.false_or, Bool.or_true, Bool.or_false]; done)
            | (exfalso; simp_all; done)
            | (exfalso; simp_all; omega)
        refine W_gval hA rfl rfl rfl 28 rfl (by decide) _ _ (R_fa hA rfl rfl (fun w => fa_want _ 4 (by decide) w) _) (fun a hA => ?_)
        refine W_gval hA rfl rfl rfl 29 rfl (by decide) _ _ (R_ld (v := .bool s.sum) hA rfl rfl ag_bool (RowC.cell B3 4 _ rfl)) (fun a hA => ?_)
        refine W_gval hA rfl rfl rfl 30 rfl (by decide) _ _ (R_not hA rfl rfl _) (fun a hA => ?_)
        refine W_gval hA rfl rfl rfl 31 rfl (by decide) _ _ (R_pick hA rfl rfl rfl _) (fun a hA => ?_)
        refine W_val hA rfl 32 rfl (by decide) _ _ (R_pick hA rfl rfl rfl _) (fun a hA => ?_)
        refine W_nil ?_
        refine then_nrm ?_
        show Code.wp Try.prog _ _ _ _
        refine wp_cond_split (hA.ev (x := .tmp 32) rfl) (fun c7 => ?_) (fun c7 => ?_)
        · skip
          refine wp_seq ?_
          refine wp_region_list ?_
          refine W_val hA rfl 4 rfl (by decide) _ _ (R_asg hA rfl rfl _) (fun a hA => ?_)
          refine W_nil ?_
          refine then_nrm ?_
          show Code.wp Try.prog _ _ _ _
          refine wp_ret ?_
          refine then_ret ?_
          refine ret_tmp (j := 4) (by kernel_rfl) hA (by decide) rfl ⟨congrArg (fun x : Bool => Ending.returned (.bool x)) ?_, HB⟩
          unfold allowB
          first
            | (simp only [c1, c2, c3, c4, c5, c6, c7, if_true, if_false, Bool.false_eq_true, Bool.not_true, Bool.not_false, Bool.true_and, Bool.false_and, Bool.and_true, Bool.and_false, Bool.true_or, Bool.false_or, Bool.or_true, Bool.or_false]; done)
            | (exfalso; simp_all; done)
            | (exfalso; simp_all; omega)
        refine wp_skip ?_
        refine then_nrm ?_
        show Code.wp Try.prog _ _ _ _
        refine wp_seq ?_
        refine wp_seq ?_
        refine wp_region_list ?_
        refine W_val hA rfl 33 rfl (by decide) _ _ (R_fa hA rfl rfl (fun w => fa_want _ 0 (by decide) w) _) (fun a hA => ?_)
        refine W_val hA rfl 34 rfl (by decide) _ _ (R_ld (v := .int .u8 s.kind) hA rfl rfl ag_u8 (RowC.cell B3 0 _ rfl)) (fun a hA => ?_)
        refine W_val hA rfl 35 rfl (by decide) _ _ (R_eqlB hA rfl rfl rfl _) (fun a hA => ?_)
        refine W_nil ?_
        refine then_nrm ?_
        show Code.wp Try.prog _ _ _ _
        refine wp_cond_split (hA.ev (x := .tmp 35) rfl) (fun c8 => ?_) (fun c8 => ?_)
        · skip
          refine wp_seq ?_
          refine wp_region_list ?_
          refine W_val hA rfl 36 rfl (by decide) _ _ (R_fa hA rfl rfl (fun w => fa_ent _ 3 (by decide) w) _) (fun a hA => ?_)
          refine W_val hA rfl 37 rfl (by decide) _ _ (R_ld (v := .bool (bitZ x 3)) hA rfl rfl ag_bool (RowC.cell B2 3 _ rfl)) (fun a hA => ?_)
          refine W_val hA rfl 4 rfl (by decide) _ _ (R_asg hA rfl rfl _) (fun a hA => ?_)
          refine W_nil ?_
          refine then_nrm ?_
          show Code.wp Try.prog _ _ _ _
          refine wp_ret ?_
          refine then_ret ?_
          refine ret_tmp (j := 4) (by kernel_rfl) hA (by decide) rfl ⟨congrArg (fun x : Bool => Ending.returned (.bool x)) ?_, HB⟩
          unfold allowB
          first
            | (simp only [c1, c2, c3, c4, c5, c6, c7, c8, if_true, if_false, Bool.false_eq_true, Bool.not_true, Bool.not_false, Bool.true_and, Bool.false_and, Bool.and_true, Bool.and_false, Bool.true_or, Bool.false_or, Bool.or_true, Bool.or_false]; done)
            | (exfalso; simp_all; done)
            | (exfalso; simp_all; omega)
        refine wp_skip ?_
        refine then_nrm ?_
        show Code.wp Try.prog _ _ _ _
        refine wp_seq ?_
        refine wp_seq ?_
        refine wp_region_list ?_
        refine W_val hA rfl 38 rfl (by decide) _ _ (R_fa hA rfl rfl (fun w => fa_want _ 0 (by decide) w) _) (fun a hA => ?_)
        refine W_val hA rfl 39 rfl (by decide) _ _ (R_ld (v := .int .u8 s.kind) hA rfl rfl ag_u8 (RowC.cell B3 0 _ rfl)) (fun a hA => ?_)
        refine W_val hA rfl 40 rfl (by decide) _ _ (R_eqlB hA rfl rfl rfl _) (fun a hA => ?_)
        refine W_nil ?_
        refine then_nrm ?_
        show Code.wp Try.prog _ _ _ _
        refine wp_cond_split (hA.ev (x := .tmp 40) rfl) (fun c9 => ?_) (fun c9 => ?_)
        · skip
          refine wp_seq ?_
          refine wp_region_list ?_
          refine W_val hA rfl 41 rfl (by decide) _ _ (R_fa hA rfl rfl (fun w => fa_ent _ 2 (by decide) w) _) (fun a hA => ?_)
          refine W_val hA rfl 42 rfl (by decide) _ _ (R_ld (v := .bool (bitZ x 2)) hA rfl rfl ag_bool (RowC.cell B2 2 _ rfl)) (fun a hA => ?_)
          refine W_val hA rfl 4 rfl (by decide) _ _ (R_asg hA rfl rfl _) (fun a hA => ?_)
          refine W_nil ?_
          refine then_nrm ?_
          show Code.wp Try.prog _ _ _ _
          refine wp_ret ?_
          refine then_ret ?_
          refine ret_tmp (j := 4) (by kernel_rfl) hA (by decide) rfl ⟨congrArg (fun x : Bool => Ending.returned (.bool x)) ?_, HB⟩
          unfold allowB
          first
            | (simp only [c1, c2, c3, c4, c5, c6, c7, c8, c9, if_true, if_false, Bool.false_eq_true, Bool.not_true, Bool.not_false, Bool.true_and, Bool.false_and, Bool.and_true, Bool.and_false, Bool.true_or, Bool.false_or, Bool.or_true, Bool.or_false]; done)
            | (exfalso; simp_all; done)
            | (exfalso; simp_all; omega)
        refine wp_skip ?_
        refine then_nrm ?_
        show Code.wp Try.prog _ _ _ _
        refine wp_seq ?_
        refine wp_seq ?_
        refine wp_region_list ?_
        refine W_val hA rfl 43 rfl (by decide) _ _ (R_fa hA rfl rfl (fun w => fa_want _ 1 (by decide) w) _) (fun a hA => ?_)
        refine W_val hA rfl 44 rfl (by decide) _ _ (R_ld (v := .bool s.ex) hA rfl rfl ag_bool (RowC.cell B3 1 _ rfl)) (fun a hA => ?_)
        refine W_nil ?_
        refine then_nrm ?_
        show Code.wp Try.prog _ _ _ _
        refine wp_cond_split (hA.ev (x := .tmp 44) rfl) (fun c10 => ?_) (fun c10 => ?_)
        · skip
          refine wp_seq ?_
          refine wp_region_list ?_
          refine W_val hA rfl 45 rfl (by decide) _ _ (R_fa hA rfl rfl (fun w => fa_ent _ 3 (by decide) w) _) (fun a hA => ?_)
          refine W_val hA rfl 46 rfl (by decide) _ _ (R_ld (v := .bool (bitZ x 3)) hA rfl rfl ag_bool (RowC.cell B2 3 _ rfl)) (fun a hA => ?_)
          refine W_val hA rfl 4 rfl (by decide) _ _ (R_asg hA rfl rfl _) (fun a hA => ?_)
          refine W_nil ?_
          refine then_nrm ?_
          show Code.wp Try.prog _ _ _ _
          refine wp_ret ?_
          refine then_ret ?_
          refine ret_tmp (j := 4) (by kernel_rfl) hA (by decide) rfl ⟨congrArg (fun x : Bool => Ending.returned (.bool x)) ?_, HB⟩
          unfold allowB
          first
            | (simp only [c1, c2, c3, c4, c5, c6, c7, c8, c9, c10, if_true, if_false, Bool.false_eq_true, Bool.not_true, Bool.not_false, Bool.true_and, Bool.false_and, Bool.and_true, Bool.and_false, Bool.true_or, Bool.false_or, Bool.or_true, Bool.or_false]; done)
            | (exfalso; simp_all; done)
            | (exfalso; simp_all; omega)
        refine wp_skip ?_
        refine then_nrm ?_
        show Code.wp Try.prog _ _ _ _
        refine wp_seq ?_
        refine wp_region_list ?_
        refine W_val hA rfl 47 rfl (by decide) _ _ (R_fa hA rfl rfl (fun w => fa_ent _ 1 (by decide) w) _) (fun a hA => ?_)
        refine W_val hA rfl 48 rfl (by decide) _ _ (R_ld (v := .bool (bitZ x 1)) hA rfl rfl ag_bool (RowC.cell B2 1 _ rfl)) (fun a hA => ?_)
        refine W_val hA rfl 49 rfl (by decide) _ _ (R_mov hA rfl rfl _) (fun a hA => ?_)
        refine W_split hA 49 rfl (fun c11 hA => ?_) (fun c11 hA => ?_)
        · skip
          refine W_gskip hA rfl rfl rfl 50 rfl (by decide) (fun a hA => ?_)
          refine W_gskip hA rfl rfl rfl 51 rfl (by decide) (fun a hA => ?_)
          refine W_gskip hA rfl rfl rfl 52 rfl (by decide) (fun a hA => ?_)
          refine W_gskipU hA rfl rfl rfl 53 rfl (by decide) (fun a hA => ?_)
          refine W_gskipU hA rfl rfl rfl 54 rfl (by decide) (fun a hA => ?_)
          refine W_gskip hA rfl rfl rfl 55 rfl (by decide) (fun a hA => ?_)
          refine W_val hA rfl 56 rfl (by decide) _ _ (R_pick hA rfl rfl rfl _) (fun a hA => ?_)
          refine W_val hA rfl 57 rfl (by decide) _ _ (R_mov hA rfl rfl _) (fun a hA => ?_)
          refine W_gskip hA rfl rfl rfl 58 rfl (by decide) (fun a hA => ?_)
          refine W_gskip hA rfl rfl rfl 59 rfl (by decide) (fun a hA => ?_)
          refine W_gskip hA rfl rfl rfl 60 rfl (by decide) (fun a hA => ?_)
          refine W_gskipU hA rfl rfl rfl 61 rfl (by decide) (fun a hA => ?_)
          refine W_gskipU hA rfl rfl rfl 62 rfl (by decide) (fun a hA => ?_)
          refine W_gskip hA rfl rfl rfl 63 rfl (by decide) (fun a hA => ?_)
          refine W_gskip hA rfl rfl rfl 64 rfl (by decide) (fun a hA => ?_)
          refine W_gskipU hA rfl rfl rfl 65 rfl (by decide) (fun a hA => ?_)
          refine W_gskipU hA rfl rfl rfl 66 rfl (by decide) (fun a hA => ?_)
          refine W_gskip hA rfl rfl rfl 67 rfl (by decide) (fun a hA => ?_)
          refine W_val hA rfl 68 rfl (by decide) _ _ (R_pick hA rfl rfl rfl _) (fun a hA => ?_)
          refine W_val hA rfl 4 rfl (by decide) _ _ (R_asg hA rfl rfl _) (fun a hA => ?_)
          refine W_nil ?_
          refine then_nrm ?_
          show Code.wp Try.prog _ _ _ _
          refine wp_ret ?_
          refine ret_tmp (j := 4) (by kernel_rfl) hA (by decide) rfl ⟨congrArg (fun x : Bool => Ending.returned (.bool x)) ?_, HB⟩
          unfold allowB
          first
            | (simp only [c1, c2, c3, c4, c5, c6, c7, c8, c9, c10, c11, if_true, if_false, Bool.false_eq_true, Bool.not_true, Bool.not_false, Bool.true_and, Bool.false_and, Bool.and_true, Bool.and_false, Bool.true_or, Bool.false_or, Bool.or_true, Bool.or_false]; done)
            | (exfalso; simp_all; done)
            | (exfalso; simp_all; omega)
        refine W_gval hA rfl rfl rfl 50 rfl (by decide) _ _ (R_fa hA rfl rfl (fun w => fa_ent _ 3 (by decide) w) _) (fun a hA => ?_)
        refine W_gval hA rfl rfl rfl 51 rfl (by decide) _ _ (R_ld (v := .bool (bitZ x 3)) hA rfl rfl ag_bool (RowC.cell B2 3 _ rfl)) (fun a hA => ?_)
        refine W_gval hA rfl rfl rfl 52 rfl (by decide) _ _ (R_mov hA rfl rfl _) (fun a hA => ?_)
        refine W_split hA 52 rfl (fun c12 hA => ?_) (fun c12 hA => ?_)
        · skip
          refine W_gval hA rfl rfl rfl 53 rfl (by decide) _ _ (R_fa hA rfl rfl (fun w => fa_want _ 5 (by decide) w) _) (fun a hA => ?_)
          refine W_gval hA rfl rfl rfl 54 rfl (by decide) _ _ (R_ld (v := .bool s.mxr) hA rfl rfl ag_bool (RowC.cell B3 5 _ rfl)) (fun a hA => ?_)
          refine W_gval hA rfl rfl rfl 55 rfl (by decide) _ _ (R_pick hA rfl rfl rfl _) (fun a hA => ?_)
          refine W_val hA rfl 56 rfl (by decide) _ _ (R_pick hA rfl rfl rfl _) (fun a hA => ?_)
          refine W_val hA rfl 57 rfl (by decide) _ _ (R_mov hA rfl rfl _) (fun a hA => ?_)
          refine W_split hA 57 rfl (fun c13 hA => ?_) (fun c13 hA => ?_)
          · skip
            refine W_gskip hA rfl rfl rfl 58 rfl (by decide) (fun a hA => ?_)
            refine W_gskip hA rfl rfl rfl 59 rfl (by decide) (fun a hA => ?_)
            refine W_gskip hA rfl rfl rfl 60 rfl (by decide) (fun a hA => ?_)
            refine W_gskipU hA rfl rfl rfl 61 rfl (by decide) (fun a hA => ?_)
            refine W_gskipU hA rfl rfl rfl 62 rfl (by decide) (fun a hA => ?_)
            refine W_gskip hA rfl rfl rfl 63 rfl (by decide) (fun a hA => ?_)
            refine W_gskip hA rfl rfl rfl 64 rfl (by decide) (fun a hA => ?_)
            refine W_gskipU hA rfl rfl rfl 65 rfl (by decide) (fun a hA => ?_)
            refine W_gskipU hA rfl rfl rfl 66 rfl (by decide) (fun a hA => ?_)
            refine W_gskip hA rfl rfl rfl 67 rfl (by decide) (fun a hA => ?_)
            refine W_val hA rfl 68 rfl (by decide) _ _ (R_pick hA rfl rfl rfl _) (fun a hA => ?_)
            refine W_val hA rfl 4 rfl (by decide) _ _ (R_asg hA rfl rfl _) (fun a hA => ?_)
            refine W_nil ?_
            refine then_nrm ?_
            show Code.wp Try.prog _ _ _ _
            refine wp_ret ?_
            refine ret_tmp (j := 4) (by kernel_rfl) hA (by decide) rfl ⟨congrArg (fun x : Bool => Ending.returned (.bool x)) ?_, HB⟩
            unfold allowB
            first
              | (simp only [c1, c2, c3, c4, c5, c6, c7, c8, c9, c10, c11, c12, c13, if_true, if_false, Bool.false_eq_true, Bool.not_true, Bool.not_false, Bool.true_and, Bool.false_and, Bool.and_true, Bool.and_false, Bool.true_or, Bool.false_or, Bool.or_true, Bool.or_false]; done)
              | (exfalso; simp_all; done)
              | (exfalso; simp_all; omega)
          refine W_gval hA rfl rfl rfl 58 rfl (by decide) _ _ (R_fa hA rfl rfl (fun w => fa_ent _ 3 (by decide) w) _) (fun a hA => ?_)
          refine W_gval hA rfl rfl rfl 59 rfl (by decide) _ _ (R_ld (v := .bool (bitZ x 3)) hA rfl rfl ag_bool (RowC.cell B2 3 _ rfl)) (fun a hA => ?_)
          refine W_gval hA rfl rfl rfl 60 rfl (by decide) _ _ (R_mov hA rfl rfl _) (fun a hA => ?_)
          refine W_split hA 60 rfl (fun c14 hA => ?_) (fun c14 hA => ?_)
          · skip
            refine W_gval hA rfl rfl rfl 61 rfl (by decide) _ _ (R_fa hA rfl rfl (fun w => fa_want _ 3 (by decide) w) _) (fun a hA => ?_)
            refine W_gval hA rfl rfl rfl 62 rfl (by decide) _ _ (R_ld (v := .bool s.v) hA rfl rfl ag_bool (RowC.cell B3 3 _ rfl)) (fun a hA => ?_)
            refine W_gval hA rfl rfl rfl 63 rfl (by decide) _ _ (R_pick hA rfl rfl rfl _) (fun a hA => ?_)
            refine W_gval hA rfl rfl rfl 64 rfl (by decide) _ _ (R_mov hA rfl rfl _) (fun a hA => ?_)
            refine W_split hA 64 rfl (fun c15 hA => ?_) (fun c15 hA => ?_)
            · skip
              refine W_gval hA rfl rfl rfl 65 rfl (by decide) _ _ (R_fa hA rfl rfl (fun w => fa_want _ 6 (by decide) w) _) (fun a hA => ?_)
              refine W_gval hA rfl rfl rfl 66 rfl (by decide) _ _ (R_ld (v := .bool s.vmxr) hA rfl rfl ag_bool (RowC.cell B3 6 _ rfl)) (fun a hA => ?_)
              refine W_gval hA rfl rfl rfl 67 rfl (by decide) _ _ (R_pick hA rfl rfl rfl _) (fun a hA => ?_)
              refine W_val hA rfl 68 rfl (by decide) _ _ (R_pick hA rfl rfl rfl _) (fun a hA => ?_)
              refine W_val hA rfl 4 rfl (by decide) _ _ (R_asg hA rfl rfl _) (fun a hA => ?_)
              refine W_nil ?_
              refine then_nrm ?_
              show Code.wp Try.prog _ _ _ _
              refine wp_ret ?_
              refine ret_tmp (j := 4) (by kernel_rfl) hA (by decide) rfl ⟨congrArg (fun x : Bool => Ending.returned (.bool x)) ?_, HB⟩
              unfold allowB
              first
                | (simp only [c1, c2, c3, c4, c5, c6, c7, c8, c9, c10, c11, c12, c13, c14, c15, if_true, if_false, Bool.false_eq_true, Bool.not_true, Bool.not_false, Bool.true_and, Bool.false_and, Bool.and_true, Bool.and_false, Bool.true_or, Bool.false_or, Bool.or_true, Bool.or_false]; done)
                | (exfalso; simp_all; done)
                | (exfalso; simp_all; omega)
            refine W_gskip hA rfl rfl rfl 65 rfl (by decide) (fun a hA => ?_)
            refine W_gskip hA rfl rfl rfl 66 rfl (by decide) (fun a hA => ?_)
            refine W_gval hA rfl rfl rfl 67 rfl (by decide) _ _ (R_pick hA rfl rfl rfl _) (fun a hA => ?_)
            refine W_val hA rfl 68 rfl (by decide) _ _ (R_pick hA rfl rfl rfl _) (fun a hA => ?_)
            refine W_val hA rfl 4 rfl (by decide) _ _ (R_asg hA rfl rfl _) (fun a hA => ?_)
            refine W_nil ?_
            refine then_nrm ?_
            show Code.wp Try.prog _ _ _ _
            refine wp_ret ?_
            refine ret_tmp (j := 4) (by kernel_rfl) hA (by decide) rfl ⟨congrArg (fun x : Bool => Ending.returned (.bool x)) ?_, HB⟩
            unfold allowB
            first
              | (simp only [c1, c2, c3, c4, c5, c6, c7, c8, c9, c10, c11, c12, c13, c14, c15, if_true, if_false, Bool.false_eq_true, Bool.not_true, Bool.not_false, Bool.true_and, Bool.false_and, Bool.and_true, Bool.and_false, Bool.true_or, Bool.false_or, Bool.or_true, Bool.or_false]; done)
              | (exfalso; simp_all; done)
              | (exfalso; simp_all; omega)
          refine W_gskip hA rfl rfl rfl 61 rfl (by decide) (fun a hA => ?_)
          refine W_gskip hA rfl rfl rfl 62 rfl (by decide) (fun a hA => ?_)
          refine W_gval hA rfl rfl rfl 63 rfl (by decide) _ _ (R_pick hA rfl rfl rfl _) (fun a hA => ?_)
          refine W_gval hA rfl rfl rfl 64 rfl (by decide) _ _ (R_mov hA rfl rfl _) (fun a hA => ?_)
          refine W_gskip hA rfl rfl rfl 65 rfl (by decide) (fun a hA => ?_)
          refine W_gskip hA rfl rfl rfl 66 rfl (by decide) (fun a hA => ?_)
          refine W_gval hA rfl rfl rfl 67 rfl (by decide) _ _ (R_pick hA rfl rfl rfl _) (fun a hA => ?_)
          refine W_val hA rfl 68 rfl (by decide) _ _ (R_pick hA rfl rfl rfl _) (fun a hA => ?_)
          refine W_val hA rfl 4 rfl (by decide) _ _ (R_asg hA rfl rfl _) (fun a hA => ?_)
          refine W_nil ?_
          refine then_nrm ?_
          show Code.wp Try.prog _ _ _ _
          refine wp_ret ?_
          refine ret_tmp (j := 4) (by kernel_rfl) hA (by decide) rfl ⟨congrArg (fun x : Bool => Ending.returned (.bool x)) ?_, HB⟩
          unfold allowB
          first
            | (simp only [c1, c2, c3, c4, c5, c6, c7, c8, c9, c10, c11, c12, c13, c14, if_true, if_false, Bool.false_eq_true, Bool.not_true, Bool.not_false, Bool.true_and, Bool.false_and, Bool.and_true, Bool.and_false, Bool.true_or, Bool.false_or, Bool.or_true, Bool.or_false]; done)
            | (exfalso; simp_all; done)
            | (exfalso; simp_all; omega)
        refine W_gskip hA rfl rfl rfl 53 rfl (by decide) (fun a hA => ?_)
        refine W_gskip hA rfl rfl rfl 54 rfl (by decide) (fun a hA => ?_)
        refine W_gval hA rfl rfl rfl 55 rfl (by decide) _ _ (R_pick hA rfl rfl rfl _) (fun a hA => ?_)
        refine W_val hA rfl 56 rfl (by decide) _ _ (R_pick hA rfl rfl rfl _) (fun a hA => ?_)
        refine W_val hA rfl 57 rfl (by decide) _ _ (R_mov hA rfl rfl _) (fun a hA => ?_)
        refine W_gval hA rfl rfl rfl 58 rfl (by decide) _ _ (R_fa hA rfl rfl (fun w => fa_ent _ 3 (by decide) w) _) (fun a hA => ?_)
        refine W_gval hA rfl rfl rfl 59 rfl (by decide) _ _ (R_ld (v := .bool (bitZ x 3)) hA rfl rfl ag_bool (RowC.cell B2 3 _ rfl)) (fun a hA => ?_)
        refine W_gval hA rfl rfl rfl 60 rfl (by decide) _ _ (R_mov hA rfl rfl _) (fun a hA => ?_)
        refine W_split hA 60 rfl (fun c16 hA => ?_) (fun c16 hA => ?_)
        · skip
          refine W_gval hA rfl rfl rfl 61 rfl (by decide) _ _ (R_fa hA rfl rfl (fun w => fa_want _ 3 (by decide) w) _) (fun a hA => ?_)
          refine W_gval hA rfl rfl rfl 62 rfl (by decide) _ _ (R_ld (v := .bool s.v) hA rfl rfl ag_bool (RowC.cell B3 3 _ rfl)) (fun a hA => ?_)
          refine W_gval hA rfl rfl rfl 63 rfl (by decide) _ _ (R_pick hA rfl rfl rfl _) (fun a hA => ?_)
          refine W_gval hA rfl rfl rfl 64 rfl (by decide) _ _ (R_mov hA rfl rfl _) (fun a hA => ?_)
          refine W_split hA 64 rfl (fun c17 hA => ?_) (fun c17 hA => ?_)
          · skip
            refine W_gval hA rfl rfl rfl 65 rfl (by decide) _ _ (R_fa hA rfl rfl (fun w => fa_want _ 6 (by decide) w) _) (fun a hA => ?_)
            refine W_gval hA rfl rfl rfl 66 rfl (by decide) _ _ (R_ld (v := .bool s.vmxr) hA rfl rfl ag_bool (RowC.cell B3 6 _ rfl)) (fun a hA => ?_)
            refine W_gval hA rfl rfl rfl 67 rfl (by decide) _ _ (R_pick hA rfl rfl rfl _) (fun a hA => ?_)
            refine W_val hA rfl 68 rfl (by decide) _ _ (R_pick hA rfl rfl rfl _) (fun a hA => ?_)
            refine W_val hA rfl 4 rfl (by decide) _ _ (R_asg hA rfl rfl _) (fun a hA => ?_)
            refine W_nil ?_
            refine then_nrm ?_
            show Code.wp Try.prog _ _ _ _
            refine wp_ret ?_
            refine ret_tmp (j := 4) (by kernel_rfl) hA (by decide) rfl ⟨congrArg (fun x : Bool => Ending.returned (.bool x)) ?_, HB⟩
            unfold allowB
            first
              | (simp only [c1, c2, c3, c4, c5, c6, c7, c8, c9, c10, c11, c12, c16, c17, if_true, if_false, Bool.false_eq_true, Bool.not_true, Bool.not_false, Bool.true_and, Bool.false_and, Bool.and_true, Bool.and_false, Bool.true_or, Bool.false_or, Bool.or_true, Bool.or_false]; done)
              | (exfalso; simp_all; done)
              | (exfalso; simp_all; omega)
          refine W_gskip hA rfl rfl rfl 65 rfl (by decide) (fun a hA => ?_)
          refine W_gskip hA rfl rfl rfl 66 rfl (by decide) (fun a hA => ?_)
          refine W_gval hA rfl rfl rfl 67 rfl (by decide) _ _ (R_pick hA rfl rfl rfl _) (fun a hA => ?_)
          refine W_val hA rfl 68 rfl (by decide) _ _ (R_pick hA rfl rfl rfl _) (fun a hA => ?_)
          refine W_val hA rfl 4 rfl (by decide) _ _ (R_asg hA rfl rfl _) (fun a hA => ?_)
          refine W_nil ?_
          refine then_nrm ?_
          show Code.wp Try.prog _ _ _ _
          refine wp_ret ?_
          refine ret_tmp (j := 4) (by kernel_rfl) hA (by decide) rfl ⟨congrArg (fun x : Bool => Ending.returned (.bool x)) ?_, HB⟩
          unfold allowB
          first
            | (simp only [c1, c2, c3, c4, c5, c6, c7, c8, c9, c10, c11, c12, c16, c17, if_true, if_false, Bool.false_eq_true, Bool.not_true, Bool.not_false, Bool.true_and, Bool.false_and, Bool.and_true, Bool.and_false, Bool.true_or, Bool.false_or, Bool.or_true, Bool.or_false]; done)
            | (exfalso; simp_all; done)
            | (exfalso; simp_all; omega)
        refine W_gskip hA rfl rfl rfl 61 rfl (by decide) (fun a hA => ?_)
        refine W_gskip hA rfl rfl rfl 62 rfl (by decide) (fun a hA => ?_)
        refine W_gval hA rfl rfl rfl 63 rfl (by decide) _ _ (R_pick hA rfl rfl rfl _) (fun a hA => ?_)
        refine W_gval hA rfl rfl rfl 64 rfl (by decide) _ _ (R_mov hA rfl rfl _) (fun a hA => ?_)
        refine W_gskip hA rfl rfl rfl 65 rfl (by decide) (fun a hA => ?_)
        refine W_gskip hA rfl rfl rfl 66 rfl (by decide) (fun a hA => ?_)
        refine W_gval hA rfl rfl rfl 67 rfl (by decide) _ _ (R_pick hA rfl rfl rfl _) (fun a hA => ?_)
        refine W_val hA rfl 68 rfl (by decide) _ _ (R_pick hA rfl rfl rfl _) (fun a hA => ?_)
        refine W_val hA rfl 4 rfl (by decide) _ _ (R_asg hA rfl rfl _) (fun a hA => ?_)
        refine W_nil ?_
        refine then_nrm ?_
        show Code.wp Try.prog _ _ _ _
        refine wp_ret ?_
        refine ret_tmp (j := 4) (by kernel_rfl) hA (by decide) rfl ⟨congrArg (fun x : Bool => Ending.returned (.bool x)) ?_, HB⟩
        unfold allowB
        first
          | (simp only [c1, c2, c3, c4, c5, c6, c7, c8, c9, c10, c11, c12, c16, if_true, if_false, Bool.false_eq_true, Bool.not_true, Bool.not_false, Bool.true_and, Bool.false_and, Bool.and_true, Bool.and_false, Bool.true_or, Bool.false_or, Bool.or_true, Bool.or_false]; done)
          | (exfalso; simp_all; done)
          | (exfalso; simp_all; omega)
      refine W_gskip hA rfl rfl rfl 24 rfl (by decide) (fun a hA => ?_)
      refine W_gskip hA rfl rfl rfl 25 rfl (by decide) (fun a hA => ?_)
      refine W_gskip hA rfl rfl rfl 26 rfl (by decide) (fun a hA => ?_)
      refine W_gskip hA rfl rfl rfl 27 rfl (by decide) (fun a hA => ?_)
      refine W_gskipU hA rfl rfl rfl 28 rfl (by decide) (fun a hA => ?_)
      refine W_gskipU hA rfl rfl rfl 29 rfl (by decide) (fun a hA => ?_)
      refine W_gskipU hA rfl rfl rfl 30 rfl (by decide) (fun a hA => ?_)
      refine W_gskip hA rfl rfl rfl 31 rfl (by decide) (fun a hA => ?_)
      refine W_val hA rfl 32 rfl (by decide) _ _ (R_pick hA rfl rfl rfl _) (fun a hA => ?_)
      refine W_nil ?_
      refine then_nrm ?_
      show Code.wp Try.prog _ _ _ _
      refine wp_cond_false (hA.ev (x := .tmp 32) rfl) ?_
      refine wp_skip ?_
      refine then_nrm ?_
      show Code.wp Try.prog _ _ _ _
      refine wp_seq ?_
      refine wp_seq ?_
      refine wp_region_list ?_
      refine W_val hA rfl 33 rfl (by decide) _ _ (R_fa hA rfl rfl (fun w => fa_want _ 0 (by decide) w) _) (fun a hA => ?_)
      refine W_val hA rfl 34 rfl (by decide) _ _ (R_ld (v := .int .u8 s.kind) hA rfl rfl ag_u8 (RowC.cell B3 0 _ rfl)) (fun a hA => ?_)
      refine W_val hA rfl 35 rfl (by decide) _ _ (R_eqlB hA rfl rfl rfl _) (fun a hA => ?_)
      refine W_nil ?_
      refine then_nrm ?_
      show Code.wp Try.prog _ _ _ _
      refine wp_cond_split (hA.ev (x := .tmp 35) rfl) (fun c18 => ?_) (fun c18 => ?_)
      · skip
        refine wp_seq ?_
        refine wp_region_list ?_
        refine W_val hA rfl 36 rfl (by decide) _ _ (R_fa hA rfl rfl (fun w => fa_ent _ 3 (by decide) w) _) (fun a hA => ?_)
        refine W_val hA rfl 37 rfl (by decide) _ _ (R_ld (v := .bool (bitZ x 3)) hA rfl rfl ag_bool (RowC.cell B2 3 _ rfl)) (fun a hA => ?_)
        refine W_val hA rfl 4 rfl (by decide) _ _ (R_asg hA rfl rfl _) (fun a hA => ?_)
        refine W_nil ?_
        refine then_nrm ?_
        show Code.wp Try.prog _ _ _ _
        refine wp_ret ?_
        refine then_ret ?_
        refine ret_tmp (j := 4) (by kernel_rfl) hA (by decide) rfl ⟨congrArg (fun x : Bool => Ending.returned (.bool x)) ?_, HB⟩
        unfold allowB
        first
          | (simp only [c1, c2, c3, c4, c5, c18, if_true, if_false, Bool.false_eq_true, Bool.not_true, Bool.not_false, Bool.true_and, Bool.false_and, Bool.and_true, Bool.and_false, Bool.true_or, Bool.false_or, Bool.or_true, Bool.or_false]; done)
          | (exfalso; simp_all; done)
          | (exfalso; simp_all; omega)
      refine wp_skip ?_
      refine then_nrm ?_
      show Code.wp Try.prog _ _ _ _
      refine wp_seq ?_
      refine wp_seq ?_
      refine wp_region_list ?_
      refine W_val hA rfl 38 rfl (by decide) _ _ (R_fa hA rfl rfl (fun w => fa_want _ 0 (by decide) w) _) (fun a hA => ?_)
      refine W_val hA rfl 39 rfl (by decide) _ _ (R_ld (v := .int .u8 s.kind) hA rfl rfl ag_u8 (RowC.cell B3 0 _ rfl)) (fun a hA => ?_)
      refine W_val hA rfl 40 rfl (by decide) _ _ (R_eqlB hA rfl rfl rfl _) (fun a hA => ?_)
      refine W_nil ?_
      refine then_nrm ?_
      show Code.wp Try.prog _ _ _ _
      refine wp_cond_split (hA.ev (x := .tmp 40) rfl) (fun c19 => ?_) (fun c19 => ?_)
      · skip
        refine wp_seq ?_
        refine wp_region_list ?_
        refine W_val hA rfl 41 rfl (by decide) _ _ (R_fa hA rfl rfl (fun w => fa_ent _ 2 (by decide) w) _) (fun a hA => ?_)
        refine W_val hA rfl 42 rfl (by decide) _ _ (R_ld (v := .bool (bitZ x 2)) hA rfl rfl ag_bool (RowC.cell B2 2 _ rfl)) (fun a hA => ?_)
        refine W_val hA rfl 4 rfl (by decide) _ _ (R_asg hA rfl rfl _) (fun a hA => ?_)
        refine W_nil ?_
        refine then_nrm ?_
        show Code.wp Try.prog _ _ _ _
        refine wp_ret ?_
        refine then_ret ?_
        refine ret_tmp (j := 4) (by kernel_rfl) hA (by decide) rfl ⟨congrArg (fun x : Bool => Ending.returned (.bool x)) ?_, HB⟩
        unfold allowB
        first
          | (simp only [c1, c2, c3, c4, c5, c18, c19, if_true, if_false, Bool.false_eq_true, Bool.not_true, Bool.not_false, Bool.true_and, Bool.false_and, Bool.and_true, Bool.and_false, Bool.true_or, Bool.false_or, Bool.or_true, Bool.or_false]; done)
          | (exfalso; simp_all; done)
          | (exfalso; simp_all; omega)
      refine wp_skip ?_
      refine then_nrm ?_
      show Code.wp Try.prog _ _ _ _
      refine wp_seq ?_
      refine wp_seq ?_
      refine wp_region_list ?_
      refine W_val hA rfl 43 rfl (by decide) _ _ (R_fa hA rfl rfl (fun w => fa_want _ 1 (by decide) w) _) (fun a hA => ?_)
      refine W_val hA rfl 44 rfl (by decide) _ _ (R_ld (v := .bool s.ex) hA rfl rfl ag_bool (RowC.cell B3 1 _ rfl)) (fun a hA => ?_)
      refine W_nil ?_
      refine then_nrm ?_
      show Code.wp Try.prog _ _ _ _
      refine wp_cond_split (hA.ev (x := .tmp 44) rfl) (fun c20 => ?_) (fun c20 => ?_)
      · skip
        refine wp_seq ?_
        refine wp_region_list ?_
        refine W_val hA rfl 45 rfl (by decide) _ _ (R_fa hA rfl rfl (fun w => fa_ent _ 3 (by decide) w) _) (fun a hA => ?_)
        refine W_val hA rfl 46 rfl (by decide) _ _ (R_ld (v := .bool (bitZ x 3)) hA rfl rfl ag_bool (RowC.cell B2 3 _ rfl)) (fun a hA => ?_)
        refine W_val hA rfl 4 rfl (by decide) _ _ (R_asg hA rfl rfl _) (fun a hA => ?_)
        refine W_nil ?_
        refine then_nrm ?_
        show Code.wp Try.prog _ _ _ _
        refine wp_ret ?_
        refine then_ret ?_
        refine ret_tmp (j := 4) (by kernel_rfl) hA (by decide) rfl ⟨congrArg (fun x : Bool => Ending.returned (.bool x)) ?_, HB⟩
        unfold allowB
        first
          | (simp only [c1, c2, c3, c4, c5, c18, c19, c20, if_true, if_false, Bool.false_eq_true, Bool.not_true, Bool.not_false, Bool.true_and, Bool.false_and, Bool.and_true, Bool.and_false, Bool.true_or, Bool.false_or, Bool.or_true, Bool.or_false]; done)
          | (exfalso; simp_all; done)
          | (exfalso; simp_all; omega)
      refine wp_skip ?_
      refine then_nrm ?_
      show Code.wp Try.prog _ _ _ _
      refine wp_seq ?_
      refine wp_region_list ?_
      refine W_val hA rfl 47 rfl (by decide) _ _ (R_fa hA rfl rfl (fun w => fa_ent _ 1 (by decide) w) _) (fun a hA => ?_)
      refine W_val hA rfl 48 rfl (by decide) _ _ (R_ld (v := .bool (bitZ x 1)) hA rfl rfl ag_bool (RowC.cell B2 1 _ rfl)) (fun a hA => ?_)
      refine W_val hA rfl 49 rfl (by decide) _ _ (R_mov hA rfl rfl _) (fun a hA => ?_)
      refine W_split hA 49 rfl (fun c21 hA => ?_) (fun c21 hA => ?_)
      · skip
        refine W_gskip hA rfl rfl rfl 50 rfl (by decide) (fun a hA => ?_)
        refine W_gskip hA rfl rfl rfl 51 rfl (by decide) (fun a hA => ?_)
        refine W_gskip hA rfl rfl rfl 52 rfl (by decide) (fun a hA => ?_)
        refine W_gskipU hA rfl rfl rfl 53 rfl (by decide) (fun a hA => ?_)
        refine W_gskipU hA rfl rfl rfl 54 rfl (by decide) (fun a hA => ?_)
        refine W_gskip hA rfl rfl rfl 55 rfl (by decide) (fun a hA => ?_)
        refine W_val hA rfl 56 rfl (by decide) _ _ (R_pick hA rfl rfl rfl _) (fun a hA => ?_)
        refine W_val hA rfl 57 rfl (by decide) _ _ (R_mov hA rfl rfl _) (fun a hA => ?_)
        refine W_gskip hA rfl rfl rfl 58 rfl (by decide) (fun a hA => ?_)
        refine W_gskip hA rfl rfl rfl 59 rfl (by decide) (fun a hA => ?_)
        refine W_gskip hA rfl rfl rfl 60 rfl (by decide) (fun a hA => ?_)
        refine W_gskipU hA rfl rfl rfl 61 rfl (by decide) (fun a hA => ?_)
        refine W_gskipU hA rfl rfl rfl 62 rfl (by decide) (fun a hA => ?_)
        refine W_gskip hA rfl rfl rfl 63 rfl (by decide) (fun a hA => ?_)
        refine W_gskip hA rfl rfl rfl 64 rfl (by decide) (fun a hA => ?_)
        refine W_gskipU hA rfl rfl rfl 65 rfl (by decide) (fun a hA => ?_)
        refine W_gskipU hA rfl rfl rfl 66 rfl (by decide) (fun a hA => ?_)
        refine W_gskip hA rfl rfl rfl 67 rfl (by decide) (fun a hA => ?_)
        refine W_val hA rfl 68 rfl (by decide) _ _ (R_pick hA rfl rfl rfl _) (fun a hA => ?_)
        refine W_val hA rfl 4 rfl (by decide) _ _ (R_asg hA rfl rfl _) (fun a hA => ?_)
        refine W_nil ?_
        refine then_nrm ?_
        show Code.wp Try.prog _ _ _ _
        refine wp_ret ?_
        refine ret_tmp (j := 4) (by kernel_rfl) hA (by decide) rfl ⟨congrArg (fun x : Bool => Ending.returned (.bool x)) ?_, HB⟩
        unfold allowB
        first
          | (simp only [c1, c2, c3, c4, c5, c18, c19, c20, c21, if_true, if_false, Bool.false_eq_true, Bool.not_true, Bool.not_false, Bool.true_and, Bool.false_and, Bool.and_true, Bool.and_false, Bool.true_or, Bool.false_or, Bool.or_true, Bool.or_false]; done)
          | (exfalso; simp_all; done)
          | (exfalso; simp_all; omega)
      refine W_gval hA rfl rfl rfl 50 rfl (by decide) _ _ (R_fa hA rfl rfl (fun w => fa_ent _ 3 (by decide) w) _) (fun a hA => ?_)
      refine W_gval hA rfl rfl rfl 51 rfl (by decide) _ _ (R_ld (v := .bool (bitZ x 3)) hA rfl rfl ag_bool (RowC.cell B2 3 _ rfl)) (fun a hA => ?_)
      refine W_gval hA rfl rfl rfl 52 rfl (by decide) _ _ (R_mov hA rfl rfl _) (fun a hA => ?_)
      refine W_split hA 52 rfl (fun c22 hA => ?_) (fun c22 hA => ?_)
      · skip
        refine W_gval hA rfl rfl rfl 53 rfl (by decide) _ _ (R_fa hA rfl rfl (fun w => fa_want _ 5 (by decide) w) _) (fun a hA => ?_)
        refine W_gval hA rfl rfl rfl 54 rfl (by decide) _ _ (R_ld (v := .bool s.mxr) hA rfl rfl ag_bool (RowC.cell B3 5 _ rfl)) (fun a hA => ?_)
        refine W_gval hA rfl rfl rfl 55 rfl (by decide) _ _ (R_pick hA rfl rfl rfl _) (fun a hA => ?_)
        refine W_val hA rfl 56 rfl (by decide) _ _ (R_pick hA rfl rfl rfl _) (fun a hA => ?_)
        refine W_val hA rfl 57 rfl (by decide) _ _ (R_mov hA rfl rfl _) (fun a hA => ?_)
        refine W_split hA 57 rfl (fun c23 hA => ?_) (fun c23 hA => ?_)
        · skip
          refine W_gskip hA rfl rfl rfl 58 rfl (by decide) (fun a hA => ?_)
          refine W_gskip hA rfl rfl rfl 59 rfl (by decide) (fun a hA => ?_)
          refine W_gskip hA rfl rfl rfl 60 rfl (by decide) (fun a hA => ?_)
          refine W_gskipU hA rfl rfl rfl 61 rfl (by decide) (fun a hA => ?_)
          refine W_gskipU hA rfl rfl rfl 62 rfl (by decide) (fun a hA => ?_)
          refine W_gskip hA rfl rfl rfl 63 rfl (by decide) (fun a hA => ?_)
          refine W_gskip hA rfl rfl rfl 64 rfl (by decide) (fun a hA => ?_)
          refine W_gskipU hA rfl rfl rfl 65 rfl (by decide) (fun a hA => ?_)
          refine W_gskipU hA rfl rfl rfl 66 rfl (by decide) (fun a hA => ?_)
          refine W_gskip hA rfl rfl rfl 67 rfl (by decide) (fun a hA => ?_)
          refine W_val hA rfl 68 rfl (by decide) _ _ (R_pick hA rfl rfl rfl _) (fun a hA => ?_)
          refine W_val hA rfl 4 rfl (by decide) _ _ (R_asg hA rfl rfl _) (fun a hA => ?_)
          refine W_nil ?_
          refine then_nrm ?_
          show Code.wp Try.prog _ _ _ _
          refine wp_ret ?_
          refine ret_tmp (j := 4) (by kernel_rfl) hA (by decide) rfl ⟨congrArg (fun x : Bool => Ending.returned (.bool x)) ?_, HB⟩
          unfold allowB
          first
            | (simp only [c1, c2, c3, c4, c5, c18, c19, c20, c21, c22, c23, if_true, if_false, Bool.false_eq_true, Bool.not_true, Bool.not_false, Bool.true_and, Bool.false_and, Bool.and_true, Bool.and_false, Bool.true_or, Bool.false_or, Bool.or_true, Bool.or_false]; done)
            | (exfalso; simp_all; done)
            | (exfalso; simp_all; omega)
        refine W_gval hA rfl rfl rfl 58 rfl (by decide) _ _ (R_fa hA rfl rfl (fun w => fa_ent _ 3 (by decide) w) _) (fun a hA => ?_)
        refine W_gval hA rfl rfl rfl 59 rfl (by decide) _ _ (R_ld (v := .bool (bitZ x 3)) hA rfl rfl ag_bool (RowC.cell B2 3 _ rfl)) (fun a hA => ?_)
        refine W_gval hA rfl rfl rfl 60 rfl (by decide) _ _ (R_mov hA rfl rfl _) (fun a hA => ?_)
        refine W_split hA 60 rfl (fun c24 hA => ?_) (fun c24 hA => ?_)
        · skip
          refine W_gval hA rfl rfl rfl 61 rfl (by decide) _ _ (R_fa hA rfl rfl (fun w => fa_want _ 3 (by decide) w) _) (fun a hA => ?_)
          refine W_gval hA rfl rfl rfl 62 rfl (by decide) _ _ (R_ld (v := .bool s.v) hA rfl rfl ag_bool (RowC.cell B3 3 _ rfl)) (fun a hA => ?_)
          refine W_gval hA rfl rfl rfl 63 rfl (by decide) _ _ (R_pick hA rfl rfl rfl _) (fun a hA => ?_)
          refine W_gval hA rfl rfl rfl 64 rfl (by decide) _ _ (R_mov hA rfl rfl _) (fun a hA => ?_)
          refine W_split hA 64 rfl (fun c25 hA => ?_) (fun c25 hA => ?_)
          · skip
            refine W_gval hA rfl rfl rfl 65 rfl (by decide) _ _ (R_fa hA rfl rfl (fun w => fa_want _ 6 (by decide) w) _) (fun a hA => ?_)
            refine W_gval hA rfl rfl rfl 66 rfl (by decide) _ _ (R_ld (v := .bool s.vmxr) hA rfl rfl ag_bool (RowC.cell B3 6 _ rfl)) (fun a hA => ?_)
            refine W_gval hA rfl rfl rfl 67 rfl (by decide) _ _ (R_pick hA rfl rfl rfl _) (fun a hA => ?_)
            refine W_val hA rfl 68 rfl (by decide) _ _ (R_pick hA rfl rfl rfl _) (fun a hA => ?_)
            refine W_val hA rfl 4 rfl (by decide) _ _ (R_asg hA rfl rfl _) (fun a hA => ?_)
            refine W_nil ?_
            refine then_nrm ?_
            show Code.wp Try.prog _ _ _ _
            refine wp_ret ?_
            refine ret_tmp (j := 4) (by kernel_rfl) hA (by decide) rfl ⟨congrArg (fun x : Bool => Ending.returned (.bool x)) ?_, HB⟩
            unfold allowB
            first
              | (simp only [c1, c2, c3, c4, c5, c18, c19, c20, c21, c22, c23, c24, c25, if_true, if_false, Bool.false_eq_true, Bool.not_true, Bool.not_false, Bool.true_and, Bool.false_and, Bool.and_true, Bool.and_false, Bool.true_or, Bool.false_or, Bool.or_true, Bool.or_false]; done)
              | (exfalso; simp_all; done)
              | (exfalso; simp_all; omega)
          refine W_gskip hA rfl rfl rfl 65 rfl (by decide) (fun a hA => ?_)
          refine W_gskip hA rfl rfl rfl 66 rfl (by decide) (fun a hA => ?_)
          refine W_gval hA rfl rfl rfl 67 rfl (by decide) _ _ (R_pick hA rfl rfl rfl _) (fun a hA => ?_)
          refine W_val hA rfl 68 rfl (by decide) _ _ (R_pick hA rfl rfl rfl _) (fun a hA => ?_)
          refine W_val hA rfl 4 rfl (by decide) _ _ (R_asg hA rfl rfl _) (fun a hA => ?_)
          refine W_nil ?_
          refine then_nrm ?_
          show Code.wp Try.prog _ _ _ _
          refine wp_ret ?_
          refine ret_tmp (j := 4) (by kernel_rfl) hA (by decide) rfl ⟨congrArg (fun x : Bool => Ending.returned (.bool x)) ?_, HB⟩
          unfold allowB
          first
            | (simp only [c1, c2, c3, c4, c5, c18, c19, c20, c21, c22, c23, c24, c25, if_true, if_false, Bool.false_eq_true, Bool.not_true, Bool.not_false, Bool.true_and, Bool.false_and, Bool.and_true, Bool.and_false, Bool.true_or, Bool.false_or, Bool.or_true, Bool.or_false]; done)
            | (exfalso; simp_all; done)
            | (exfalso; simp_all; omega)
        refine W_gskip hA rfl rfl rfl 61 rfl (by decide) (fun a hA => ?_)
        refine W_gskip hA rfl rfl rfl 62 rfl (by decide) (fun a hA => ?_)
        refine W_gval hA rfl rfl rfl 63 rfl (by decide) _ _ (R_pick hA rfl rfl rfl _) (fun a hA => ?_)
        refine W_gval hA rfl rfl rfl 64 rfl (by decide) _ _ (R_mov hA rfl rfl _) (fun a hA => ?_)
        refine W_gskip hA rfl rfl rfl 65 rfl (by decide) (fun a hA => ?_)
        refine W_gskip hA rfl rfl rfl 66 rfl (by decide) (fun a hA => ?_)
        refine W_gval hA rfl rfl rfl 67 rfl (by decide) _ _ (R_pick hA rfl rfl rfl _) (fun a hA => ?_)
        refine W_val hA rfl 68 rfl (by decide) _ _ (R_pick hA rfl rfl rfl _) (fun a hA => ?_)
        refine W_val hA rfl 4 rfl (by decide) _ _ (R_asg hA rfl rfl _) (fun a hA => ?_)
        refine W_nil ?_
        refine then_nrm ?_
        show Code.wp Try.prog _ _ _ _
        refine wp_ret ?_
        refine ret_tmp (j := 4) (by kernel_rfl) hA (by decide) rfl ⟨congrArg (fun x : Bool => Ending.returned (.bool x)) ?_, HB⟩
        unfold allowB
        first
          | (simp only [c1, c2, c3, c4, c5, c18, c19, c20, c21, c22, c23, c24, if_true, if_false, Bool.false_eq_true, Bool.not_true, Bool.not_false, Bool.true_and, Bool.false_and, Bool.and_true, Bool.and_false, Bool.true_or, Bool.false_or, Bool.or_true, Bool.or_false]; done)
          | (exfalso; simp_all; done)
          | (exfalso; simp_all; omega)
      refine W_gskip hA rfl rfl rfl 53 rfl (by decide) (fun a hA => ?_)
      refine W_gskip hA rfl rfl rfl 54 rfl (by decide) (fun a hA => ?_)
      refine W_gval hA rfl rfl rfl 55 rfl (by decide) _ _ (R_pick hA rfl rfl rfl _) (fun a hA => ?_)
      refine W_val hA rfl 56 rfl (by decide) _ _ (R_pick hA rfl rfl rfl _) (fun a hA => ?_)
      refine W_val hA rfl 57 rfl (by decide) _ _ (R_mov hA rfl rfl _) (fun a hA => ?_)
      refine W_gval hA rfl rfl rfl 58 rfl (by decide) _ _ (R_fa hA rfl rfl (fun w => fa_ent _ 3 (by decide) w) _) (fun a hA => ?_)
      refine W_gval hA rfl rfl rfl 59 rfl (by decide) _ _ (R_ld (v := .bool (bitZ x 3)) hA rfl rfl ag_bool (RowC.cell B2 3 _ rfl)) (fun a hA => ?_)
      refine W_gval hA rfl rfl rfl 60 rfl (by decide) _ _ (R_mov hA rfl rfl _) (fun a hA => ?_)
      refine W_split hA 60 rfl (fun c26 hA => ?_) (fun c26 hA => ?_)
      · skip
        refine W_gval hA rfl rfl rfl 61 rfl (by decide) _ _ (R_fa hA rfl rfl (fun w => fa_want _ 3 (by decide) w) _) (fun a hA => ?_)
        refine W_gval hA rfl rfl rfl 62 rfl (by decide) _ _ (R_ld (v := .bool s.v) hA rfl rfl ag_bool (RowC.cell B3 3 _ rfl)) (fun a hA => ?_)
        refine W_gval hA rfl rfl rfl 63 rfl (by decide) _ _ (R_pick hA rfl rfl rfl _) (fun a hA => ?_)
        refine W_gval hA rfl rfl rfl 64 rfl (by decide) _ _ (R_mov hA rfl rfl _) (fun a hA => ?_)
        refine W_split hA 64 rfl (fun c27 hA => ?_) (fun c27 hA => ?_)
        · skip
          refine W_gval hA rfl rfl rfl 65 rfl (by decide) _ _ (R_fa hA rfl rfl (fun w => fa_want _ 6 (by decide) w) _) (fun a hA => ?_)
          refine W_gval hA rfl rfl rfl 66 rfl (by decide) _ _ (R_ld (v := .bool s.vmxr) hA rfl rfl ag_bool (RowC.cell B3 6 _ rfl)) (fun a hA => ?_)
          refine W_gval hA rfl rfl rfl 67 rfl (by decide) _ _ (R_pick hA rfl rfl rfl _) (fun a hA => ?_)
          refine W_val hA rfl 68 rfl (by decide) _ _ (R_pick hA rfl rfl rfl _) (fun a hA => ?_)
          refine W_val hA rfl 4 rfl (by decide) _ _ (R_asg hA rfl rfl _) (fun a hA => ?_)
          refine W_nil ?_
          refine then_nrm ?_
          show Code.wp Try.prog _ _ _ _
          refine wp_ret ?_
          refine ret_tmp (j := 4) (by kernel_rfl) hA (by decide) rfl ⟨congrArg (fun x : Bool => Ending.returned (.bool x)) ?_, HB⟩
          unfold allowB
          first
            | (simp only [c1, c2, c3, c4, c5, c18, c19, c20, c21, c22, c26, c27, if_true, if_false, Bool.false_eq_true, Bool.not_true, Bool.not_false, Bool.true_and, Bool.false_and, Bool.and_true, Bool.and_false, Bool.true_or, Bool.false_or, Bool.or_true, Bool.or_false]; done)
            | (exfalso; simp_all; done)
            | (exfalso; simp_all; omega)
        refine W_gskip hA rfl rfl rfl 65 rfl (by decide) (fun a hA => ?_)
        refine W_gskip hA rfl rfl rfl 66 rfl (by decide) (fun a hA => ?_)
        refine W_gval hA rfl rfl rfl 67 rfl (by decide) _ _ (R_pick hA rfl rfl rfl _) (fun a hA => ?_)
        refine W_val hA rfl 68 rfl (by decide) _ _ (R_pick hA rfl rfl rfl _) (fun a hA => ?_)
        refine W_val hA rfl 4 rfl (by decide) _ _ (R_asg hA rfl rfl _) (fun a hA => ?_)
        refine W_nil ?_
        refine then_nrm ?_
        show Code.wp Try.prog _ _ _ _
        refine wp_ret ?_
        refine ret_tmp (j := 4) (by kernel_rfl) hA (by decide) rfl ⟨congrArg (fun x : Bool => Ending.returned (.bool x)) ?_, HB⟩
        unfold allowB
        first
          | (simp only [c1, c2, c3, c4, c5, c18, c19, c20, c21, c22, c26, c27, if_true, if_false, Bool.false_eq_true, Bool.not_true, Bool.not_false, Bool.true_and, Bool.false_and, Bool.and_true, Bool.and_false, Bool.true_or, Bool.false_or, Bool.or_true, Bool.or_false]; done)
          | (exfalso; simp_all; done)
          | (exfalso; simp_all; omega)
      refine W_gskip hA rfl rfl rfl 61 rfl (by decide) (fun a hA => ?_)
      refine W_gskip hA rfl rfl rfl 62 rfl (by decide) (fun a hA => ?_)
      refine W_gval hA rfl rfl rfl 63 rfl (by decide) _ _ (R_pick hA rfl rfl rfl _) (fun a hA => ?_)
      refine W_gval hA rfl rfl rfl 64 rfl (by decide) _ _ (R_mov hA rfl rfl _) (fun a hA => ?_)
      refine W_gskip hA rfl rfl rfl 65 rfl (by decide) (fun a hA => ?_)
      refine W_gskip hA rfl rfl rfl 66 rfl (by decide) (fun a hA => ?_)
      refine W_gval hA rfl rfl rfl 67 rfl (by decide) _ _ (R_pick hA rfl rfl rfl _) (fun a hA => ?_)
      refine W_val hA rfl 68 rfl (by decide) _ _ (R_pick hA rfl rfl rfl _) (fun a hA => ?_)
      refine W_val hA rfl 4 rfl (by decide) _ _ (R_asg hA rfl rfl _) (fun a hA => ?_)
      refine W_nil ?_
      refine then_nrm ?_
      show Code.wp Try.prog _ _ _ _
      refine wp_ret ?_
      refine ret_tmp (j := 4) (by kernel_rfl) hA (by decide) rfl ⟨congrArg (fun x : Bool => Ending.returned (.bool x)) ?_, HB⟩
      unfold allowB
      first
        | (simp only [c1, c2, c3, c4, c5, c18, c19, c20, c21, c22, c26, if_true, if_false, Bool.false_eq_true, Bool.not_true, Bool.not_false, Bool.true_and, Bool.false_and, Bool.and_true, Bool.and_false, Bool.true_or, Bool.false_or, Bool.or_true, Bool.or_false]; done)
        | (exfalso; simp_all; done)
        | (exfalso; simp_all; omega)
    refine W_gskip hA rfl rfl rfl 20 rfl (by decide) (fun a hA => ?_)
    refine W_gskip hA rfl rfl rfl 21 rfl (by decide) (fun a hA => ?_)
    refine W_val hA rfl 22 rfl (by decide) _ _ (R_pick hA rfl rfl rfl _) (fun a hA => ?_)
    refine W_val hA rfl 23 rfl (by decide) _ _ (R_mov hA rfl rfl _) (fun a hA => ?_)
    refine W_gskip hA rfl rfl rfl 24 rfl (by decide) (fun a hA => ?_)
    refine W_gskip hA rfl rfl rfl 25 rfl (by decide) (fun a hA => ?_)
    refine W_gskip hA rfl rfl rfl 26 rfl (by decide) (fun a hA => ?_)
    refine W_gskip hA rfl rfl rfl 27 rfl (by decide) (fun a hA => ?_)
    refine W_gskipU hA rfl rfl rfl 28 rfl (by decide) (fun a hA => ?_)
    refine W_gskipU hA rfl rfl rfl 29 rfl (by decide) (fun a hA => ?_)
    refine W_gskipU hA rfl rfl rfl 30 rfl (by decide) (fun a hA => ?_)
    refine W_gskip hA rfl rfl rfl 31 rfl (by decide) (fun a hA => ?_)
    refine W_val hA rfl 32 rfl (by decide) _ _ (R_pick hA rfl rfl rfl _) (fun a hA => ?_)
    refine W_nil ?_
    refine then_nrm ?_
    show Code.wp Try.prog _ _ _ _
    refine wp_cond_false (hA.ev (x := .tmp 32) rfl) ?_
    refine wp_skip ?_
    refine then_nrm ?_
    show Code.wp Try.prog _ _ _ _
    refine wp_seq ?_
    refine wp_seq ?_
    refine wp_region_list ?_
    refine W_val hA rfl 33 rfl (by decide) _ _ (R_fa hA rfl rfl (fun w => fa_want _ 0 (by decide) w) _) (fun a hA => ?_)
    refine W_val hA rfl 34 rfl (by decide) _ _ (R_ld (v := .int .u8 s.kind) hA rfl rfl ag_u8 (RowC.cell B3 0 _ rfl)) (fun a hA => ?_)
    refine W_val hA rfl 35 rfl (by decide) _ _ (R_eqlB hA rfl rfl rfl _) (fun a hA => ?_)
    refine W_nil ?_
    refine then_nrm ?_
    show Code.wp Try.prog _ _ _ _
    refine wp_cond_split (hA.ev (x := .tmp 35) rfl) (fun c28 => ?_) (fun c28 => ?_)
    · skip
      refine wp_seq ?_
      refine wp_region_list ?_
      refine W_val hA rfl 36 rfl (by decide) _ _ (R_fa hA rfl rfl (fun w => fa_ent _ 3 (by decide) w) _) (fun a hA => ?_)
      refine W_val hA rfl 37 rfl (by decide) _ _ (R_ld (v := .bool (bitZ x 3)) hA rfl rfl ag_bool (RowC.cell B2 3 _ rfl)) (fun a hA => ?_)
      refine W_val hA rfl 4 rfl (by decide) _ _ (R_asg hA rfl rfl _) (fun a hA => ?_)
      refine W_nil ?_
      refine then_nrm ?_
      show Code.wp Try.prog _ _ _ _
      refine wp_ret ?_
      refine then_ret ?_
      refine ret_tmp (j := 4) (by kernel_rfl) hA (by decide) rfl ⟨congrArg (fun x : Bool => Ending.returned (.bool x)) ?_, HB⟩
      unfold allowB
      first
        | (simp only [c1, c2, c3, c4, c28, if_true, if_false, Bool.false_eq_true, Bool.not_true, Bool.not_false, Bool.true_and, Bool.false_and, Bool.and_true, Bool.and_false, Bool.true_or, Bool.false_or, Bool.or_true, Bool.or_false]; done)
        | (exfalso; simp_all; done)
        | (exfalso; simp_all; omega)
    refine wp_skip ?_
    refine then_nrm ?_
    show Code.wp Try.prog _ _ _ _
    refine wp_seq ?_
    refine wp_seq ?_
    refine wp_region_list ?_
    refine W_val hA rfl 38 rfl (by decide) _ _ (R_fa hA rfl rfl (fun w => fa_want _ 0 (by decide) w) _) (fun a hA => ?_)
    refine W_val hA rfl 39 rfl (by decide) _ _ (R_ld (v := .int .u8 s.kind) hA rfl rfl ag_u8 (RowC.cell B3 0 _ rfl)) (fun a hA => ?_)
    refine W_val hA rfl 40 rfl (by decide) _ _ (R_eqlB hA rfl rfl rfl _) (fun a hA => ?_)
    refine W_nil ?_
    refine then_nrm ?_
    show Code.wp Try.prog _ _ _ _
    refine wp_cond_split (hA.ev (x := .tmp 40) rfl) (fun c29 => ?_) (fun c29 => ?_)
    · skip
      refine wp_seq ?_
      refine wp_region_list ?_
      refine W_val hA rfl 41 rfl (by decide) _ _ (R_fa hA rfl rfl (fun w => fa_ent _ 2 (by decide) w) _) (fun a hA => ?_)
      refine W_val hA rfl 42 rfl (by decide) _ _ (R_ld (v := .bool (bitZ x 2)) hA rfl rfl ag_bool (RowC.cell B2 2 _ rfl)) (fun a hA => ?_)
      refine W_val hA rfl 4 rfl (by decide) _ _ (R_asg hA rfl rfl _) (fun a hA => ?_)
      refine W_nil ?_
      refine then_nrm ?_
      show Code.wp Try.prog _ _ _ _
      refine wp_ret ?_
      refine then_ret ?_
      refine ret_tmp (j := 4) (by kernel_rfl) hA (by decide) rfl ⟨congrArg (fun x : Bool => Ending.returned (.bool x)) ?_, HB⟩
      unfold allowB
      first
        | (simp only [c1, c2, c3, c4, c28, c29, if_true, if_false, Bool.false_eq_true, Bool.not_true, Bool.not_false, Bool.true_and, Bool.false_and, Bool.and_true, Bool.and_false, Bool.true_or, Bool.false_or, Bool.or_true, Bool.or_false]; done)
        | (exfalso; simp_all; done)
        | (exfalso; simp_all; omega)
    refine wp_skip ?_
    refine then_nrm ?_
    show Code.wp Try.prog _ _ _ _
    refine wp_seq ?_
    refine wp_seq ?_
    refine wp_region_list ?_
    refine W_val hA rfl 43 rfl (by decide) _ _ (R_fa hA rfl rfl (fun w => fa_want _ 1 (by decide) w) _) (fun a hA => ?_)
    refine W_val hA rfl 44 rfl (by decide) _ _ (R_ld (v := .bool s.ex) hA rfl rfl ag_bool (RowC.cell B3 1 _ rfl)) (fun a hA => ?_)
    refine W_nil ?_
    refine then_nrm ?_
    show Code.wp Try.prog _ _ _ _
    refine wp_cond_split (hA.ev (x := .tmp 44) rfl) (fun c30 => ?_) (fun c30 => ?_)
    · skip
      refine wp_seq ?_
      refine wp_region_list ?_
      refine W_val hA rfl 45 rfl (by decide) _ _ (R_fa hA rfl rfl (fun w => fa_ent _ 3 (by decide) w) _) (fun a hA => ?_)
      refine W_val hA rfl 46 rfl (by decide) _ _ (R_ld (v := .bool (bitZ x 3)) hA rfl rfl ag_bool (RowC.cell B2 3 _ rfl)) (fun a hA => ?_)
      refine W_val hA rfl 4 rfl (by decide) _ _ (R_asg hA rfl rfl _) (fun a hA => ?_)
      refine W_nil ?_
      refine then_nrm ?_
      show Code.wp Try.prog _ _ _ _
      refine wp_ret ?_
      refine then_ret ?_
      refine ret_tmp (j := 4) (by kernel_rfl) hA (by decide) rfl ⟨congrArg (fun x : Bool => Ending.returned (.bool x)) ?_, HB⟩
      unfold allowB
      first
        | (simp only [c1, c2, c3, c4, c28, c29, c30, if_true, if_false, Bool.false_eq_true, Bool.not_true, Bool.not_false, Bool.true_and, Bool.false_and, Bool.and_true, Bool.and_false, Bool.true_or, Bool.false_or, Bool.or_true, Bool.or_false]; done)
        | (exfalso; simp_all; done)
        | (exfalso; simp_all; omega)
    refine wp_skip ?_
    refine then_nrm ?_
    show Code.wp Try.prog _ _ _ _
    refine wp_seq ?_
    refine wp_region_list ?_
    refine W_val hA rfl 47 rfl (by decide) _ _ (R_fa hA rfl rfl (fun w => fa_ent _ 1 (by decide) w) _) (fun a hA => ?_)
    refine W_val hA rfl 48 rfl (by decide) _ _ (R_ld (v := .bool (bitZ x 1)) hA rfl rfl ag_bool (RowC.cell B2 1 _ rfl)) (fun a hA => ?_)
    refine W_val hA rfl 49 rfl (by decide) _ _ (R_mov hA rfl rfl _) (fun a hA => ?_)
    refine W_split hA 49 rfl (fun c31 hA => ?_) (fun c31 hA => ?_)
    · skip
      refine W_gskip hA rfl rfl rfl 50 rfl (by decide) (fun a hA => ?_)
      refine W_gskip hA rfl rfl rfl 51 rfl (by decide) (fun a hA => ?_)
      refine W_gskip hA rfl rfl rfl 52 rfl (by decide) (fun a hA => ?_)
      refine W_gskipU hA rfl rfl rfl 53 rfl (by decide) (fun a hA => ?_)
      refine W_gskipU hA rfl rfl rfl 54 rfl (by decide) (fun a hA => ?_)
      refine W_gskip hA rfl rfl rfl 55 rfl (by decide) (fun a hA => ?_)
      refine W_val hA rfl 56 rfl (by decide) _ _ (R_pick hA rfl rfl rfl _) (fun a hA => ?_)
      refine W_val hA rfl 57 rfl (by decide) _ _ (R_mov hA rfl rfl _) (fun a hA => ?_)
      refine W_gskip hA rfl rfl rfl 58 rfl (by decide) (fun a hA => ?_)
      refine W_gskip hA rfl rfl rfl 59 rfl (by decide) (fun a hA => ?_)
      refine W_gskip hA rfl rfl rfl 60 rfl (by decide) (fun a hA => ?_)
      refine W_gskipU hA rfl rfl rfl 61 rfl (by decide) (fun a hA => ?_)
      refine W_gskipU hA rfl rfl rfl 62 rfl (by decide) (fun a hA => ?_)
      refine W_gskip hA rfl rfl rfl 63 rfl (by decide) (fun a hA => ?_)
      refine W_gskip hA rfl rfl rfl 64 rfl (by decide) (fun a hA => ?_)
      refine W_gskipU hA rfl rfl rfl 65 rfl (by decide) (fun a hA => ?_)
      refine W_gskipU hA rfl rfl rfl 66 rfl (by decide) (fun a hA => ?_)
      refine W_gskip hA rfl rfl rfl 67 rfl (by decide) (fun a hA => ?_)
      refine W_val hA rfl 68 rfl (by decide) _ _ (R_pick hA rfl rfl rfl _) (fun a hA => ?_)
      refine W_val hA rfl 4 rfl (by decide) _ _ (R_asg hA rfl rfl _) (fun a hA => ?_)
      refine W_nil ?_
      refine then_nrm ?_
      show Code.wp Try.prog _ _ _ _
      refine wp_ret ?_
      refine ret_tmp (j := 4) (by kernel_rfl) hA (by decide) rfl ⟨congrArg (fun x : Bool => Ending.returned (.bool x)) ?_, HB⟩
      unfold allowB
      first
        | (simp only [c1, c2, c3, c4, c28, c29, c30, c31, if_true, if_false, Bool.false_eq_true, Bool.not_true, Bool.not_false, Bool.true_and, Bool.false_and, Bool.and_true, Bool.and_false, Bool.true_or, Bool.false_or, Bool.or_true, Bool.or_false]; done)
        | (exfalso; simp_all; done)
        | (exfalso; simp_all; omega)
    refine W_gval hA rfl rfl rfl 50 rfl (by decide) _ _ (R_fa hA rfl rfl (fun w => fa_ent _ 3 (by decide) w) _) (fun a hA => ?_)
    refine W_gval hA rfl rfl rfl 51 rfl (by decide) _ _ (R_ld (v := .bool (bitZ x 3)) hA rfl rfl ag_bool (RowC.cell B2 3 _ rfl)) (fun a hA => ?_)
    refine W_gval hA rfl rfl rfl 52 rfl (by decide) _ _ (R_mov hA rfl rfl _) (fun a hA => ?_)
    refine W_split hA 52 rfl (fun c32 hA => ?_) (fun c32 hA => ?_)
    · skip
      refine W_gval hA rfl rfl rfl 53 rfl (by decide) _ _ (R_fa hA rfl rfl (fun w => fa_want _ 5 (by decide) w) _) (fun a hA => ?_)
      refine W_gval hA rfl rfl rfl 54 rfl (by decide) _ _ (R_ld (v := .bool s.mxr) hA rfl rfl ag_bool (RowC.cell B3 5 _ rfl)) (fun a hA => ?_)
      refine W_gval hA rfl rfl rfl 55 rfl (by decide) _ _ (R_pick hA rfl rfl rfl _) (fun a hA => ?_)
      refine W_val hA rfl 56 rfl (by decide) _ _ (R_pick hA rfl rfl rfl _) (fun a hA => ?_)
      refine W_val hA rfl 57 rfl (by decide) _ _ (R_mov hA rfl rfl _) (fun a hA => ?_)
      refine W_split hA 57 rfl (fun c33 hA => ?_) (fun c33 hA => ?_)
      · skip
        refine W_gskip hA rfl rfl rfl 58 rfl (by decide) (fun a hA => ?_)
        refine W_gskip hA rfl rfl rfl 59 rfl (by decide) (fun a hA => ?_)
        refine W_gskip hA rfl rfl rfl 60 rfl (by decide) (fun a hA => ?_)
        refine W_gskipU hA rfl rfl rfl 61 rfl (by decide) (fun a hA => ?_)
        refine W_gskipU hA rfl rfl rfl 62 rfl (by decide) (fun a hA => ?_)
        refine W_gskip hA rfl rfl rfl 63 rfl (by decide) (fun a hA => ?_)
        refine W_gskip hA rfl rfl rfl 64 rfl (by decide) (fun a hA => ?_)
        refine W_gskipU hA rfl rfl rfl 65 rfl (by decide) (fun a hA => ?_)
        refine W_gskipU hA rfl rfl rfl 66 rfl (by decide) (fun a hA => ?_)
        refine W_gskip hA rfl rfl rfl 67 rfl (by decide) (fun a hA => ?_)
        refine W_val hA rfl 68 rfl (by decide) _ _ (R_pick hA rfl rfl rfl _) (fun a hA => ?_)
        refine W_val hA rfl 4 rfl (by decide) _ _ (R_asg hA rfl rfl _) (fun a hA => ?_)
        refine W_nil ?_
        refine then_nrm ?_
        show Code.wp Try.prog _ _ _ _
        refine wp_ret ?_
        refine ret_tmp (j := 4) (by kernel_rfl) hA (by decide) rfl ⟨congrArg (fun x : Bool => Ending.returned (.bool x)) ?_, HB⟩
        unfold allowB
        first
          | (simp only [c1, c2, c3, c4, c28, c29, c30, c31, c32, c33, if_true, if_false, Bool.false_eq_true, Bool.not_true, Bool.not_false, Bool.true_and, Bool.false_and, Bool.and_true, Bool.and_false, Bool.true_or, Bool.false_or, Bool.or_true, Bool.or_false]; done)
          | (exfalso; simp_all; done)
          | (exfalso; simp_all; omega)
      refine W_gval hA rfl rfl rfl 58 rfl (by decide) _ _ (R_fa hA rfl rfl (fun w => fa_ent _ 3 (by decide) w) _) (fun a hA => ?_)
      refine W_gval hA rfl rfl rfl 59 rfl (by decide) _ _ (R_ld (v := .bool (bitZ x 3)) hA rfl rfl ag_bool (RowC.cell B2 3 _ rfl)) (fun a hA => ?_)
      refine W_gval hA rfl rfl rfl 60 rfl (by decide) _ _ (R_mov hA rfl rfl _) (fun a hA => ?_)
      refine W_split hA 60 rfl (fun c34 hA => ?_) (fun c34 hA => ?_)
      · skip
        refine W_gval hA rfl rfl rfl 61 rfl (by decide) _ _ (R_fa hA rfl rfl (fun w => fa_want _ 3 (by decide) w) _) (fun a hA => ?_)
        refine W_gval hA rfl rfl rfl 62 rfl (by decide) _ _ (R_ld (v := .bool s.v) hA rfl rfl ag_bool (RowC.cell B3 3 _ rfl)) (fun a hA => ?_)
        refine W_gval hA rfl rfl rfl 63 rfl (by decide) _ _ (R_pick hA rfl rfl rfl _) (fun a hA => ?_)
        refine W_gval hA rfl rfl rfl 64 rfl (by decide) _ _ (R_mov hA rfl rfl _) (fun a hA => ?_)
        refine W_split hA 64 rfl (fun c35 hA => ?_) (fun c35 hA => ?_)
        · skip
          refine W_gval hA rfl rfl rfl 65 rfl (by decide) _ _ (R_fa hA rfl rfl (fun w => fa_want _ 6 (by decide) w) _) (fun a hA => ?_)
          refine W_gval hA rfl rfl rfl 66 rfl (by decide) _ _ (R_ld (v := .bool s.vmxr) hA rfl rfl ag_bool (RowC.cell B3 6 _ rfl)) (fun a hA => ?_)
          refine W_gval hA rfl rfl rfl 67 rfl (by decide) _ _ (R_pick hA rfl rfl rfl _) (fun a hA => ?_)
          refine W_val hA rfl 68 rfl (by decide) _ _ (R_pick hA rfl rfl rfl _) (fun a hA => ?_)
          refine W_val hA rfl 4 rfl (by decide) _ _ (R_asg hA rfl rfl _) (fun a hA => ?_)
          refine W_nil ?_
          refine then_nrm ?_
          show Code.wp Try.prog _ _ _ _
          refine wp_ret ?_
          refine ret_tmp (j := 4) (by kernel_rfl) hA (by decide) rfl ⟨congrArg (fun x : Bool => Ending.returned (.bool x)) ?_, HB⟩
          unfold allowB
          first
            | (simp only [c1, c2, c3, c4, c28, c29, c30, c31, c32, c33, c34, c35, if_true, if_false, Bool.false_eq_true, Bool.not_true, Bool.not_false, Bool.true_and, Bool.false_and, Bool.and_true, Bool.and_false, Bool.true_or, Bool.false_or, Bool.or_true, Bool.or_false]; done)
            | (exfalso; simp_all; done)
            | (exfalso; simp_all; omega)
        refine W_gskip hA rfl rfl rfl 65 rfl (by decide) (fun a hA => ?_)
        refine W_gskip hA rfl rfl rfl 66 rfl (by decide) (fun a hA => ?_)
        refine W_gval hA rfl rfl rfl 67 rfl (by decide) _ _ (R_pick hA rfl rfl rfl _) (fun a hA => ?_)
        refine W_val hA rfl 68 rfl (by decide) _ _ (R_pick hA rfl rfl rfl _) (fun a hA => ?_)
        refine W_val hA rfl 4 rfl (by decide) _ _ (R_asg hA rfl rfl _) (fun a hA => ?_)
        refine W_nil ?_
        refine then_nrm ?_
        show Code.wp Try.prog _ _ _ _
        refine wp_ret ?_
        refine ret_tmp (j := 4) (by kernel_rfl) hA (by decide) rfl ⟨congrArg (fun x : Bool => Ending.returned (.bool x)) ?_, HB⟩
        unfold allowB
        first
          | (simp only [c1, c2, c3, c4, c28, c29, c30, c31, c32, c33, c34, c35, if_true, if_false, Bool.false_eq_true, Bool.not_true, Bool.not_false, Bool.true_and, Bool.false_and, Bool.and_true, Bool.and_false, Bool.true_or, Bool.false_or, Bool.or_true, Bool.or_false]; done)
          | (exfalso; simp_all; done)
          | (exfalso; simp_all; omega)
      refine W_gskip hA rfl rfl rfl 61 rfl (by decide) (fun a hA => ?_)
      refine W_gskip hA rfl rfl rfl 62 rfl (by decide) (fun a hA => ?_)
      refine W_gval hA rfl rfl rfl 63 rfl (by decide) _ _ (R_pick hA rfl rfl rfl _) (fun a hA => ?_)
      refine W_gval hA rfl rfl rfl 64 rfl (by decide) _ _ (R_mov hA rfl rfl _) (fun a hA => ?_)
      refine W_gskip hA rfl rfl rfl 65 rfl (by decide) (fun a hA => ?_)
      refine W_gskip hA rfl rfl rfl 66 rfl (by decide) (fun a hA => ?_)
      refine W_gval hA rfl rfl rfl 67 rfl (by decide) _ _ (R_pick hA rfl rfl rfl _) (fun a hA => ?_)
      refine W_val hA rfl 68 rfl (by decide) _ _ (R_pick hA rfl rfl rfl _) (fun a hA => ?_)
      refine W_val hA rfl 4 rfl (by decide) _ _ (R_asg hA rfl rfl _) (fun a hA => ?_)
      refine W_nil ?_
      refine then_nrm ?_
      show Code.wp Try.prog _ _ _ _
      refine wp_ret ?_
      refine ret_tmp (j := 4) (by kernel_rfl) hA (by decide) rfl ⟨congrArg (fun x : Bool => Ending.returned (.bool x)) ?_, HB⟩
      unfold allowB
      first
        | (simp only [c1, c2, c3, c4, c28, c29, c30, c31, c32, c33, c34, if_true, if_false, Bool.false_eq_true, Bool.not_true, Bool.not_false, Bool.true_and, Bool.false_and, Bool.and_true, Bool.and_false, Bool.true_or, Bool.false_or, Bool.or_true, Bool.or_false]; done)
        | (exfalso; simp_all; done)
        | (exfalso; simp_all; omega)
    refine W_gskip hA rfl rfl rfl 53 rfl (by decide) (fun a hA => ?_)
    refine W_gskip hA rfl rfl rfl 54 rfl (by decide) (fun a hA => ?_)
    refine W_gval hA rfl rfl rfl 55 rfl (by decide) _ _ (R_pick hA rfl rfl rfl _) (fun a hA => ?_)
    refine W_val hA rfl 56 rfl (by decide) _ _ (R_pick hA rfl rfl rfl _) (fun a hA => ?_)
    refine W_val hA rfl 57 rfl (by decide) _ _ (R_mov hA rfl rfl _) (fun a hA => ?_)
    refine W_gval hA rfl rfl rfl 58 rfl (by decide) _ _ (R_fa hA rfl rfl (fun w => fa_ent _ 3 (by decide) w) _) (fun a hA => ?_)
    refine W_gval hA rfl rfl rfl 59 rfl (by decide) _ _ (R_ld (v := .bool (bitZ x 3)) hA rfl rfl ag_bool (RowC.cell B2 3 _ rfl)) (fun a hA => ?_)
    refine W_gval hA rfl rfl rfl 60 rfl (by decide) _ _ (R_mov hA rfl rfl _) (fun a hA => ?_)
    refine W_split hA 60 rfl (fun c36 hA => ?_) (fun c36 hA => ?_)
    · skip
      refine W_gval hA rfl rfl rfl 61 rfl (by decide) _ _ (R_fa hA rfl rfl (fun w => fa_want _ 3 (by decide) w) _) (fun a hA => ?_)
      refine W_gval hA rfl rfl rfl 62 rfl (by decide) _ _ (R_ld (v := .bool s.v) hA rfl rfl ag_bool (RowC.cell B3 3 _ rfl)) (fun a hA => ?_)
      refine W_gval hA rfl rfl rfl 63 rfl (by decide) _ _ (R_pick hA rfl rfl rfl _) (fun a hA => ?_)
      refine W_gval hA rfl rfl rfl 64 rfl (by decide) _ _ (R_mov hA rfl rfl _) (fun a hA => ?_)
      refine W_split hA 64 rfl (fun c37 hA => ?_) (fun c37 hA => ?_)
      · skip
        refine W_gval hA rfl rfl rfl 65 rfl (by decide) _ _ (R_fa hA rfl rfl (fun w => fa_want _ 6 (by decide) w) _) (fun a hA => ?_)
        refine W_gval hA rfl rfl rfl 66 rfl (by decide) _ _ (R_ld (v := .bool s.vmxr) hA rfl rfl ag_bool (RowC.cell B3 6 _ rfl)) (fun a hA => ?_)
        refine W_gval hA rfl rfl rfl 67 rfl (by decide) _ _ (R_pick hA rfl rfl rfl _) (fun a hA => ?_)
        refine W_val hA rfl 68 rfl (by decide) _ _ (R_pick hA rfl rfl rfl _) (fun a hA => ?_)
        refine W_val hA rfl 4 rfl (by decide) _ _ (R_asg hA rfl rfl _) (fun a hA => ?_)
        refine W_nil ?_
        refine then_nrm ?_
        show Code.wp Try.prog _ _ _ _
        refine wp_ret ?_
        refine ret_tmp (j := 4) (by kernel_rfl) hA (by decide) rfl ⟨congrArg (fun x : Bool => Ending.returned (.bool x)) ?_, HB⟩
        unfold allowB
        first
          | (simp only [c1, c2, c3, c4, c28, c29, c30, c31, c32, c36, c37, if_true, if_false, Bool.false_eq_true, Bool.not_true, Bool.not_false, Bool.true_and, Bool.false_and, Bool.and_true, Bool.and_false, Bool.true_or, Bool.false_or, Bool.or_true, Bool.or_false]; done)
          | (exfalso; simp_all; done)
          | (exfalso; simp_all; omega)
      refine W_gskip hA rfl rfl rfl 65 rfl (by decide) (fun a hA => ?_)
      refine W_gskip hA rfl rfl rfl 66 rfl (by decide) (fun a hA => ?_)
      refine W_gval hA rfl rfl rfl 67 rfl (by decide) _ _ (R_pick hA rfl rfl rfl _) (fun a hA => ?_)
      refine W_val hA rfl 68 rfl (by decide) _ _ (R_pick hA rfl rfl rfl _) (fun a hA => ?_)
      refine W_val hA rfl 4 rfl (by decide) _ _ (R_asg hA rfl rfl _) (fun a hA => ?_)
      refine W_nil ?_
      refine then_nrm ?_
      show Code.wp Try.prog _ _ _ _
      refine wp_ret ?_
      refine ret_tmp (j := 4) (by kernel_rfl) hA (by decide) rfl ⟨congrArg (fun x : Bool => Ending.returned (.bool x)) ?_, HB⟩
      unfold allowB
      first
        | (simp only [c1, c2, c3, c4, c28, c29, c30, c31, c32, c36, c37, if_true, if_false, Bool.false_eq_true, Bool.not_true, Bool.not_false, Bool.true_and, Bool.false_and, Bool.and_true, Bool.and_false, Bool.true_or, Bool.false_or, Bool.or_true, Bool.or_false]; done)
        | (exfalso; simp_all; done)
        | (exfalso; simp_all; omega)
    refine W_gskip hA rfl rfl rfl 61 rfl (by decide) (fun a hA => ?_)
    refine W_gskip hA rfl rfl rfl 62 rfl (by decide) (fun a hA => ?_)
    refine W_gval hA rfl rfl rfl 63 rfl (by decide) _ _ (R_pick hA rfl rfl rfl _) (fun a hA => ?_)
    refine W_gval hA rfl rfl rfl 64 rfl (by decide) _ _ (R_mov hA rfl rfl _) (fun a hA => ?_)
    refine W_gskip hA rfl rfl rfl 65 rfl (by decide) (fun a hA => ?_)
    refine W_gskip hA rfl rfl rfl 66 rfl (by decide) (fun a hA => ?_)
    refine W_gval hA rfl rfl rfl 67 rfl (by decide) _ _ (R_pick hA rfl rfl rfl _) (fun a hA => ?_)
    refine W_val hA rfl 68 rfl (by decide) _ _ (R_pick hA rfl rfl rfl _) (fun a hA => ?_)
    refine W_val hA rfl 4 rfl (by decide) _ _ (R_asg hA rfl rfl _) (fun a hA => ?_)
    refine W_nil ?_
    refine then_nrm ?_
    show Code.wp Try.prog _ _ _ _
    refine wp_ret ?_
    refine ret_tmp (j := 4) (by kernel_rfl) hA (by decide) rfl ⟨congrArg (fun x : Bool => Ending.returned (.bool x)) ?_, HB⟩
    unfold allowB
    first
      | (simp only [c1, c2, c3, c4, c28, c29, c30, c31, c32, c36, if_true, if_false, Bool.false_eq_true, Bool.not_true, Bool.not_false, Bool.true_and, Bool.false_and, Bool.and_true, Bool.and_false, Bool.true_or, Bool.false_or, Bool.or_true, Bool.or_false]; done)
      | (exfalso; simp_all; done)
      | (exfalso; simp_all; omega)
  refine W_gskip hA rfl rfl rfl 12 rfl (by decide) (fun a hA => ?_)
  refine W_gskip hA rfl rfl rfl 13 rfl (by decide) (fun a hA => ?_)
  refine W_gskip hA rfl rfl rfl 14 rfl (by decide) (fun a hA => ?_)
  refine W_val hA rfl 15 rfl (by decide) _ _ (R_pick hA rfl rfl rfl _) (fun a hA => ?_)
  refine W_nil ?_
  refine then_nrm ?_
  show Code.wp Try.prog _ _ _ _
  refine wp_cond_false (hA.ev (x := .tmp 15) rfl) ?_
  refine wp_skip ?_
  refine then_nrm ?_
  show Code.wp Try.prog _ _ _ _
  refine wp_seq ?_
  refine wp_seq ?_
  refine wp_region_list ?_
  refine W_val hA rfl 16 rfl (by decide) _ _ (R_fa hA rfl rfl (fun w => fa_want _ 2 (by decide) w) _) (fun a hA => ?_)
  refine W_val hA rfl 17 rfl (by decide) _ _ (R_ld (v := .int .u8 s.priv) hA rfl rfl ag_u8 (RowC.cell B3 2 _ rfl)) (fun a hA => ?_)
  refine W_val hA rfl 18 rfl (by decide) _ _ (R_neqB hA rfl rfl rfl _) (fun a hA => ?_)
  refine W_val hA rfl 19 rfl (by decide) _ _ (R_mov hA rfl rfl _) (fun a hA => ?_)
  refine W_split hA 19 rfl (fun c38 hA => ?_) (fun c38 hA => ?_)
  · skip
    refine W_gval hA rfl rfl rfl 20 rfl (by decide) _ _ (R_fa hA rfl rfl (fun w => fa_ent _ 4 (by decide) w) _) (fun a hA => ?_)
    refine W_gval hA rfl rfl rfl 21 rfl (by decide) _ _ (R_ld (v := .bool (bitZ x 4)) hA rfl rfl ag_bool (RowC.cell B2 4 _ rfl)) (fun a hA => ?_)
    refine W_val hA rfl 22 rfl (by decide) _ _ (R_pick hA rfl rfl rfl _) (fun a hA => ?_)
    refine W_val hA rfl 23 rfl (by decide) _ _ (R_mov hA rfl rfl _) (fun a hA => ?_)
    refine W_split hA 23 rfl (fun c39 hA => ?_) (fun c39 hA => ?_)
    · skip
      refine W_gval hA rfl rfl rfl 24 rfl (by decide) _ _ (R_fa hA rfl rfl (fun w => fa_want _ 0 (by decide) w) _) (fun a hA => ?_)
      refine W_gval hA rfl rfl rfl 25 rfl (by decide) _ _ (R_ld (v := .int .u8 s.kind) hA rfl rfl ag_u8 (RowC.cell B3 0 _ rfl)) (fun a hA => ?_)
      refine W_gval hA rfl rfl rfl 26 rfl (by decide) _ _ (R_eqlB hA rfl rfl rfl _) (fun a hA => ?_)
      refine W_gval hA rfl rfl rfl 27 rfl (by decide) _ _ (R_mov hA rfl rfl _) (fun a hA => ?_)
      refine W_split hA 27 rfl (fun c40 hA => ?_) (fun c40 hA => ?_)
      · skip
        refine W_gskip hA rfl rfl rfl 28 rfl (by decide) (fun a hA => ?_)
        refine W_gskip hA rfl rfl rfl 29 rfl (by decide) (fun a hA => ?_)
        refine W_gskip hA rfl rfl rfl 30 rfl (by decide) (fun a hA => ?_)
        refine W_gval hA rfl rfl rfl 31 rfl (by decide) _ _ (R_pick hA rfl rfl rfl _) (fun a hA => ?_)
        refine W_val hA rfl 32 rfl (by decide) _ _ (R_pick hA rfl rfl rfl _) (fun a hA => ?_)
        refine W_nil ?_
        refine then_nrm ?_
        show Code.wp Try.prog _ _ _ _
        refine wp_cond_true (hA.ev (x := .tmp 32) rfl) ?_
        refine wp_seq ?_
        refine wp_region_list ?_
        refine W_val hA rfl 4 rfl (by decide) _ _ (R_asg hA rfl rfl _) (fun a hA => ?_)
        refine W_nil ?_
        refine then_nrm ?_
        show Code.wp Try.prog _ _ _ _
        refine wp_ret ?_
        refine then_ret ?_
        refine ret_tmp (j := 4) (by kernel_rfl) hA (by decide) rfl ⟨congrArg (fun x : Bool => Ending.returned (.bool x)) ?_, HB⟩
        unfold allowB
        first
          | (simp only [c1, c2, c38, c39, c40, if_true, if_false, Bool.false_eq_true, Bool.not_true, Bool.not_false, Bool.true_and, Bool.false_and, Bool.and_true, Bool.and_false, Bool.true_or, Bool.false_or, Bool.or_true, Bool.or_false]; done)
          | (exfalso; simp_all; done)
          | (exfalso; simp_all; omega)
      refine W_gval hA rfl rfl rfl 28 rfl (by decide) _ _ (R_fa hA rfl rfl (fun w => fa_want _ 4 (by decide) w) _) (fun a hA => ?_)
      refine W_gval hA rfl rfl rfl 29 rfl (by decide) _ _ (R_ld (v := .bool s.sum) hA rfl rfl ag_bool (RowC.cell B3 4 _ rfl)) (fun a hA => ?_)
      refine W_gval hA rfl rfl rfl 30 rfl (by decide) _ _ (R_not hA rfl rfl _) (fun a hA => ?_)
      refine W_gval hA rfl rfl rfl 31 rfl (by decide) _ _ (R_pick hA rfl rfl rfl _) (fun a hA => ?_)
      refine W_val hA rfl 32 rfl (by decide) _ _ (R_pick hA rfl rfl rfl _) (fun a hA => ?_)
      refine W_nil ?_
      refine then_nrm ?_
      show Code.wp Try.prog _ _ _ _
      refine wp_cond_split (hA.ev (x := .tmp 32) rfl) (fun c41 => ?_) (fun c41 => ?_)
      · skip
        refine wp_seq ?_
        refine wp_region_list ?_
        refine W_val hA rfl 4 rfl (by decide) _ _ (R_asg hA rfl rfl _) (fun a hA => ?_)
        refine W_nil ?_
        refine then_nrm ?_
        show Code.wp Try.prog _ _ _ _
        refine wp_ret ?_
        refine then_ret ?_
        refine ret_tmp (j := 4) (by kernel_rfl) hA (by decide) rfl ⟨congrArg (fun x : Bool => Ending.returned (.bool x)) ?_, HB⟩
        unfold allowB
        first
          | (simp only [c1, c2, c38, c39, c40, c41, if_true, if_false, Bool.false_eq_true, Bool.not_true, Bool.not_false, Bool.true_and, Bool.false_and, Bool.and_true, Bool.and_false, Bool.true_or, Bool.false_or, Bool.or_true, Bool.or_false]; done)
          | (exfalso; simp_all; done)
          | (exfalso; simp_all; omega)
      refine wp_skip ?_
      refine then_nrm ?_
      show Code.wp Try.prog _ _ _ _
      refine wp_seq ?_
      refine wp_seq ?_
      refine wp_region_list ?_
      refine W_val hA rfl 33 rfl (by decide) _ _ (R_fa hA rfl rfl (fun w => fa_want _ 0 (by decide) w) _) (fun a hA => ?_)
      refine W_val hA rfl 34 rfl (by decide) _ _ (R_ld (v := .int .u8 s.kind) hA rfl rfl ag_u8 (RowC.cell B3 0 _ rfl)) (fun a hA => ?_)
      refine W_val hA rfl 35 rfl (by decide) _ _ (R_eqlB hA rfl rfl rfl _) (fun a hA => ?_)
      refine W_nil ?_
      refine then_nrm ?_
      show Code.wp Try.prog _ _ _ _
      refine wp_cond_split (hA.ev (x := .tmp 35) rfl) (fun c42 => ?_) (fun c42 => ?_)
      · skip
        refine wp_seq ?_
        refine wp_region_list ?_
        refine W_val hA rfl 36 rfl (by decide) _ _ (R_fa hA rfl rfl (fun w => fa_ent _ 3 (by decide) w) _) (fun a hA => ?_)
        refine W_val hA rfl 37 rfl (by decide) _ _ (R_ld (v := .bool (bitZ x 3)) hA rfl rfl ag_bool (RowC.cell B2 3 _ rfl)) (fun a hA => ?_)
        refine W_val hA rfl 4 rfl (by decide) _ _ (R_asg hA rfl rfl _) (fun a hA => ?_)
        refine W_nil ?_
        refine then_nrm ?_
        show Code.wp Try.prog _ _ _ _
        refine wp_ret ?_
        refine then_ret ?_
        refine ret_tmp (j := 4) (by kernel_rfl) hA (by decide) rfl ⟨congrArg (fun x : Bool => Ending.returned (.bool x)) ?_, HB⟩
        unfold allowB
        first
          | (simp only [c1, c2, c38, c39, c40, c41, c42, if_true, if_false, Bool.false_eq_true, Bool.not_true, Bool.not_false, Bool.true_and, Bool.false_and, Bool.and_true, Bool.and_false, Bool.true_or, Bool.false_or, Bool.or_true, Bool.or_false]; done)
          | (exfalso; simp_all; done)
          | (exfalso; simp_all; omega)
      refine wp_skip ?_
      refine then_nrm ?_
      show Code.wp Try.prog _ _ _ _
      refine wp_seq ?_
      refine wp_seq ?_
      refine wp_region_list ?_
      refine W_val hA rfl 38 rfl (by decide) _ _ (R_fa hA rfl rfl (fun w => fa_want _ 0 (by decide) w) _) (fun a hA => ?_)
      refine W_val hA rfl 39 rfl (by decide) _ _ (R_ld (v := .int .u8 s.kind) hA rfl rfl ag_u8 (RowC.cell B3 0 _ rfl)) (fun a hA => ?_)
      refine W_val hA rfl 40 rfl (by decide) _ _ (R_eqlB hA rfl rfl rfl _) (fun a hA => ?_)
      refine W_nil ?_
      refine then_nrm ?_
      show Code.wp Try.prog _ _ _ _
      refine wp_cond_split (hA.ev (x := .tmp 40) rfl) (fun c43 => ?_) (fun c43 => ?_)
      · skip
        refine wp_seq ?_
        refine wp_region_list ?_
        refine W_val hA rfl 41 rfl (by decide) _ _ (R_fa hA rfl rfl (fun w => fa_ent _ 2 (by decide) w) _) (fun a hA => ?_)
        refine W_val hA rfl 42 rfl (by decide) _ _ (R_ld (v := .bool (bitZ x 2)) hA rfl rfl ag_bool (RowC.cell B2 2 _ rfl)) (fun a hA => ?_)
        refine W_val hA rfl 4 rfl (by decide) _ _ (R_asg hA rfl rfl _) (fun a hA => ?_)
        refine W_nil ?_
        refine then_nrm ?_
        show Code.wp Try.prog _ _ _ _
        refine wp_ret ?_
        refine then_ret ?_
        refine ret_tmp (j := 4) (by kernel_rfl) hA (by decide) rfl ⟨congrArg (fun x : Bool => Ending.returned (.bool x)) ?_, HB⟩
        unfold allowB
        first
          | (simp only [c1, c2, c38, c39, c40, c41, c42, c43, if_true, if_false, Bool.false_eq_true, Bool.not_true, Bool.not_false, Bool.true_and, Bool.false_and, Bool.and_true, Bool.and_false, Bool.true_or, Bool.false_or, Bool.or_true, Bool.or_false]; done)
          | (exfalso; simp_all; done)
          | (exfalso; simp_all; omega)
      refine wp_skip ?_
      refine then_nrm ?_
      show Code.wp Try.prog _ _ _ _
      refine wp_seq ?_
      refine wp_seq ?_
      refine wp_region_list ?_
      refine W_val hA rfl 43 rfl (by decide) _ _ (R_fa hA rfl rfl (fun w => fa_want _ 1 (by decide) w) _) (fun a hA => ?_)
      refine W_val hA rfl 44 rfl (by decide) _ _ (R_ld (v := .bool s.ex) hA rfl rfl ag_bool (RowC.cell B3 1 _ rfl)) (fun a hA => ?_)
      refine W_nil ?_
      refine then_nrm ?_
      show Code.wp Try.prog _ _ _ _
      refine wp_cond_split (hA.ev (x := .tmp 44) rfl) (fun c44 => ?_) (fun c44 => ?_)
      · skip
        refine wp_seq ?_
        refine wp_region_list ?_
        refine W_val hA rfl 45 rfl (by decide) _ _ (R_fa hA rfl rfl (fun w => fa_ent _ 3 (by decide) w) _) (fun a hA => ?_)
        refine W_val hA rfl 46 rfl (by decide) _ _ (R_ld (v := .bool (bitZ x 3)) hA rfl rfl ag_bool (RowC.cell B2 3 _ rfl)) (fun a hA => ?_)
        refine W_val hA rfl 4 rfl (by decide) _ _ (R_asg hA rfl rfl _) (fun a hA => ?_)
        refine W_nil ?_
        refine then_nrm ?_
        show Code.wp Try.prog _ _ _ _
        refine wp_ret ?_
        refine then_ret ?_
        refine ret_tmp (j := 4) (by kernel_rfl) hA (by decide) rfl ⟨congrArg (fun x : Bool => Ending.returned (.bool x)) ?_, HB⟩
        unfold allowB
        first
          | (simp only [c1, c2, c38, c39, c40, c41, c42, c43, c44, if_true, if_false, Bool.false_eq_true, Bool.not_true, Bool.not_false, Bool.true_and, Bool.false_and, Bool.and_true, Bool.and_false, Bool.true_or, Bool.false_or, Bool.or_true, Bool.or_false]; done)
          | (exfalso; simp_all; done)
          | (exfalso; simp_all; omega)
      refine wp_skip ?_
      refine then_nrm ?_
      show Code.wp Try.prog _ _ _ _
      refine wp_seq ?_
      refine wp_region_list ?_
      refine W_val hA rfl 47 rfl (by decide) _ _ (R_fa hA rfl rfl (fun w => fa_ent _ 1 (by decide) w) _) (fun a hA => ?_)
      refine W_val hA rfl 48 rfl (by decide) _ _ (R_ld (v := .bool (bitZ x 1)) hA rfl rfl ag_bool (RowC.cell B2 1 _ rfl)) (fun a hA => ?_)
      refine W_val hA rfl 49 rfl (by decide) _ _ (R_mov hA rfl rfl _) (fun a hA => ?_)
      refine W_split hA 49 rfl (fun c45 hA => ?_) (fun c45 hA => ?_)
      · skip
        refine W_gskip hA rfl rfl rfl 50 rfl (by decide) (fun a hA => ?_)
        refine W_gskip hA rfl rfl rfl 51 rfl (by decide) (fun a hA => ?_)
        refine W_gskip hA rfl rfl rfl 52 rfl (by decide) (fun a hA => ?_)
        refine W_gskipU hA rfl rfl rfl 53 rfl (by decide) (fun a hA => ?_)
        refine W_gskipU hA rfl rfl rfl 54 rfl (by decide) (fun a hA => ?_)
        refine W_gskip hA rfl rfl rfl 55 rfl (by decide) (fun a hA => ?_)
        refine W_val hA rfl 56 rfl (by decide) _ _ (R_pick hA rfl rfl rfl _) (fun a hA => ?_)
        refine W_val hA rfl 57 rfl (by decide) _ _ (R_mov hA rfl rfl _) (fun a hA => ?_)
        refine W_gskip hA rfl rfl rfl 58 rfl (by decide) (fun a hA => ?_)
        refine W_gskip hA rfl rfl rfl 59 rfl (by decide) (fun a hA => ?_)
        refine W_gskip hA rfl rfl rfl 60 rfl (by decide) (fun a hA => ?_)
        refine W_gskipU hA rfl rfl rfl 61 rfl (by decide) (fun a hA => ?_)
        refine W_gskipU hA rfl rfl rfl 62 rfl (by decide) (fun a hA => ?_)
        refine W_gskip hA rfl rfl rfl 63 rfl (by decide) (fun a hA => ?_)
        refine W_gskip hA rfl rfl rfl 64 rfl (by decide) (fun a hA => ?_)
        refine W_gskipU hA rfl rfl rfl 65 rfl (by decide) (fun a hA => ?_)
        refine W_gskipU hA rfl rfl rfl 66 rfl (by decide) (fun a hA => ?_)
        refine W_gskip hA rfl rfl rfl 67 rfl (by decide) (fun a hA => ?_)
        refine W_val hA rfl 68 rfl (by decide) _ _ (R_pick hA rfl rfl rfl _) (fun a hA => ?_)
        refine W_val hA rfl 4 rfl (by decide) _ _ (R_asg hA rfl rfl _) (fun a hA => ?_)
        refine W_nil ?_
        refine then_nrm ?_
        show Code.wp Try.prog _ _ _ _
        refine wp_ret ?_
        refine ret_tmp (j := 4) (by kernel_rfl) hA (by decide) rfl ⟨congrArg (fun x : Bool => Ending.returned (.bool x)) ?_, HB⟩
        unfold allowB
        first
          | (simp only [c1, c2, c38, c39, c40, c41, c42, c43, c44, c45, if_true, if_false, Bool.false_eq_true, Bool.not_true, Bool.not_false, Bool.true_and, Bool.false_and, Bool.and_true, Bool.and_false, Bool.true_or, Bool.false_or, Bool.or_true, Bool.or_false]; done)
          | (exfalso; simp_all; done)
          | (exfalso; simp_all; omega)
      refine W_gval hA rfl rfl rfl 50 rfl (by decide) _ _ (R_fa hA rfl rfl (fun w => fa_ent _ 3 (by decide) w) _) (fun a hA => ?_)
      refine W_gval hA rfl rfl rfl 51 rfl (by decide) _ _ (R_ld (v := .bool (bitZ x 3)) hA rfl rfl ag_bool (RowC.cell B2 3 _ rfl)) (fun a hA => ?_)
      refine W_gval hA rfl rfl rfl 52 rfl (by decide) _ _ (R_mov hA rfl rfl _) (fun a hA => ?_)
      refine W_split hA 52 rfl (fun c46 hA => ?_) (fun c46 hA => ?_)
      · skip
        refine W_gval hA rfl rfl rfl 53 rfl (by decide) _ _ (R_fa hA rfl rfl (fun w => fa_want _ 5 (by decide) w) _) (fun a hA => ?_)
        refine W_gval hA rfl rfl rfl 54 rfl (by decide) _ _ (R_ld (v := .bool s.mxr) hA rfl rfl ag_bool (RowC.cell B3 5 _ rfl)) (fun a hA => ?_)
        refine W_gval hA rfl rfl rfl 55 rfl (by decide) _ _ (R_pick hA rfl rfl rfl _) (fun a hA => ?_)
        refine W_val hA rfl 56 rfl (by decide) _ _ (R_pick hA rfl rfl rfl _) (fun a hA => ?_)
        refine W_val hA rfl 57 rfl (by decide) _ _ (R_mov hA rfl rfl _) (fun a hA => ?_)
        refine W_split hA 57 rfl (fun c47 hA => ?_) (fun c47 hA => ?_)
        · skip
          refine W_gskip hA rfl rfl rfl 58 rfl (by decide) (fun a hA => ?_)
          refine W_gskip hA rfl rfl rfl 59 rfl (by decide) (fun a hA => ?_)
          refine W_gskip hA rfl rfl rfl 60 rfl (by decide) (fun a hA => ?_)
          refine W_gskipU hA rfl rfl rfl 61 rfl (by decide) (fun a hA => ?_)
          refine W_gskipU hA rfl rfl rfl 62 rfl (by decide) (fun a hA => ?_)
          refine W_gskip hA rfl rfl rfl 63 rfl (by decide) (fun a hA => ?_)
          refine W_gskip hA rfl rfl rfl 64 rfl (by decide) (fun a hA => ?_)
          refine W_gskipU hA rfl rfl rfl 65 rfl (by decide) (fun a hA => ?_)
          refine W_gskipU hA rfl rfl rfl 66 rfl (by decide) (fun a hA => ?_)
          refine W_gskip hA rfl rfl rfl 67 rfl (by decide) (fun a hA => ?_)
          refine W_val hA rfl 68 rfl (by decide) _ _ (R_pick hA rfl rfl rfl _) (fun a hA => ?_)
          refine W_val hA rfl 4 rfl (by decide) _ _ (R_asg hA rfl rfl _) (fun a hA => ?_)
          refine W_nil ?_
          refine then_nrm ?_
          show Code.wp Try.prog _ _ _ _
          refine wp_ret ?_
          refine ret_tmp (j := 4) (by kernel_rfl) hA (by decide) rfl ⟨congrArg (fun x : Bool => Ending.returned (.bool x)) ?_, HB⟩
          unfold allowB
          first
            | (simp only [c1, c2, c38, c39, c40, c41, c42, c43, c44, c45, c46, c47, if_true, if_false, Bool.false_eq_true, Bool.not_true, Bool.not_false, Bool.true_and, Bool.false_and, Bool.and_true, Bool.and_false, Bool.true_or, Bool.false_or, Bool.or_true, Bool.or_false]; done)
            | (exfalso; simp_all; done)
            | (exfalso; simp_all; omega)
        refine W_gval hA rfl rfl rfl 58 rfl (by decide) _ _ (R_fa hA rfl rfl (fun w => fa_ent _ 3 (by decide) w) _) (fun a hA => ?_)
        refine W_gval hA rfl rfl rfl 59 rfl (by decide) _ _ (R_ld (v := .bool (bitZ x 3)) hA rfl rfl ag_bool (RowC.cell B2 3 _ rfl)) (fun a hA => ?_)
        refine W_gval hA rfl rfl rfl 60 rfl (by decide) _ _ (R_mov hA rfl rfl _) (fun a hA => ?_)
        refine W_split hA 60 rfl (fun c48 hA => ?_) (fun c48 hA => ?_)
        · skip
          refine W_gval hA rfl rfl rfl 61 rfl (by decide) _ _ (R_fa hA rfl rfl (fun w => fa_want _ 3 (by decide) w) _) (fun a hA => ?_)
          refine W_gval hA rfl rfl rfl 62 rfl (by decide) _ _ (R_ld (v := .bool s.v) hA rfl rfl ag_bool (RowC.cell B3 3 _ rfl)) (fun a hA => ?_)
          refine W_gval hA rfl rfl rfl 63 rfl (by decide) _ _ (R_pick hA rfl rfl rfl _) (fun a hA => ?_)
          refine W_gval hA rfl rfl rfl 64 rfl (by decide) _ _ (R_mov hA rfl rfl _) (fun a hA => ?_)
          refine W_split hA 64 rfl (fun c49 hA => ?_) (fun c49 hA => ?_)
          · skip
            refine W_gval hA rfl rfl rfl 65 rfl (by decide) _ _ (R_fa hA rfl rfl (fun w => fa_want _ 6 (by decide) w) _) (fun a hA => ?_)
            refine W_gval hA rfl rfl rfl 66 rfl (by decide) _ _ (R_ld (v := .bool s.vmxr) hA rfl rfl ag_bool (RowC.cell B3 6 _ rfl)) (fun a hA => ?_)
            refine W_gval hA rfl rfl rfl 67 rfl (by decide) _ _ (R_pick hA rfl rfl rfl _) (fun a hA => ?_)
            refine W_val hA rfl 68 rfl (by decide) _ _ (R_pick hA rfl rfl rfl _) (fun a hA => ?_)
            refine W_val hA rfl 4 rfl (by decide) _ _ (R_asg hA rfl rfl _) (fun a hA => ?_)
            refine W_nil ?_
            refine then_nrm ?_
            show Code.wp Try.prog _ _ _ _
            refine wp_ret ?_
            refine ret_tmp (j := 4) (by kernel_rfl) hA (by decide) rfl ⟨congrArg (fun x : Bool => Ending.returned (.bool x)) ?_, HB⟩
            unfold allowB
            first
              | (simp only [c1, c2, c38, c39, c40, c41, c42, c43, c44, c45, c46, c47, c48, c49, if_true, if_false, Bool.false_eq_true, Bool.not_true, Bool.not_false, Bool.true_and, Bool.false_and, Bool.and_true, Bool.and_false, Bool.true_or, Bool.false_or, Bool.or_true, Bool.or_false]; done)
              | (exfalso; simp_all; done)
              | (exfalso; simp_all; omega)
          refine W_gskip hA rfl rfl rfl 65 rfl (by decide) (fun a hA => ?_)
          refine W_gskip hA rfl rfl rfl 66 rfl (by decide) (fun a hA => ?_)
          refine W_gval hA rfl rfl rfl 67 rfl (by decide) _ _ (R_pick hA rfl rfl rfl _) (fun a hA => ?_)
          refine W_val hA rfl 68 rfl (by decide) _ _ (R_pick hA rfl rfl rfl _) (fun a hA => ?_)
          refine W_val hA rfl 4 rfl (by decide) _ _ (R_asg hA rfl rfl _) (fun a hA => ?_)
          refine W_nil ?_
          refine then_nrm ?_
          show Code.wp Try.prog _ _ _ _
          refine wp_ret ?_
          refine ret_tmp (j := 4) (by kernel_rfl) hA (by decide) rfl ⟨congrArg (fun x : Bool => Ending.returned (.bool x)) ?_, HB⟩
          unfold allowB
          first
            | (simp only [c1, c2, c38, c39, c40, c41, c42, c43, c44, c45, c46, c47, c48, c49, if_true, if_false, Bool.false_eq_true, Bool.not_true, Bool.not_false, Bool.true_and, Bool.false_and, Bool.and_true, Bool.and_false, Bool.true_or, Bool.false_or, Bool.or_true, Bool.or_false]; done)
            | (exfalso; simp_all; done)
            | (exfalso; simp_all; omega)
        refine W_gskip hA rfl rfl rfl 61 rfl (by decide) (fun a hA => ?_)
        refine W_gskip hA rfl rfl rfl 62 rfl (by decide) (fun a hA => ?_)
        refine W_gval hA rfl rfl rfl 63 rfl (by decide) _ _ (R_pick hA rfl rfl rfl _) (fun a hA => ?_)
        refine W_gval hA rfl rfl rfl 64 rfl (by decide) _ _ (R_mov hA rfl rfl _) (fun a hA => ?_)
        refine W_gskip hA rfl rfl rfl 65 rfl (by decide) (fun a hA => ?_)
        refine W_gskip hA rfl rfl rfl 66 rfl (by decide) (fun a hA => ?_)
        refine W_gval hA rfl rfl rfl 67 rfl (by decide) _ _ (R_pick hA rfl rfl rfl _) (fun a hA => ?_)
        refine W_val hA rfl 68 rfl (by decide) _ _ (R_pick hA rfl rfl rfl _) (fun a hA => ?_)
        refine W_val hA rfl 4 rfl (by decide) _ _ (R_asg hA rfl rfl _) (fun a hA => ?_)
        refine W_nil ?_
        refine then_nrm ?_
        show Code.wp Try.prog _ _ _ _
        refine wp_ret ?_
        refine ret_tmp (j := 4) (by kernel_rfl) hA (by decide) rfl ⟨congrArg (fun x : Bool => Ending.returned (.bool x)) ?_, HB⟩
        unfold allowB
        first
          | (simp only [c1, c2, c38, c39, c40, c41, c42, c43, c44, c45, c46, c47, c48, if_true, if_false, Bool.false_eq_true, Bool.not_true, Bool.not_false, Bool.true_and, Bool.false_and, Bool.and_true, Bool.and_false, Bool.true_or, Bool.false_or, Bool.or_true, Bool.or_false]; done)
          | (exfalso; simp_all; done)
          | (exfalso; simp_all; omega)
      refine W_gskip hA rfl rfl rfl 53 rfl (by decide) (fun a hA => ?_)
      refine W_gskip hA rfl rfl rfl 54 rfl (by decide) (fun a hA => ?_)
      refine W_gval hA rfl rfl rfl 55 rfl (by decide) _ _ (R_pick hA rfl rfl rfl _) (fun a hA => ?_)
      refine W_val hA rfl 56 rfl (by decide) _ _ (R_pick hA rfl rfl rfl _) (fun a hA => ?_)
      refine W_val hA rfl 57 rfl (by decide) _ _ (R_mov hA rfl rfl _) (fun a hA => ?_)
      refine W_gval hA rfl rfl rfl 58 rfl (by decide) _ _ (R_fa hA rfl rfl (fun w => fa_ent _ 3 (by decide) w) _) (fun a hA => ?_)
      refine W_gval hA rfl rfl rfl 59 rfl (by decide) _ _ (R_ld (v := .bool (bitZ x 3)) hA rfl rfl ag_bool (RowC.cell B2 3 _ rfl)) (fun a hA => ?_)
      refine W_gval hA rfl rfl rfl 60 rfl (by decide) _ _ (R_mov hA rfl rfl _) (fun a hA => ?_)
      refine W_split hA 60 rfl (fun c50 hA => ?_) (fun c50 hA => ?_)
      · skip
        refine W_gval hA rfl rfl rfl 61 rfl (by decide) _ _ (R_fa hA rfl rfl (fun w => fa_want _ 3 (by decide) w) _) (fun a hA => ?_)
        refine W_gval hA rfl rfl rfl 62 rfl (by decide) _ _ (R_ld (v := .bool s.v) hA rfl rfl ag_bool (RowC.cell B3 3 _ rfl)) (fun a hA => ?_)
        refine W_gval hA rfl rfl rfl 63 rfl (by decide) _ _ (R_pick hA rfl rfl rfl _) (fun a hA => ?_)
        refine W_gval hA rfl rfl rfl 64 rfl (by decide) _ _ (R_mov hA rfl rfl _) (fun a hA => ?_)
        refine W_split hA 64 rfl (fun c51 hA => ?_) (fun c51 hA => ?_)
        · skip
          refine W_gval hA rfl rfl rfl 65 rfl (by decide) _ _ (R_fa hA rfl rfl (fun w => fa_want _ 6 (by decide) w) _) (fun a hA => ?_)
          refine W_gval hA rfl rfl rfl 66 rfl (by decide) _ _ (R_ld (v := .bool s.vmxr) hA rfl rfl ag_bool (RowC.cell B3 6 _ rfl)) (fun a hA => ?_)
          refine W_gval hA rfl rfl rfl 67 rfl (by decide) _ _ (R_pick hA rfl rfl rfl _) (fun a hA => ?_)
          refine W_val hA rfl 68 rfl (by decide) _ _ (R_pick hA rfl rfl rfl _) (fun a hA => ?_)
          refine W_val hA rfl 4 rfl (by decide) _ _ (R_asg hA rfl rfl _) (fun a hA => ?_)
          refine W_nil ?_
          refine then_nrm ?_
          show Code.wp Try.prog _ _ _ _
          refine wp_ret ?_
          refine ret_tmp (j := 4) (by kernel_rfl) hA (by decide) rfl ⟨congrArg (fun x : Bool => Ending.returned (.bool x)) ?_, HB⟩
          unfold allowB
          first
            | (simp only [c1, c2, c38, c39, c40, c41, c42, c43, c44, c45, c46, c50, c51, if_true, if_false, Bool.false_eq_true, Bool.not_true, Bool.not_false, Bool.true_and, Bool.false_and, Bool.and_true, Bool.and_false, Bool.true_or, Bool.false_or, Bool.or_true, Bool.or_false]; done)
            | (exfalso; simp_all; done)
            | (exfalso; simp_all; omega)
        refine W_gskip hA rfl rfl rfl 65 rfl (by decide) (fun a hA => ?_)
        refine W_gskip hA rfl rfl rfl 66 rfl (by decide) (fun a hA => ?_)
        refine W_gval hA rfl rfl rfl 67 rfl (by decide) _ _ (R_pick hA rfl rfl rfl _) (fun a hA => ?_)
        refine W_val hA rfl 68 rfl (by decide) _ _ (R_pick hA rfl rfl rfl _) (fun a hA => ?_)
        refine W_val hA rfl 4 rfl (by decide) _ _ (R_asg hA rfl rfl _) (fun a hA => ?_)
        refine W_nil ?_
        refine then_nrm ?_
        show Code.wp Try.prog _ _ _ _
        refine wp_ret ?_
        refine ret_tmp (j := 4) (by kernel_rfl) hA (by decide) rfl ⟨congrArg (fun x : Bool => Ending.returned (.bool x)) ?_, HB⟩
        unfold allowB
        first
          | (simp only [c1, c2, c38, c39, c40, c41, c42, c43, c44, c45, c46, c50, c51, if_true, if_false, Bool.false_eq_true, Bool.not_true, Bool.not_false, Bool.true_and, Bool.false_and, Bool.and_true, Bool.and_false, Bool.true_or, Bool.false_or, Bool.or_true, Bool.or_false]; done)
          | (exfalso; simp_all; done)
          | (exfalso; simp_all; omega)
      refine W_gskip hA rfl rfl rfl 61 rfl (by decide) (fun a hA => ?_)
      refine W_gskip hA rfl rfl rfl 62 rfl (by decide) (fun a hA => ?_)
      refine W_gval hA rfl rfl rfl 63 rfl (by decide) _ _ (R_pick hA rfl rfl rfl _) (fun a hA => ?_)
      refine W_gval hA rfl rfl rfl 64 rfl (by decide) _ _ (R_mov hA rfl rfl _) (fun a hA => ?_)
      refine W_gskip hA rfl rfl rfl 65 rfl (by decide) (fun a hA => ?_)
      refine W_gskip hA rfl rfl rfl 66 rfl (by decide) (fun a hA => ?_)
      refine W_gval hA rfl rfl rfl 67 rfl (by decide) _ _ (R_pick hA rfl rfl rfl _) (fun a hA => ?_)
      refine W_val hA rfl 68 rfl (by decide) _ _ (R_pick hA rfl rfl rfl _) (fun a hA => ?_)
      refine W_val hA rfl 4 rfl (by decide) _ _ (R_asg hA rfl rfl _) (fun a hA => ?_)
      refine W_nil ?_
      refine then_nrm ?_
      show Code.wp Try.prog _ _ _ _
      refine wp_ret ?_
      refine ret_tmp (j := 4) (by kernel_rfl) hA (by decide) rfl ⟨congrArg (fun x : Bool => Ending.returned (.bool x)) ?_, HB⟩
      unfold allowB
      first
        | (simp only [c1, c2, c38, c39, c40, c41, c42, c43, c44, c45, c46, c50, if_true, if_false, Bool.false_eq_true, Bool.not_true, Bool.not_false, Bool.true_and, Bool.false_and, Bool.and_true, Bool.and_false, Bool.true_or, Bool.false_or, Bool.or_true, Bool.or_false]; done)
        | (exfalso; simp_all; done)
        | (exfalso; simp_all; omega)
    refine W_gskip hA rfl rfl rfl 24 rfl (by decide) (fun a hA => ?_)
    refine W_gskip hA rfl rfl rfl 25 rfl (by decide) (fun a hA => ?_)
    refine W_gskip hA rfl rfl rfl 26 rfl (by decide) (fun a hA => ?_)
    refine W_gskip hA rfl rfl rfl 27 rfl (by decide) (fun a hA => ?_)
    refine W_gskipU hA rfl rfl rfl 28 rfl (by decide) (fun a hA => ?_)
    refine W_gskipU hA rfl rfl rfl 29 rfl (by decide) (fun a hA => ?_)
    refine W_gskipU hA rfl rfl rfl 30 rfl (by decide) (fun a hA => ?_)
    refine W_gskip hA rfl rfl rfl 31 rfl (by decide) (fun a hA => ?_)
    refine W_val hA rfl 32 rfl (by decide) _ _ (R_pick hA rfl rfl rfl _) (fun a hA => ?_)
    refine W_nil ?_
    refine then_nrm ?_
    show Code.wp Try.prog _ _ _ _
    refine wp_cond_false (hA.ev (x := .tmp 32) rfl) ?_
    refine wp_skip ?_
    refine then_nrm ?_
    show Code.wp Try.prog _ _ _ _
    refine wp_seq ?_
    refine wp_seq ?_
    refine wp_region_list ?_
    refine W_val hA rfl 33 rfl (by decide) _ _ (R_fa hA rfl rfl (fun w => fa_want _ 0 (by decide) w) _) (fun a hA => ?_)
    refine W_val hA rfl 34 rfl (by decide) _ _ (R_ld (v := .int .u8 s.kind) hA rfl rfl ag_u8 (RowC.cell B3 0 _ rfl)) (fun a hA => ?_)
    refine W_val hA rfl 35 rfl (by decide) _ _ (R_eqlB hA rfl rfl rfl _) (fun a hA => ?_)
    refine W_nil ?_
    refine then_nrm ?_
    show Code.wp Try.prog _ _ _ _
    refine wp_cond_split (hA.ev (x := .tmp 35) rfl) (fun c52 => ?_) (fun c52 => ?_)
    · skip
      refine wp_seq ?_
      refine wp_region_list ?_
      refine W_val hA rfl 36 rfl (by decide) _ _ (R_fa hA rfl rfl (fun w => fa_ent _ 3 (by decide) w) _) (fun a hA => ?_)
      refine W_val hA rfl 37 rfl (by decide) _ _ (R_ld (v := .bool (bitZ x 3)) hA rfl rfl ag_bool (RowC.cell B2 3 _ rfl)) (fun a hA => ?_)
      refine W_val hA rfl 4 rfl (by decide) _ _ (R_asg hA rfl rfl _) (fun a hA => ?_)
      refine W_nil ?_
      refine then_nrm ?_
      show Code.wp Try.prog _ _ _ _
      refine wp_ret ?_
      refine then_ret ?_
      refine ret_tmp (j := 4) (by kernel_rfl) hA (by decide) rfl ⟨congrArg (fun x : Bool => Ending.returned (.bool x)) ?_, HB⟩
      unfold allowB
      first
        | (simp only [c1, c2, c38, c39, c52, if_true, if_false, Bool.false_eq_true, Bool.not_true, Bool.not_false, Bool.true_and, Bool.false_and, Bool.and_true, Bool.and_false, Bool.true_or, Bool.false_or, Bool.or_true, Bool.or_false]; done)
        | (exfalso; simp_all; done)
        | (exfalso; simp_all; omega)
    refine wp_skip ?_
    refine then_nrm ?_
    show Code.wp Try.prog _ _ _ _
    refine wp_seq ?_
    refine wp_seq ?_
    refine wp_region_list ?_
    refine W_val hA rfl 38 rfl (by decide) _ _ (R_fa hA rfl rfl (fun w => fa_want _ 0 (by decide) w) _) (fun a hA => ?_)
    refine W_val hA rfl 39 rfl (by decide) _ _ (R_ld (v := .int .u8 s.kind) hA rfl rfl ag_u8 (RowC.cell B3 0 _ rfl)) (fun a hA => ?_)
    refine W_val hA rfl 40 rfl (by decide) _ _ (R_eqlB hA rfl rfl rfl _) (fun a hA => ?_)
    refine W_nil ?_
    refine then_nrm ?_
    show Code.wp Try.prog _ _ _ _
    refine wp_cond_split (hA.ev (x := .tmp 40) rfl) (fun c53 => ?_) (fun c53 => ?_)
    · skip
      refine wp_seq ?_
      refine wp_region_list ?_
      refine W_val hA rfl 41 rfl (by decide) _ _ (R_fa hA rfl rfl (fun w => fa_ent _ 2 (by decide) w) _) (fun a hA => ?_)
      refine W_val hA rfl 42 rfl (by decide) _ _ (R_ld (v := .bool (bitZ x 2)) hA rfl rfl ag_bool (RowC.cell B2 2 _ rfl)) (fun a hA => ?_)
      refine W_val hA rfl 4 rfl (by decide) _ _ (R_asg hA rfl rfl _) (fun a hA => ?_)
      refine W_nil ?_
      refine then_nrm ?_
      show Code.wp Try.prog _ _ _ _
      refine wp_ret ?_
      refine then_ret ?_
      refine ret_tmp (j := 4) (by kernel_rfl) hA (by decide) rfl ⟨congrArg (fun x : Bool => Ending.returned (.bool x)) ?_, HB⟩
      unfold allowB
      first
        | (simp only [c1, c2, c38, c39, c52, c53, if_true, if_false, Bool.false_eq_true, Bool.not_true, Bool.not_false, Bool.true_and, Bool.false_and, Bool.and_true, Bool.and_false, Bool.true_or, Bool.false_or, Bool.or_true, Bool.or_false]; done)
        | (exfalso; simp_all; done)
        | (exfalso; simp_all; omega)
    refine wp_skip ?_
    refine then_nrm ?_
    show Code.wp Try.prog _ _ _ _
    refine wp_seq ?_
    refine wp_seq ?_
    refine wp_region_list ?_
    refine W_val hA rfl 43 rfl (by decide) _ _ (R_fa hA rfl rfl (fun w => fa_want _ 1 (by decide) w) _) (fun a hA => ?_)
    refine W_val hA rfl 44 rfl (by decide) _ _ (R_ld (v := .bool s.ex) hA rfl rfl ag_bool (RowC.cell B3 1 _ rfl)) (fun a hA => ?_)
    refine W_nil ?_
    refine then_nrm ?_
    show Code.wp Try.prog _ _ _ _
    refine wp_cond_split (hA.ev (x := .tmp 44) rfl) (fun c54 => ?_) (fun c54 => ?_)
    · skip
      refine wp_seq ?_
      refine wp_region_list ?_
      refine W_val hA rfl 45 rfl (by decide) _ _ (R_fa hA rfl rfl (fun w => fa_ent _ 3 (by decide) w) _) (fun a hA => ?_)
      refine W_val hA rfl 46 rfl (by decide) _ _ (R_ld (v := .bool (bitZ x 3)) hA rfl rfl ag_bool (RowC.cell B2 3 _ rfl)) (fun a hA => ?_)
      refine W_val hA rfl 4 rfl (by decide) _ _ (R_asg hA rfl rfl _) (fun a hA => ?_)
      refine W_nil ?_
      refine then_nrm ?_
      show Code.wp Try.prog _ _ _ _
      refine wp_ret ?_
      refine then_ret ?_
      refine ret_tmp (j := 4) (by kernel_rfl) hA (by decide) rfl ⟨congrArg (fun x : Bool => Ending.returned (.bool x)) ?_, HB⟩
      unfold allowB
      first
        | (simp only [c1, c2, c38, c39, c52, c53, c54, if_true, if_false, Bool.false_eq_true, Bool.not_true, Bool.not_false, Bool.true_and, Bool.false_and, Bool.and_true, Bool.and_false, Bool.true_or, Bool.false_or, Bool.or_true, Bool.or_false]; done)
        | (exfalso; simp_all; done)
        | (exfalso; simp_all; omega)
    refine wp_skip ?_
    refine then_nrm ?_
    show Code.wp Try.prog _ _ _ _
    refine wp_seq ?_
    refine wp_region_list ?_
    refine W_val hA rfl 47 rfl (by decide) _ _ (R_fa hA rfl rfl (fun w => fa_ent _ 1 (by decide) w) _) (fun a hA => ?_)
    refine W_val hA rfl 48 rfl (by decide) _ _ (R_ld (v := .bool (bitZ x 1)) hA rfl rfl ag_bool (RowC.cell B2 1 _ rfl)) (fun a hA => ?_)
    refine W_val hA rfl 49 rfl (by decide) _ _ (R_mov hA rfl rfl _) (fun a hA => ?_)
    refine W_split hA 49 rfl (fun c55 hA => ?_) (fun c55 hA => ?_)
    · skip
      refine W_gskip hA rfl rfl rfl 50 rfl (by decide) (fun a hA => ?_)
      refine W_gskip hA rfl rfl rfl 51 rfl (by decide) (fun a hA => ?_)
      refine W_gskip hA rfl rfl rfl 52 rfl (by decide) (fun a hA => ?_)
      refine W_gskipU hA rfl rfl rfl 53 rfl (by decide) (fun a hA => ?_)
      refine W_gskipU hA rfl rfl rfl 54 rfl (by decide) (fun a hA => ?_)
      refine W_gskip hA rfl rfl rfl 55 rfl (by decide) (fun a hA => ?_)
      refine W_val hA rfl 56 rfl (by decide) _ _ (R_pick hA rfl rfl rfl _) (fun a hA => ?_)
      refine W_val hA rfl 57 rfl (by decide) _ _ (R_mov hA rfl rfl _) (fun a hA => ?_)
      refine W_gskip hA rfl rfl rfl 58 rfl (by decide) (fun a hA => ?_)
      refine W_gskip hA rfl rfl rfl 59 rfl (by decide) (fun a hA => ?_)
      refine W_gskip hA rfl rfl rfl 60 rfl (by decide) (fun a hA => ?_)
      refine W_gskipU hA rfl rfl rfl 61 rfl (by decide) (fun a hA => ?_)
      refine W_gskipU hA rfl rfl rfl 62 rfl (by decide) (fun a hA => ?_)
      refine W_gskip hA rfl rfl rfl 63 rfl (by decide) (fun a hA => ?_)
      refine W_gskip hA rfl rfl rfl 64 rfl (by decide) (fun a hA => ?_)
      refine W_gskipU hA rfl rfl rfl 65 rfl (by decide) (fun a hA => ?_)
      refine W_gskipU hA rfl rfl rfl 66 rfl (by decide) (fun a hA => ?_)
      refine W_gskip hA rfl rfl rfl 67 rfl (by decide) (fun a hA => ?_)
      refine W_val hA rfl 68 rfl (by decide) _ _ (R_pick hA rfl rfl rfl _) (fun a hA => ?_)
      refine W_val hA rfl 4 rfl (by decide) _ _ (R_asg hA rfl rfl _) (fun a hA => ?_)
      refine W_nil ?_
      refine then_nrm ?_
      show Code.wp Try.prog _ _ _ _
      refine wp_ret ?_
      refine ret_tmp (j := 4) (by kernel_rfl) hA (by decide) rfl ⟨congrArg (fun x : Bool => Ending.returned (.bool x)) ?_, HB⟩
      unfold allowB
      first
        | (simp only [c1, c2, c38, c39, c52, c53, c54, c55, if_true, if_false, Bool.false_eq_true, Bool.not_true, Bool.not_false, Bool.true_and, Bool.false_and, Bool.and_true, Bool.and_false, Bool.true_or, Bool.false_or, Bool.or_true, Bool.or_false]; done)
        | (exfalso; simp_all; done)
        | (exfalso; simp_all; omega)
    refine W_gval hA rfl rfl rfl 50 rfl (by decide) _ _ (R_fa hA rfl rfl (fun w => fa_ent _ 3 (by decide) w) _) (fun a hA => ?_)
    refine W_gval hA rfl rfl rfl 51 rfl (by decide) _ _ (R_ld (v := .bool (bitZ x 3)) hA rfl rfl ag_bool (RowC.cell B2 3 _ rfl)) (fun a hA => ?_)
    refine W_gval hA rfl rfl rfl 52 rfl (by decide) _ _ (R_mov hA rfl rfl _) (fun a hA => ?_)
    refine W_split hA 52 rfl (fun c56 hA => ?_) (fun c56 hA => ?_)
    · skip
      refine W_gval hA rfl rfl rfl 53 rfl (by decide) _ _ (R_fa hA rfl rfl (fun w => fa_want _ 5 (by decide) w) _) (fun a hA => ?_)
      refine W_gval hA rfl rfl rfl 54 rfl (by decide) _ _ (R_ld (v := .bool s.mxr) hA rfl rfl ag_bool (RowC.cell B3 5 _ rfl)) (fun a hA => ?_)
      refine W_gval hA rfl rfl rfl 55 rfl (by decide) _ _ (R_pick hA rfl rfl rfl _) (fun a hA => ?_)
      refine W_val hA rfl 56 rfl (by decide) _ _ (R_pick hA rfl rfl rfl _) (fun a hA => ?_)
      refine W_val hA rfl 57 rfl (by decide) _ _ (R_mov hA rfl rfl _) (fun a hA => ?_)
      refine W_split hA 57 rfl (fun c57 hA => ?_) (fun c57 hA => ?_)
      · skip
        refine W_gskip hA rfl rfl rfl 58 rfl (by decide) (fun a hA => ?_)
        refine W_gskip hA rfl rfl rfl 59 rfl (by decide) (fun a hA => ?_)
        refine W_gskip hA rfl rfl rfl 60 rfl (by decide) (fun a hA => ?_)
        refine W_gskipU hA rfl rfl rfl 61 rfl (by decide) (fun a hA => ?_)
        refine W_gskipU hA rfl rfl rfl 62 rfl (by decide) (fun a hA => ?_)
        refine W_gskip hA rfl rfl rfl 63 rfl (by decide) (fun a hA => ?_)
        refine W_gskip hA rfl rfl rfl 64 rfl (by decide) (fun a hA => ?_)
        refine W_gskipU hA rfl rfl rfl 65 rfl (by decide) (fun a hA => ?_)
        refine W_gskipU hA rfl rfl rfl 66 rfl (by decide) (fun a hA => ?_)
        refine W_gskip hA rfl rfl rfl 67 rfl (by decide) (fun a hA => ?_)
        refine W_val hA rfl 68 rfl (by decide) _ _ (R_pick hA rfl rfl rfl _) (fun a hA => ?_)
        refine W_val hA rfl 4 rfl (by decide) _ _ (R_asg hA rfl rfl _) (fun a hA => ?_)
        refine W_nil ?_
        refine then_nrm ?_
        show Code.wp Try.prog _ _ _ _
        refine wp_ret ?_
        refine ret_tmp (j := 4) (by kernel_rfl) hA (by decide) rfl ⟨congrArg (fun x : Bool => Ending.returned (.bool x)) ?_, HB⟩
        unfold allowB
        first
          | (simp only [c1, c2, c38, c39, c52, c53, c54, c55, c56, c57, if_true, if_false, Bool.false_eq_true, Bool.not_true, Bool.not_false, Bool.true_and, Bool.false_and, Bool.and_true, Bool.and_false, Bool.true_or, Bool.false_or, Bool.or_true, Bool.or_false]; done)
          | (exfalso; simp_all; done)
          | (exfalso; simp_all; omega)
      refine W_gval hA rfl rfl rfl 58 rfl (by decide) _ _ (R_fa hA rfl rfl (fun w => fa_ent _ 3 (by decide) w) _) (fun a hA => ?_)
      refine W_gval hA rfl rfl rfl 59 rfl (by decide) _ _ (R_ld (v := .bool (bitZ x 3)) hA rfl rfl ag_bool (RowC.cell B2 3 _ rfl)) (fun a hA => ?_)
      refine W_gval hA rfl rfl rfl 60 rfl (by decide) _ _ (R_mov hA rfl rfl _) (fun a hA => ?_)
      refine W_split hA 60 rfl (fun c58 hA => ?_) (fun c58 hA => ?_)
      · skip
        refine W_gval hA rfl rfl rfl 61 rfl (by decide) _ _ (R_fa hA rfl rfl (fun w => fa_want _ 3 (by decide) w) _) (fun a hA => ?_)
        refine W_gval hA rfl rfl rfl 62 rfl (by decide) _ _ (R_ld (v := .bool s.v) hA rfl rfl ag_bool (RowC.cell B3 3 _ rfl)) (fun a hA => ?_)
        refine W_gval hA rfl rfl rfl 63 rfl (by decide) _ _ (R_pick hA rfl rfl rfl _) (fun a hA => ?_)
        refine W_gval hA rfl rfl rfl 64 rfl (by decide) _ _ (R_mov hA rfl rfl _) (fun a hA => ?_)
        refine W_split hA 64 rfl (fun c59 hA => ?_) (fun c59 hA => ?_)
        · skip
          refine W_gval hA rfl rfl rfl 65 rfl (by decide) _ _ (R_fa hA rfl rfl (fun w => fa_want _ 6 (by decide) w) _) (fun a hA => ?_)
          refine W_gval hA rfl rfl rfl 66 rfl (by decide) _ _ (R_ld (v := .bool s.vmxr) hA rfl rfl ag_bool (RowC.cell B3 6 _ rfl)) (fun a hA => ?_)
          refine W_gval hA rfl rfl rfl 67 rfl (by decide) _ _ (R_pick hA rfl rfl rfl _) (fun a hA => ?_)
          refine W_val hA rfl 68 rfl (by decide) _ _ (R_pick hA rfl rfl rfl _) (fun a hA => ?_)
          refine W_val hA rfl 4 rfl (by decide) _ _ (R_asg hA rfl rfl _) (fun a hA => ?_)
          refine W_nil ?_
          refine then_nrm ?_
          show Code.wp Try.prog _ _ _ _
          refine wp_ret ?_
          refine ret_tmp (j := 4) (by kernel_rfl) hA (by decide) rfl ⟨congrArg (fun x : Bool => Ending.returned (.bool x)) ?_, HB⟩
          unfold allowB
          first
            | (simp only [c1, c2, c38, c39, c52, c53, c54, c55, c56, c57, c58, c59, if_true, if_false, Bool.false_eq_true, Bool.not_true, Bool.not_false, Bool.true_and, Bool.false_and, Bool.and_true, Bool.and_false, Bool.true_or, Bool.false_or, Bool.or_true, Bool.or_false]; done)
            | (exfalso; simp_all; done)
            | (exfalso; simp_all; omega)
        refine W_gskip hA rfl rfl rfl 65 rfl (by decide) (fun a hA => ?_)
        refine W_gskip hA rfl rfl rfl 66 rfl (by decide) (fun a hA => ?_)
        refine W_gval hA rfl rfl rfl 67 rfl (by decide) _ _ (R_pick hA rfl rfl rfl _) (fun a hA => ?_)
        refine W_val hA rfl 68 rfl (by decide) _ _ (R_pick hA rfl rfl rfl _) (fun a hA => ?_)
        refine W_val hA rfl 4 rfl (by decide) _ _ (R_asg hA rfl rfl _) (fun a hA => ?_)
        refine W_nil ?_
        refine then_nrm ?_
        show Code.wp Try.prog _ _ _ _
        refine wp_ret ?_
        refine ret_tmp (j := 4) (by kernel_rfl) hA (by decide) rfl ⟨congrArg (fun x : Bool => Ending.returned (.bool x)) ?_, HB⟩
        unfold allowB
        first
          | (simp only [c1, c2, c38, c39, c52, c53, c54, c55, c56, c57, c58, c59, if_true, if_false, Bool.false_eq_true, Bool.not_true, Bool.not_false, Bool.true_and, Bool.false_and, Bool.and_true, Bool.and_false, Bool.true_or, Bool.false_or, Bool.or_true, Bool.or_false]; done)
          | (exfalso; simp_all; done)
          | (exfalso; simp_all; omega)
      refine W_gskip hA rfl rfl rfl 61 rfl (by decide) (fun a hA => ?_)
      refine W_gskip hA rfl rfl rfl 62 rfl (by decide) (fun a hA => ?_)
      refine W_gval hA rfl rfl rfl 63 rfl (by decide) _ _ (R_pick hA rfl rfl rfl _) (fun a hA => ?_)
      refine W_gval hA rfl rfl rfl 64 rfl (by decide) _ _ (R_mov hA rfl rfl _) (fun a hA => ?_)
      refine W_gskip hA rfl rfl rfl 65 rfl (by decide) (fun a hA => ?_)
      refine W_gskip hA rfl rfl rfl 66 rfl (by decide) (fun a hA => ?_)
      refine W_gval hA rfl rfl rfl 67 rfl (by decide) _ _ (R_pick hA rfl rfl rfl _) (fun a hA => ?_)
      refine W_val hA rfl 68 rfl (by decide) _ _ (R_pick hA rfl rfl rfl _) (fun a hA => ?_)
      refine W_val hA rfl 4 rfl (by decide) _ _ (R_asg hA rfl rfl _) (fun a hA => ?_)
      refine W_nil ?_
      refine then_nrm ?_
      show Code.wp Try.prog _ _ _ _
      refine wp_ret ?_
      refine ret_tmp (j := 4) (by kernel_rfl) hA (by decide) rfl ⟨congrArg (fun x : Bool => Ending.returned (.bool x)) ?_, HB⟩
      unfold allowB
      first
        | (simp only [c1, c2, c38, c39, c52, c53, c54, c55, c56, c57, c58, if_true, if_false, Bool.false_eq_true, Bool.not_true, Bool.not_false, Bool.true_and, Bool.false_and, Bool.and_true, Bool.and_false, Bool.true_or, Bool.false_or, Bool.or_true, Bool.or_false]; done)
        | (exfalso; simp_all; done)
        | (exfalso; simp_all; omega)
    refine W_gskip hA rfl rfl rfl 53 rfl (by decide) (fun a hA => ?_)
    refine W_gskip hA rfl rfl rfl 54 rfl (by decide) (fun a hA => ?_)
    refine W_gval hA rfl rfl rfl 55 rfl (by decide) _ _ (R_pick hA rfl rfl rfl _) (fun a hA => ?_)
    refine W_val hA rfl 56 rfl (by decide) _ _ (R_pick hA rfl rfl rfl _) (fun a hA => ?_)
    refine W_val hA rfl 57 rfl (by decide) _ _ (R_mov hA rfl rfl _) (fun a hA => ?_)
    refine W_gval hA rfl rfl rfl 58 rfl (by decide) _ _ (R_fa hA rfl rfl (fun w => fa_ent _ 3 (by decide) w) _) (fun a hA => ?_)
    refine W_gval hA rfl rfl rfl 59 rfl (by decide) _ _ (R_ld (v := .bool (bitZ x 3)) hA rfl rfl ag_bool (RowC.cell B2 3 _ rfl)) (fun a hA => ?_)
    refine W_gval hA rfl rfl rfl 60 rfl (by decide) _ _ (R_mov hA rfl rfl _) (fun a hA => ?_)
    refine W_split hA 60 rfl (fun c60 hA => ?_) (fun c60 hA => ?_)
    · skip
      refine W_gval hA rfl rfl rfl 61 rfl (by decide) _ _ (R_fa hA rfl rfl (fun w => fa_want _ 3 (by decide) w) _) (fun a hA => ?_)
      refine W_gval hA rfl rfl rfl 62 rfl (by decide) _ _ (R_ld (v := .bool s.v) hA rfl rfl ag_bool (RowC.cell B3 3 _ rfl)) (fun a hA => ?_)
      refine W_gval hA rfl rfl rfl 63 rfl (by decide) _ _ (R_pick hA rfl rfl rfl _) (fun a hA => ?_)
      refine W_gval hA rfl rfl rfl 64 rfl (by decide) _ _ (R_mov hA rfl rfl _) (fun a hA => ?_)
      refine W_split hA 64 rfl (fun c61 hA => ?_) (fun c61 hA => ?_)
      · skip
        refine W_gval hA rfl rfl rfl 65 rfl (by decide) _ _ (R_fa hA rfl rfl (fun w => fa_want _ 6 (by decide) w) _) (fun a hA => ?_)
        refine W_gval hA rfl rfl rfl 66 rfl (by decide) _ _ (R_ld (v := .bool s.vmxr) hA rfl rfl ag_bool (RowC.cell B3 6 _ rfl)) (fun a hA => ?_)
        refine W_gval hA rfl rfl rfl 67 rfl (by decide) _ _ (R_pick hA rfl rfl rfl _) (fun a hA => ?_)
        refine W_val hA rfl 68 rfl (by decide) _ _ (R_pick hA rfl rfl rfl _) (fun a hA => ?_)
        refine W_val hA rfl 4 rfl (by decide) _ _ (R_asg hA rfl rfl _) (fun a hA => ?_)
        refine W_nil ?_
        refine then_nrm ?_
        show Code.wp Try.prog _ _ _ _
        refine wp_ret ?_
        refine ret_tmp (j := 4) (by kernel_rfl) hA (by decide) rfl ⟨congrArg (fun x : Bool => Ending.returned (.bool x)) ?_, HB⟩
        unfold allowB
        first
          | (simp only [c1, c2, c38, c39, c52, c53, c54, c55, c56, c60, c61, if_true, if_false, Bool.false_eq_true, Bool.not_true, Bool.not_false, Bool.true_and, Bool.false_and, Bool.and_true, Bool.and_false, Bool.true_or, Bool.false_or, Bool.or_true, Bool.or_false]; done)
          | (exfalso; simp_all; done)
          | (exfalso; simp_all; omega)
      refine W_gskip hA rfl rfl rfl 65 rfl (by decide) (fun a hA => ?_)
      refine W_gskip hA rfl rfl rfl 66 rfl (by decide) (fun a hA => ?_)
      refine W_gval hA rfl rfl rfl 67 rfl (by decide) _ _ (R_pick hA rfl rfl rfl _) (fun a hA => ?_)
      refine W_val hA rfl 68 rfl (by decide) _ _ (R_pick hA rfl rfl rfl _) (fun a hA => ?_)
      refine W_val hA rfl 4 rfl (by decide) _ _ (R_asg hA rfl rfl _) (fun a hA => ?_)
      refine W_nil ?_
      refine then_nrm ?_
      show Code.wp Try.prog _ _ _ _
      refine wp_ret ?_
      refine ret_tmp (j := 4) (by kernel_rfl) hA (by decide) rfl ⟨congrArg (fun x : Bool => Ending.returned (.bool x)) ?_, HB⟩
      unfold allowB
      first
        | (simp only [c1, c2, c38, c39, c52, c53, c54, c55, c56, c60, c61, if_true, if_false, Bool.false_eq_true, Bool.not_true, Bool.not_false, Bool.true_and, Bool.false_and, Bool.and_true, Bool.and_false, Bool.true_or, Bool.false_or, Bool.or_true, Bool.or_false]; done)
        | (exfalso; simp_all; done)
        | (exfalso; simp_all; omega)
    refine W_gskip hA rfl rfl rfl 61 rfl (by decide) (fun a hA => ?_)
    refine W_gskip hA rfl rfl rfl 62 rfl (by decide) (fun a hA => ?_)
    refine W_gval hA rfl rfl rfl 63 rfl (by decide) _ _ (R_pick hA rfl rfl rfl _) (fun a hA => ?_)
    refine W_gval hA rfl rfl rfl 64 rfl (by decide) _ _ (R_mov hA rfl rfl _) (fun a hA => ?_)
    refine W_gskip hA rfl rfl rfl 65 rfl (by decide) (fun a hA => ?_)
    refine W_gskip hA rfl rfl rfl 66 rfl (by decide) (fun a hA => ?_)
    refine W_gval hA rfl rfl rfl 67 rfl (by decide) _ _ (R_pick hA rfl rfl rfl _) (fun a hA => ?_)
    refine W_val hA rfl 68 rfl (by decide) _ _ (R_pick hA rfl rfl rfl _) (fun a hA => ?_)
    refine W_val hA rfl 4 rfl (by decide) _ _ (R_asg hA rfl rfl _) (fun a hA => ?_)
    refine W_nil ?_
    refine then_nrm ?_
    show Code.wp Try.prog _ _ _ _
    refine wp_ret ?_
    refine ret_tmp (j := 4) (by kernel_rfl) hA (by decide) rfl ⟨congrArg (fun x : Bool => Ending.returned (.bool x)) ?_, HB⟩
    unfold allowB
    first
      | (simp only [c1, c2, c38, c39, c52, c53, c54, c55, c56, c60, if_true, if_false, Bool.false_eq_true, Bool.not_true, Bool.not_false, Bool.true_and, Bool.false_and, Bool.and_true, Bool.and_false, Bool.true_or, Bool.false_or, Bool.or_true, Bool.or_false]; done)
      | (exfalso; simp_all; done)
      | (exfalso; simp_all; omega)
  refine W_gskip hA rfl rfl rfl 20 rfl (by decide) (fun a hA => ?_)
  refine W_gskip hA rfl rfl rfl 21 rfl (by decide) (fun a hA => ?_)
  refine W_val hA rfl 22 rfl (by decide) _ _ (R_pick hA rfl rfl rfl _) (fun a hA => ?_)
  refine W_val hA rfl 23 rfl (by decide) _ _ (R_mov hA rfl rfl _) (fun a hA => ?_)
  refine W_gskip hA rfl rfl rfl 24 rfl (by decide) (fun a hA => ?_)
  refine W_gskip hA rfl rfl rfl 25 rfl (by decide) (fun a hA => ?_)
  refine W_gskip hA rfl rfl rfl 26 rfl (by decide) (fun a hA => ?_)
  refine W_gskip hA rfl rfl rfl 27 rfl (by decide) (fun a hA => ?_)
  refine W_gskipU hA rfl rfl rfl 28 rfl (by decide) (fun a hA => ?_)
  refine W_gskipU hA rfl rfl rfl 29 rfl (by decide) (fun a hA => ?_)
  refine W_gskipU hA rfl rfl rfl 30 rfl (by decide) (fun a hA => ?_)
  refine W_gskip hA rfl rfl rfl 31 rfl (by decide) (fun a hA => ?_)
  refine W_val hA rfl 32 rfl (by decide) _ _ (R_pick hA rfl rfl rfl _) (fun a hA => ?_)
  refine W_nil ?_
  refine then_nrm ?_
  show Code.wp Try.prog _ _ _ _
  refine wp_cond_false (hA.ev (x := .tmp 32) rfl) ?_
  refine wp_skip ?_
  refine then_nrm ?_
  show Code.wp Try.prog _ _ _ _
  refine wp_seq ?_
  refine wp_seq ?_
  refine wp_region_list ?_
  refine W_val hA rfl 33 rfl (by decide) _ _ (R_fa hA rfl rfl (fun w => fa_want _ 0 (by decide) w) _) (fun a hA => ?_)
  refine W_val hA rfl 34 rfl (by decide) _ _ (R_ld (v := .int .u8 s.kind) hA rfl rfl ag_u8 (RowC.cell B3 0 _ rfl)) (fun a hA => ?_)
  refine W_val hA rfl 35 rfl (by decide) _ _ (R_eqlB hA rfl rfl rfl _) (fun a hA => ?_)
  refine W_nil ?_
  refine then_nrm ?_
  show Code.wp Try.prog _ _ _ _
  refine wp_cond_split (hA.ev (x := .tmp 35) rfl) (fun c62 => ?_) (fun c62 => ?_)
  · skip
    refine wp_seq ?_
    refine wp_region_list ?_
    refine W_val hA rfl 36 rfl (by decide) _ _ (R_fa hA rfl rfl (fun w => fa_ent _ 3 (by decide) w) _) (fun a hA => ?_)
    refine W_val hA rfl 37 rfl (by decide) _ _ (R_ld (v := .bool (bitZ x 3)) hA rfl rfl ag_bool (RowC.cell B2 3 _ rfl)) (fun a hA => ?_)
    refine W_val hA rfl 4 rfl (by decide) _ _ (R_asg hA rfl rfl _) (fun a hA => ?_)
    refine W_nil ?_
    refine then_nrm ?_
    show Code.wp Try.prog _ _ _ _
    refine wp_ret ?_
    refine then_ret ?_
    refine ret_tmp (j := 4) (by kernel_rfl) hA (by decide) rfl ⟨congrArg (fun x : Bool => Ending.returned (.bool x)) ?_, HB⟩
    unfold allowB
    first
      | (simp only [c1, c2, c38, c62, if_true, if_false, Bool.false_eq_true, Bool.not_true, Bool.not_false, Bool.true_and, Bool.false_and, Bool.and_true, Bool.and_false, Bool.true_or, Bool.false_or, Bool.or_true, Bool.or_false]; done)
      | (exfalso; simp_all; done)
      | (exfalso; simp_all; omega)
  refine wp_skip ?_
  refine then_nrm ?_
  show Code.wp Try.prog _ _ _ _
  refine wp_seq ?_
  refine wp_seq ?_
  refine wp_region_list ?_
  refine W_val hA rfl 38 rfl (by decide) _ _ (R_fa hA rfl rfl (fun w => fa_want _ 0 (by decide) w) _) (fun a hA => ?_)
  refine W_val hA rfl 39 rfl (by decide) _ _ (R_ld (v := .int .u8 s.kind) hA rfl rfl ag_u8 (RowC.cell B3 0 _ rfl)) (fun a hA => ?_)
  refine W_val hA rfl 40 rfl (by decide) _ _ (R_eqlB hA rfl rfl rfl _) (fun a hA => ?_)
  refine W_nil ?_
  refine then_nrm ?_
  show Code.wp Try.prog _ _ _ _
  refine wp_cond_split (hA.ev (x := .tmp 40) rfl) (fun c63 => ?_) (fun c63 => ?_)
  · skip
    refine wp_seq ?_
    refine wp_region_list ?_
    refine W_val hA rfl 41 rfl (by decide) _ _ (R_fa hA rfl rfl (fun w => fa_ent _ 2 (by decide) w) _) (fun a hA => ?_)
    refine W_val hA rfl 42 rfl (by decide) _ _ (R_ld (v := .bool (bitZ x 2)) hA rfl rfl ag_bool (RowC.cell B2 2 _ rfl)) (fun a hA => ?_)
    refine W_val hA rfl 4 rfl (by decide) _ _ (R_asg hA rfl rfl _) (fun a hA => ?_)
    refine W_nil ?_
    refine then_nrm ?_
    show Code.wp Try.prog _ _ _ _
    refine wp_ret ?_
    refine then_ret ?_
    refine ret_tmp (j := 4) (by kernel_rfl) hA (by decide) rfl ⟨congrArg (fun x : Bool => Ending.returned (.bool x)) ?_, HB⟩
    unfold allowB
    first
      | (simp only [c1, c2, c38, c62, c63, if_true, if_false, Bool.false_eq_true, Bool.not_true, Bool.not_false, Bool.true_and, Bool.false_and, Bool.and_true, Bool.and_false, Bool.true_or, Bool.false_or, Bool.or_true, Bool.or_false]; done)
      | (exfalso; simp_all; done)
      | (exfalso; simp_all; omega)
  refine wp_skip ?_
  refine then_nrm ?_
  show Code.wp Try.prog _ _ _ _
  refine wp_seq ?_
  refine wp_seq ?_
  refine wp_region_list ?_
  refine W_val hA rfl 43 rfl (by decide) _ _ (R_fa hA rfl rfl (fun w => fa_want _ 1 (by decide) w) _) (fun a hA => ?_)
  refine W_val hA rfl 44 rfl (by decide) _ _ (R_ld (v := .bool s.ex) hA rfl rfl ag_bool (RowC.cell B3 1 _ rfl)) (fun a hA => ?_)
  refine W_nil ?_
  refine then_nrm ?_
  show Code.wp Try.prog _ _ _ _
  refine wp_cond_split (hA.ev (x := .tmp 44) rfl) (fun c64 => ?_) (fun c64 => ?_)
  · skip
    refine wp_seq ?_
    refine wp_region_list ?_
    refine W_val hA rfl 45 rfl (by decide) _ _ (R_fa hA rfl rfl (fun w => fa_ent _ 3 (by decide) w) _) (fun a hA => ?_)
    refine W_val hA rfl 46 rfl (by decide) _ _ (R_ld (v := .bool (bitZ x 3)) hA rfl rfl ag_bool (RowC.cell B2 3 _ rfl)) (fun a hA => ?_)
    refine W_val hA rfl 4 rfl (by decide) _ _ (R_asg hA rfl rfl _) (fun a hA => ?_)
    refine W_nil ?_
    refine then_nrm ?_
    show Code.wp Try.prog _ _ _ _
    refine wp_ret ?_
    refine then_ret ?_
    refine ret_tmp (j := 4) (by kernel_rfl) hA (by decide) rfl ⟨congrArg (fun x : Bool => Ending.returned (.bool x)) ?_, HB⟩
    unfold allowB
    first
      | (simp only [c1, c2, c38, c62, c63, c64, if_true, if_false, Bool.false_eq_true, Bool.not_true, Bool.not_false, Bool.true_and, Bool.false_and, Bool.and_true, Bool.and_false, Bool.true_or, Bool.false_or, Bool.or_true, Bool.or_false]; done)
      | (exfalso; simp_all; done)
      | (exfalso; simp_all; omega)
  refine wp_skip ?_
  refine then_nrm ?_
  show Code.wp Try.prog _ _ _ _
  refine wp_seq ?_
  refine wp_region_list ?_
  refine W_val hA rfl 47 rfl (by decide) _ _ (R_fa hA rfl rfl (fun w => fa_ent _ 1 (by decide) w) _) (fun a hA => ?_)
  refine W_val hA rfl 48 rfl (by decide) _ _ (R_ld (v := .bool (bitZ x 1)) hA rfl rfl ag_bool (RowC.cell B2 1 _ rfl)) (fun a hA => ?_)
  refine W_val hA rfl 49 rfl (by decide) _ _ (R_mov hA rfl rfl _) (fun a hA => ?_)
  refine W_split hA 49 rfl (fun c65 hA => ?_) (fun c65 hA => ?_)
  · skip
    refine W_gskip hA rfl rfl rfl 50 rfl (by decide) (fun a hA => ?_)
    refine W_gskip hA rfl rfl rfl 51 rfl (by decide) (fun a hA => ?_)
    refine W_gskip hA rfl rfl rfl 52 rfl (by decide) (fun a hA => ?_)
    refine W_gskipU hA rfl rfl rfl 53 rfl (by decide) (fun a hA => ?_)
    refine W_gskipU hA rfl rfl rfl 54 rfl (by decide) (fun a hA => ?_)
    refine W_gskip hA rfl rfl rfl 55 rfl (by decide) (fun a hA => ?_)
    refine W_val hA rfl 56 rfl (by decide) _ _ (R_pick hA rfl rfl rfl _) (fun a hA => ?_)
    refine W_val hA rfl 57 rfl (by decide) _ _ (R_mov hA rfl rfl _) (fun a hA => ?_)
    refine W_gskip hA rfl rfl rfl 58 rfl (by decide) (fun a hA => ?_)
    refine W_gskip hA rfl rfl rfl 59 rfl (by decide) (fun a hA => ?_)
    refine W_gskip hA rfl rfl rfl 60 rfl (by decide) (fun a hA => ?_)
    refine W_gskipU hA rfl rfl rfl 61 rfl (by decide) (fun a hA => ?_)
    refine W_gskipU hA rfl rfl rfl 62 rfl (by decide) (fun a hA => ?_)
    refine W_gskip hA rfl rfl rfl 63 rfl (by decide) (fun a hA => ?_)
    refine W_gskip hA rfl rfl rfl 64 rfl (by decide) (fun a hA => ?_)
    refine W_gskipU hA rfl rfl rfl 65 rfl (by decide) (fun a hA => ?_)
    refine W_gskipU hA rfl rfl rfl 66 rfl (by decide) (fun a hA => ?_)
    refine W_gskip hA rfl rfl rfl 67 rfl (by decide) (fun a hA => ?_)
    refine W_val hA rfl 68 rfl (by decide) _ _ (R_pick hA rfl rfl rfl _) (fun a hA => ?_)
    refine W_val hA rfl 4 rfl (by decide) _ _ (R_asg hA rfl rfl _) (fun a hA => ?_)
    refine W_nil ?_
    refine then_nrm ?_
    show Code.wp Try.prog _ _ _ _
    refine wp_ret ?_
    refine ret_tmp (j := 4) (by kernel_rfl) hA (by decide) rfl ⟨congrArg (fun x : Bool => Ending.returned (.bool x)) ?_, HB⟩
    unfold allowB
    first
      | (simp only [c1, c2, c38, c62, c63, c64, c65, if_true, if_false, Bool.false_eq_true, Bool.not_true, Bool.not_false, Bool.true_and, Bool.false_and, Bool.and_true, Bool.and_false, Bool.true_or, Bool.false_or, Bool.or_true, Bool.or_false]; done)
      | (exfalso; simp_all; done)
      | (exfalso; simp_all; omega)
  refine W_gval hA rfl rfl rfl 50 rfl (by decide) _ _ (R_fa hA rfl rfl (fun w => fa_ent _ 3 (by decide) w) _) (fun a hA => ?_)
  refine W_gval hA rfl rfl rfl 51 rfl (by decide) _ _ (R_ld (v := .bool (bitZ x 3)) hA rfl rfl ag_bool (RowC.cell B2 3 _ rfl)) (fun a hA => ?_)
  refine W_gval hA rfl rfl rfl 52 rfl (by decide) _ _ (R_mov hA rfl rfl _) (fun a hA => ?_)
  refine W_split hA 52 rfl (fun c66 hA => ?_) (fun c66 hA => ?_)
  · skip
    refine W_gval hA rfl rfl rfl 53 rfl (by decide) _ _ (R_fa hA rfl rfl (fun w => fa_want _ 5 (by decide) w) _) (fun a hA => ?_)
    refine W_gval hA rfl rfl rfl 54 rfl (by decide) _ _ (R_ld (v := .bool s.mxr) hA rfl rfl ag_bool (RowC.cell B3 5 _ rfl)) (fun a hA => ?_)
    refine W_gval hA rfl rfl rfl 55 rfl (by decide) _ _ (R_pick hA rfl rfl rfl _) (fun a hA => ?_)
    refine W_val hA rfl 56 rfl (by decide) _ _ (R_pick hA rfl rfl rfl _) (fun a hA => ?_)
    refine W_val hA rfl 57 rfl (by decide) _ _ (R_mov hA rfl rfl _) (fun a hA => ?_)
    refine W_split hA 57 rfl (fun c67 hA => ?_) (fun c67 hA => ?_)
    · skip
      refine W_gskip hA rfl rfl rfl 58 rfl (by decide) (fun a hA => ?_)
      refine W_gskip hA rfl rfl rfl 59 rfl (by decide) (fun a hA => ?_)
      refine W_gskip hA rfl rfl rfl 60 rfl (by decide) (fun a hA => ?_)
      refine W_gskipU hA rfl rfl rfl 61 rfl (by decide) (fun a hA => ?_)
      refine W_gskipU hA rfl rfl rfl 62 rfl (by decide) (fun a hA => ?_)
      refine W_gskip hA rfl rfl rfl 63 rfl (by decide) (fun a hA => ?_)
      refine W_gskip hA rfl rfl rfl 64 rfl (by decide) (fun a hA => ?_)
      refine W_gskipU hA rfl rfl rfl 65 rfl (by decide) (fun a hA => ?_)
      refine W_gskipU hA rfl rfl rfl 66 rfl (by decide) (fun a hA => ?_)
      refine W_gskip hA rfl rfl rfl 67 rfl (by decide) (fun a hA => ?_)
      refine W_val hA rfl 68 rfl (by decide) _ _ (R_pick hA rfl rfl rfl _) (fun a hA => ?_)
      refine W_val hA rfl 4 rfl (by decide) _ _ (R_asg hA rfl rfl _) (fun a hA => ?_)
      refine W_nil ?_
      refine then_nrm ?_
      show Code.wp Try.prog _ _ _ _
      refine wp_ret ?_
      refine ret_tmp (j := 4) (by kernel_rfl) hA (by decide) rfl ⟨congrArg (fun x : Bool => Ending.returned (.bool x)) ?_, HB⟩
      unfold allowB
      first
        | (simp only [c1, c2, c38, c62, c63, c64, c65, c66, c67, if_true, if_false, Bool.false_eq_true, Bool.not_true, Bool.not_false, Bool.true_and, Bool.false_and, Bool.and_true, Bool.and_false, Bool.true_or, Bool.false_or, Bool.or_true, Bool.or_false]; done)
        | (exfalso; simp_all; done)
        | (exfalso; simp_all; omega)
    refine W_gval hA rfl rfl rfl 58 rfl (by decide) _ _ (R_fa hA rfl rfl (fun w => fa_ent _ 3 (by decide) w) _) (fun a hA => ?_)
    refine W_gval hA rfl rfl rfl 59 rfl (by decide) _ _ (R_ld (v := .bool (bitZ x 3)) hA rfl rfl ag_bool (RowC.cell B2 3 _ rfl)) (fun a hA => ?_)
    refine W_gval hA rfl rfl rfl 60 rfl (by decide) _ _ (R_mov hA rfl rfl _) (fun a hA => ?_)
    refine W_split hA 60 rfl (fun c68 hA => ?_) (fun c68 hA => ?_)
    · skip
      refine W_gval hA rfl rfl rfl 61 rfl (by decide) _ _ (R_fa hA rfl rfl (fun w => fa_want _ 3 (by decide) w) _) (fun a hA => ?_)
      refine W_gval hA rfl rfl rfl 62 rfl (by decide) _ _ (R_ld (v := .bool s.v) hA rfl rfl ag_bool (RowC.cell B3 3 _ rfl)) (fun a hA => ?_)
      refine W_gval hA rfl rfl rfl 63 rfl (by decide) _ _ (R_pick hA rfl rfl rfl _) (fun a hA => ?_)
      refine W_gval hA rfl rfl rfl 64 rfl (by decide) _ _ (R_mov hA rfl rfl _) (fun a hA => ?_)
      refine W_split hA 64 rfl (fun c69 hA => ?_) (fun c69 hA => ?_)
      · skip
        refine W_gval hA rfl rfl rfl 65 rfl (by decide) _ _ (R_fa hA rfl rfl (fun w => fa_want _ 6 (by decide) w) _) (fun a hA => ?_)
        refine W_gval hA rfl rfl rfl 66 rfl (by decide) _ _ (R_ld (v := .bool s.vmxr) hA rfl rfl ag_bool (RowC.cell B3 6 _ rfl)) (fun a hA => ?_)
        refine W_gval hA rfl rfl rfl 67 rfl (by decide) _ _ (R_pick hA rfl rfl rfl _) (fun a hA => ?_)
        refine W_val hA rfl 68 rfl (by decide) _ _ (R_pick hA rfl rfl rfl _) (fun a hA => ?_)
        refine W_val hA rfl 4 rfl (by decide) _ _ (R_asg hA rfl rfl _) (fun a hA => ?_)
        refine W_nil ?_
        refine then_nrm ?_
        show Code.wp Try.prog _ _ _ _
        refine wp_ret ?_
        refine ret_tmp (j := 4) (by kernel_rfl) hA (by decide) rfl ⟨congrArg (fun x : Bool => Ending.returned (.bool x)) ?_, HB⟩
        unfold allowB
        first
          | (simp only [c1, c2, c38, c62, c63, c64, c65, c66, c67, c68, c69, if_true, if_false, Bool.false_eq_true, Bool.not_true, Bool.not_false, Bool.true_and, Bool.false_and, Bool.and_true, Bool.and_false, Bool.true_or, Bool.false_or, Bool.or_true, Bool.or_false]; done)
          | (exfalso; simp_all; done)
          | (exfalso; simp_all; omega)
      refine W_gskip hA rfl rfl rfl 65 rfl (by decide) (fun a hA => ?_)
      refine W_gskip hA rfl rfl rfl 66 rfl (by decide) (fun a hA => ?_)
      refine W_gval hA rfl rfl rfl 67 rfl (by decide) _ _ (R_pick hA rfl rfl rfl _) (fun a hA => ?_)
      refine W_val hA rfl 68 rfl (by decide) _ _ (R_pick hA rfl rfl rfl _) (fun a hA => ?_)
      refine W_val hA rfl 4 rfl (by decide) _ _ (R_asg hA rfl rfl _) (fun a hA => ?_)
      refine W_nil ?_
      refine then_nrm ?_
      show Code.wp Try.prog _ _ _ _
      refine wp_ret ?_
      refine ret_tmp (j := 4) (by kernel_rfl) hA (by decide) rfl ⟨congrArg (fun x : Bool => Ending.returned (.bool x)) ?_, HB⟩
      unfold allowB
      first
        | (simp only [c1, c2, c38, c62, c63, c64, c65, c66, c67, c68, c69, if_true, if_false, Bool.false_eq_true, Bool.not_true, Bool.not_false, Bool.true_and, Bool.false_and, Bool.and_true, Bool.and_false, Bool.true_or, Bool.false_or, Bool.or_true, Bool.or_false]; done)
        | (exfalso; simp_all; done)
        | (exfalso; simp_all; omega)
    refine W_gskip hA rfl rfl rfl 61 rfl (by decide) (fun a hA => ?_)
    refine W_gskip hA rfl rfl rfl 62 rfl (by decide) (fun a hA => ?_)
    refine W_gval hA rfl rfl rfl 63 rfl (by decide) _ _ (R_pick hA rfl rfl rfl _) (fun a hA => ?_)
    refine W_gval hA rfl rfl rfl 64 rfl (by decide) _ _ (R_mov hA rfl rfl _) (fun a hA => ?_)
    refine W_gskip hA rfl rfl rfl 65 rfl (by decide) (fun a hA => ?_)
    refine W_gskip hA rfl rfl rfl 66 rfl (by decide) (fun a hA => ?_)
    refine W_gval hA rfl rfl rfl 67 rfl (by decide) _ _ (R_pick hA rfl rfl rfl _) (fun a hA => ?_)
    refine W_val hA rfl 68 rfl (by decide) _ _ (R_pick hA rfl rfl rfl _) (fun a hA => ?_)
    refine W_val hA rfl 4 rfl (by decide) _ _ (R_asg hA rfl rfl _) (fun a hA => ?_)
    refine W_nil ?_
    refine then_nrm ?_
    show Code.wp Try.prog _ _ _ _
    refine wp_ret ?_
    refine ret_tmp (j := 4) (by kernel_rfl) hA (by decide) rfl ⟨congrArg (fun x : Bool => Ending.returned (.bool x)) ?_, HB⟩
    unfold allowB
    first
      | (simp only [c1, c2, c38, c62, c63, c64, c65, c66, c67, c68, if_true, if_false, Bool.false_eq_true, Bool.not_true, Bool.not_false, Bool.true_and, Bool.false_and, Bool.and_true, Bool.and_false, Bool.true_or, Bool.false_or, Bool.or_true, Bool.or_false]; done)
      | (exfalso; simp_all; done)
      | (exfalso; simp_all; omega)
  refine W_gskip hA rfl rfl rfl 53 rfl (by decide) (fun a hA => ?_)
  refine W_gskip hA rfl rfl rfl 54 rfl (by decide) (fun a hA => ?_)
  refine W_gval hA rfl rfl rfl 55 rfl (by decide) _ _ (R_pick hA rfl rfl rfl _) (fun a hA => ?_)
  refine W_val hA rfl 56 rfl (by decide) _ _ (R_pick hA rfl rfl rfl _) (fun a hA => ?_)
  refine W_val hA rfl 57 rfl (by decide) _ _ (R_mov hA rfl rfl _) (fun a hA => ?_)
  refine W_gval hA rfl rfl rfl 58 rfl (by decide) _ _ (R_fa hA rfl rfl (fun w => fa_ent _ 3 (by decide) w) _) (fun a hA => ?_)
  refine W_gval hA rfl rfl rfl 59 rfl (by decide) _ _ (R_ld (v := .bool (bitZ x 3)) hA rfl rfl ag_bool (RowC.cell B2 3 _ rfl)) (fun a hA => ?_)
  refine W_gval hA rfl rfl rfl 60 rfl (by decide) _ _ (R_mov hA rfl rfl _) (fun a hA => ?_)
  refine W_split hA 60 rfl (fun c70 hA => ?_) (fun c70 hA => ?_)
  · skip
    refine W_gval hA rfl rfl rfl 61 rfl (by decide) _ _ (R_fa hA rfl rfl (fun w => fa_want _ 3 (by decide) w) _) (fun a hA => ?_)
    refine W_gval hA rfl rfl rfl 62 rfl (by decide) _ _ (R_ld (v := .bool s.v) hA rfl rfl ag_bool (RowC.cell B3 3 _ rfl)) (fun a hA => ?_)
    refine W_gval hA rfl rfl rfl 63 rfl (by decide) _ _ (R_pick hA rfl rfl rfl _) (fun a hA => ?_)
    refine W_gval hA rfl rfl rfl 64 rfl (by decide) _ _ (R_mov hA rfl rfl _) (fun a hA => ?_)
    refine W_split hA 64 rfl (fun c71 hA => ?_) (fun c71 hA => ?_)
    · skip
      refine W_gval hA rfl rfl rfl 65 rfl (by decide) _ _ (R_fa hA rfl rfl (fun w => fa_want _ 6 (by decide) w) _) (fun a hA => ?_)
      refine W_gval hA rfl rfl rfl 66 rfl (by decide) _ _ (R_ld (v := .bool s.vmxr) hA rfl rfl ag_bool (RowC.cell B3 6 _ rfl)) (fun a hA => ?_)
      refine W_gval hA rfl rfl rfl 67 rfl (by decide) _ _ (R_pick hA rfl rfl rfl _) (fun a hA => ?_)
      refine W_val hA rfl 68 rfl (by decide) _ _ (R_pick hA rfl rfl rfl _) (fun a hA => ?_)
      refine W_val hA rfl 4 rfl (by decide) _ _ (R_asg hA rfl rfl _) (fun a hA => ?_)
      refine W_nil ?_
      refine then_nrm ?_
      show Code.wp Try.prog _ _ _ _
      refine wp_ret ?_
      refine ret_tmp (j := 4) (by kernel_rfl) hA (by decide) rfl ⟨congrArg (fun x : Bool => Ending.returned (.bool x)) ?_, HB⟩
      unfold allowB
      first
        | (simp only [c1, c2, c38, c62, c63, c64, c65, c66, c70, c71, if_true, if_false, Bool.false_eq_true, Bool.not_true, Bool.not_false, Bool.true_and, Bool.false_and, Bool.and_true, Bool.and_false, Bool.true_or, Bool.false_or, Bool.or_true, Bool.or_false]; done)
        | (exfalso; simp_all; done)
        | (exfalso; simp_all; omega)
    refine W_gskip hA rfl rfl rfl 65 rfl (by decide) (fun a hA => ?_)
    refine W_gskip hA rfl rfl rfl 66 rfl (by decide) (fun a hA => ?_)
    refine W_gval hA rfl rfl rfl 67 rfl (by decide) _ _ (R_pick hA rfl rfl rfl _) (fun a hA => ?_)
    refine W_val hA rfl 68 rfl (by decide) _ _ (R_pick hA rfl rfl rfl _) (fun a hA => ?_)
    refine W_val hA rfl 4 rfl (by decide) _ _ (R_asg hA rfl rfl _) (fun a hA => ?_)
    refine W_nil ?_
    refine then_nrm ?_
    show Code.wp Try.prog _ _ _ _
    refine wp_ret ?_
    refine ret_tmp (j := 4) (by kernel_rfl) hA (by decide) rfl ⟨congrArg (fun x : Bool => Ending.returned (.bool x)) ?_, HB⟩
    unfold allowB
    first
      | (simp only [c1, c2, c38, c62, c63, c64, c65, c66, c70, c71, if_true, if_false, Bool.false_eq_true, Bool.not_true, Bool.not_false, Bool.true_and, Bool.false_and, Bool.and_true, Bool.and_false, Bool.true_or, Bool.false_or, Bool.or_true, Bool.or_false]; done)
      | (exfalso; simp_all; done)
      | (exfalso; simp_all; omega)
  refine W_gskip hA rfl rfl rfl 61 rfl (by decide) (fun a hA => ?_)
  refine W_gskip hA rfl rfl rfl 62 rfl (by decide) (fun a hA => ?_)
  refine W_gval hA rfl rfl rfl 63 rfl (by decide) _ _ (R_pick hA rfl rfl rfl _) (fun a hA => ?_)
  refine W_gval hA rfl rfl rfl 64 rfl (by decide) _ _ (R_mov hA rfl rfl _) (fun a hA => ?_)
  refine W_gskip hA rfl rfl rfl 65 rfl (by decide) (fun a hA => ?_)
  refine W_gskip hA rfl rfl rfl 66 rfl (by decide) (fun a hA => ?_)
  refine W_gval hA rfl rfl rfl 67 rfl (by decide) _ _ (R_pick hA rfl rfl rfl _) (fun a hA => ?_)
  refine W_val hA rfl 68 rfl (by decide) _ _ (R_pick hA rfl rfl rfl _) (fun a hA => ?_)
  refine W_val hA rfl 4 rfl (by decide) _ _ (R_asg hA rfl rfl _) (fun a hA => ?_)
  refine W_nil ?_
  refine then_nrm ?_
  show Code.wp Try.prog _ _ _ _
  refine wp_ret ?_
  refine ret_tmp (j := 4) (by kernel_rfl) hA (by decide) rfl ⟨congrArg (fun x : Bool => Ending.returned (.bool x)) ?_, HB⟩
  unfold allowB
  first
    | (simp only [c1, c2, c38, c62, c63, c64, c65, c66, c70, if_true, if_false, Bool.false_eq_true, Bool.not_true, Bool.not_false, Bool.true_and, Bool.false_and, Bool.and_true, Bool.and_false, Bool.true_or, Bool.false_or, Bool.or_true, Bool.or_false]; done)
    | (exfalso; simp_all; done)
    | (exfalso; simp_all; omega)
set_option maxHeartbeats 8000000 in
theorem dfull_any (x : Int) (s : WS) (w : World) : Calls Try.prog 25 #[entV x, wantV s] w fun e w' => e = .returned (.bool (fullB x s)) ∧ Below w.heap.size w w' := by
  have HB := Below.refl w.heap.size w
  go_enter Try.func25, Try.ntmps25
  refine begin_fr [(1, wantV s), (0, entV x)] 16 ?_ (fun a hA => ?_)
  · exact FrA.add (FrA.add (FrA.nil (by rfl) (by rfl)) 0 _ (by rfl)) 1 _ (by rfl)
  refine wp_seq ?_
  refine wp_region_list ?_
  refine W_boxT (cs := entC x) hA rfl 2 rfl (by decide) rfl rfl (fun w1 bB2 a hA hb B2 gB2 => ?_)
  replace gB2 := Nat.le_trans HB.size gB2
  replace HB := HB.trans (hb.mono HB.size)
  clear hb
  refine W_boxT (cs := wantC s) hA rfl 3 rfl (by decide) rfl rfl (fun w2 bB3 a hA hb B3 gB3 => ?_)
  have nB2B3 : bB2 < bB3 := by have := B2.lt; omega
  replace gB3 := Nat.le_trans HB.size gB3
  replace HB := HB.trans (hb.mono HB.size)
  replace B2 := B2.below hb
  clear hb
  refine W_val hA rfl 4 rfl (by decide) _ _ (R_asg hA rfl rfl _) (fun a hA => ?_)
  refine W_nil ?_
  refine then_nrm ?_
  show Code.wp Try.prog _ _ _ _
  refine wp_seq ?_
  refine wp_seq ?_
  refine wp_region_list ?_
  refine W_val hA rfl 5 rfl (by decide) _ _ (R_fa hA rfl rfl (fun w => fa_want _ 0 (by decide) w) _) (fun a hA => ?_)
  refine W_val hA rfl 6 rfl (by decide) _ _ (R_ld (v := .int .u8 s.kind) hA rfl rfl ag_u8 (RowC.cell B3 0 _ rfl)) (fun a hA => ?_)
  refine W_val hA rfl 7 rfl (by decide) _ _ (R_eqlB hA rfl rfl rfl _) (fun a hA => ?_)
  refine W_nil ?_
  refine then_nrm ?_
  show Code.wp Try.prog _ _ _ _
  refine wp_cond_split (hA.ev (x := .tmp 7) rfl) (fun c1 => ?_) (fun c1 => ?_)
  · skip
    refine wp_seq ?_
    refine wp_region_list ?_
    refine W_val hA rfl 8 rfl (by decide) _ _ (R_fa hA rfl rfl (fun w => fa_ent _ 6 (by decide) w) _) (fun a hA => ?_)
    refine W_val hA rfl 9 rfl (by decide) _ _ (R_ld (v := .bool (bitZ x 6)) hA rfl rfl ag_bool (RowC.cell B2 6 _ rfl)) (fun a hA => ?_)
    refine W_val hA rfl 10 rfl (by decide) _ _ (R_mov hA rfl rfl _) (fun a hA => ?_)
    refine W_split hA 10 rfl (fun c2 hA => ?_) (fun c2 hA => ?_)
    · skip
      refine W_gval hA rfl rfl rfl 11 rfl (by decide) _ _ (R_fa hA rfl rfl (fun w => fa_ent _ 7 (by decide) w) _) (fun a hA => ?_)
      refine W_gval hA rfl rfl rfl 12 rfl (by decide) _ _ (R_ld (v := .bool (bitZ x 7)) hA rfl rfl ag_bool (RowC.cell B2 7 _ rfl)) (fun a hA => ?_)
      refine W_val hA rfl 13 rfl (by decide) _ _ (R_pick hA rfl rfl rfl _) (fun a hA => ?_)
      refine W_val hA rfl 4 rfl (by decide) _ _ (R_asg hA rfl rfl _) (fun a hA => ?_)
      refine W_nil ?_
      refine then_nrm ?_
      show Code.wp Try.prog _ _ _ _
      refine wp_ret ?_
      refine then_ret ?_
      refine ret_tmp (j := 4) (by kernel_rfl) hA (by decide) rfl ⟨congrArg (fun x : Bool => Ending.returned (.bool x)) ?_, HB⟩
      unfold fullB
      first
        | (simp only [c1, c2, if_true, if_false, Bool.false_eq_true, Bool.not_true, Bool.not_false, Bool.true_and, Bool.false_and, Bool.and_true, Bool.and_false, Bool.true_or, Bool.false_or, Bool.or_true, Bool.or_false]; done)
        | (exfalso; simp_all; done)
        | (exfalso; simp_all; omega)
    refine W_gskip hA rfl rfl rfl 11 rfl (by decide) (fun a hA => ?_)
    refine W_gskip hA rfl rfl rfl 12 rfl (by decide) (fun a hA => ?_)
    refine W_val hA rfl 13 rfl (by decide) _ _ (R_pick hA rfl rfl rfl _) (fun a hA => ?_)
    refine W_val hA rfl 4 rfl (by decide) _ _ (R_asg hA rfl rfl _) (fun a hA => ?_)
    refine W_nil ?_
    refine then_nrm ?_
    show Code.wp Try.prog _ _ _ _
    refine wp_ret ?_
    refine then_ret ?_
    refine ret_tmp (j := 4) (by kernel_rfl) hA (by decide) rfl ⟨congrArg (fun x : Bool => Ending.returned (.bool x)) ?_, HB⟩
    unfold fullB
    first
      | (simp only [c1, c2, if_true, if_false, Bool.false_eq_true, Bool.not_true, Bool.not_false, Bool.true_and, Bool.false_and, Bool.and_true, Bool.and_false, Bool.true_or, Bool.false_or, Bool.or_true, Bool.or_false]; done)
      | (exfalso; simp_all; done)
      | (exfalso; simp_all; omega)
  refine wp_skip ?_
  refine then_nrm ?_
  show Code.wp Try.prog _ _ _ _
  refine wp_seq ?_
  refine wp_region_list ?_
  refine W_val hA rfl 14 rfl (by decide) _ _ (R_fa hA rfl rfl (fun w => fa_ent _ 6 (by decide) w) _) (fun a hA => ?_)
  refine W_val hA rfl 15 rfl (by decide) _ _ (R_ld (v := .bool (bitZ x 6)) hA rfl rfl ag_bool (RowC.cell B2 6 _ rfl)) (fun a hA => ?_)
  refine W_val hA rfl 4 rfl (by decide) _ _ (R_asg hA rfl rfl _) (fun a hA => ?_)
  refine W_nil ?_
  refine then_nrm ?_
  show Code.wp Try.prog _ _ _ _
  refine wp_ret ?_
  refine ret_tmp (j := 4) (by kernel_rfl) hA (by decide) rfl ⟨congrArg (fun x : Bool => Ending.returned (.bool x)) ?_, HB⟩
  unfold fullB
  first
    | (simp only [c1, if_true, if_false, Bool.false_eq_true, Bool.not_true, Bool.not_false, Bool.true_and, Bool.false_and, Bool.and_true, Bool.and_false, Bool.true_or, Bool.false_or, Bool.or_true, Bool.or_false]; done)
    | (exfalso; simp_all; done)
    | (exfalso; simp_all; omega)
set_option maxHeartbeats 8000000 in
theorem size_any (lv : Int) (w : World) : Calls Try.prog 36 #[.int .i64 lv] w fun e w' => e = .returned (.int .u64 (sizeZ lv)) ∧ w = w' := by
  have HB := Below.refl w.heap.size w
  go_enter Try.func36, Try.ntmps36
  refine begin_fr [(0, .int .i64 lv)] 7 ?_ (fun a hA => ?_)
  · exact FrA.add (FrA.nil (by rfl) (by rfl)) 0 _ (by rfl)
  refine wp_seq ?_
  refine wp_region_list ?_
  refine W_val hA rfl 2 rfl (by decide) _ _ (R_asg hA rfl rfl _) (fun a hA => ?_)
  refine W_nil ?_
  refine then_nrm ?_
  show Code.wp Try.prog _ _ _ _
  refine wp_seq ?_
  refine wp_seq ?_
  refine wp_region_list ?_
  refine W_val hA rfl 3 rfl (by decide) _ _ (R_mov hA rfl rfl _) (fun a hA => ?_)
  refine W_val hA rfl 4 rfl (by decide) _ _ (R_lssI hA rfl rfl rfl _) (fun a hA => ?_)
  refine W_nil ?_
  refine then_nrm ?_
  show Code.wp Try.prog _ _ _ _
  refine wp_cond_split (hA.ev (x := .tmp 4) rfl) (fun c1 => ?_) (fun c1 => ?_)
  · skip
    refine wp_seq ?_
    refine wp_region_list ?_
    refine W_val hA rfl 2 rfl (by decide) _ _ (R_asg hA rfl rfl _) (fun a hA => ?_)
    refine W_nil ?_
    refine then_nrm ?_
    show Code.wp Try.prog _ _ _ _
    refine wp_ret ?_
    refine then_ret ?_
    refine ret_tmp (j := 2) (by kernel_rfl) hA (by decide) rfl ⟨congrArg (fun x : Int => Ending.returned (.int .u64 x)) ?_, rfl⟩
    unfold sizeZ
    first
      | (simp only [c1, if_true, if_false, Bool.false_eq_true, Bool.not_true, Bool.not_false, Bool.true_and, Bool.false_and, Bool.and_true, Bool.and_false, Bool.true_or, Bool.false_or, Bool.or_true, Bool.or_false]; done)
      | (exfalso; simp_all; done)
      | (exfalso; simp_all; omega)
  refine wp_skip ?_
  refine then_nrm ?_
  show Code.wp Try.prog _ _ _ _
  refine wp_seq ?_
  refine wp_seq ?_
  refine wp_region_list ?_
  refine W_val hA rfl 5 rfl (by decide) _ _ (R_mov hA rfl rfl _) (fun a hA => ?_)
  refine W_val hA rfl 6 rfl (by decide) _ _ (R_eqlI hA rfl rfl rfl _) (fun a hA => ?_)
  refine W_nil ?_
  refine then_nrm ?_
  show Code.wp Try.prog _ _ _ _
  refine wp_cond_split (hA.ev (x := .tmp 6) rfl) (fun c2 => ?_) (fun c2 => ?_)
  · skip
    refine wp_seq ?_
    refine wp_region_list ?_
    refine W_val hA rfl 2 rfl (by decide) _ _ (R_asg hA rfl rfl _) (fun a hA => ?_)
    refine W_nil ?_
    refine then_nrm ?_
    show Code.wp Try.prog _ _ _ _
    refine wp_ret ?_
    refine then_ret ?_
    refine ret_tmp (j := 2) (by kernel_rfl) hA (by decide) rfl ⟨congrArg (fun x : Int => Ending.returned (.int .u64 x)) ?_, rfl⟩
    unfold sizeZ
    first
      | (simp only [c1, c2, if_true, if_false, Bool.false_eq_true, Bool.not_true, Bool.not_false, Bool.true_and, Bool.false_and, Bool.and_true, Bool.and_false, Bool.true_or, Bool.false_or, Bool.or_true, Bool.or_false]; done)
      | (exfalso; simp_all; done)
      | (exfalso; simp_all; omega)
  refine wp_skip ?_
  refine then_nrm ?_
  show Code.wp Try.prog _ _ _ _
  refine wp_seq ?_
  refine wp_region_list ?_
  refine W_val hA rfl 2 rfl (by decide) _ _ (R_asg hA rfl rfl _) (fun a hA => ?_)
  refine W_nil ?_
  refine then_nrm ?_
  show Code.wp Try.prog _ _ _ _
  refine wp_ret ?_
  refine ret_tmp (j := 2) (by kernel_rfl) hA (by decide) rfl ⟨congrArg (fun x : Int => Ending.returned (.int .u64 x)) ?_, rfl⟩
  unfold sizeZ
  first
    | (simp only [c1, c2, if_true, if_false, Bool.false_eq_true, Bool.not_true, Bool.not_false, Bool.true_and, Bool.false_and, Bool.and_true, Bool.and_false, Bool.true_or, Bool.false_or, Bool.or_true, Bool.or_false]; done)
    | (exfalso; simp_all; done)
    | (exfalso; simp_all; omega)
set_option maxHeartbeats 8000000 in
theorem djudge_any (x lv : Int) (s : WS) (hx : In64 x) (w : World) : Calls Try.prog 26 #[.int .u64 x, .int .i64 lv, wantV s] w fun e w' => e = .returned (.int .i64 (judgeZ x lv s)) ∧ Below w.heap.size w w' := by
  have HB := Below.refl w.heap.size w
  go_enter Try.func26, Try.ntmps26
  refine begin_fr [(2, wantV s), (1, .int .i64 lv), (0, .int .u64 x)] 30 ?_ (fun a hA => ?_)
  · exact FrA.add (FrA.add (FrA.add (FrA.nil (by rfl) (by rfl)) 0 _ (by rfl)) 1 _ (by rfl)) 2 _ (by rfl)
  refine wp_seq ?_
  refine wp_region_list ?_
  refine W_boxT (cs := wantC s) hA rfl 5 rfl (by decide) rfl rfl (fun w1 bB5 a hA hb B5 gB5 => ?_)
  replace gB5 := Nat.le_trans HB.size gB5
  replace HB := HB.trans (hb.mono HB.size)
  clear hb
  refine W_val hA rfl 6 rfl (by decide) _ _ (R_asg hA rfl rfl _) (fun a hA => ?_)
  refine W_nil ?_
  refine then_nrm ?_
  show Code.wp Try.prog _ _ _ _
  refine wp_seq ?_
  refine wp_region_list ?_
  refine W_val hA rfl 8 rfl (by decide) _ _ (R_mov hA rfl rfl _) (fun a hA => ?_)
  refine W_callA hA (by decide) (fun _ _ => by kernel_rfl) (args1 hA rfl) (of_any x hx _) (fun w2 hw a hA => ?_)
  replace HB := HB.trans (hw.mono HB.size)
  replace B5 := B5.below hw
  clear hw
  refine W_allocT (cs := #[.bool false, .bool false, .bool false, .bool false, .bool false, .bool false, .bool false, .bool false, .int .u64 0, .int .u64 0]) hA rfl 7 rfl (by decide) rfl zero_ent (fun w3 bB7 a hA hb B7 gB7 => ?_)
  have nB5B7 : bB5 < bB7 := by have := B5.lt; omega
  replace gB7 := Nat.le_trans HB.size gB7
  replace HB := HB.trans (hb.mono HB.size)
  replace B5 := B5.below hb
  clear hb
  refine W_cpT (cs := entC x) hA rfl rfl rfl rfl rfl B7 (by kernel_rfl) rfl (by simp [Value.oneCell']) (fun w4 hT HN => ?_)
  replace HB := HB.trans (hT.bel _ gB7)
  replace B5 := hT.row B5 (by omega)
  replace B7 := HN
  clear hT HN
  refine W_nil ?_
  refine then_nrm ?_
  show Code.wp Try.prog _ _ _ _
  refine wp_seq ?_
  refine wp_seq ?_
  refine wp_region_list ?_
  refine W_val hA rfl 10 rfl (by decide) _ _ (R_row hA rfl rfl B7 Try.underlying33 (by kernel_rfl)) (fun a hA => ?_)
  refine W_callA hA (by decide) (fun _ _ => by kernel_rfl) (args1 hA rfl) (dok_any x _) (fun w5 hw a hA => ?_)
  replace HB := HB.trans (hw.mono HB.size)
  replace B5 := B5.below hw
  replace B7 := B7.below hw
  clear hw
  refine W_val hA rfl 12 rfl (by decide) _ _ (R_not hA rfl rfl _) (fun a hA => ?_)
  refine W_nil ?_
  refine then_nrm ?_
  show Code.wp Try.prog _ _ _ _
  refine wp_cond_split (hA.ev (x := .tmp 12) rfl) (fun c1 => ?_) (fun c1 => ?_)
  · skip
    refine wp_seq ?_
    refine wp_region_list ?_
    refine W_val hA rfl 6 rfl (by decide) _ _ (R_asg hA rfl rfl _) (fun a hA => ?_)
    refine W_nil ?_
    refine then_nrm ?_
    show Code.wp Try.prog _ _ _ _
    refine wp_ret ?_
    refine then_ret ?_
    refine ret_tmp (j := 6) (by kernel_rfl) hA (by decide) rfl ⟨congrArg (fun x : Int => Ending.returned (.int .i64 x)) ?_, HB⟩
    unfold judgeZ
    first
      | (simp only [c1, if_true, if_false, Bool.false_eq_true, Bool.not_true, Bool.not_false, Bool.true_and, Bool.false_and, Bool.and_true, Bool.and_false, Bool.true_or, Bool.false_or, Bool.or_true, Bool.or_false]; done)
      | (exfalso; simp_all; done)
      | (exfalso; simp_all; omega)
  refine wp_skip ?_
  refine then_nrm ?_
  show Code.wp Try.prog _ _ _ _
  refine wp_seq ?_
  refine wp_seq ?_
  refine wp_region_list ?_
  refine W_val hA rfl 13 rfl (by decide) _ _ (R_row hA rfl rfl B7 Try.underlying33 (by kernel_rfl)) (fun a hA => ?_)
  refine W_callA hA (by decide) (fun _ _ => by kernel_rfl) (args1 hA rfl) (dleaf_any x _) (fun w6 hw a hA => ?_)
  replace HB := HB.trans (hw.mono HB.size)
  replace B5 := B5.below hw
  replace B7 := B7.below hw
  clear hw
  refine W_val hA rfl 15 rfl (by decide) _ _ (R_not hA rfl rfl _) (fun a hA => ?_)
  refine W_nil ?_
  refine then_nrm ?_
  show Code.wp Try.prog _ _ _ _
  refine wp_cond_split (hA.ev (x := .tmp 15) rfl) (fun c2 => ?_) (fun c2 => ?_)
  · skip
    refine wp_seq ?_
    refine wp_seq ?_
    refine wp_region_list ?_
    refine W_val hA rfl 16 rfl (by decide) _ _ (R_mov hA rfl rfl _) (fun a hA => ?_)
    refine W_val hA rfl 17 rfl (by decide) _ _ (R_lssI hA rfl rfl rfl _) (fun a hA => ?_)
    refine W_nil ?_
    refine then_nrm ?_
    show Code.wp Try.prog _ _ _ _
    refine wp_cond_split (hA.ev (x := .tmp 17) rfl) (fun c3 => ?_) (fun c3 => ?_)
    · skip
      refine wp_seq ?_
      refine wp_region_list ?_
      refine W_val hA rfl 6 rfl (by decide) _ _ (R_asg hA rfl rfl _) (fun a hA => ?_)
      refine W_nil ?_
      refine then_nrm ?_
      show Code.wp Try.prog _ _ _ _
      refine wp_ret ?_
      refine then_ret ?_
      refine then_ret ?_
      refine ret_tmp (j := 6) (by kernel_rfl) hA (by decide) rfl ⟨congrArg (fun x : Int => Ending.returned (.int .i64 x)) ?_, HB⟩
      unfold judgeZ
      first
        | (simp only [c1, c2, c3, if_true, if_false, Bool.false_eq_true, Bool.not_true, Bool.not_false, Bool.true_and, Bool.false_and, Bool.and_true, Bool.and_false, Bool.true_or, Bool.false_or, Bool.or_true, Bool.or_false]; done)
        | (exfalso; simp_all; done)
        | (exfalso; simp_all; omega)
    refine wp_skip ?_
    refine then_nrm ?_
    show Code.wp Try.prog _ _ _ _
    refine wp_seq ?_
    refine wp_region_list ?_
    refine W_val hA rfl 6 rfl (by decide) _ _ (R_asg hA rfl rfl _) (fun a hA => ?_)
    refine W_nil ?_
    refine then_nrm ?_
    show Code.wp Try.prog _ _ _ _
    refine wp_ret ?_
    refine then_ret ?_
    refine ret_tmp (j := 6) (by kernel_rfl) hA (by decide) rfl ⟨congrArg (fun x : Int => Ending.returned (.int .i64 x)) ?_, HB⟩
    unfold judgeZ
    first
      | (simp only [c1, c2, c3, if_true, if_false, Bool.false_eq_true, Bool.not_true, Bool.not_false, Bool.true_and, Bool.false_and, Bool.and_true, Bool.and_false, Bool.true_or, Bool.false_or, Bool.or_true, Bool.or_false]; done)
      | (exfalso; simp_all; done)
      | (exfalso; simp_all; omega)
  refine wp_skip ?_
  refine then_nrm ?_
  show Code.wp Try.prog _ _ _ _
  refine wp_seq ?_
  refine wp_seq ?_
  refine wp_region_held_drew (S := fun wx => Below w6.heap.size w6 wx) (by kernel_rfl) ((Below.refl _ _).drew) (fun hS => ?_)
  refine takeF (i := 0) hA 18 rfl rfl (by decide) rfl (by kernel_rfl) (by kernel_rfl) (by kernel_rfl) (fun _ _ _ h => h) hS (fun wx hwx => R_fa hA rfl rfl (fun w => fa_ent _ 8 (by decide) w) _) (fun a hA => ?_)
  refine takeF (i := 1) hA 19 rfl rfl (by decide) rfl (by kernel_rfl) (by kernel_rfl) (by kernel_rfl) (fun _ _ _ h => h) hS (fun wx hwx => R_ld (v := .int .u64 (pageZ x)) hA rfl rfl ag_u64 (RowC.cell (B7.below hwx) 8 _ rfl)) (fun a hA => ?_)
  refine takeF (i := 2) hA 20 rfl rfl (by decide) rfl (by kernel_rfl) (by kernel_rfl) (by kernel_rfl) (fun _ _ _ h => h) hS (fun wx hwx => R_mov hA rfl rfl _) (fun a hA => ?_)
  refine wpAnyH_ready (rs := [3]) (by kernel_rfl) (by simp) (ready_call (i := 3) hA (by decide) rfl (fun _ _ => by kernel_rfl) (args1 hA rfl) (size_any lv _) (fun _ h => h ▸ hS) (fun w7 hw a hA => ?_) AllReadyH.nil)
  subst hw
  refine takeF (i := 4) hA 22 rfl rfl (by decide) rfl (by kernel_rfl) (by kernel_rfl) (by kernel_rfl) (fun _ _ _ h => h) hS (fun wx hwx => R_rem hA rfl (page_lt hx).1 (by rcases size_is lv with q | q | q <;> rw [q] <;> decide) rfl rfl _) (fun a hA => ?_)
  refine takeF (i := 5) hA 23 rfl rfl (by decide) rfl (by kernel_rfl) (by kernel_rfl) (by kernel_rfl) (fun _ _ _ h => h) hS (fun wx hwx => R_neqU hA rfl rfl rfl _) (fun a hA => ?_)
  refine takeF (i := 6) hA 24 rfl rfl (by decide) rfl (by kernel_rfl) (by kernel_rfl) (by kernel_rfl) (fun _ _ _ h => h) hS (fun wx hwx => R_mov hA rfl rfl _) (fun a hA => ?_)
  refine A_split hA 24 rfl (fun c4 hA => ?_) (fun c4 hA => ?_)
  · skip
    refine skipFg (i := 7) hA 25 rfl rfl (by decide) rfl rfl rfl (by kernel_rfl) (by kernel_rfl) (by kernel_rfl) (fun _ _ _ h => h) hS (fun a hA => ?_)
    refine skipFg (i := 8) hA 26 rfl rfl (by decide) rfl rfl rfl (by kernel_rfl) (by kernel_rfl) (by kernel_rfl) (fun _ _ _ h => h) hS (fun a hA => ?_)
    refine skipFg (i := 9) hA 27 rfl rfl (by decide) rfl rfl rfl (by kernel_rfl) (by kernel_rfl) (by kernel_rfl) (fun _ _ _ h => h) hS (fun a hA => ?_)
    refine skipFg (i := 10) hA 28 rfl rfl (by decide) rfl rfl rfl (by kernel_rfl) (by kernel_rfl) (by kernel_rfl) (fun _ _ _ h => h) hS (fun a hA => ?_)
    refine takeF (i := 11) hA 29 rfl rfl (by decide) rfl (by kernel_rfl) (by kernel_rfl) (by kernel_rfl) (fun _ _ _ h => h) hS (fun wx hwx => R_pick hA rfl rfl rfl _) (fun a hA => ?_)
    refine wpAnyH_done (by kernel_rfl) ?_ _
    replace B5 := B5.below hS
    replace B7 := B7.below hS
    replace HB := HB.trans (hS.mono HB.size)
    clear hS
    generalize World.drew w6 = w8 at *
    refine then_nrm ?_
    show Code.wp Try.prog _ _ _ _
    refine wp_cond_true (hA.ev (x := .tmp 29) rfl) ?_
    refine wp_seq ?_
    refine wp_region_list ?_
    refine W_val hA rfl 6 rfl (by decide) _ _ (R_asg hA rfl rfl _) (fun a hA => ?_)
    refine W_nil ?_
    refine then_nrm ?_
    show Code.wp Try.prog _ _ _ _
    refine wp_ret ?_
    refine then_ret ?_
    refine ret_tmp (j := 6) (by kernel_rfl) hA (by decide) rfl ⟨congrArg (fun x : Int => Ending.returned (.int .i64 x)) ?_, HB⟩
    unfold judgeZ
    first
      | (simp only [c1, c2, c4, if_true, if_false, Bool.false_eq_true, Bool.not_true, Bool.not_false, Bool.true_and, Bool.false_and, Bool.and_true, Bool.and_false, Bool.true_or, Bool.false_or, Bool.or_true, Bool.or_false]; done)
      | (exfalso; simp_all; done)
      | (exfalso; simp_all; omega)
  refine takeFg (i := 7) hA 25 rfl rfl (by decide) rfl rfl rfl (by kernel_rfl) (by kernel_rfl) (by kernel_rfl) (fun _ _ _ h => h) hS (fun wx hwx => R_row hA rfl rfl (B7.below hwx) Try.underlying33 (by kernel_rfl)) (fun a hA => ?_)
  refine takeFg (i := 8) hA 26 rfl rfl (by decide) rfl rfl rfl (by kernel_rfl) (by kernel_rfl) (by kernel_rfl) (fun _ _ _ h => h) hS (fun wx hwx => R_row hA rfl rfl (B5.below hwx) Try.underlying25 (by kernel_rfl)) (fun a hA => ?_)
  refine wpAnyH_ready (rs := [9]) (by kernel_rfl) (by simp) (ready_gcall (i := 9) hA (by decide) rfl rfl rfl (fun _ _ => by kernel_rfl) (args2 hA rfl rfl) (dallow_any x s _) (fun _ h => hS.trans (h.mono hS.size)) (fun w9 hw a hA => ?_) AllReadyH.nil)
  replace hS := hS.trans (hw.mono hS.size)
  clear hw
  refine takeFg (i := 10) hA 28 rfl rfl (by decide) rfl rfl rfl (by kernel_rfl) (by kernel_rfl) (by kernel_rfl) (fun _ _ _ h => h) hS (fun wx hwx => R_not hA rfl rfl _) (fun a hA => ?_)
  refine takeF (i := 11) hA 29 rfl rfl (by decide) rfl (by kernel_rfl) (by kernel_rfl) (by kernel_rfl) (fun _ _ _ h => h) hS (fun wx hwx => R_pick hA rfl rfl rfl _) (fun a hA => ?_)
  refine wpAnyH_done (by kernel_rfl) ?_ _
  replace B5 := B5.below hS
  replace B7 := B7.below hS
  replace HB := HB.trans (hS.mono HB.size)
  clear hS
  refine then_nrm ?_
  show Code.wp Try.prog _ _ _ _
  refine wp_cond_split (hA.ev (x := .tmp 29) rfl) (fun c5 => ?_) (fun c5 => ?_)
  · skip
    refine wp_seq ?_
    refine wp_region_list ?_
    refine W_val hA rfl 6 rfl (by decide) _ _ (R_asg hA rfl rfl _) (fun a hA => ?_)
    refine W_nil ?_
    refine then_nrm ?_
    show Code.wp Try.prog _ _ _ _
    refine wp_ret ?_
    refine then_ret ?_
    refine ret_tmp (j := 6) (by kernel_rfl) hA (by decide) rfl ⟨congrArg (fun x : Int => Ending.returned (.int .i64 x)) ?_, HB⟩
    unfold judgeZ
    first
      | (simp only [c1, c2, c4, c5, if_true, if_false, Bool.false_eq_true, Bool.not_true, Bool.not_false, Bool.true_and, Bool.false_and, Bool.and_true, Bool.and_false, Bool.true_or, Bool.false_or, Bool.or_true, Bool.or_false]; done)
      | (exfalso; simp_all; done)
      | (exfalso; simp_all; omega)
  refine wp_skip ?_
  refine then_nrm ?_
  show Code.wp Try.prog _ _ _ _
  refine wp_seq ?_
  refine wp_region_list ?_
  refine W_val hA rfl 6 rfl (by decide) _ _ (R_asg hA rfl rfl _) (fun a hA => ?_)
  refine W_nil ?_
  refine then_nrm ?_
  show Code.wp Try.prog _ _ _ _
  refine wp_ret ?_
  refine ret_tmp (j := 6) (by kernel_rfl) hA (by decide) rfl ⟨congrArg (fun x : Int => Ending.returned (.int .i64 x)) ?_, HB⟩
  unfold judgeZ
  first
    | (simp only [c1, c2, c4, c5, if_true, if_false, Bool.false_eq_true, Bool.not_true, Bool.not_false, Bool.true_and, Bool.false_and, Bool.and_true, Bool.and_false, Bool.true_or, Bool.false_or, Bool.or_true, Bool.or_false]; done)
    | (exfalso; simp_all; done)
    | (exfalso; simp_all; omega)
end Go.Proofs.YtflaadnlmcgfoaaR
