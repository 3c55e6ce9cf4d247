/- Layer 14: wakes; what the laws need (written by gen_trf.py by walkf.py). -/
import Derived.Test.YtkfhpmleelmcfaaTrE
namespace Go.Proofs.Ytkfhpmleelmcfaa
open Go.RowKit
set_option linter.unusedVariables false
set_option maxRecDepth 100000

theorem ok_mode {t : HS} (ok : HOk t) {p : Int} (hp : p = 0 ∨ p = 1 ∨ p = 3) (v w : Bool) : HOk (t.mode p v w) :=
  ⟨fun i => ((ok.put (k := 33) (x := p) (by unfold In64; omega) (fun _ => by omega)).put (k := 37) (x := 0) (by unfold In64; omega) (fun e => absurd e (by decide))).n i,
   ((ok.put (k := 33) (x := p) (by unfold In64; omega) (fun _ => by omega)).put (k := 37) (x := 0) (by unfold In64; omega) (fun e => absurd e (by decide))).p⟩
theorem ok_p {t : HS} (ok : HOk t) {k : Nat} (hk : ¬ k = 33) {x : Int} (hx : In64 x) : HOk (t.put k x) := ok.put hx (fun e => absurd e hk)
theorem stM_in (s p : Int) (v g : Bool) : In64 (stM s p v g) := with_in _ _ _
theorem stS_in (s p : Int) : In64 (stS s p) := with_in _ _ _
theorem hsT_in (x p : Int) (v g : Bool) : In64 (hsT x p v g) := with_in _ _ _
theorem stMr_in (s : Int) : In64 (stMr s) := by unfold stMr; split <;> exact with_in _ _ _
theorem stSr_in (s : Int) : In64 (stSr s) := with_in _ _ _
theorem ok_enterM {t : HS} (ok : HOk t) {s : TS} (sk : TOk s) : HOk (enterM t s.c s.tv s.tv2 s.ti s.g) := by
  unfold enterM
  exact ok_mode (ok_p (ok_p (ok_p (ok_p (ok_p (ok_p (ok_p ok (by decide) (ok.n 0)) (by decide) sk.c) (by decide) sk.tv) (by decide) sk.tv2) (by decide) sk.ti) (by decide) (stM_in _ _ _ _)) (by decide) (place_mul _ _ (ok.n 43)).1) (.inr (.inr rfl)) _ _
theorem ok_enterH {t : HS} (ok : HOk t) {s : TS} (sk : TOk s) : HOk (enterH t s.c s.tv s.tv2 s.ti s.g) := by
  unfold enterH
  exact ok_mode (ok_p (ok_p (ok_p (ok_p (ok_p (ok_p (ok_p (ok_p ok (by decide) (ok.n 0)) (by decide) sk.c) (by decide) sk.tv) (by decide) sk.tv2) (by decide) sk.ti) (by decide) (stS_in _ _)) (by decide) (hsT_in _ _ _ _)) (by decide) (place_mul _ _ (ok.n 51)).1) (.inr (.inl rfl)) _ _
theorem ok_enterG {t : HS} (ok : HOk t) {s : TS} (sk : TOk s) : HOk (enterG t s.c s.tv) := by
  unfold enterG
  exact ok_mode (ok_p (ok_p (ok_p (ok_p (ok_p ok (by decide) (ok.n 0)) (by decide) (causeG_in sk.c)) (by decide) sk.tv) (by decide) (stS_in _ _)) (by decide) (place_mul _ _ (ok.n 69)).1) (.inr (.inl rfl)) _ _
theorem ok_enter {t : HS} (ok : HOk t) {s : TS} (sk : TOk s) : HOk (enterZ t s) := by
  unfold enterZ
  split
  · split
    · exact ok_enterM ok sk
    · split
      · exact ok_enterH ok sk
      · exact ok_enterG ok sk
  · exact ok
theorem ok_mret {t : HS} (ok : HOk t) : HOk (mretZ t) := by
  unfold mretZ
  exact ok_mode (ok_p (ok_p ok (by decide) (ok.n 46)) (by decide) (stMr_in _)) (privM_is _) _ _
theorem ok_sret {t : HS} (ok : HOk t) : HOk (sretZ t) := by
  unfold sretZ
  split
  · exact ok_mode (ok_p (ok_p (ok_p ok (by decide) (ok.n 71)) (by decide) (stSr_in _)) (by decide) (with_in _ _ _)) (privS_is _) _ _
  · exact ok_mode (ok_p (ok_p (ok_p ok (by decide) (ok.n 54)) (by decide) (with_in _ _ _)) (by decide) (with_in _ _ _)) (privS_is _) _ _
theorem and1_val {x : Int} (hx : In64 x) (i : Nat) : bits .and .u64 (x / 2 ^ i) 1 = if bitZ x i then 1 else 0 := by
  have h1 := has_bit hx i
  have h0 := has_bit0 hx i
  cases c : bitZ x i
  · rw [c] at h0; exact eq_of_beq h0
  · rw [c] at h1; exact eq_of_beq h1
theorem and1_eq {x y : Int} (hx : In64 x) (hy : In64 y) (i : Nat) (h : bitZ x i = bitZ y i) : (bits .and .u64 (x / 2 ^ i) 1 == bits .and .u64 (y / 2 ^ i) 1) = true := by
  rw [and1_val hx, and1_val hy, h]; exact beq_self_eq_true _
theorem and1_ne {x y : Int} (hx : In64 x) (hy : In64 y) (i : Nat) (h : bitZ x i = bitZ y i) : (bits .and .u64 (x / 2 ^ i) 1 != bits .and .u64 (y / 2 ^ i) 1) = false := by
  rw [bne, and1_eq hx hy i h]; rfl
theorem and1_zero {x : Int} (hx : In64 x) (i : Nat) (h : bitZ x i = false) : (bits .and .u64 (x / 2 ^ i) 1 == 0) = true := by
  rw [has_bit0 hx, h]; rfl
/-- Contracts by states that are known. -/
theorem enter_to {t : HS} (ok : HOk t) {s : TS} (sk : TOk s) {k : HS} (hk : enterZ t s = k) (w : World) : Calls Try.prog 10 #[hartV t, tsV s] w fun e w' => e = .returned (hartV k) ∧ Below w.heap.size w w' := hk ▸ enter_any t ok s sk w
theorem to_to {t : HS} (ok : HOk t) {c : Int} (hc : In64 c) {k : Nat} (hk : toZ t c = k) (w : World) : Calls Try.prog 8 #[hartV t, .int .u64 c] w fun e w' => e = .returned (.int .i64 k) ∧ Below w.heap.size w w' := hk ▸ to_any t ok c hc w
theorem mret_to {t : HS} (ok : HOk t) {k : HS} (hk : mretZ t = k) (w : World) : Calls Try.prog 13 #[hartV t] w fun e w' => e = .returned (hartV k) ∧ Below w.heap.size w w' := hk ▸ mret_any t ok w
theorem sret_to {t : HS} (ok : HOk t) {k : HS} (hk : sretZ t = k) (w : World) : Calls Try.prog 15 #[hartV t] w fun e w' => e = .returned (hartV k) ∧ Below w.heap.size w w' := hk ▸ sret_any t ok w
theorem fix_to {t : HS} (ok : HOk t) {k : HS} (hk : fixZ t = k) (w : World) : Calls Try.prog 17 #[hartV t] w fun e w' => e = .returned (hartV k) ∧ Below w.heap.size w w' := hk ▸ fix_any t ok w
theorem legal_yes {t : HS} (ok : HOk t) (h : Lgl t) (w : World) : Calls Try.prog 18 #[hartV t] w fun e w' => e = .returned (.bool true) ∧ Below w.heap.size w w' := by
  have := legal_any t ok w
  rwa [fix_of_lgl ok h, eqH_refl] at this
theorem R_ldXe {w : World} {o : Oper} {a : Act} {l : List (Nat × Value)} {n : Nat} (hA : FrA l n a) {x : Operand} (ho : o.op = .load 23 x) {b : Nat} {t : HS} (f : HS) (he : ∀ i, 1 ≤ i → i ≤ 32 → t.n i = f.n i) (hx : evL l x = some (.pointer (some ⟨b, 1, none⟩))) (hb : HartB w b t) : (execOp a.eval o).run Try.prog w = .ok (.value (.agg (rowX f))) w := by
  rw [← eq_rowX t f fun i hi => he _ (by omega) (by omega)]
  exact R_ldX hA ho hx hb
def wkH : HS := ⟨fun i => if i = 0 then 256 else if i = 43 then 2049 else if i = 38 then 8 else 0, false, false, false⟩
theorem ok_wkH : HOk wkH := ⟨fun i => by unfold wkH; dsimp only; by_cases h : i = 0 <;> by_cases h2 : i = 43 <;> by_cases h3 : i = 38 <;> simp [h, h2, h3, In64], by decide⟩
def wkS : TS := ⟨true, 9223372036854775815, 0, 0, 0, false⟩
theorem ok_wkS : TOk wkS := ⟨by unfold In64 wkS; decide, by unfold In64 wkS; decide, by unfold In64 wkS; decide, by unfold In64 wkS; decide⟩
def wkK : HS := enterZ wkH wkS
def wkL : HS := mretZ wkK
theorem ok_wkK : HOk wkK := ok_enter ok_wkH ok_wkS
theorem bld_wkH : Try.prog.built 25 [(0, .int .u64 256), (12, .int .u64 2049), (7, .int .u64 8)] = some (varr 77 (hCell wkH)) := by kernel_rfl
theorem bld_wkS : Try.prog.built 27 [(0, .bool true), (1, .int .u64 9223372036854775815)] = some (tsC wkS) := by kernel_rfl
set_option maxHeartbeats 8000000 in
theorem wakes_any (w : World) : Calls Try.prog 12 #[] w fun e w' => e = .returned (.bool true) ∧ Below w.heap.size w w' := by
  have HB := Below.refl w.heap.size w
  go_enter Try.func12, Try.ntmps12
  refine begin_fr [] 43 ?_ (fun a hA => ?_)
  · exact FrA.nil (by rfl) (by rfl)
  refine wp_seq ?_
  refine wp_region_list ?_
  refine W_val hA rfl 0 rfl (by decide) _ _ (R_asg hA rfl rfl _) (fun a hA => ?_)
  refine W_nil ?_
  refine then_nrm ?_
  show Code.wp Try.prog _ _ _ _
  refine wp_seq ?_
  refine wp_region_list ?_
  refine W_val hA rfl 4 rfl (by decide) _ _ (R_build (ps := [(0, .const (.int .u64 256)), (12, .const (.int .u64 2049)), (7, .const (.int .u64 8))]) hA rfl [(0, .int .u64 256), (12, .int .u64 2049), (7, .int .u64 8)] rfl bld_wkH _) (fun a hA => ?_)
  refine W_allocH hA rfl 1 rfl (by decide) rfl (fun w1 bA1 a hA hb A1 gA1 => ?_)
  replace gA1 := Nat.le_trans HB.size gA1
  replace HB := HB.trans (hb.mono HB.size)
  clear hb
  refine W_cpH hA rfl rfl rfl rfl rfl A1 (fun w2 hT HN => ?_)
  replace HB := HB.trans (hT.bel _ gA1)
  replace A1 := HN
  clear hT HN
  refine W_nil ?_
  refine then_nrm ?_
  show Code.wp Try.prog _ _ _ _
  refine wp_seq ?_
  refine wp_region_list ?_
  refine W_val hA rfl 5 rfl (by decide) _ _ (R_row hA rfl rfl A1 Try.underlying25 (size_hart.trans (by rw [varr_size]))) (fun a hA => ?_)
  refine W_val hA rfl 6 rfl (by decide) _ _ (R_build (ps := [(0, .const (.bool true)), (1, .const (.int .u64 9223372036854775815))]) hA rfl [(0, .bool true), (1, .int .u64 9223372036854775815)] rfl bld_wkS _) (fun a hA => ?_)
  refine W_callA hA (by decide) (fun _ _ => by kernel_rfl) (args2 hA rfl rfl) (enter_to (k := wkK) ok_wkH ok_wkS rfl _) (fun w3 hw a hA => ?_)
  replace HB := HB.trans (hw.mono HB.size)
  replace A1 := A1.below hw
  clear hw
  refine W_allocH hA rfl 2 rfl (by decide) rfl (fun w4 bA2 a hA hb A2 gA2 => ?_)
  have nA1A2 : bA1 < bA2 := by have := A1.lt; omega
  replace gA2 := Nat.le_trans HB.size gA2
  replace HB := HB.trans (hb.mono HB.size)
  replace A1 := A1.below hb
  clear hb
  refine W_cpH hA rfl rfl rfl rfl rfl A2 (fun w5 hT HN => ?_)
  replace HB := HB.trans (hT.bel _ gA2)
  replace A1 := hT.hart A1 (by omega)
  replace A2 := HN
  clear hT HN
  refine W_nil ?_
  refine then_nrm ?_
  show Code.wp Try.prog _ _ _ _
  refine wp_seq ?_
  refine wp_region_list ?_
  refine W_val hA rfl 8 rfl (by decide) _ _ (R_row hA rfl rfl A2 Try.underlying25 (size_hart.trans (by rw [varr_size]))) (fun a hA => ?_)
  refine W_callA hA (by decide) (fun _ _ => by kernel_rfl) (args1 hA rfl) (mret_to (k := wkL) ok_wkK rfl _) (fun w6 hw a hA => ?_)
  replace HB := HB.trans (hw.mono HB.size)
  replace A1 := A1.below hw
  replace A2 := A2.below hw
  clear hw
  refine W_allocH hA rfl 3 rfl (by decide) rfl (fun w7 bA3 a hA hb A3 gA3 => ?_)
  have nA1A3 : bA1 < bA3 := by have := A1.lt; omega
  have nA2A3 : bA2 < bA3 := by have := A2.lt; omega
  replace gA3 := Nat.le_trans HB.size gA3
  replace HB := HB.trans (hb.mono HB.size)
  replace A1 := A1.below hb
  replace A2 := A2.below hb
  clear hb
  refine W_cpH hA rfl rfl rfl rfl rfl A3 (fun w8 hT HN => ?_)
  replace HB := HB.trans (hT.bel _ gA3)
  replace A1 := hT.hart A1 (by omega)
  replace A2 := hT.hart A2 (by omega)
  replace A3 := HN
  clear hT HN
  refine W_nil ?_
  refine then_nrm ?_
  show Code.wp Try.prog _ _ _ _
  refine wp_seq ?_
  refine wp_region_list ?_
  refine W_val hA rfl 10 rfl (by decide) _ _ (R_fa hA rfl rfl (fun w => fa_hart _ 0 0 (by decide) rfl w) _) (fun a hA => ?_)
  refine W_val hA rfl 11 rfl (by decide) _ _ (R_ld (v := .int .u64 (wkK.n 0)) hA rfl rfl ag_u64 (A2.u 0 (by decide) (by decide))) (fun a hA => ?_)
  refine W_val hA rfl 12 rfl (by decide) _ _ (R_eqlUT hA rfl rfl rfl true (by decide +kernel) _) (fun a hA => ?_)
  refine W_val hA rfl 13 rfl (by decide) _ _ (R_mov hA rfl rfl _) (fun a hA => ?_)
  refine W_gval hA rfl rfl rfl 14 rfl (by decide) _ _ (R_fa hA rfl rfl (fun w => fa_hart _ 2 33 (by decide) rfl w) _) (fun a hA => ?_)
  refine W_gval hA rfl rfl rfl 15 rfl (by decide) _ _ (R_ld (v := .int .u8 (wkK.n 33)) hA rfl rfl ag_u8 A2.p) (fun a hA => ?_)
  refine W_gval hA rfl rfl rfl 16 rfl (by decide) _ _ (R_eqlBN hA rfl rfl rfl true (by decide +kernel) _) (fun a hA => ?_)
  refine W_val hA rfl 17 rfl (by decide) _ _ (R_pick hA rfl rfl rfl _) (fun a hA => ?_)
  refine W_val hA rfl 18 rfl (by decide) _ _ (R_mov hA rfl rfl _) (fun a hA => ?_)
  refine W_gval hA rfl rfl rfl 19 rfl (by decide) _ _ (R_fa hA rfl rfl (fun w => fa_hart _ 15 46 (by decide) rfl w) _) (fun a hA => ?_)
  refine W_gval hA rfl rfl rfl 20 rfl (by decide) _ _ (R_ld (v := .int .u64 (wkK.n 46)) hA rfl rfl ag_u64 (A2.u 46 (by decide) (by decide))) (fun a hA => ?_)
  refine W_gval hA rfl rfl rfl 21 rfl (by decide) _ _ (R_eqlUT hA rfl rfl rfl true (by decide +kernel) _) (fun a hA => ?_)
  refine W_val hA rfl 22 rfl (by decide) _ _ (R_pick hA rfl rfl rfl _) (fun a hA => ?_)
  refine W_val hA rfl 23 rfl (by decide) _ _ (R_mov hA rfl rfl _) (fun a hA => ?_)
  refine W_gval hA rfl rfl rfl 24 rfl (by decide) _ _ (R_fa hA rfl rfl (fun w => fa_hart _ 7 38 (by decide) rfl w) _) (fun a hA => ?_)
  refine W_gval hA rfl rfl rfl 25 rfl (by decide) _ _ (R_ld (v := .int .u64 (wkK.n 38)) hA rfl rfl ag_u64 (A2.u 38 (by decide) (by decide))) (fun a hA => ?_)
  refine W_gval hA rfl rfl rfl 26 rfl (by decide) _ _ (R_eqlUT hA rfl rfl rfl true (by decide +kernel) _) (fun a hA => ?_)
  refine W_val hA rfl 27 rfl (by decide) _ _ (R_pick hA rfl rfl rfl _) (fun a hA => ?_)
  refine W_val hA rfl 28 rfl (by decide) _ _ (R_mov hA rfl rfl _) (fun a hA => ?_)
  refine W_gval hA rfl rfl rfl 29 rfl (by decide) _ _ (R_fa hA rfl rfl (fun w => fa_hart _ 0 0 (by decide) rfl w) _) (fun a hA => ?_)
  refine W_gval hA rfl rfl rfl 30 rfl (by decide) _ _ (R_ld (v := .int .u64 (wkL.n 0)) hA rfl rfl ag_u64 (A3.u 0 (by decide) (by decide))) (fun a hA => ?_)
  refine W_gval hA rfl rfl rfl 31 rfl (by decide) _ _ (R_eqlUT hA rfl rfl rfl true (by decide +kernel) _) (fun a hA => ?_)
  refine W_val hA rfl 32 rfl (by decide) _ _ (R_pick hA rfl rfl rfl _) (fun a hA => ?_)
  refine W_val hA rfl 33 rfl (by decide) _ _ (R_mov hA rfl rfl _) (fun a hA => ?_)
  refine W_gval hA rfl rfl rfl 34 rfl (by decide) _ _ (R_fa hA rfl rfl (fun w => fa_hart _ 2 33 (by decide) rfl w) _) (fun a hA => ?_)
  refine W_gval hA rfl rfl rfl 35 rfl (by decide) _ _ (R_ld (v := .int .u8 (wkL.n 33)) hA rfl rfl ag_u8 A3.p) (fun a hA => ?_)
  refine W_gval hA rfl rfl rfl 36 rfl (by decide) _ _ (R_eqlBN hA rfl rfl rfl true (by decide +kernel) _) (fun a hA => ?_)
  refine W_val hA rfl 37 rfl (by decide) _ _ (R_pick hA rfl rfl rfl _) (fun a hA => ?_)
  refine W_val hA rfl 38 rfl (by decide) _ _ (R_mov hA rfl rfl _) (fun a hA => ?_)
  refine W_gval hA rfl rfl rfl 39 rfl (by decide) _ _ (R_fa hA rfl rfl (fun w => fa_hart _ 7 38 (by decide) rfl w) _) (fun a hA => ?_)
  refine W_gval hA rfl rfl rfl 40 rfl (by decide) _ _ (R_ld (v := .int .u64 (wkL.n 38)) hA rfl rfl ag_u64 (A3.u 38 (by decide) (by decide))) (fun a hA => ?_)
  refine W_gval hA rfl rfl rfl 41 rfl (by decide) _ _ (R_eqlUT hA rfl rfl rfl true (by decide +kernel) _) (fun a hA => ?_)
  refine W_val hA rfl 42 rfl (by decide) _ _ (R_pick hA rfl rfl rfl _) (fun a hA => ?_)
  refine W_val hA rfl 0 rfl (by decide) _ _ (R_asg hA rfl rfl _) (fun a hA => ?_)
  refine W_nil ?_
  refine then_nrm ?_
  show Code.wp Try.prog _ _ _ _
  refine wp_ret ?_
  exact ret_tmp (j := 0) (by kernel_rfl) hA (by decide) rfl ⟨rfl, HB⟩
end Go.Proofs.Ytkfhpmleelmcfaa
