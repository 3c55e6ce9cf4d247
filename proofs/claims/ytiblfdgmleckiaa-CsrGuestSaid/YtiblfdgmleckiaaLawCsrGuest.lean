/- Layer 12: the walk of CsrGuest (written by gen_csn.py by walkf.py). -/
import Derived.Test.YtiblfdgmleckiaaCsR
import Derived.Test.YtiblfdgmleckiaaWk8
namespace Go.Proofs.Ytiblfdgmleckiaa
open Go.RowKit
set_option linter.unusedVariables false
set_option maxRecDepth 100000

def mnL : List Int := [256, 260, 261, 320, 321, 322, 323, 324, 384]
def itL : List Int := [512, 516, 517, 576, 577, 578, 579, 580, 640]
theorem ix_9 (b k : Nat) (hk : k < 9) (w : World) : (Instr.indexAt 40 (.slice (some ⟨b, 0, none⟩) 9 9) (.int .i64 k)).run Try.prog w = .ok (.pointer (some ⟨b, k, none⟩)) w :=
  match k, hk with
  | 0, _ => by kernel_rfl
  | 1, _ => by kernel_rfl
  | 2, _ => by kernel_rfl
  | 3, _ => by kernel_rfl
  | 4, _ => by kernel_rfl
  | 5, _ => by kernel_rfl
  | 6, _ => by kernel_rfl
  | 7, _ => by kernel_rfl
  | 8, _ => by kernel_rfl
  | k + 9, h => absurd h (by omega)
theorem mn_get : ∀ k, k < 9 → mnL[k]? = some (mnL.getD k 0) := by decide
theorem it_get : ∀ k, k < 9 → itL[k]? = some (itL.getD k 0) := by decide
theorem meant_mn : ∀ k, k < 9 → meantZ true (mnL.getD k 0) = itL.getD k 0 := by decide +kernel
theorem pend_v (s : HS) (l : LS) (q : Bool) : pendZ (s.putV q) l = pendZ s l := rfl
theorem readM_v (s : HS) (l : LS) (q : Bool) {m : Int} (h : ¬ m = 3073) : readM (s.putV q) l m = readM s l m := by
  unfold readM
  by_cases c : ixF m < 38
  · rw [if_pos c, if_pos c]; rfl
  · rw [if_neg c, if_neg c]
    unfold viewR
    simp only [if_neg h, pend_v]
    rfl
theorem put_v (s : HS) (c : Nat) (x : Int) (q : Bool) : (s.putV q).put c x = (s.put c x).putV q := rfl
theorem writeM_v (s : HS) (m v : Int) (q : Bool) : writeM (s.putV q) m v = (writeM s m v).putV q := by
  unfold writeM
  by_cases c : ixF m < 38
  · rw [if_pos c, if_pos c]; rfl
  · rw [if_neg c, if_neg c]
    unfold viewW
    by_cases c1 : m = 256
    · rw [if_pos c1, if_pos c1]; rfl
    rw [if_neg c1, if_neg c1]
    by_cases c2 : m = 836
    · rw [if_pos c2, if_pos c2]; rfl
    rw [if_neg c2, if_neg c2]
    by_cases c3 : m = 1604
    · rw [if_pos c3, if_pos c3]; rfl
    rw [if_neg c3, if_neg c3]
    by_cases c4 : m = 324
    · rw [if_pos c4, if_pos c4]; rfl
    rw [if_neg c4, if_neg c4]
    by_cases c5 : m = 580
    · rw [if_pos c5, if_pos c5]; rfl
    rw [if_neg c5, if_neg c5]
    by_cases c6 : m = 260
    · rw [if_pos c6, if_pos c6]; rfl
    rw [if_neg c6, if_neg c6]
    by_cases c7 : m = 1540
    · rw [if_pos c7, if_pos c7]; rfl
    rw [if_neg c7, if_neg c7]
    by_cases c8 : m = 516
    · rw [if_pos c8, if_pos c8]; rfl
    rw [if_neg c8, if_neg c8]
theorem writeM_keepv (s : HS) (m v : Int) : (writeM s m v).v = s.v := by
  have := congrArg HS.v (writeM_v s m v s.v)
  have e : s.putV s.v = s := rfl
  rw [e] at this; exact this
theorem its_no : ∀ k, k < 9 → ¬ itL.getD k 0 = 3073 ∧ nineB (itL.getD k 0) = false := by decide +kernel
theorem mn_no : ∀ k, k < 9 → ¬ mnL.getD k 0 = 3073 := by decide +kernel
section
variable {s : HS} (hv : s.v = true) (l : LS)
theorem g_read (hv : s.v = true) (l : LS) {i : Nat} (hi : i < 9) : (readZ s l (mnL.getD i 0) != readZ (s.putV false) l (itL.getD i 0)) = false := by
  obtain ⟨a, b⟩ := its_no i hi
  have e : readZ s l (mnL.getD i 0) = readZ (s.putV false) l (itL.getD i 0) := by
    unfold readZ
    rw [hv, meant_mn i hi, show meantZ (s.putV false).v (itL.getD i 0) = itL.getD i 0 from rfl, readM_v s l false a]
  rw [e]; simp
theorem g_write (hv : s.v = true) (v : Int) {i : Nat} (hi : i < 9) : (writeZ (s.putV false) (itL.getD i 0) v).putV true = writeZ s (mnL.getD i 0) v := by
  unfold writeZ
  rw [hv, meant_mn i hi, show meantZ (s.putV false).v (itL.getD i 0) = itL.getD i 0 from rfl, writeM_v]
  have := writeM_keepv s (itL.getD i 0) v
  rw [hv] at this
  show ((writeM s (itL.getD i 0) v).putV false).putV true = _
  cases h : writeM s (itL.getD i 0) v with
  | mk n vv wt hd => rw [h] at this; simp only at this; subst this; rfl
theorem pend_put {s : HS} {c : Nat} {x : Int} (l : LS) (hc : ∀ q ∈ ([38, 40, 41, 42, 58, 60, 61, 63, 67, 75, 76] : List Nat), ¬ q = c) : pendZ (s.put c x) l = pendZ s l := by
  unfold pendZ
  simp only [HS.put_at, if_neg (hc 42 (by decide)), if_neg (hc 61 (by decide)), if_neg (hc 58 (by decide)), if_neg (hc 63 (by decide))]
theorem view_put {s : HS} {c : Nat} {x : Int} (l : LS) (m : Int) (hc : ∀ q ∈ ([38, 40, 41, 42, 58, 60, 61, 63, 67, 75, 76] : List Nat), ¬ q = c) : viewR (s.put c x) l m = viewR s l m := by
  unfold viewR
  simp only [pend_put l hc, HS.put_at, if_neg (hc 38 (by decide)), if_neg (hc 40 (by decide)), if_neg (hc 41 (by decide)), if_neg (hc 60 (by decide)), if_neg (hc 67 (by decide)), if_neg (hc 75 (by decide)), if_neg (hc 76 (by decide)), show (s.put c x).v = s.v from rfl]
theorem its_fld : ∀ i, i < 9 → (itL.getD i 0 = 516 ∨ itL.getD i 0 = 580) ∨ (ixF (itL.getD i 0) < 38 ∧ (∀ q ∈ ([38, 40, 41, 42, 58, 60, 61, 63, 67, 75, 76] : List Nat), ¬ q = clF (ixF (itL.getD i 0))) ∧ ∀ k, k < 9 → ixF (mnL.getD k 0) < 38 → ¬ clF (ixF (mnL.getD k 0)) = clF (ixF (itL.getD i 0))) := by
  intro i hi
  match i, hi with
  | 0, _ => exact .inr (by decide +kernel)
  | 1, _ => exact .inl (.inl rfl)
  | 2, _ => exact .inr (by decide +kernel)
  | 3, _ => exact .inr (by decide +kernel)
  | 4, _ => exact .inr (by decide +kernel)
  | 5, _ => exact .inr (by decide +kernel)
  | 6, _ => exact .inr (by decide +kernel)
  | 7, _ => exact .inl (.inr rfl)
  | 8, _ => exact .inr (by decide +kernel)
  | i + 9, h => exact absurd h (by omega)
theorem mn_cls : ∀ k, k < 9 → (ixF (mnL.getD k 0) < 38 ∧ clF (ixF (mnL.getD k 0)) ≠ 41 ∧ clF (ixF (mnL.getD k 0)) ≠ 61) ∨ (¬ ixF (mnL.getD k 0) < 38 ∧ (mnL.getD k 0 = 256 ∨ mnL.getD k 0 = 260 ∨ mnL.getD k 0 = 324)) := by decide +kernel
theorem sie_stay (x y v z : Int) : bits .and .u64 (mergeZ x (bits .and .u64 1092 y) v) (bits .and .u64 546 z) = bits .and .u64 x (bits .and .u64 546 z) := by
  refine U_ext (and_in _ _) (and_in _ _) fun i hi => ?_
  simp only [and_bits, bit_merge _ _ _ i hi]
  cases c : (V 546).getLsbD i
  · simp
  · rw [(by decide +kernel : ∀ i, i < 64 → (V 546).getLsbD i = true → (V 1092).getLsbD i = false) i hi c]; simp
theorem sip_key (s : HS) (l : LS) (y v B : Int) (hB : ∀ i, i < 64 → (V B).getLsbD i = true → (V 546).getLsbD i = true) : bits .and .u64 (pendZ (s.put 61 (mergeZ (s.n 61) (bits .and .u64 4 y) v)) l) B = bits .and .u64 (pendZ s l) B := by
  refine U_ext (and_in _ _) (and_in _ _) fun i hi => ?_
  rw [and_bits, and_bits]
  cases c : (V B).getLsbD i
  · rw [Bool.and_false, Bool.and_false]
  · have em : (V ((s.put 61 (mergeZ (s.n 61) (bits .and .u64 4 y) v)).n 61)).getLsbD i = (V (s.n 61)).getLsbD i := by
      show (V (mergeZ (s.n 61) (bits .and .u64 4 y) v)).getLsbD i = _
      rw [bit_merge _ _ _ i hi, and_bits, (by decide +kernel : ∀ i, i < 64 → (V 546).getLsbD i = true → (V 4).getLsbD i = false) i hi (hB i hi c)]; rfl
    have e1 := bit_pend (s.put 61 (mergeZ (s.n 61) (bits .and .u64 4 y) v)) l i hi
    rw [em] at e1
    rw [e1, bit_pend s l i hi]
    rfl
theorem sip_stay (s : HS) (l : LS) (y v z : Int) : bits .and .u64 (pendZ (s.put 61 (mergeZ (s.n 61) (bits .and .u64 4 y) v)) l) (bits .and .u64 546 z) = bits .and .u64 (pendZ s l) (bits .and .u64 546 z) := sip_key s l y v _ (sub_and 546 z 546 (fun _ _ h => h))
theorem v256 (s : HS) (l : LS) : viewR s l 256 = bits .or .u64 (bits .and .u64 (s.n 38) 786722) 8589934592 := rfl
theorem v260 (s : HS) (l : LS) : viewR s l 260 = bits .and .u64 (s.n 41) (bits .and .u64 546 (s.n 40)) := rfl
theorem v324 (s : HS) (l : LS) : viewR s l 324 = bits .and .u64 (pendZ s l) (bits .and .u64 546 (s.n 40)) := rfl
theorem pend_41 (s : HS) (l : LS) (x : Int) : pendZ (s.put 41 x) l = pendZ s l := by
  unfold pendZ
  simp only [HS.put_at, if_neg (show ¬ 42 = 41 by decide), if_neg (show ¬ 61 = 41 by decide), if_neg (show ¬ 58 = 41 by decide), if_neg (show ¬ 63 = 41 by decide)]
theorem w_516 (s : HS) (v : Int) : writeM s 516 v = s.put 41 (mergeZ (s.n 41) (bits .and .u64 1092 (s.n 60)) (IntKind.u64.wrap (v * 2))) := by
  unfold writeM
  rw [if_neg (by decide +kernel)]; rfl
theorem w_580 (s : HS) (v : Int) : writeM s 580 v = s.put 61 (mergeZ (s.n 61) (bits .and .u64 4 (s.n 60)) (IntKind.u64.wrap (v * 2))) := by
  unfold writeM
  rw [if_neg (by decide +kernel)]; rfl
theorem g_stay (s : HS) (l : LS) (v : Int) {i k : Nat} (hi : i < 9) (hk : k < 9) : readM (writeM s (itL.getD i 0) v) l (mnL.getD k 0) = readM s l (mnL.getD k 0) := by
  rcases its_fld i hi with (e | e) | ⟨hx, hc, hd⟩
  · rw [e, w_516]
    unfold readM
    rcases mn_cls k hk with ⟨a, b, _⟩ | ⟨a, b⟩
    · rw [if_pos a, if_pos a, HS.put_at, if_neg b]
    · rw [if_neg a, if_neg a]
      rcases b with b | b | b
      · rw [b, v256, v256, HS.put_at, if_neg (by decide)]
      · rw [b, v260, v260, HS.put_at, HS.put_at, if_pos rfl, if_neg (by decide)]; exact sie_stay _ _ _ _
      · rw [b, v324, v324, HS.put_at, if_neg (by decide), pend_41]
  · rw [e, w_580]
    unfold readM
    rcases mn_cls k hk with ⟨a, _, b⟩ | ⟨a, b⟩
    · rw [if_pos a, if_pos a, HS.put_at, if_neg b]
    · rw [if_neg a, if_neg a]
      rcases b with b | b | b
      · rw [b, v256, v256, HS.put_at, if_neg (by decide)]
      · rw [b, v260, v260, HS.put_at, HS.put_at, if_neg (by decide), if_neg (by decide)]
      · rw [b, v324, v324, HS.put_at, if_neg (by decide)]; exact sip_stay s l _ _ _
  · have hw : writeM s (itL.getD i 0) v = s.put (clF (ixF (itL.getD i 0))) (putZ (ixF (itL.getD i 0)) (s.n (clF (ixF (itL.getD i 0)))) v) := by unfold writeM; rw [if_pos hx]
    rw [hw]
    unfold readM
    by_cases q : ixF (mnL.getD k 0) < 38
    · rw [if_pos q, if_pos q, HS.put_at, if_neg (hd k hk q)]
    · rw [if_neg q, if_neg q, view_put l _ hc]
theorem g_loop (hv : s.v = true) (l : LS) (v : Int) {i k : Nat} (hi : i < 9) (hk : k < 9) : (readZ ((writeZ s (mnL.getD i 0) v).putV false) l (mnL.getD k 0) != readZ (s.putV false) l (mnL.getD k 0)) = false := by
  have e : readZ ((writeZ s (mnL.getD i 0) v).putV false) l (mnL.getD k 0) = readZ (s.putV false) l (mnL.getD k 0) := by
    unfold readZ writeZ
    rw [hv, meant_mn i hi]
    show readM ((writeM s (itL.getD i 0) v).putV false) l (mnL.getD k 0) = readM (s.putV false) l (mnL.getD k 0)
    rw [readM_v _ l false (mn_no k hk), readM_v _ l false (mn_no k hk), g_stay s l v hi hk]
  rw [e]; simp
end
set_option maxHeartbeats 8000000 in
theorem csrGuest_walk (t : HS) (l : LS) (which v : Int) (w : World) (ok : HOk t) (lk : LOk l) (hw0 : 0 ≤ which ∧ which < 256) (hv : In64 v) : Calls Try.prog 10 #[hartV t, linesV l, .int .u8 which, .int .u64 v] w fun e w' => e = .returned (.bool true) ∧ Below w.heap.size w w' := by
  obtain ⟨s, hs⟩ : ∃ s, s = ((fixZ t).put 33 1).putV true := ⟨_, rfl⟩
  have oks : HOk s := by rw [hs]; exact ((ok_fix ok).put (by unfold In64; decide) (fun _ => by decide)).putV true
  have hsv : s.v = true := by rw [hs]; rfl
  obtain ⟨i, hi⟩ : ∃ i : Nat, which % 9 = i := ⟨(which % 9).toNat, by omega⟩
  have hi9 : i < 9 := by omega
  have HB := Below.refl w.heap.size w
  go_enter Try.func10, Try.ntmps10
  refine begin_fr [(3, .int .u64 v), (2, .int .u8 which), (1, linesV l), (0, hartV t)] 87 ?_ (fun a hA => ?_)
  · exact FrA.add (FrA.add (FrA.add (FrA.add (FrA.nil (by rfl) (by rfl)) 0 _ (by rfl)) 1 _ (by rfl)) 2 _ (by rfl)) 3 _ (by rfl)
  refine wp_seq ?_
  refine wp_region_list ?_
  refine W_boxH hA rfl 4 rfl (by decide) rfl rfl (fun w1 bHH a hA hb HH gHH => ?_)
  replace gHH := Nat.le_trans HB.size gHH
  replace HB := HB.trans (hb.mono HB.size)
  clear hb
  refine W_boxL hA rfl 5 rfl (by decide) rfl rfl (fun w2 bLL a hA hb LL gLL => ?_)
  have nHHLL : bHH < bLL := by have := HH.lt; omega
  replace HH := HH.below hb
  replace gLL := Nat.le_trans HB.size gLL
  replace HB := HB.trans (hb.mono HB.size)
  clear hb
  refine W_val hA rfl 8 rfl (by decide) _ _ (R_asg hA rfl rfl _) (fun a hA => ?_)
  refine W_nil ?_
  refine then_nrm ?_
  show Code.wp Try.prog _ _ _ _
  refine wp_seq ?_
  refine wp_region_list ?_
  refine W_val hA rfl 16 rfl (by decide) _ _ (R_row hA rfl rfl HH Try.underlying25 (size_hart.trans (by rw [varr_size]))) (fun a hA => ?_)
  refine W_callA hA (by decide) (fun _ _ => by kernel_rfl) (args1 hA rfl) (fix_any t ok _) (fun w3 hw a hA => ?_)
  replace HB := HB.trans (hw.mono HB.size)
  replace HH := HH.below hw
  replace LL := LL.below hw
  clear hw
  refine W_cpH hA rfl rfl rfl rfl rfl HH (fun w4 hT HN => ?_)
  replace HB := HB.trans (hT.bel _ gHH)
  replace LL := hT.lines LL (by omega)
  replace HH := HN
  clear hT HN
  refine W_nil ?_
  refine then_nrm ?_
  show Code.wp Try.prog _ _ _ _
  refine wp_seq ?_
  refine wp_region_list ?_
  refine W_val hA rfl 18 rfl (by decide) _ _ (R_fa hA rfl rfl (fun w => fa_hart _ 2 33 (by decide) rfl w) _) (fun a hA => ?_)
  refine W_stP hA rfl rfl rfl rfl rfl HH (fun w5 hT HN => ?_)
  replace HB := HB.trans (hT.bel _ gHH)
  replace LL := hT.lines LL (by omega)
  replace HH := HN
  clear hT HN
  refine W_nil ?_
  refine then_nrm ?_
  show Code.wp Try.prog _ _ _ _
  refine wp_seq ?_
  refine wp_region_list ?_
  refine W_val hA rfl 19 rfl (by decide) _ _ (R_fa hA rfl rfl (fun w => fa_hart _ 3 34 (by decide) rfl w) _) (fun a hA => ?_)
  refine W_stV hA rfl rfl rfl rfl rfl HH (fun w6 hT HN => ?_)
  replace HB := HB.trans (hT.bel _ gHH)
  replace LL := hT.lines LL (by omega)
  replace HH := HN
  clear hT HN
  rw [← hs] at HH
  refine W_nil ?_
  refine then_nrm ?_
  show Code.wp Try.prog _ _ _ _
  refine wp_seq ?_
  refine wp_region_list ?_
  refine W_bslI hA rfl 20 rfl (by decide) rfl mnL (by kernel_rfl) (fun w7 bM9 a hA hb M9 gM9 => ?_)
  have nHHM9 : bHH < bM9 := by have := HH.lt; omega
  replace HH := HH.below hb
  have nLLM9 : bLL < bM9 := by have := LL.lt; omega
  replace LL := LL.below hb
  replace gM9 := Nat.le_trans HB.size gM9
  replace HB := HB.trans (hb.mono HB.size)
  clear hb
  refine W_val hA rfl 9 rfl (by decide) _ _ (R_asg hA rfl rfl _) (fun a hA => ?_)
  refine W_nil ?_
  refine then_nrm ?_
  show Code.wp Try.prog _ _ _ _
  refine wp_seq ?_
  refine wp_region_list ?_
  refine W_bslI hA rfl 21 rfl (by decide) rfl itL (by kernel_rfl) (fun w8 bI9 a hA hb I9 gI9 => ?_)
  have nHHI9 : bHH < bI9 := by have := HH.lt; omega
  replace HH := HH.below hb
  have nLLI9 : bLL < bI9 := by have := LL.lt; omega
  replace LL := LL.below hb
  have nM9I9 : bM9 < bI9 := by have := M9.lt; omega
  replace M9 := M9.below hb
  replace gI9 := Nat.le_trans HB.size gI9
  replace HB := HB.trans (hb.mono HB.size)
  clear hb
  refine W_val hA rfl 10 rfl (by decide) _ _ (R_asg hA rfl rfl _) (fun a hA => ?_)
  refine W_nil ?_
  refine then_nrm ?_
  show Code.wp Try.prog _ _ _ _
  refine wp_seq ?_
  refine wp_region_list ?_
  refine W_val hA rfl 22 rfl (by decide) _ _ (R_mov hA rfl rfl _) (fun a hA => ?_)
  refine W_val hA rfl 23 rfl (by decide) _ _ (R_cvB hA rfl hw0.1 hw0.2 rfl _) (fun a hA => ?_)
  refine W_val hA rfl 24 rfl (by decide) _ _ (R_mov hA rfl rfl _) (fun a hA => ?_)
  refine W_val hA rfl 25 rfl (by decide) _ _ (R_lenS hA rfl rfl _) (fun a hA => ?_)
  refine W_val hA rfl 26 rfl (by decide) _ _ (R_rem9 hA rfl hw0.1 hw0.2 rfl rfl hi _) (fun a hA => ?_)
  refine W_val hA rfl 11 rfl (by decide) _ _ (R_asg hA rfl rfl _) (fun a hA => ?_)
  refine W_nil ?_
  refine then_nrm ?_
  show Code.wp Try.prog _ _ _ _
  refine wp_seq ?_
  refine wp_region_list ?_
  refine W_val hA rfl 27 rfl (by decide) _ _ (R_row hA rfl rfl HH Try.underlying25 (size_hart.trans (by rw [varr_size]))) (fun a hA => ?_)
  refine W_allocH hA rfl 12 rfl (by decide) rfl (fun w9 bA12 a hA hb A12 gA12 => ?_)
  have nHHA12 : bHH < bA12 := by have := HH.lt; omega
  replace HH := HH.below hb
  have nLLA12 : bLL < bA12 := by have := LL.lt; omega
  replace LL := LL.below hb
  have nM9A12 : bM9 < bA12 := by have := M9.lt; omega
  replace M9 := M9.below hb
  have nI9A12 : bI9 < bA12 := by have := I9.lt; omega
  replace I9 := I9.below hb
  replace gA12 := Nat.le_trans HB.size gA12
  replace HB := HB.trans (hb.mono HB.size)
  clear hb
  refine W_cpH hA rfl rfl rfl rfl rfl A12 (fun w10 hT HN => ?_)
  replace HB := HB.trans (hT.bel _ gA12)
  replace HH := hT.hart HH (by omega)
  replace LL := hT.lines LL (by omega)
  replace M9 := hT.rw M9 (by omega)
  replace I9 := hT.rw I9 (by omega)
  replace A12 := HN
  clear hT HN
  refine W_nil ?_
  refine then_nrm ?_
  show Code.wp Try.prog _ _ _ _
  refine wp_seq ?_
  refine wp_region_list ?_
  refine W_val hA rfl 28 rfl (by decide) _ _ (R_fa hA rfl rfl (fun w => fa_hart _ 3 34 (by decide) rfl w) _) (fun a hA => ?_)
  refine W_stV hA rfl rfl rfl rfl rfl A12 (fun w11 hT HN => ?_)
  replace HB := HB.trans (hT.bel _ gA12)
  replace HH := hT.hart HH (by omega)
  replace LL := hT.lines LL (by omega)
  replace M9 := hT.rw M9 (by omega)
  replace I9 := hT.rw I9 (by omega)
  replace A12 := HN
  clear hT HN
  refine W_nil ?_
  refine then_nrm ?_
  show Code.wp Try.prog _ _ _ _
  refine wp_seq ?_
  refine wp_seq ?_
  refine wp_region_held_drew (S := fun wx => Below w11.heap.size w11 wx) (by kernel_rfl) ((Below.refl _ _).drew) (fun hS => ?_)
  refine takeF (i := 0) hA 29 rfl rfl (by decide) rfl (by kernel_rfl) (by kernel_rfl) (by kernel_rfl) (fun _ _ _ h => h) hS (fun wx hx => R_row hA rfl rfl (HH.below hx) Try.underlying25 (size_hart.trans (by rw [varr_size]))) (fun a hA => ?_)
  refine takeF (i := 1) hA 30 rfl rfl (by decide) rfl (by kernel_rfl) (by kernel_rfl) (by kernel_rfl) (fun _ _ _ h => h) hS (fun wx hx => R_row hA rfl rfl (LL.below hx) Try.underlying27 (by kernel_rfl)) (fun a hA => ?_)
  refine takeF (i := 2) hA 31 rfl rfl (by decide) rfl (by kernel_rfl) (by kernel_rfl) (by kernel_rfl) (fun _ _ _ h => h) hS (fun wx hx => R_mov hA rfl rfl _) (fun a hA => ?_)
  refine takeF (i := 3) hA 32 rfl rfl (by decide) rfl (by kernel_rfl) (by kernel_rfl) (by kernel_rfl) (fun _ _ _ h => h) hS (fun wx hx => R_mov hA rfl rfl _) (fun a hA => ?_)
  refine takeF (i := 4) hA 33 rfl rfl (by decide) rfl (by kernel_rfl) (by kernel_rfl) (by kernel_rfl) (fun _ _ _ h => h) hS (fun wx hx => R_ixa hA rfl rfl rfl (fun w => ix_9 bM9 i hi9 w) _) (fun a hA => ?_)
  refine takeF (i := 5) hA 34 rfl rfl (by decide) rfl (by kernel_rfl) (by kernel_rfl) (by kernel_rfl) (fun _ _ _ h => h) hS (fun wx hx => R_ld hA rfl rfl ag_intS ((M9.below hx).cell (mn_get i hi9))) (fun a hA => ?_)
  refine takeF (i := 7) hA 36 rfl rfl (by decide) rfl (by kernel_rfl) (by kernel_rfl) (by kernel_rfl) (fun _ _ _ h => h) hS (fun wx hx => R_row hA rfl rfl (A12.below hx) Try.underlying25 (size_hart.trans (by rw [varr_size]))) (fun a hA => ?_)
  refine takeF (i := 8) hA 37 rfl rfl (by decide) rfl (by kernel_rfl) (by kernel_rfl) (by kernel_rfl) (fun _ _ _ h => h) hS (fun wx hx => R_row hA rfl rfl (LL.below hx) Try.underlying27 (by kernel_rfl)) (fun a hA => ?_)
  refine takeF (i := 9) hA 38 rfl rfl (by decide) rfl (by kernel_rfl) (by kernel_rfl) (by kernel_rfl) (fun _ _ _ h => h) hS (fun wx hx => R_mov hA rfl rfl _) (fun a hA => ?_)
  refine takeF (i := 10) hA 39 rfl rfl (by decide) rfl (by kernel_rfl) (by kernel_rfl) (by kernel_rfl) (fun _ _ _ h => h) hS (fun wx hx => R_mov hA rfl rfl _) (fun a hA => ?_)
  refine takeF (i := 11) hA 40 rfl rfl (by decide) rfl (by kernel_rfl) (by kernel_rfl) (by kernel_rfl) (fun _ _ _ h => h) hS (fun wx hx => R_ixa hA rfl rfl rfl (fun w => ix_9 bI9 i hi9 w) _) (fun a hA => ?_)
  refine takeF (i := 12) hA 41 rfl rfl (by decide) rfl (by kernel_rfl) (by kernel_rfl) (by kernel_rfl) (fun _ _ _ h => h) hS (fun wx hx => R_ld hA rfl rfl ag_intS ((I9.below hx).cell (it_get i hi9))) (fun a hA => ?_)
  refine wpAnyH_ready (rs := [6]) (by kernel_rfl) (by simp) (ready_call (i := 6) hA (by decide) rfl (fun _ _ => by kernel_rfl) (args3 hA rfl rfl rfl) (read_any s oks l (mnL.getD i 0) _) (fun _ h => hS.trans (h.mono hS.size)) (fun w12 hw a hA => ?_) AllReadyH.nil)
  replace hS := hS.trans (hw.mono hS.size)
  clear hw
  refine wpAnyH_ready (rs := [13]) (by kernel_rfl) (by simp) (ready_call (i := 13) hA (by decide) rfl (fun _ _ => by kernel_rfl) (args3 hA rfl rfl rfl) (read_any (s.putV false) (oks.putV false) l (itL.getD i 0) _) (fun _ h => hS.trans (h.mono hS.size)) (fun w13 hw a hA => ?_) AllReadyH.nil)
  replace hS := hS.trans (hw.mono hS.size)
  clear hw
  refine takeF (i := 14) hA 43 rfl rfl (by decide) rfl (by kernel_rfl) (by kernel_rfl) (by kernel_rfl) (fun _ _ _ h => h) hS (fun wx hx => R_neqUT hA rfl rfl rfl false (g_read hsv l hi9) _) (fun a hA => ?_)
  refine wpAnyH_done (by kernel_rfl) ?_ _
  replace HH := HH.below hS
  replace LL := LL.below hS
  replace M9 := M9.below hS
  replace I9 := I9.below hS
  replace A12 := A12.below hS
  replace HB := HB.trans (hS.mono HB.size)
  clear hS
  refine then_nrm ?_
  show Code.wp Try.prog _ _ _ _
  refine wp_cond_false (hA.ev (x := .tmp 43) rfl) ?_
  refine wp_skip ?_
  refine then_nrm ?_
  show Code.wp Try.prog _ _ _ _
  refine wp_seq ?_
  refine wp_region_held_drew (S := fun wx => Below w13.heap.size w13 wx) (by kernel_rfl) ((Below.refl _ _).drew) (fun hS => ?_)
  refine takeF (i := 0) hA 44 rfl rfl (by decide) rfl (by kernel_rfl) (by kernel_rfl) (by kernel_rfl) (fun _ _ _ h => h) hS (fun wx hx => R_row hA rfl rfl (HH.below hx) Try.underlying25 (size_hart.trans (by rw [varr_size]))) (fun a hA => ?_)
  refine takeF (i := 1) hA 45 rfl rfl (by decide) rfl (by kernel_rfl) (by kernel_rfl) (by kernel_rfl) (fun _ _ _ h => h) hS (fun wx hx => R_row hA rfl rfl (LL.below hx) Try.underlying27 (by kernel_rfl)) (fun a hA => ?_)
  refine takeF (i := 2) hA 46 rfl rfl (by decide) rfl (by kernel_rfl) (by kernel_rfl) (by kernel_rfl) (fun _ _ _ h => h) hS (fun wx hx => R_mov hA rfl rfl _) (fun a hA => ?_)
  refine takeF (i := 3) hA 47 rfl rfl (by decide) rfl (by kernel_rfl) (by kernel_rfl) (by kernel_rfl) (fun _ _ _ h => h) hS (fun wx hx => R_mov hA rfl rfl _) (fun a hA => ?_)
  refine takeF (i := 4) hA 48 rfl rfl (by decide) rfl (by kernel_rfl) (by kernel_rfl) (by kernel_rfl) (fun _ _ _ h => h) hS (fun wx hx => R_ixa hA rfl rfl rfl (fun w => ix_9 bM9 i hi9 w) _) (fun a hA => ?_)
  refine takeF (i := 5) hA 49 rfl rfl (by decide) rfl (by kernel_rfl) (by kernel_rfl) (by kernel_rfl) (fun _ _ _ h => h) hS (fun wx hx => R_ld hA rfl rfl ag_intS ((M9.below hx).cell (mn_get i hi9))) (fun a hA => ?_)
  refine takeF (i := 6) hA 50 rfl rfl (by decide) rfl (by kernel_rfl) (by kernel_rfl) (by kernel_rfl) (fun _ _ _ h => h) hS (fun wx hx => R_mov hA rfl rfl _) (fun a hA => ?_)
  refine wpAnyH_ready (rs := [7, 8]) (by kernel_rfl) (by simp) ?_
  refine ready_call (i := 7) hA (by decide) rfl (fun _ _ => by kernel_rfl) (args4 hA rfl rfl rfl rfl) (write_any s l (mnL.getD i 0) v hv.1 _) (fun _ h => hS.trans (h.mono hS.size)) (fun w14 hw a hA => ?_) ?_
  · skip
    replace hS := hS.trans (hw.mono hS.size)
    clear hw
    refine wpAnyH_ready (rs := [8]) (by kernel_rfl) (by simp) ?_
    refine ready_allocH (i := 8) hA 13 rfl rfl (by decide) rfl rfl (fun _ h => hS.trans (h.mono hS.size)) (fun w15 bA13 a hA hb A13 gA13 => ?_) ?_
    · skip
      replace gA13 := Nat.le_trans hS.size gA13
      replace hS := hS.trans (hb.mono hS.size)
      clear hb
      refine wpAnyH_ready (rs := [9]) (by kernel_rfl) (by simp) ?_
      refine ready_cpH (i := 9) hA rfl rfl rfl rfl rfl rfl A13 (fun _ hT => hS.trans (hT.bel _ gA13)) (fun w16 hT HN => ?_) ?_
      · skip
        replace hS := hS.trans (hT.bel _ gA13)
        replace A13 := HN
        clear hT HN
        refine wpAnyH_done (by kernel_rfl) ?_ _
        have nHHA13 : bHH < bA13 := by have := HH.lt; omega
        replace HH := HH.below hS
        have nLLA13 : bLL < bA13 := by have := LL.lt; omega
        replace LL := LL.below hS
        have nM9A13 : bM9 < bA13 := by have := M9.lt; omega
        replace M9 := M9.below hS
        have nI9A13 : bI9 < bA13 := by have := I9.lt; omega
        replace I9 := I9.below hS
        have nA12A13 : bA12 < bA13 := by have := A12.lt; omega
        replace A12 := A12.below hS
        replace gA13 := Nat.le_trans HB.size gA13
        replace HB := HB.trans (hS.mono HB.size)
        clear hS
        refine then_nrm ?_
        show Code.wp Try.prog _ _ _ _
        refine wp_seq ?_
        refine wp_region_held_drew (S := fun wx => Below w16.heap.size w16 wx) (by kernel_rfl) ((Below.refl _ _).drew) (fun hS => ?_)
        refine takeF (i := 0) hA 52 rfl rfl (by decide) rfl (by kernel_rfl) (by kernel_rfl) (by kernel_rfl) (fun _ _ _ h => h) hS (fun wx hx => R_row hA rfl rfl (A12.below hx) Try.underlying25 (size_hart.trans (by rw [varr_size]))) (fun a hA => ?_)
        refine takeF (i := 1) hA 53 rfl rfl (by decide) rfl (by kernel_rfl) (by kernel_rfl) (by kernel_rfl) (fun _ _ _ h => h) hS (fun wx hx => R_row hA rfl rfl (LL.below hx) Try.underlying27 (by kernel_rfl)) (fun a hA => ?_)
        refine takeF (i := 2) hA 54 rfl rfl (by decide) rfl (by kernel_rfl) (by kernel_rfl) (by kernel_rfl) (fun _ _ _ h => h) hS (fun wx hx => R_mov hA rfl rfl _) (fun a hA => ?_)
        refine takeF (i := 3) hA 55 rfl rfl (by decide) rfl (by kernel_rfl) (by kernel_rfl) (by kernel_rfl) (fun _ _ _ h => h) hS (fun wx hx => R_mov hA rfl rfl _) (fun a hA => ?_)
        refine takeF (i := 4) hA 56 rfl rfl (by decide) rfl (by kernel_rfl) (by kernel_rfl) (by kernel_rfl) (fun _ _ _ h => h) hS (fun wx hx => R_ixa hA rfl rfl rfl (fun w => ix_9 bI9 i hi9 w) _) (fun a hA => ?_)
        refine takeF (i := 5) hA 57 rfl rfl (by decide) rfl (by kernel_rfl) (by kernel_rfl) (by kernel_rfl) (fun _ _ _ h => h) hS (fun wx hx => R_ld hA rfl rfl ag_intS ((I9.below hx).cell (it_get i hi9))) (fun a hA => ?_)
        refine takeF (i := 6) hA 58 rfl rfl (by decide) rfl (by kernel_rfl) (by kernel_rfl) (by kernel_rfl) (fun _ _ _ h => h) hS (fun wx hx => R_mov hA rfl rfl _) (fun a hA => ?_)
        refine wpAnyH_ready (rs := [7, 8]) (by kernel_rfl) (by simp) ?_
        refine ready_call (i := 7) hA (by decide) rfl (fun _ _ => by kernel_rfl) (args4 hA rfl rfl rfl rfl) (write_any (s.putV false) l (itL.getD i 0) v hv.1 _) (fun _ h => hS.trans (h.mono hS.size)) (fun w17 hw a hA => ?_) ?_
        · skip
          replace hS := hS.trans (hw.mono hS.size)
          clear hw
          refine wpAnyH_ready (rs := [8]) (by kernel_rfl) (by simp) ?_
          refine ready_allocH (i := 8) hA 14 rfl rfl (by decide) rfl rfl (fun _ h => hS.trans (h.mono hS.size)) (fun w18 bA14 a hA hb A14 gA14 => ?_) ?_
          · skip
            replace gA14 := Nat.le_trans hS.size gA14
            replace hS := hS.trans (hb.mono hS.size)
            clear hb
            refine wpAnyH_ready (rs := [9]) (by kernel_rfl) (by simp) ?_
            refine ready_cpH (i := 9) hA rfl rfl rfl rfl rfl rfl A14 (fun _ hT => hS.trans (hT.bel _ gA14)) (fun w19 hT HN => ?_) ?_
            · skip
              replace hS := hS.trans (hT.bel _ gA14)
              replace A14 := HN
              clear hT HN
              refine wpAnyH_done (by kernel_rfl) ?_ _
              have nHHA14 : bHH < bA14 := by have := HH.lt; omega
              replace HH := HH.below hS
              have nLLA14 : bLL < bA14 := by have := LL.lt; omega
              replace LL := LL.below hS
              have nM9A14 : bM9 < bA14 := by have := M9.lt; omega
              replace M9 := M9.below hS
              have nI9A14 : bI9 < bA14 := by have := I9.lt; omega
              replace I9 := I9.below hS
              have nA12A14 : bA12 < bA14 := by have := A12.lt; omega
              replace A12 := A12.below hS
              have nA13A14 : bA13 < bA14 := by have := A13.lt; omega
              replace A13 := A13.below hS
              replace gA14 := Nat.le_trans HB.size gA14
              replace HB := HB.trans (hS.mono HB.size)
              clear hS
              refine then_nrm ?_
              show Code.wp Try.prog _ _ _ _
              refine wp_seq ?_
              refine wp_region_list ?_
              refine W_val hA rfl 60 rfl (by decide) _ _ (R_fa hA rfl rfl (fun w => fa_hart _ 3 34 (by decide) rfl w) _) (fun a hA => ?_)
              refine W_stV hA rfl rfl rfl rfl rfl A14 (fun w20 hT HN => ?_)
              replace HB := HB.trans (hT.bel _ gA14)
              replace HH := hT.hart HH (by omega)
              replace LL := hT.lines LL (by omega)
              replace M9 := hT.rw M9 (by omega)
              replace I9 := hT.rw I9 (by omega)
              replace A12 := hT.hart A12 (by omega)
              replace A13 := hT.hart A13 (by omega)
              replace A14 := HN
              clear hT HN
              refine W_nil ?_
              refine then_nrm ?_
              show Code.wp Try.prog _ _ _ _
              refine wp_seq ?_
              refine wp_seq ?_
              refine wp_region_list ?_
              refine W_val hA rfl 61 rfl (by decide) _ _ (R_row hA rfl rfl A13 Try.underlying25 (size_hart.trans (by rw [varr_size]))) (fun a hA => ?_)
              refine W_val hA rfl 62 rfl (by decide) _ _ (R_row hA rfl rfl A14 Try.underlying25 (size_hart.trans (by rw [varr_size]))) (fun a hA => ?_)
              refine W_val hA rfl 63 rfl (by decide) _ _ (R_neqH hA rfl rfl rfl false (by rw [g_write hsv v hi9, eqH_refl]; rfl) _) (fun a hA => ?_)
              refine W_nil ?_
              refine then_nrm ?_
              show Code.wp Try.prog _ _ _ _
              refine wp_cond_false (hA.ev (x := .tmp 63) rfl) ?_
              refine wp_skip ?_
              refine then_nrm ?_
              show Code.wp Try.prog _ _ _ _
              refine wp_seq ?_
              refine wp_region_list ?_
              refine W_val hA rfl 64 rfl (by decide) _ _ (R_fa hA rfl rfl (fun w => fa_hart _ 3 34 (by decide) rfl w) _) (fun a hA => ?_)
              refine W_stV hA rfl rfl rfl rfl rfl A13 (fun w21 hT HN => ?_)
              replace HB := HB.trans (hT.bel _ gA13)
              replace HH := hT.hart HH (by omega)
              replace LL := hT.lines LL (by omega)
              replace M9 := hT.rw M9 (by omega)
              replace I9 := hT.rw I9 (by omega)
              replace A12 := hT.hart A12 (by omega)
              replace A14 := hT.hart A14 (by omega)
              replace A13 := HN
              clear hT HN
              refine W_nil ?_
              refine then_nrm ?_
              show Code.wp Try.prog _ _ _ _
              refine wp_seq ?_
              refine wp_seq ?_
              refine wp_region_list ?_
              refine W_val hA rfl 15 rfl (by decide) _ _ (R_asg hA rfl rfl _) (fun a hA => ?_)
              refine W_nil ?_
              refine then_nrm ?_
              show Code.wp Try.prog _ _ _ _
              refine wp_block ?_
              refine loop_cnt 15 9 (fun k a' w' => FrA [(15, .int .i64 (k : Int)), (13, .pointer (some ⟨bA13, 0, none⟩)), (12, .pointer (some ⟨bA12, 0, none⟩)), (9, .slice (some ⟨bM9, 0, none⟩) 9 9), (5, .pointer (some ⟨bLL, 0, none⟩))] 87 a' ∧ Below w.heap.size w w' ∧ HartB w' bA13 ((writeZ s (mnL.getD i 0) v).putV false) ∧ HartB w' bA12 (s.putV false) ∧ LnB w' bLL l ∧ RwI w' bM9 mnL) (fun k a' w' h => ⟨_, h.1.get 15 _ rfl⟩) ⟨FrA.add (FrA.add (FrA.add (FrA.add (FrA.add (FrA.nil hA.sz hA.df) 5 _ (hA.get 5 _ rfl)) 9 _ (hA.get 9 _ rfl)) 12 _ (hA.get 12 _ rfl)) 13 _ (hA.get 13 _ rfl)) 15 _ (hA.get 15 _ rfl), HB, A13, A12, LL, M9⟩ (fun k a w90 hk h => ?_)
              obtain ⟨hA, HB, A13, A12, LL, M9⟩ := h
              refine wp_seq ?_
              refine wp_seq ?_
              refine wp_region_list ?_
              refine W_val hA rfl 65 rfl (by decide) _ _ (R_mov hA rfl rfl _) (fun a hA => ?_)
              refine W_val hA rfl 66 rfl (by decide) _ _ (R_mov hA rfl rfl _) (fun a hA => ?_)
              refine W_val hA rfl 67 rfl (by decide) _ _ (R_lenS hA rfl rfl _) (fun a hA => ?_)
              refine W_val hA rfl 68 rfl (by decide) _ _ (R_lssI hA rfl rfl rfl _) (fun a hA => ?_)
              refine W_nil ?_
              refine then_nrm ?_
              show Code.wp Try.prog _ _ _ _
              refine wp_cond_split (hA.ev (x := .tmp 68) rfl) (fun c1 => ?_) (fun c1 => ?_)
              · skip
                have hk9 : k < 9 := by have := of_decide_eq_true c1; omega
                refine wp_skip ?_
                refine then_nrm ?_
                show Code.wp Try.prog _ _ _ _
                refine wp_seq ?_
                refine wp_block ?_
                refine wp_seq ?_
                refine wp_region_held_drew (S := fun wx => Below w90.heap.size w90 wx) (by kernel_rfl) ((Below.refl _ _).drew) (fun hS => ?_)
                refine takeF (i := 0) hA 71 rfl rfl (by decide) rfl (by kernel_rfl) (by kernel_rfl) (by kernel_rfl) (fun _ _ _ h => h) hS (fun wx hx => R_row hA rfl rfl (A13.below hx) Try.underlying25 (size_hart.trans (by rw [varr_size]))) (fun a hA => ?_)
                refine takeF (i := 1) hA 72 rfl rfl (by decide) rfl (by kernel_rfl) (by kernel_rfl) (by kernel_rfl) (fun _ _ _ h => h) hS (fun wx hx => R_row hA rfl rfl (LL.below hx) Try.underlying27 (by kernel_rfl)) (fun a hA => ?_)
                refine takeF (i := 2) hA 73 rfl rfl (by decide) rfl (by kernel_rfl) (by kernel_rfl) (by kernel_rfl) (fun _ _ _ h => h) hS (fun wx hx => R_mov hA rfl rfl _) (fun a hA => ?_)
                refine takeF (i := 3) hA 74 rfl rfl (by decide) rfl (by kernel_rfl) (by kernel_rfl) (by kernel_rfl) (fun _ _ _ h => h) hS (fun wx hx => R_mov hA rfl rfl _) (fun a hA => ?_)
                refine takeF (i := 4) hA 75 rfl rfl (by decide) rfl (by kernel_rfl) (by kernel_rfl) (by kernel_rfl) (fun _ _ _ h => h) hS (fun wx hx => R_ixa hA rfl rfl rfl (fun w => ix_9 bM9 k hk9 w) _) (fun a hA => ?_)
                refine takeF (i := 5) hA 76 rfl rfl (by decide) rfl (by kernel_rfl) (by kernel_rfl) (by kernel_rfl) (fun _ _ _ h => h) hS (fun wx hx => R_ld hA rfl rfl ag_intS ((M9.below hx).cell (mn_get k hk9))) (fun a hA => ?_)
                refine takeF (i := 7) hA 78 rfl rfl (by decide) rfl (by kernel_rfl) (by kernel_rfl) (by kernel_rfl) (fun _ _ _ h => h) hS (fun wx hx => R_row hA rfl rfl (A12.below hx) Try.underlying25 (size_hart.trans (by rw [varr_size]))) (fun a hA => ?_)
                refine takeF (i := 8) hA 79 rfl rfl (by decide) rfl (by kernel_rfl) (by kernel_rfl) (by kernel_rfl) (fun _ _ _ h => h) hS (fun wx hx => R_row hA rfl rfl (LL.below hx) Try.underlying27 (by kernel_rfl)) (fun a hA => ?_)
                refine takeF (i := 9) hA 80 rfl rfl (by decide) rfl (by kernel_rfl) (by kernel_rfl) (by kernel_rfl) (fun _ _ _ h => h) hS (fun wx hx => R_mov hA rfl rfl _) (fun a hA => ?_)
                refine takeF (i := 10) hA 81 rfl rfl (by decide) rfl (by kernel_rfl) (by kernel_rfl) (by kernel_rfl) (fun _ _ _ h => h) hS (fun wx hx => R_mov hA rfl rfl _) (fun a hA => ?_)
                refine takeF (i := 11) hA 82 rfl rfl (by decide) rfl (by kernel_rfl) (by kernel_rfl) (by kernel_rfl) (fun _ _ _ h => h) hS (fun wx hx => R_ixa hA rfl rfl rfl (fun w => ix_9 bM9 k hk9 w) _) (fun a hA => ?_)
                refine takeF (i := 12) hA 83 rfl rfl (by decide) rfl (by kernel_rfl) (by kernel_rfl) (by kernel_rfl) (fun _ _ _ h => h) hS (fun wx hx => R_ld hA rfl rfl ag_intS ((M9.below hx).cell (mn_get k hk9))) (fun a hA => ?_)
                refine wpAnyH_ready (rs := [6]) (by kernel_rfl) (by simp) (ready_call (i := 6) hA (by decide) rfl (fun _ _ => by kernel_rfl) (args3 hA rfl rfl rfl) (read_any ((writeZ s (mnL.getD i 0) v).putV false) ((ok_write oks _ v).putV false) l (mnL.getD k 0) _) (fun _ h => hS.trans (h.mono hS.size)) (fun w22 hw a hA => ?_) AllReadyH.nil)
                replace hS := hS.trans (hw.mono hS.size)
                clear hw
                refine wpAnyH_ready (rs := [13]) (by kernel_rfl) (by simp) (ready_call (i := 13) hA (by decide) rfl (fun _ _ => by kernel_rfl) (args3 hA rfl rfl rfl) (read_any (s.putV false) (oks.putV false) l (mnL.getD k 0) _) (fun _ h => hS.trans (h.mono hS.size)) (fun w23 hw a hA => ?_) AllReadyH.nil)
                replace hS := hS.trans (hw.mono hS.size)
                clear hw
                refine takeF (i := 14) hA 85 rfl rfl (by decide) rfl (by kernel_rfl) (by kernel_rfl) (by kernel_rfl) (fun _ _ _ h => h) hS (fun wx hx => R_neqUT hA rfl rfl rfl false (g_loop hsv l v hi9 hk9) _) (fun a hA => ?_)
                refine wpAnyH_done (by kernel_rfl) ?_ _
                replace LL := LL.below hS
                replace A12 := A12.below hS
                replace A13 := A13.below hS
                replace M9 := M9.below hS
                replace HB := HB.trans (hS.mono HB.size)
                clear hS
                refine then_nrm ?_
                show Code.wp Try.prog _ _ _ _
                refine wp_cond_false (hA.ev (x := .tmp 85) rfl) ?_
                refine wp_skip ?_
                refine blk_nrm ?_
                refine then_nrm ?_
                show Code.wp Try.prog _ _ _ _
                refine wp_region_list ?_
                refine W_val hA rfl 69 rfl (by decide) _ _ (R_mov hA rfl rfl _) (fun a hA => ?_)
                refine W_val hA rfl 70 rfl (by decide) _ _ (R_addI hA rfl rfl rfl _) (fun a hA => ?_)
                refine W_val hA rfl 15 rfl (by decide) _ _ (R_asg hA rfl rfl _) (fun a hA => ?_)
                refine W_nil ?_
                refine then_nrm ?_
                refine ⟨hk9, FrA.add (FrA.add (FrA.add (FrA.add (FrA.add (FrA.nil hA.sz hA.df) 5 _ (hA.get 5 _ rfl)) 9 _ (hA.get 9 _ rfl)) 12 _ (hA.get 12 _ rfl)) 13 _ (hA.get 13 _ rfl)) 15 _ ((hA.get 15 _ rfl).trans (congrArg (Value.int .i64) (wrap_up (by omega)))), HB, A13, A12, LL, M9⟩
              refine wp_exit ?_
              refine then_ext ?_
              refine then_ext ?_
              refine blk_eq ?_
              refine then_nrm ?_
              show Code.wp Try.prog _ _ _ _
              refine wp_seq ?_
              refine wp_region_list ?_
              refine W_callA hA (by decide) (fun _ _ => by kernel_rfl) (args0 ) (wakes_any _) (fun w24 hw a hA => ?_)
              replace HB := HB.trans (hw.mono HB.size)
              replace LL := LL.below hw
              replace A12 := A12.below hw
              replace A13 := A13.below hw
              replace M9 := M9.below hw
              clear hw
              refine W_val hA rfl 8 rfl (by decide) _ _ (R_asg hA rfl rfl _) (fun a hA => ?_)
              refine W_nil ?_
              refine then_nrm ?_
              show Code.wp Try.prog _ _ _ _
              refine wp_ret ?_
              exact ret_tmp (j := 8) (by kernel_rfl) hA (by decide) rfl ⟨rfl, HB⟩
            exact AllReadyH.nil
          exact AllReadyH.nil
        refine ready_allocH (i := 8) hA 14 rfl rfl (by decide) rfl rfl (fun _ h => hS.trans (h.mono hS.size)) (fun w25 bA14 a hA hb A14 gA14 => ?_) ?_
        · skip
          replace gA14 := Nat.le_trans hS.size gA14
          replace hS := hS.trans (hb.mono hS.size)
          clear hb
          refine wpAnyH_ready (rs := [7]) (by kernel_rfl) (by simp) ?_
          refine ready_call (i := 7) hA (by decide) rfl (fun _ _ => by kernel_rfl) (args4 hA rfl rfl rfl rfl) (write_any (s.putV false) l (itL.getD i 0) v hv.1 _) (fun _ h => hS.trans (h.mono hS.size)) (fun w26 hw a hA => ?_) ?_
          · skip
            replace hS := hS.trans (hw.mono hS.size)
            replace A14 := A14.below hw
            clear hw
            refine wpAnyH_ready (rs := [9]) (by kernel_rfl) (by simp) ?_
            refine ready_cpH (i := 9) hA rfl rfl rfl rfl rfl rfl A14 (fun _ hT => hS.trans (hT.bel _ gA14)) (fun w27 hT HN => ?_) ?_
            · skip
              replace hS := hS.trans (hT.bel _ gA14)
              replace A14 := HN
              clear hT HN
              refine wpAnyH_done (by kernel_rfl) ?_ _
              have nHHA14 : bHH < bA14 := by have := HH.lt; omega
              replace HH := HH.below hS
              have nLLA14 : bLL < bA14 := by have := LL.lt; omega
              replace LL := LL.below hS
              have nM9A14 : bM9 < bA14 := by have := M9.lt; omega
              replace M9 := M9.below hS
              have nI9A14 : bI9 < bA14 := by have := I9.lt; omega
              replace I9 := I9.below hS
              have nA12A14 : bA12 < bA14 := by have := A12.lt; omega
              replace A12 := A12.below hS
              have nA13A14 : bA13 < bA14 := by have := A13.lt; omega
              replace A13 := A13.below hS
              replace gA14 := Nat.le_trans HB.size gA14
              replace HB := HB.trans (hS.mono HB.size)
              clear hS
              refine then_nrm ?_
              show Code.wp Try.prog _ _ _ _
              refine wp_seq ?_
              refine wp_region_list ?_
              refine W_val hA rfl 60 rfl (by decide) _ _ (R_fa hA rfl rfl (fun w => fa_hart _ 3 34 (by decide) rfl w) _) (fun a hA => ?_)
              refine W_stV hA rfl rfl rfl rfl rfl A14 (fun w28 hT HN => ?_)
              replace HB := HB.trans (hT.bel _ gA14)
              replace HH := hT.hart HH (by omega)
              replace LL := hT.lines LL (by omega)
              replace M9 := hT.rw M9 (by omega)
              replace I9 := hT.rw I9 (by omega)
              replace A12 := hT.hart A12 (by omega)
              replace A13 := hT.hart A13 (by omega)
              replace A14 := HN
              clear hT HN
              refine W_nil ?_
              refine then_nrm ?_
              show Code.wp Try.prog _ _ _ _
              refine wp_seq ?_
              refine wp_seq ?_
              refine wp_region_list ?_
              refine W_val hA rfl 61 rfl (by decide) _ _ (R_row hA rfl rfl A13 Try.underlying25 (size_hart.trans (by rw [varr_size]))) (fun a hA => ?_)
              refine W_val hA rfl 62 rfl (by decide) _ _ (R_row hA rfl rfl A14 Try.underlying25 (size_hart.trans (by rw [varr_size]))) (fun a hA => ?_)
              refine W_val hA rfl 63 rfl (by decide) _ _ (R_neqH hA rfl rfl rfl false (by rw [g_write hsv v hi9, eqH_refl]; rfl) _) (fun a hA => ?_)
              refine W_nil ?_
              refine then_nrm ?_
              show Code.wp Try.prog _ _ _ _
              refine wp_cond_false (hA.ev (x := .tmp 63) rfl) ?_
              refine wp_skip ?_
              refine then_nrm ?_
              show Code.wp Try.prog _ _ _ _
              refine wp_seq ?_
              refine wp_region_list ?_
              refine W_val hA rfl 64 rfl (by decide) _ _ (R_fa hA rfl rfl (fun w => fa_hart _ 3 34 (by decide) rfl w) _) (fun a hA => ?_)
              refine W_stV hA rfl rfl rfl rfl rfl A13 (fun w29 hT HN => ?_)
              replace HB := HB.trans (hT.bel _ gA13)
              replace HH := hT.hart HH (by omega)
              replace LL := hT.lines LL (by omega)
              replace M9 := hT.rw M9 (by omega)
              replace I9 := hT.rw I9 (by omega)
              replace A12 := hT.hart A12 (by omega)
              replace A14 := hT.hart A14 (by omega)
              replace A13 := HN
              clear hT HN
              refine W_nil ?_
              refine then_nrm ?_
              show Code.wp Try.prog _ _ _ _
              refine wp_seq ?_
              refine wp_seq ?_
              refine wp_region_list ?_
              refine W_val hA rfl 15 rfl (by decide) _ _ (R_asg hA rfl rfl _) (fun a hA => ?_)
              refine W_nil ?_
              refine then_nrm ?_
              show Code.wp Try.prog _ _ _ _
              refine wp_block ?_
              refine loop_cnt 15 9 (fun k a' w' => FrA [(15, .int .i64 (k : Int)), (13, .pointer (some ⟨bA13, 0, none⟩)), (12, .pointer (some ⟨bA12, 0, none⟩)), (9, .slice (some ⟨bM9, 0, none⟩) 9 9), (5, .pointer (some ⟨bLL, 0, none⟩))] 87 a' ∧ Below w.heap.size w w' ∧ HartB w' bA13 ((writeZ s (mnL.getD i 0) v).putV false) ∧ HartB w' bA12 (s.putV false) ∧ LnB w' bLL l ∧ RwI w' bM9 mnL) (fun k a' w' h => ⟨_, h.1.get 15 _ rfl⟩) ⟨FrA.add (FrA.add (FrA.add (FrA.add (FrA.add (FrA.nil hA.sz hA.df) 5 _ (hA.get 5 _ rfl)) 9 _ (hA.get 9 _ rfl)) 12 _ (hA.get 12 _ rfl)) 13 _ (hA.get 13 _ rfl)) 15 _ (hA.get 15 _ rfl), HB, A13, A12, LL, M9⟩ (fun k a w90 hk h => ?_)
              obtain ⟨hA, HB, A13, A12, LL, M9⟩ := h
              refine wp_seq ?_
              refine wp_seq ?_
              refine wp_region_list ?_
              refine W_val hA rfl 65 rfl (by decide) _ _ (R_mov hA rfl rfl _) (fun a hA => ?_)
              refine W_val hA rfl 66 rfl (by decide) _ _ (R_mov hA rfl rfl _) (fun a hA => ?_)
              refine W_val hA rfl 67 rfl (by decide) _ _ (R_lenS hA rfl rfl _) (fun a hA => ?_)
              refine W_val hA rfl 68 rfl (by decide) _ _ (R_lssI hA rfl rfl rfl _) (fun a hA => ?_)
              refine W_nil ?_
              refine then_nrm ?_
              show Code.wp Try.prog _ _ _ _
              refine wp_cond_split (hA.ev (x := .tmp 68) rfl) (fun c2 => ?_) (fun c2 => ?_)
              · skip
                have hk9 : k < 9 := by have := of_decide_eq_true c2; omega
                refine wp_skip ?_
                refine then_nrm ?_
                show Code.wp Try.prog _ _ _ _
                refine wp_seq ?_
                refine wp_block ?_
                refine wp_seq ?_
                refine wp_region_held_drew (S := fun wx => Below w90.heap.size w90 wx) (by kernel_rfl) ((Below.refl _ _).drew) (fun hS => ?_)
                refine takeF (i := 0) hA 71 rfl rfl (by decide) rfl (by kernel_rfl) (by kernel_rfl) (by kernel_rfl) (fun _ _ _ h => h) hS (fun wx hx => R_row hA rfl rfl (A13.below hx) Try.underlying25 (size_hart.trans (by rw [varr_size]))) (fun a hA => ?_)
                refine takeF (i := 1) hA 72 rfl rfl (by decide) rfl (by kernel_rfl) (by kernel_rfl) (by kernel_rfl) (fun _ _ _ h => h) hS (fun wx hx => R_row hA rfl rfl (LL.below hx) Try.underlying27 (by kernel_rfl)) (fun a hA => ?_)
                refine takeF (i := 2) hA 73 rfl rfl (by decide) rfl (by kernel_rfl) (by kernel_rfl) (by kernel_rfl) (fun _ _ _ h => h) hS (fun wx hx => R_mov hA rfl rfl _) (fun a hA => ?_)
                refine takeF (i := 3) hA 74 rfl rfl (by decide) rfl (by kernel_rfl) (by kernel_rfl) (by kernel_rfl) (fun _ _ _ h => h) hS (fun wx hx => R_mov hA rfl rfl _) (fun a hA => ?_)
                refine takeF (i := 4) hA 75 rfl rfl (by decide) rfl (by kernel_rfl) (by kernel_rfl) (by kernel_rfl) (fun _ _ _ h => h) hS (fun wx hx => R_ixa hA rfl rfl rfl (fun w => ix_9 bM9 k hk9 w) _) (fun a hA => ?_)
                refine takeF (i := 5) hA 76 rfl rfl (by decide) rfl (by kernel_rfl) (by kernel_rfl) (by kernel_rfl) (fun _ _ _ h => h) hS (fun wx hx => R_ld hA rfl rfl ag_intS ((M9.below hx).cell (mn_get k hk9))) (fun a hA => ?_)
                refine takeF (i := 7) hA 78 rfl rfl (by decide) rfl (by kernel_rfl) (by kernel_rfl) (by kernel_rfl) (fun _ _ _ h => h) hS (fun wx hx => R_row hA rfl rfl (A12.below hx) Try.underlying25 (size_hart.trans (by rw [varr_size]))) (fun a hA => ?_)
                refine takeF (i := 8) hA 79 rfl rfl (by decide) rfl (by kernel_rfl) (by kernel_rfl) (by kernel_rfl) (fun _ _ _ h => h) hS (fun wx hx => R_row hA rfl rfl (LL.below hx) Try.underlying27 (by kernel_rfl)) (fun a hA => ?_)
                refine takeF (i := 9) hA 80 rfl rfl (by decide) rfl (by kernel_rfl) (by kernel_rfl) (by kernel_rfl) (fun _ _ _ h => h) hS (fun wx hx => R_mov hA rfl rfl _) (fun a hA => ?_)
                refine takeF (i := 10) hA 81 rfl rfl (by decide) rfl (by kernel_rfl) (by kernel_rfl) (by kernel_rfl) (fun _ _ _ h => h) hS (fun wx hx => R_mov hA rfl rfl _) (fun a hA => ?_)
                refine takeF (i := 11) hA 82 rfl rfl (by decide) rfl (by kernel_rfl) (by kernel_rfl) (by kernel_rfl) (fun _ _ _ h => h) hS (fun wx hx => R_ixa hA rfl rfl rfl (fun w => ix_9 bM9 k hk9 w) _) (fun a hA => ?_)
                refine takeF (i := 12) hA 83 rfl rfl (by decide) rfl (by kernel_rfl) (by kernel_rfl) (by kernel_rfl) (fun _ _ _ h => h) hS (fun wx hx => R_ld hA rfl rfl ag_intS ((M9.below hx).cell (mn_get k hk9))) (fun a hA => ?_)
                refine wpAnyH_ready (rs := [6]) (by kernel_rfl) (by simp) (ready_call (i := 6) hA (by decide) rfl (fun _ _ => by kernel_rfl) (args3 hA rfl rfl rfl) (read_any ((writeZ s (mnL.getD i 0) v).putV false) ((ok_write oks _ v).putV false) l (mnL.getD k 0) _) (fun _ h => hS.trans (h.mono hS.size)) (fun w30 hw a hA => ?_) AllReadyH.nil)
                replace hS := hS.trans (hw.mono hS.size)
                clear hw
                refine wpAnyH_ready (rs := [13]) (by kernel_rfl) (by simp) (ready_call (i := 13) hA (by decide) rfl (fun _ _ => by kernel_rfl) (args3 hA rfl rfl rfl) (read_any (s.putV false) (oks.putV false) l (mnL.getD k 0) _) (fun _ h => hS.trans (h.mono hS.size)) (fun w31 hw a hA => ?_) AllReadyH.nil)
                replace hS := hS.trans (hw.mono hS.size)
                clear hw
                refine takeF (i := 14) hA 85 rfl rfl (by decide) rfl (by kernel_rfl) (by kernel_rfl) (by kernel_rfl) (fun _ _ _ h => h) hS (fun wx hx => R_neqUT hA rfl rfl rfl false (g_loop hsv l v hi9 hk9) _) (fun a hA => ?_)
                refine wpAnyH_done (by kernel_rfl) ?_ _
                replace LL := LL.below hS
                replace A12 := A12.below hS
                replace A13 := A13.below hS
                replace M9 := M9.below hS
                replace HB := HB.trans (hS.mono HB.size)
                clear hS
                refine then_nrm ?_
                show Code.wp Try.prog _ _ _ _
                refine wp_cond_false (hA.ev (x := .tmp 85) rfl) ?_
                refine wp_skip ?_
                refine blk_nrm ?_
                refine then_nrm ?_
                show Code.wp Try.prog _ _ _ _
                refine wp_region_list ?_
                refine W_val hA rfl 69 rfl (by decide) _ _ (R_mov hA rfl rfl _) (fun a hA => ?_)
                refine W_val hA rfl 70 rfl (by decide) _ _ (R_addI hA rfl rfl rfl _) (fun a hA => ?_)
                refine W_val hA rfl 15 rfl (by decide) _ _ (R_asg hA rfl rfl _) (fun a hA => ?_)
                refine W_nil ?_
                refine then_nrm ?_
                refine ⟨hk9, FrA.add (FrA.add (FrA.add (FrA.add (FrA.add (FrA.nil hA.sz hA.df) 5 _ (hA.get 5 _ rfl)) 9 _ (hA.get 9 _ rfl)) 12 _ (hA.get 12 _ rfl)) 13 _ (hA.get 13 _ rfl)) 15 _ ((hA.get 15 _ rfl).trans (congrArg (Value.int .i64) (wrap_up (by omega)))), HB, A13, A12, LL, M9⟩
              refine wp_exit ?_
              refine then_ext ?_
              refine then_ext ?_
              refine blk_eq ?_
              refine then_nrm ?_
              show Code.wp Try.prog _ _ _ _
              refine wp_seq ?_
              refine wp_region_list ?_
              refine W_callA hA (by decide) (fun _ _ => by kernel_rfl) (args0 ) (wakes_any _) (fun w32 hw a hA => ?_)
              replace HB := HB.trans (hw.mono HB.size)
              replace LL := LL.below hw
              replace A12 := A12.below hw
              replace A13 := A13.below hw
              replace M9 := M9.below hw
              clear hw
              refine W_val hA rfl 8 rfl (by decide) _ _ (R_asg hA rfl rfl _) (fun a hA => ?_)
              refine W_nil ?_
              refine then_nrm ?_
              show Code.wp Try.prog _ _ _ _
              refine wp_ret ?_
              exact ret_tmp (j := 8) (by kernel_rfl) hA (by decide) rfl ⟨rfl, HB⟩
            exact AllReadyH.nil
          exact AllReadyH.nil
        exact AllReadyH.nil
      exact AllReadyH.nil
    exact AllReadyH.nil
  refine ready_allocH (i := 8) hA 13 rfl rfl (by decide) rfl rfl (fun _ h => hS.trans (h.mono hS.size)) (fun w33 bA13 a hA hb A13 gA13 => ?_) ?_
  · skip
    replace gA13 := Nat.le_trans hS.size gA13
    replace hS := hS.trans (hb.mono hS.size)
    clear hb
    refine wpAnyH_ready (rs := [7]) (by kernel_rfl) (by simp) ?_
    refine ready_call (i := 7) hA (by decide) rfl (fun _ _ => by kernel_rfl) (args4 hA rfl rfl rfl rfl) (write_any s l (mnL.getD i 0) v hv.1 _) (fun _ h => hS.trans (h.mono hS.size)) (fun w34 hw a hA => ?_) ?_
    · skip
      replace hS := hS.trans (hw.mono hS.size)
      replace A13 := A13.below hw
      clear hw
      refine wpAnyH_ready (rs := [9]) (by kernel_rfl) (by simp) ?_
      refine ready_cpH (i := 9) hA rfl rfl rfl rfl rfl rfl A13 (fun _ hT => hS.trans (hT.bel _ gA13)) (fun w35 hT HN => ?_) ?_
      · skip
        replace hS := hS.trans (hT.bel _ gA13)
        replace A13 := HN
        clear hT HN
        refine wpAnyH_done (by kernel_rfl) ?_ _
        have nHHA13 : bHH < bA13 := by have := HH.lt; omega
        replace HH := HH.below hS
        have nLLA13 : bLL < bA13 := by have := LL.lt; omega
        replace LL := LL.below hS
        have nM9A13 : bM9 < bA13 := by have := M9.lt; omega
        replace M9 := M9.below hS
        have nI9A13 : bI9 < bA13 := by have := I9.lt; omega
        replace I9 := I9.below hS
        have nA12A13 : bA12 < bA13 := by have := A12.lt; omega
        replace A12 := A12.below hS
        replace gA13 := Nat.le_trans HB.size gA13
        replace HB := HB.trans (hS.mono HB.size)
        clear hS
        refine then_nrm ?_
        show Code.wp Try.prog _ _ _ _
        refine wp_seq ?_
        refine wp_region_held_drew (S := fun wx => Below w35.heap.size w35 wx) (by kernel_rfl) ((Below.refl _ _).drew) (fun hS => ?_)
        refine takeF (i := 0) hA 52 rfl rfl (by decide) rfl (by kernel_rfl) (by kernel_rfl) (by kernel_rfl) (fun _ _ _ h => h) hS (fun wx hx => R_row hA rfl rfl (A12.below hx) Try.underlying25 (size_hart.trans (by rw [varr_size]))) (fun a hA => ?_)
        refine takeF (i := 1) hA 53 rfl rfl (by decide) rfl (by kernel_rfl) (by kernel_rfl) (by kernel_rfl) (fun _ _ _ h => h) hS (fun wx hx => R_row hA rfl rfl (LL.below hx) Try.underlying27 (by kernel_rfl)) (fun a hA => ?_)
        refine takeF (i := 2) hA 54 rfl rfl (by decide) rfl (by kernel_rfl) (by kernel_rfl) (by kernel_rfl) (fun _ _ _ h => h) hS (fun wx hx => R_mov hA rfl rfl _) (fun a hA => ?_)
        refine takeF (i := 3) hA 55 rfl rfl (by decide) rfl (by kernel_rfl) (by kernel_rfl) (by kernel_rfl) (fun _ _ _ h => h) hS (fun wx hx => R_mov hA rfl rfl _) (fun a hA => ?_)
        refine takeF (i := 4) hA 56 rfl rfl (by decide) rfl (by kernel_rfl) (by kernel_rfl) (by kernel_rfl) (fun _ _ _ h => h) hS (fun wx hx => R_ixa hA rfl rfl rfl (fun w => ix_9 bI9 i hi9 w) _) (fun a hA => ?_)
        refine takeF (i := 5) hA 57 rfl rfl (by decide) rfl (by kernel_rfl) (by kernel_rfl) (by kernel_rfl) (fun _ _ _ h => h) hS (fun wx hx => R_ld hA rfl rfl ag_intS ((I9.below hx).cell (it_get i hi9))) (fun a hA => ?_)
        refine takeF (i := 6) hA 58 rfl rfl (by decide) rfl (by kernel_rfl) (by kernel_rfl) (by kernel_rfl) (fun _ _ _ h => h) hS (fun wx hx => R_mov hA rfl rfl _) (fun a hA => ?_)
        refine wpAnyH_ready (rs := [7, 8]) (by kernel_rfl) (by simp) ?_
        refine ready_call (i := 7) hA (by decide) rfl (fun _ _ => by kernel_rfl) (args4 hA rfl rfl rfl rfl) (write_any (s.putV false) l (itL.getD i 0) v hv.1 _) (fun _ h => hS.trans (h.mono hS.size)) (fun w36 hw a hA => ?_) ?_
        · skip
          replace hS := hS.trans (hw.mono hS.size)
          clear hw
          refine wpAnyH_ready (rs := [8]) (by kernel_rfl) (by simp) ?_
          refine ready_allocH (i := 8) hA 14 rfl rfl (by decide) rfl rfl (fun _ h => hS.trans (h.mono hS.size)) (fun w37 bA14 a hA hb A14 gA14 => ?_) ?_
          · skip
            replace gA14 := Nat.le_trans hS.size gA14
            replace hS := hS.trans (hb.mono hS.size)
            clear hb
            refine wpAnyH_ready (rs := [9]) (by kernel_rfl) (by simp) ?_
            refine ready_cpH (i := 9) hA rfl rfl rfl rfl rfl rfl A14 (fun _ hT => hS.trans (hT.bel _ gA14)) (fun w38 hT HN => ?_) ?_
            · skip
              replace hS := hS.trans (hT.bel _ gA14)
              replace A14 := HN
              clear hT HN
              refine wpAnyH_done (by kernel_rfl) ?_ _
              have nHHA14 : bHH < bA14 := by have := HH.lt; omega
              replace HH := HH.below hS
              have nLLA14 : bLL < bA14 := by have := LL.lt; omega
              replace LL := LL.below hS
              have nM9A14 : bM9 < bA14 := by have := M9.lt; omega
              replace M9 := M9.below hS
              have nI9A14 : bI9 < bA14 := by have := I9.lt; omega
              replace I9 := I9.below hS
              have nA12A14 : bA12 < bA14 := by have := A12.lt; omega
              replace A12 := A12.below hS
              have nA13A14 : bA13 < bA14 := by have := A13.lt; omega
              replace A13 := A13.below hS
              replace gA14 := Nat.le_trans HB.size gA14
              replace HB := HB.trans (hS.mono HB.size)
              clear hS
              refine then_nrm ?_
              show Code.wp Try.prog _ _ _ _
              refine wp_seq ?_
              refine wp_region_list ?_
              refine W_val hA rfl 60 rfl (by decide) _ _ (R_fa hA rfl rfl (fun w => fa_hart _ 3 34 (by decide) rfl w) _) (fun a hA => ?_)
              refine W_stV hA rfl rfl rfl rfl rfl A14 (fun w39 hT HN => ?_)
              replace HB := HB.trans (hT.bel _ gA14)
              replace HH := hT.hart HH (by omega)
              replace LL := hT.lines LL (by omega)
              replace M9 := hT.rw M9 (by omega)
              replace I9 := hT.rw I9 (by omega)
              replace A12 := hT.hart A12 (by omega)
              replace A13 := hT.hart A13 (by omega)
              replace A14 := HN
              clear hT HN
              refine W_nil ?_
              refine then_nrm ?_
              show Code.wp Try.prog _ _ _ _
              refine wp_seq ?_
              refine wp_seq ?_
              refine wp_region_list ?_
              refine W_val hA rfl 61 rfl (by decide) _ _ (R_row hA rfl rfl A13 Try.underlying25 (size_hart.trans (by rw [varr_size]))) (fun a hA => ?_)
              refine W_val hA rfl 62 rfl (by decide) _ _ (R_row hA rfl rfl A14 Try.underlying25 (size_hart.trans (by rw [varr_size]))) (fun a hA => ?_)
              refine W_val hA rfl 63 rfl (by decide) _ _ (R_neqH hA rfl rfl rfl false (by rw [g_write hsv v hi9, eqH_refl]; rfl) _) (fun a hA => ?_)
              refine W_nil ?_
              refine then_nrm ?_
              show Code.wp Try.prog _ _ _ _
              refine wp_cond_false (hA.ev (x := .tmp 63) rfl) ?_
              refine wp_skip ?_
              refine then_nrm ?_
              show Code.wp Try.prog _ _ _ _
              refine wp_seq ?_
              refine wp_region_list ?_
              refine W_val hA rfl 64 rfl (by decide) _ _ (R_fa hA rfl rfl (fun w => fa_hart _ 3 34 (by decide) rfl w) _) (fun a hA => ?_)
              refine W_stV hA rfl rfl rfl rfl rfl A13 (fun w40 hT HN => ?_)
              replace HB := HB.trans (hT.bel _ gA13)
              replace HH := hT.hart HH (by omega)
              replace LL := hT.lines LL (by omega)
              replace M9 := hT.rw M9 (by omega)
              replace I9 := hT.rw I9 (by omega)
              replace A12 := hT.hart A12 (by omega)
              replace A14 := hT.hart A14 (by omega)
              replace A13 := HN
              clear hT HN
              refine W_nil ?_
              refine then_nrm ?_
              show Code.wp Try.prog _ _ _ _
              refine wp_seq ?_
              refine wp_seq ?_
              refine wp_region_list ?_
              refine W_val hA rfl 15 rfl (by decide) _ _ (R_asg hA rfl rfl _) (fun a hA => ?_)
              refine W_nil ?_
              refine then_nrm ?_
              show Code.wp Try.prog _ _ _ _
              refine wp_block ?_
              refine loop_cnt 15 9 (fun k a' w' => FrA [(15, .int .i64 (k : Int)), (13, .pointer (some ⟨bA13, 0, none⟩)), (12, .pointer (some ⟨bA12, 0, none⟩)), (9, .slice (some ⟨bM9, 0, none⟩) 9 9), (5, .pointer (some ⟨bLL, 0, none⟩))] 87 a' ∧ Below w.heap.size w w' ∧ HartB w' bA13 ((writeZ s (mnL.getD i 0) v).putV false) ∧ HartB w' bA12 (s.putV false) ∧ LnB w' bLL l ∧ RwI w' bM9 mnL) (fun k a' w' h => ⟨_, h.1.get 15 _ rfl⟩) ⟨FrA.add (FrA.add (FrA.add (FrA.add (FrA.add (FrA.nil hA.sz hA.df) 5 _ (hA.get 5 _ rfl)) 9 _ (hA.get 9 _ rfl)) 12 _ (hA.get 12 _ rfl)) 13 _ (hA.get 13 _ rfl)) 15 _ (hA.get 15 _ rfl), HB, A13, A12, LL, M9⟩ (fun k a w90 hk h => ?_)
              obtain ⟨hA, HB, A13, A12, LL, M9⟩ := h
              refine wp_seq ?_
              refine wp_seq ?_
              refine wp_region_list ?_
              refine W_val hA rfl 65 rfl (by decide) _ _ (R_mov hA rfl rfl _) (fun a hA => ?_)
              refine W_val hA rfl 66 rfl (by decide) _ _ (R_mov hA rfl rfl _) (fun a hA => ?_)
              refine W_val hA rfl 67 rfl (by decide) _ _ (R_lenS hA rfl rfl _) (fun a hA => ?_)
              refine W_val hA rfl 68 rfl (by decide) _ _ (R_lssI hA rfl rfl rfl _) (fun a hA => ?_)
              refine W_nil ?_
              refine then_nrm ?_
              show Code.wp Try.prog _ _ _ _
              refine wp_cond_split (hA.ev (x := .tmp 68) rfl) (fun c3 => ?_) (fun c3 => ?_)
              · skip
                have hk9 : k < 9 := by have := of_decide_eq_true c3; omega
                refine wp_skip ?_
                refine then_nrm ?_
                show Code.wp Try.prog _ _ _ _
                refine wp_seq ?_
                refine wp_block ?_
                refine wp_seq ?_
                refine wp_region_held_drew (S := fun wx => Below w90.heap.size w90 wx) (by kernel_rfl) ((Below.refl _ _).drew) (fun hS => ?_)
                refine takeF (i := 0) hA 71 rfl rfl (by decide) rfl (by kernel_rfl) (by kernel_rfl) (by kernel_rfl) (fun _ _ _ h => h) hS (fun wx hx => R_row hA rfl rfl (A13.below hx) Try.underlying25 (size_hart.trans (by rw [varr_size]))) (fun a hA => ?_)
                refine takeF (i := 1) hA 72 rfl rfl (by decide) rfl (by kernel_rfl) (by kernel_rfl) (by kernel_rfl) (fun _ _ _ h => h) hS (fun wx hx => R_row hA rfl rfl (LL.below hx) Try.underlying27 (by kernel_rfl)) (fun a hA => ?_)
                refine takeF (i := 2) hA 73 rfl rfl (by decide) rfl (by kernel_rfl) (by kernel_rfl) (by kernel_rfl) (fun _ _ _ h => h) hS (fun wx hx => R_mov hA rfl rfl _) (fun a hA => ?_)
                refine takeF (i := 3) hA 74 rfl rfl (by decide) rfl (by kernel_rfl) (by kernel_rfl) (by kernel_rfl) (fun _ _ _ h => h) hS (fun wx hx => R_mov hA rfl rfl _) (fun a hA => ?_)
                refine takeF (i := 4) hA 75 rfl rfl (by decide) rfl (by kernel_rfl) (by kernel_rfl) (by kernel_rfl) (fun _ _ _ h => h) hS (fun wx hx => R_ixa hA rfl rfl rfl (fun w => ix_9 bM9 k hk9 w) _) (fun a hA => ?_)
                refine takeF (i := 5) hA 76 rfl rfl (by decide) rfl (by kernel_rfl) (by kernel_rfl) (by kernel_rfl) (fun _ _ _ h => h) hS (fun wx hx => R_ld hA rfl rfl ag_intS ((M9.below hx).cell (mn_get k hk9))) (fun a hA => ?_)
                refine takeF (i := 7) hA 78 rfl rfl (by decide) rfl (by kernel_rfl) (by kernel_rfl) (by kernel_rfl) (fun _ _ _ h => h) hS (fun wx hx => R_row hA rfl rfl (A12.below hx) Try.underlying25 (size_hart.trans (by rw [varr_size]))) (fun a hA => ?_)
                refine takeF (i := 8) hA 79 rfl rfl (by decide) rfl (by kernel_rfl) (by kernel_rfl) (by kernel_rfl) (fun _ _ _ h => h) hS (fun wx hx => R_row hA rfl rfl (LL.below hx) Try.underlying27 (by kernel_rfl)) (fun a hA => ?_)
                refine takeF (i := 9) hA 80 rfl rfl (by decide) rfl (by kernel_rfl) (by kernel_rfl) (by kernel_rfl) (fun _ _ _ h => h) hS (fun wx hx => R_mov hA rfl rfl _) (fun a hA => ?_)
                refine takeF (i := 10) hA 81 rfl rfl (by decide) rfl (by kernel_rfl) (by kernel_rfl) (by kernel_rfl) (fun _ _ _ h => h) hS (fun wx hx => R_mov hA rfl rfl _) (fun a hA => ?_)
                refine takeF (i := 11) hA 82 rfl rfl (by decide) rfl (by kernel_rfl) (by kernel_rfl) (by kernel_rfl) (fun _ _ _ h => h) hS (fun wx hx => R_ixa hA rfl rfl rfl (fun w => ix_9 bM9 k hk9 w) _) (fun a hA => ?_)
                refine takeF (i := 12) hA 83 rfl rfl (by decide) rfl (by kernel_rfl) (by kernel_rfl) (by kernel_rfl) (fun _ _ _ h => h) hS (fun wx hx => R_ld hA rfl rfl ag_intS ((M9.below hx).cell (mn_get k hk9))) (fun a hA => ?_)
                refine wpAnyH_ready (rs := [6]) (by kernel_rfl) (by simp) (ready_call (i := 6) hA (by decide) rfl (fun _ _ => by kernel_rfl) (args3 hA rfl rfl rfl) (read_any ((writeZ s (mnL.getD i 0) v).putV false) ((ok_write oks _ v).putV false) l (mnL.getD k 0) _) (fun _ h => hS.trans (h.mono hS.size)) (fun w41 hw a hA => ?_) AllReadyH.nil)
                replace hS := hS.trans (hw.mono hS.size)
                clear hw
                refine wpAnyH_ready (rs := [13]) (by kernel_rfl) (by simp) (ready_call (i := 13) hA (by decide) rfl (fun _ _ => by kernel_rfl) (args3 hA rfl rfl rfl) (read_any (s.putV false) (oks.putV false) l (mnL.getD k 0) _) (fun _ h => hS.trans (h.mono hS.size)) (fun w42 hw a hA => ?_) AllReadyH.nil)
                replace hS := hS.trans (hw.mono hS.size)
                clear hw
                refine takeF (i := 14) hA 85 rfl rfl (by decide) rfl (by kernel_rfl) (by kernel_rfl) (by kernel_rfl) (fun _ _ _ h => h) hS (fun wx hx => R_neqUT hA rfl rfl rfl false (g_loop hsv l v hi9 hk9) _) (fun a hA => ?_)
                refine wpAnyH_done (by kernel_rfl) ?_ _
                replace LL := LL.below hS
                replace A12 := A12.below hS
                replace A13 := A13.below hS
                replace M9 := M9.below hS
                replace HB := HB.trans (hS.mono HB.size)
                clear hS
                refine then_nrm ?_
                show Code.wp Try.prog _ _ _ _
                refine wp_cond_false (hA.ev (x := .tmp 85) rfl) ?_
                refine wp_skip ?_
                refine blk_nrm ?_
                refine then_nrm ?_
                show Code.wp Try.prog _ _ _ _
                refine wp_region_list ?_
                refine W_val hA rfl 69 rfl (by decide) _ _ (R_mov hA rfl rfl _) (fun a hA => ?_)
                refine W_val hA rfl 70 rfl (by decide) _ _ (R_addI hA rfl rfl rfl _) (fun a hA => ?_)
                refine W_val hA rfl 15 rfl (by decide) _ _ (R_asg hA rfl rfl _) (fun a hA => ?_)
                refine W_nil ?_
                refine then_nrm ?_
                refine ⟨hk9, FrA.add (FrA.add (FrA.add (FrA.add (FrA.add (FrA.nil hA.sz hA.df) 5 _ (hA.get 5 _ rfl)) 9 _ (hA.get 9 _ rfl)) 12 _ (hA.get 12 _ rfl)) 13 _ (hA.get 13 _ rfl)) 15 _ ((hA.get 15 _ rfl).trans (congrArg (Value.int .i64) (wrap_up (by omega)))), HB, A13, A12, LL, M9⟩
              refine wp_exit ?_
              refine then_ext ?_
              refine then_ext ?_
              refine blk_eq ?_
              refine then_nrm ?_
              show Code.wp Try.prog _ _ _ _
              refine wp_seq ?_
              refine wp_region_list ?_
              refine W_callA hA (by decide) (fun _ _ => by kernel_rfl) (args0 ) (wakes_any _) (fun w43 hw a hA => ?_)
              replace HB := HB.trans (hw.mono HB.size)
              replace LL := LL.below hw
              replace A12 := A12.below hw
              replace A13 := A13.below hw
              replace M9 := M9.below hw
              clear hw
              refine W_val hA rfl 8 rfl (by decide) _ _ (R_asg hA rfl rfl _) (fun a hA => ?_)
              refine W_nil ?_
              refine then_nrm ?_
              show Code.wp Try.prog _ _ _ _
              refine wp_ret ?_
              exact ret_tmp (j := 8) (by kernel_rfl) hA (by decide) rfl ⟨rfl, HB⟩
            exact AllReadyH.nil
          exact AllReadyH.nil
        refine ready_allocH (i := 8) hA 14 rfl rfl (by decide) rfl rfl (fun _ h => hS.trans (h.mono hS.size)) (fun w44 bA14 a hA hb A14 gA14 => ?_) ?_
        · skip
          replace gA14 := Nat.le_trans hS.size gA14
          replace hS := hS.trans (hb.mono hS.size)
          clear hb
          refine wpAnyH_ready (rs := [7]) (by kernel_rfl) (by simp) ?_
          refine ready_call (i := 7) hA (by decide) rfl (fun _ _ => by kernel_rfl) (args4 hA rfl rfl rfl rfl) (write_any (s.putV false) l (itL.getD i 0) v hv.1 _) (fun _ h => hS.trans (h.mono hS.size)) (fun w45 hw a hA => ?_) ?_
          · skip
            replace hS := hS.trans (hw.mono hS.size)
            replace A14 := A14.below hw
            clear hw
            refine wpAnyH_ready (rs := [9]) (by kernel_rfl) (by simp) ?_
            refine ready_cpH (i := 9) hA rfl rfl rfl rfl rfl rfl A14 (fun _ hT => hS.trans (hT.bel _ gA14)) (fun w46 hT HN => ?_) ?_
            · skip
              replace hS := hS.trans (hT.bel _ gA14)
              replace A14 := HN
              clear hT HN
              refine wpAnyH_done (by kernel_rfl) ?_ _
              have nHHA14 : bHH < bA14 := by have := HH.lt; omega
              replace HH := HH.below hS
              have nLLA14 : bLL < bA14 := by have := LL.lt; omega
              replace LL := LL.below hS
              have nM9A14 : bM9 < bA14 := by have := M9.lt; omega
              replace M9 := M9.below hS
              have nI9A14 : bI9 < bA14 := by have := I9.lt; omega
              replace I9 := I9.below hS
              have nA12A14 : bA12 < bA14 := by have := A12.lt; omega
              replace A12 := A12.below hS
              have nA13A14 : bA13 < bA14 := by have := A13.lt; omega
              replace A13 := A13.below hS
              replace gA14 := Nat.le_trans HB.size gA14
              replace HB := HB.trans (hS.mono HB.size)
              clear hS
              refine then_nrm ?_
              show Code.wp Try.prog _ _ _ _
              refine wp_seq ?_
              refine wp_region_list ?_
              refine W_val hA rfl 60 rfl (by decide) _ _ (R_fa hA rfl rfl (fun w => fa_hart _ 3 34 (by decide) rfl w) _) (fun a hA => ?_)
              refine W_stV hA rfl rfl rfl rfl rfl A14 (fun w47 hT HN => ?_)
              replace HB := HB.trans (hT.bel _ gA14)
              replace HH := hT.hart HH (by omega)
              replace LL := hT.lines LL (by omega)
              replace M9 := hT.rw M9 (by omega)
              replace I9 := hT.rw I9 (by omega)
              replace A12 := hT.hart A12 (by omega)
              replace A13 := hT.hart A13 (by omega)
              replace A14 := HN
              clear hT HN
              refine W_nil ?_
              refine then_nrm ?_
              show Code.wp Try.prog _ _ _ _
              refine wp_seq ?_
              refine wp_seq ?_
              refine wp_region_list ?_
              refine W_val hA rfl 61 rfl (by decide) _ _ (R_row hA rfl rfl A13 Try.underlying25 (size_hart.trans (by rw [varr_size]))) (fun a hA => ?_)
              refine W_val hA rfl 62 rfl (by decide) _ _ (R_row hA rfl rfl A14 Try.underlying25 (size_hart.trans (by rw [varr_size]))) (fun a hA => ?_)
              refine W_val hA rfl 63 rfl (by decide) _ _ (R_neqH hA rfl rfl rfl false (by rw [g_write hsv v hi9, eqH_refl]; rfl) _) (fun a hA => ?_)
              refine W_nil ?_
              refine then_nrm ?_
              show Code.wp Try.prog _ _ _ _
              refine wp_cond_false (hA.ev (x := .tmp 63) rfl) ?_
              refine wp_skip ?_
              refine then_nrm ?_
              show Code.wp Try.prog _ _ _ _
              refine wp_seq ?_
              refine wp_region_list ?_
              refine W_val hA rfl 64 rfl (by decide) _ _ (R_fa hA rfl rfl (fun w => fa_hart _ 3 34 (by decide) rfl w) _) (fun a hA => ?_)
              refine W_stV hA rfl rfl rfl rfl rfl A13 (fun w48 hT HN => ?_)
              replace HB := HB.trans (hT.bel _ gA13)
              replace HH := hT.hart HH (by omega)
              replace LL := hT.lines LL (by omega)
              replace M9 := hT.rw M9 (by omega)
              replace I9 := hT.rw I9 (by omega)
              replace A12 := hT.hart A12 (by omega)
              replace A14 := hT.hart A14 (by omega)
              replace A13 := HN
              clear hT HN
              refine W_nil ?_
              refine then_nrm ?_
              show Code.wp Try.prog _ _ _ _
              refine wp_seq ?_
              refine wp_seq ?_
              refine wp_region_list ?_
              refine W_val hA rfl 15 rfl (by decide) _ _ (R_asg hA rfl rfl _) (fun a hA => ?_)
              refine W_nil ?_
              refine then_nrm ?_
              show Code.wp Try.prog _ _ _ _
              refine wp_block ?_
              refine loop_cnt 15 9 (fun k a' w' => FrA [(15, .int .i64 (k : Int)), (13, .pointer (some ⟨bA13, 0, none⟩)), (12, .pointer (some ⟨bA12, 0, none⟩)), (9, .slice (some ⟨bM9, 0, none⟩) 9 9), (5, .pointer (some ⟨bLL, 0, none⟩))] 87 a' ∧ Below w.heap.size w w' ∧ HartB w' bA13 ((writeZ s (mnL.getD i 0) v).putV false) ∧ HartB w' bA12 (s.putV false) ∧ LnB w' bLL l ∧ RwI w' bM9 mnL) (fun k a' w' h => ⟨_, h.1.get 15 _ rfl⟩) ⟨FrA.add (FrA.add (FrA.add (FrA.add (FrA.add (FrA.nil hA.sz hA.df) 5 _ (hA.get 5 _ rfl)) 9 _ (hA.get 9 _ rfl)) 12 _ (hA.get 12 _ rfl)) 13 _ (hA.get 13 _ rfl)) 15 _ (hA.get 15 _ rfl), HB, A13, A12, LL, M9⟩ (fun k a w90 hk h => ?_)
              obtain ⟨hA, HB, A13, A12, LL, M9⟩ := h
              refine wp_seq ?_
              refine wp_seq ?_
              refine wp_region_list ?_
              refine W_val hA rfl 65 rfl (by decide) _ _ (R_mov hA rfl rfl _) (fun a hA => ?_)
              refine W_val hA rfl 66 rfl (by decide) _ _ (R_mov hA rfl rfl _) (fun a hA => ?_)
              refine W_val hA rfl 67 rfl (by decide) _ _ (R_lenS hA rfl rfl _) (fun a hA => ?_)
              refine W_val hA rfl 68 rfl (by decide) _ _ (R_lssI hA rfl rfl rfl _) (fun a hA => ?_)
              refine W_nil ?_
              refine then_nrm ?_
              show Code.wp Try.prog _ _ _ _
              refine wp_cond_split (hA.ev (x := .tmp 68) rfl) (fun c4 => ?_) (fun c4 => ?_)
              · skip
                have hk9 : k < 9 := by have := of_decide_eq_true c4; omega
                refine wp_skip ?_
                refine then_nrm ?_
                show Code.wp Try.prog _ _ _ _
                refine wp_seq ?_
                refine wp_block ?_
                refine wp_seq ?_
                refine wp_region_held_drew (S := fun wx => Below w90.heap.size w90 wx) (by kernel_rfl) ((Below.refl _ _).drew) (fun hS => ?_)
                refine takeF (i := 0) hA 71 rfl rfl (by decide) rfl (by kernel_rfl) (by kernel_rfl) (by kernel_rfl) (fun _ _ _ h => h) hS (fun wx hx => R_row hA rfl rfl (A13.below hx) Try.underlying25 (size_hart.trans (by rw [varr_size]))) (fun a hA => ?_)
                refine takeF (i := 1) hA 72 rfl rfl (by decide) rfl (by kernel_rfl) (by kernel_rfl) (by kernel_rfl) (fun _ _ _ h => h) hS (fun wx hx => R_row hA rfl rfl (LL.below hx) Try.underlying27 (by kernel_rfl)) (fun a hA => ?_)
                refine takeF (i := 2) hA 73 rfl rfl (by decide) rfl (by kernel_rfl) (by kernel_rfl) (by kernel_rfl) (fun _ _ _ h => h) hS (fun wx hx => R_mov hA rfl rfl _) (fun a hA => ?_)
                refine takeF (i := 3) hA 74 rfl rfl (by decide) rfl (by kernel_rfl) (by kernel_rfl) (by kernel_rfl) (fun _ _ _ h => h) hS (fun wx hx => R_mov hA rfl rfl _) (fun a hA => ?_)
                refine takeF (i := 4) hA 75 rfl rfl (by decide) rfl (by kernel_rfl) (by kernel_rfl) (by kernel_rfl) (fun _ _ _ h => h) hS (fun wx hx => R_ixa hA rfl rfl rfl (fun w => ix_9 bM9 k hk9 w) _) (fun a hA => ?_)
                refine takeF (i := 5) hA 76 rfl rfl (by decide) rfl (by kernel_rfl) (by kernel_rfl) (by kernel_rfl) (fun _ _ _ h => h) hS (fun wx hx => R_ld hA rfl rfl ag_intS ((M9.below hx).cell (mn_get k hk9))) (fun a hA => ?_)
                refine takeF (i := 7) hA 78 rfl rfl (by decide) rfl (by kernel_rfl) (by kernel_rfl) (by kernel_rfl) (fun _ _ _ h => h) hS (fun wx hx => R_row hA rfl rfl (A12.below hx) Try.underlying25 (size_hart.trans (by rw [varr_size]))) (fun a hA => ?_)
                refine takeF (i := 8) hA 79 rfl rfl (by decide) rfl (by kernel_rfl) (by kernel_rfl) (by kernel_rfl) (fun _ _ _ h => h) hS (fun wx hx => R_row hA rfl rfl (LL.below hx) Try.underlying27 (by kernel_rfl)) (fun a hA => ?_)
                refine takeF (i := 9) hA 80 rfl rfl (by decide) rfl (by kernel_rfl) (by kernel_rfl) (by kernel_rfl) (fun _ _ _ h => h) hS (fun wx hx => R_mov hA rfl rfl _) (fun a hA => ?_)
                refine takeF (i := 10) hA 81 rfl rfl (by decide) rfl (by kernel_rfl) (by kernel_rfl) (by kernel_rfl) (fun _ _ _ h => h) hS (fun wx hx => R_mov hA rfl rfl _) (fun a hA => ?_)
                refine takeF (i := 11) hA 82 rfl rfl (by decide) rfl (by kernel_rfl) (by kernel_rfl) (by kernel_rfl) (fun _ _ _ h => h) hS (fun wx hx => R_ixa hA rfl rfl rfl (fun w => ix_9 bM9 k hk9 w) _) (fun a hA => ?_)
                refine takeF (i := 12) hA 83 rfl rfl (by decide) rfl (by kernel_rfl) (by kernel_rfl) (by kernel_rfl) (fun _ _ _ h => h) hS (fun wx hx => R_ld hA rfl rfl ag_intS ((M9.below hx).cell (mn_get k hk9))) (fun a hA => ?_)
                refine wpAnyH_ready (rs := [6]) (by kernel_rfl) (by simp) (ready_call (i := 6) hA (by decide) rfl (fun _ _ => by kernel_rfl) (args3 hA rfl rfl rfl) (read_any ((writeZ s (mnL.getD i 0) v).putV false) ((ok_write oks _ v).putV false) l (mnL.getD k 0) _) (fun _ h => hS.trans (h.mono hS.size)) (fun w49 hw a hA => ?_) AllReadyH.nil)
                replace hS := hS.trans (hw.mono hS.size)
                clear hw
                refine wpAnyH_ready (rs := [13]) (by kernel_rfl) (by simp) (ready_call (i := 13) hA (by decide) rfl (fun _ _ => by kernel_rfl) (args3 hA rfl rfl rfl) (read_any (s.putV false) (oks.putV false) l (mnL.getD k 0) _) (fun _ h => hS.trans (h.mono hS.size)) (fun w50 hw a hA => ?_) AllReadyH.nil)
                replace hS := hS.trans (hw.mono hS.size)
                clear hw
                refine takeF (i := 14) hA 85 rfl rfl (by decide) rfl (by kernel_rfl) (by kernel_rfl) (by kernel_rfl) (fun _ _ _ h => h) hS (fun wx hx => R_neqUT hA rfl rfl rfl false (g_loop hsv l v hi9 hk9) _) (fun a hA => ?_)
                refine wpAnyH_done (by kernel_rfl) ?_ _
                replace LL := LL.below hS
                replace A12 := A12.below hS
                replace A13 := A13.below hS
                replace M9 := M9.below hS
                replace HB := HB.trans (hS.mono HB.size)
                clear hS
                refine then_nrm ?_
                show Code.wp Try.prog _ _ _ _
                refine wp_cond_false (hA.ev (x := .tmp 85) rfl) ?_
                refine wp_skip ?_
                refine blk_nrm ?_
                refine then_nrm ?_
                show Code.wp Try.prog _ _ _ _
                refine wp_region_list ?_
                refine W_val hA rfl 69 rfl (by decide) _ _ (R_mov hA rfl rfl _) (fun a hA => ?_)
                refine W_val hA rfl 70 rfl (by decide) _ _ (R_addI hA rfl rfl rfl _) (fun a hA => ?_)
                refine W_val hA rfl 15 rfl (by decide) _ _ (R_asg hA rfl rfl _) (fun a hA => ?_)
                refine W_nil ?_
                refine then_nrm ?_
                refine ⟨hk9, FrA.add (FrA.add (FrA.add (FrA.add (FrA.add (FrA.nil hA.sz hA.df) 5 _ (hA.get 5 _ rfl)) 9 _ (hA.get 9 _ rfl)) 12 _ (hA.get 12 _ rfl)) 13 _ (hA.get 13 _ rfl)) 15 _ ((hA.get 15 _ rfl).trans (congrArg (Value.int .i64) (wrap_up (by omega)))), HB, A13, A12, LL, M9⟩
              refine wp_exit ?_
              refine then_ext ?_
              refine then_ext ?_
              refine blk_eq ?_
              refine then_nrm ?_
              show Code.wp Try.prog _ _ _ _
              refine wp_seq ?_
              refine wp_region_list ?_
              refine W_callA hA (by decide) (fun _ _ => by kernel_rfl) (args0 ) (wakes_any _) (fun w51 hw a hA => ?_)
              replace HB := HB.trans (hw.mono HB.size)
              replace LL := LL.below hw
              replace A12 := A12.below hw
              replace A13 := A13.below hw
              replace M9 := M9.below hw
              clear hw
              refine W_val hA rfl 8 rfl (by decide) _ _ (R_asg hA rfl rfl _) (fun a hA => ?_)
              refine W_nil ?_
              refine then_nrm ?_
              show Code.wp Try.prog _ _ _ _
              refine wp_ret ?_
              exact ret_tmp (j := 8) (by kernel_rfl) hA (by decide) rfl ⟨rfl, HB⟩
            exact AllReadyH.nil
          exact AllReadyH.nil
        exact AllReadyH.nil
      exact AllReadyH.nil
    exact AllReadyH.nil
  exact AllReadyH.nil
end Go.Proofs.Ytiblfdgmleckiaa
