/- Layer 9's numbers: what a word says, which word says it. Plain Lean; nothing of the program. -/
import Derived.Test.YtehlihhnkojjeaaDoorDt
namespace Go.Proofs.YtehlihhnkojjeaaDoor
open Go.RowKit
set_option linter.unusedVariables false

/-- An instruction. -/
structure Ins where
  op : Int
  rd : Int
  a : Int
  b : Int
  imm : Int
  csr : Int
  aq : Bool
  rl : Bool
/-- Whether a word is the instruction of that Op. -/
def isT (op : Nat) (x : Int) : Bool := bits .and .u32 x (mskT op) == (matT op : Int)
/-- What a form says of a word. -/
def says (f : Frm) (op x : Int) : Ins :=
  ⟨op, if f.rd then fldZ x 11 7 else 0, if f.a then fldZ x 19 15 else 0, if f.b then fldZ x 24 20 else 0, (formL f.imm).number x, if f.csr then fldZ x 31 20 else 0, f.ord && fldZ x 26 26 == 1, f.ord && fldZ x 25 25 == 1⟩
/-- A number in the field that begins at s. -/
def put5 (n : Int) (s : Nat) : Int := IntKind.u32.wrap (fldZ (IntKind.u32.wrap n) 4 0 * 2 ^ s)
/-- A bit, or none. -/
def markZ (b : Bool) (s : Nat) : Int := if b then 2 ^ s else 0
/-- The word that a form's number makes, 0 if it does not fit. -/
def putF (k : Nat) (n : Int) : Int := if (formL k).number ((formL k).word n) == n then (formL k).word n else 0
def w1 (f : Frm) (i : Ins) : Int := if f.rd then bits .or .u32 0 (put5 i.rd 7) else 0
def w2 (f : Frm) (i : Ins) : Int := if f.a then bits .or .u32 (w1 f i) (put5 i.a 15) else w1 f i
def w3 (f : Frm) (i : Ins) : Int := if f.b then bits .or .u32 (w2 f i) (put5 i.b 20) else w2 f i
def w4 (f : Frm) (i : Ins) : Int := if f.ord then bits .or .u32 (w3 f i) (bits .or .u32 (markZ i.aq 26) (markZ i.rl 25)) else w3 f i
def w5 (f : Frm) (i : Ins) : Int := if f.csr then bits .or .u32 (w4 f i) (putF 8 i.csr) else w4 f i
/-- The bits of what the form says of i. -/
def wF (f : Frm) (i : Ins) : Int := bits .or .u32 (w5 f i) (putF f.imm i.imm)
/-- The word. -/
def wordI (m : Nat) (f : Frm) (i : Ins) : Int := bits .or .u32 m (wF f i)

theorem tb_zero (q : Nat) : tb 0 q = false := by unfold tb; rw [Int.zero_ediv]; rfl
theorem tb_nat (n q : Nat) : tb (n : Int) q = n.testBit q := by
  unfold tb
  rw [Nat.testBit_eq_decide_div_mod_eq, Bool.eq_iff_iff, beq_iff_eq, decide_eq_true_eq]
  have e : ((n : Int) / 2 ^ q % 2) = ((n / 2 ^ q % 2 : Nat) : Int) := by norm_cast
  rw [e]; omega
theorem in32_zero : In32 0 := by unfold In32; omega
theorem put5_in (n : Int) (s : Nat) : In32 (put5 n s) := by unfold put5 In32; rw [wrap32]; omega
theorem put5_tb (n : Int) (s : Nat) {q : Nat} (hq : q < 32) : tb (put5 n s) q = (decide (s ≤ q ∧ q < s + 5) && tb n (q - s)) := by
  unfold put5
  rw [tb_wrap hq, tb_mul, fldZ_tb _ _ _ (by omega)]
  by_cases a : s ≤ q
  · rw [decide_eq_true a, Bool.true_and, show (0 : Int).toNat + (q - s) = q - s by simp, tb_wrap (by omega)]
    congr 1
    rw [decide_eq_decide]; omega
  · rw [decide_eq_false a, decide_eq_false (show ¬ (s ≤ q ∧ q < s + 5) by omega)]; rfl
theorem markZ_tb (b : Bool) (s q : Nat) : tb (markZ b s) q = (decide (q = s) && b) := by
  unfold markZ
  cases b
  · simp [tb_zero]
  · have h := tb_pow (p := (s : Int)) (by omega) q
    rw [show ((s : Int)).toNat = s by omega] at h
    rw [if_pos rfl, h, Bool.and_true, decide_eq_decide]; omega
theorem putF_in (k : Nat) (n : Int) : In32 (putF k n) := by unfold putF; split; exact Lay.word_in _ _; exact in32_zero
theorem word0 (n : Int) : (formL 0).word n = 0 := rfl
theorem number0 (x : Int) : (formL 0).number x = 0 := by
  unfold Lay.number
  show (if (formL 0).neg x then (-1 : Int) else 0) * 2 ^ 0 = 0
  have : (formL 0).neg x = false := rfl
  rw [this]; rfl
/-- A form's word has no bits but the form's. -/
theorem putF_own (k : Nat) (hk : k ≤ 9) (n : Int) {q : Nat} (hq : q < 32) (h : tb (putF k n) q = true) : tb ((formL k).word (-1)) q = true := by
  unfold putF at h
  split at h
  · by_cases h0 : k = 0
    · rw [h0, word0, tb_zero] at h; cases h
    · have e : tb (bits .andNot .u32 ((formL k).word n) ((formL k).word (-1))) q = tb 0 q := by rw [(formL k).word_mask (formL_ok k (by omega)) n]
      rw [tb_andNot hq, tb_zero, h] at e
      cases hm : tb ((formL k).word (-1)) q
      · rw [hm] at e; cases e
      · rfl
  · rw [tb_zero] at h; cases h

/-- Whose a bit is: the mask's, or a part's. -/
def own (f : Frm) (q : Nat) : List Bool :=
  [f.mask.testBit q, f.rd && decide (7 ≤ q ∧ q < 12), f.a && decide (15 ≤ q ∧ q < 20), f.b && decide (20 ≤ q ∧ q < 25), f.ord && decide (q = 26), f.ord && decide (q = 25), f.csr && tb ((formL 8).word (-1)) q, tb ((formL f.imm).word (-1)) q]
theorem own_one : ∀ k, k < 15 → ∀ q, q < 32 → ((own (frm k) q).countP id) = 1 := by decide +kernel
theorem frm_imm : ∀ k, k < 15 → (frm k).imm ≤ 9 := by decide +kernel
def vals (m : Nat) (i : Ins) (k q : Nat) : List Bool :=
  [tb (m : Int) q, tb i.rd (q - 7), tb i.a (q - 15), tb i.b (q - 20), i.aq, i.rl, tb (putF 8 i.csr) q, tb (putF k i.imm) q]
def parts (m : Nat) (f : Frm) (i : Ins) (q : Nat) : List (Bool × Bool) := (own f q).zip (vals m i f.imm q)

theorem tb_if {f : Bool} {x y : Int} {q : Nat} (hq : q < 32) : tb (if f then bits .or .u32 x y else x) q = (tb x q || (f && tb y q)) := by
  cases f
  · simp
  · rw [if_pos rfl, tb_or hq, Bool.true_and]
/-- Each bit of the word. -/
theorem word_tb (m : Nat) (f : Frm) (hi : f.imm ≤ 9) (hm : ∀ q, q < 32 → m.testBit q = true → f.mask.testBit q = true) (i : Ins) {q : Nat} (hq : q < 32) :
    tb (wordI m f i) q = (parts m f i q).any fun p => p.1 && p.2 := by
  have e0 : tb (m : Int) q = (f.mask.testBit q && tb (m : Int) q) := by
    rw [tb_nat]
    cases h : m.testBit q
    · simp
    · rw [hm q hq h]; rfl
  have e6 : tb (putF 8 i.csr) q = (tb ((formL 8).word (-1)) q && tb (putF 8 i.csr) q) := by
    cases h : tb (putF 8 i.csr) q
    · simp
    · rw [putF_own 8 (by omega) _ hq h]; rfl
  have e7 : tb (putF f.imm i.imm) q = (tb ((formL f.imm).word (-1)) q && tb (putF f.imm i.imm) q) := by
    cases h : tb (putF f.imm i.imm) q
    · simp
    · rw [putF_own f.imm hi _ hq h]; rfl
  unfold wordI wF w5 w4 w3 w2 w1
  rw [tb_or hq, tb_or hq, tb_if hq, tb_if hq, tb_or hq, tb_if hq, tb_if hq, tb_if hq, tb_zero, put5_tb _ _ hq, put5_tb _ _ hq, put5_tb _ _ hq, markZ_tb, markZ_tb]
  unfold parts own vals
  simp only [List.zip_cons_cons, List.zip_nil_left, List.any_cons, List.any_nil, Bool.or_false, Bool.false_or, Bool.and_assoc]
  rw [← e0, ← e6, ← e7]
  simp only [Bool.or_assoc, Bool.and_or_distrib_left]

theorem any_one (l : List (Bool × Bool)) (h : l.countP (·.1) = 1) (p : Bool × Bool) (hp : p ∈ l) (ho : p.1 = true) : (l.any fun p => p.1 && p.2) = p.2 := by
  rw [List.countP_eq_length_filter] at h
  obtain ⟨a, ha⟩ := List.length_eq_one_iff.1 h
  have hp' : p ∈ l.filter (·.1) := List.mem_filter.2 ⟨hp, ho⟩
  rw [ha, List.mem_singleton] at hp'
  rw [Bool.eq_iff_iff, List.any_eq_true]
  constructor
  · rintro ⟨r, hr, h⟩
    rw [Bool.and_eq_true] at h
    have hr' : r ∈ l.filter (·.1) := List.mem_filter.2 ⟨hr, h.1⟩
    rw [ha, List.mem_singleton] at hr'
    rw [hp', ← hr']; exact h.2
  · intro h2; exact ⟨p, hp, by rw [ho, h2]; rfl⟩
/-- A form of the table. -/
structure FOk (f : Frm) : Prop where
  one : ∀ q, q < 32 → (own f q).countP id = 1
  imm : f.imm ≤ 9
theorem frm_ok {k : Nat} (h : k < 15) : FOk (frm k) := ⟨own_one k h, frm_imm k h⟩
theorem fT_ok {op : Nat} (h1 : 1 ≤ op) (h2 : op < 114) : FOk (fT op) := frm_ok (tab_form op h2 h1)
theorem parts_one {f : Frm} (hf : FOk f) (m : Nat) (i : Ins) {q : Nat} (hq : q < 32) : (parts m f i q).countP (·.1) = 1 := by
  have e : (parts m f i q).map (·.1) = own f q := rfl
  rw [← hf.one q hq, ← e, List.countP_map]; rfl
def Sub (m : Nat) (f : Frm) : Prop := ∀ q, q < 32 → m.testBit q = true → f.mask.testBit q = true
/-- The bit is its owner's. -/
theorem pick {m : Nat} {f : Frm} (hf : FOk f) (hm : Sub m f) (i : Ins) {q : Nat} (hq : q < 32) (j : Nat) (hj : j < 8) (ho : (own f q).getD j false = true) :
    tb (wordI m f i) q = (vals m i f.imm q).getD j false := by
  rw [word_tb m f hf.imm hm i hq]
  refine any_one _ (parts_one hf m i hq) ((own f q).getD j false, (vals m i f.imm q).getD j false) ?_ ho
  unfold parts own vals
  match j, hj with
  | 0, _ => simp
  | 1, _ => simp
  | 2, _ => simp
  | 3, _ => simp
  | 4, _ => simp
  | 5, _ => simp
  | 6, _ => simp
  | 7, _ => simp
theorem owner {f : Frm} (hf : FOk f) {q : Nat} (hq : q < 32) : ∃ j, j < 8 ∧ (own f q).getD j false = true := by
  have h := hf.one q hq
  have h2 : 0 < (own f q).countP id := by omega
  obtain ⟨b, hb, hb2⟩ := List.countP_pos_iff.1 h2
  obtain ⟨j, hj, e⟩ := List.mem_iff_getElem.1 hb
  have hl : (own f q).length = 8 := rfl
  refine ⟨j, by omega, ?_⟩
  rw [List.getD_eq_getElem?_getD, List.getElem?_eq_getElem hj, e]; exact hb2
theorem sub_T {op : Nat} (h2 : op < 114) : Sub (matT op) (fT op) := by
  intro q _ h
  have e : (matT op &&& mskT op).testBit q = (matT op).testBit q := by rw [tab_sub op h2]
  rw [Nat.testBit_and, h, Bool.true_and] at e
  exact e
theorem isT_tb {op : Nat} {x : Int} (h : isT op x = true) {q : Nat} (hq : q < 32) (hm : (mskT op).testBit q = true) : tb x q = tb (matT op : Int) q := by
  unfold isT at h
  rw [beq_iff_eq] at h
  rw [← h, tb_and hq, tb_nat (mskT op), hm, Bool.and_true]
theorem nat_in32 {n : Nat} (h : n < 4294967296) : In32 (n : Int) := by unfold In32; omega
/-- The word of an instruction is one of its Op. -/
theorem isT_word {op : Nat} (h1 : 1 ≤ op) (h2 : op < 114) (i : Ins) : isT op (wordI (matT op) (fT op) i) = true := by
  unfold isT
  rw [beq_iff_eq]
  refine ext32 (and_in _ _) (nat_in32 (tab_32 op h2).2) fun q hq => ?_
  rw [tb_and hq, tb_nat (mskT op)]
  cases h : (mskT op).testBit q
  · rw [Bool.and_false, tb_nat]
    cases h3 : (matT op).testBit q
    · rfl
    · have := sub_T h2 q hq h3
      unfold mskT at h; rw [this] at h; cases h
  · rw [Bool.and_true]
    exact pick (fT_ok h1 h2) (sub_T h2) i hq 0 (by omega) h
theorem isT_uniq {j k : Nat} {x : Int} (hj1 : 1 ≤ j) (hj : j < 114) (hk1 : 1 ≤ k) (hk : k < 114) (a : isT j x = true) (b : isT k x = true) : j = k := by
  have key : ∀ j k : Nat, 1 ≤ j → j < 114 → k < 114 → j < k → isT j x = true → isT k x = true → False := by
    intro j k hj1 hj hk hjk a b
    refine tab_apart j hj k hk hj1 hjk ?_
    refine Nat.eq_of_testBit_eq fun q => ?_
    simp only [Nat.testBit_and, Nat.testBit_xor, Nat.zero_testBit]
    by_cases hq : q < 32
    · cases c : (mskT j).testBit q
      · simp
      · cases d : (mskT k).testBit q
        · simp
        · have e1 := isT_tb a hq c
          have e2 := isT_tb b hq d
          rw [tb_nat] at e1 e2
          rw [← e1, ← e2]; simp
    · have : (mskT j).testBit q = false := Nat.testBit_lt_two_pow (Nat.lt_of_lt_of_le (tab_32 j hj).1 (show 4294967296 ≤ 2 ^ q from Nat.pow_le_pow_right (n := 2) (by omega) (show 32 ≤ q by omega)))
      rw [this]; simp
  rcases Nat.lt_trichotomy j k with h | h | h
  · exact absurd a (fun a => key j k hj1 hj hk h a b)
  · exact h
  · exact absurd b (fun b => key k j hk1 hk hj h b a)
theorem fld_at {x : Int} {hi lo : Int} (h : 0 ≤ lo ∧ lo ≤ hi ∧ hi ≤ 31) {q : Nat} (h1 : lo ≤ q) (h2 : (q : Int) ≤ hi) : tb (fldZ x hi lo) (q - lo.toNat) = tb x q := by
  rw [fldZ_tb _ _ _ h, decide_eq_true (by omega), Bool.true_and]; congr 1; omega
theorem bit_at (x : Int) (s : Nat) (h : s < 32) : (fldZ x s s == 1) = tb x s := by
  rw [fldZ_eq (by omega), show ((s : Int) - s + 1).toNat = 1 by omega, show ((s : Int)).toNat = s by omega, show (2 : Int) ^ 1 = 2 from rfl]; rfl
theorem putF_number (k : Nat) (hk : 1 ≤ k ∧ k ≤ 9) (x : Int) : putF k ((formL k).number x) = bits .and .u32 x ((formL k).word (-1)) := by
  unfold putF
  rw [if_pos (by rw [beq_iff_eq]; exact (formL k).fits_number (formL_ok k hk) x), (formL k).word_number (formL_ok k hk)]
theorem csr_number (x : Int) : fldZ x 31 20 = (formL 8).number x := by
  rw [Lay.number]
  show _ = ((if (formL 8).neg x then (-1 : Int) else 0) * 2 ^ (formL 8).len 0 + fldZ x 31 20) * 2 ^ 0
  have : (formL 8).neg x = false := rfl
  rw [this, if_neg (by simp), Int.zero_mul, Int.zero_add, show (2 : Int) ^ 0 = 1 from rfl, Int.mul_one]
theorem own7 {f : Frm} {q : Nat} (h : tb ((formL f.imm).word (-1)) q = true) (hi : f.imm ≤ 9) : 1 ≤ f.imm ∧ f.imm ≤ 9 := by
  by_cases h0 : f.imm = 0
  · rw [h0, word0, tb_zero] at h; cases h
  · omega
theorem own6 {q : Nat} (hq : q < 32) (h : tb ((formL 8).word (-1)) q = true) : 20 ≤ q := by
  have c : ∀ q, q < 20 → tb ((formL 8).word (-1)) q = false := by decide +kernel
  by_cases h2 : q < 20
  · rw [c q h2] at h; cases h
  · omega
/-- What a word says makes it again. -/
theorem word_says {op : Nat} (h1 : 1 ≤ op) (h2 : op < 114) {x : Int} (hx : In32 x) (h : isT op x = true) (n : Int) : wordI (matT op) (fT op) (says (fT op) n x) = x := by
  refine ext32 (or_in _ _) hx fun q hq => ?_
  have hf := fT_ok h1 h2
  obtain ⟨j, hj, ho⟩ := owner hf hq
  rw [pick hf (sub_T h2) _ hq j hj ho]
  match j, hj with
  | 0, _ => exact (isT_tb h hq ho).symm
  | 1, _ =>
    have ho : ((fT op).rd && decide (7 ≤ q ∧ q < 12)) = true := ho
    rw [Bool.and_eq_true, decide_eq_true_eq] at ho
    show tb (if (fT op).rd then fldZ x 11 7 else 0) (q - 7) = _
    rw [if_pos ho.1]; exact fld_at (lo := 7) (by omega) (by omega) (by omega)
  | 2, _ =>
    have ho : ((fT op).a && decide (15 ≤ q ∧ q < 20)) = true := ho
    rw [Bool.and_eq_true, decide_eq_true_eq] at ho
    show tb (if (fT op).a then fldZ x 19 15 else 0) (q - 15) = _
    rw [if_pos ho.1]; exact fld_at (lo := 15) (by omega) (by omega) (by omega)
  | 3, _ =>
    have ho : ((fT op).b && decide (20 ≤ q ∧ q < 25)) = true := ho
    rw [Bool.and_eq_true, decide_eq_true_eq] at ho
    show tb (if (fT op).b then fldZ x 24 20 else 0) (q - 20) = _
    rw [if_pos ho.1]; exact fld_at (lo := 20) (by omega) (by omega) (by omega)
  | 4, _ =>
    have ho : ((fT op).ord && decide (q = 26)) = true := ho
    rw [Bool.and_eq_true, decide_eq_true_eq] at ho
    show ((fT op).ord && fldZ x 26 26 == 1) = _
    rw [ho.1, Bool.true_and, ho.2]; exact bit_at x 26 (by omega)
  | 5, _ =>
    have ho : ((fT op).ord && decide (q = 25)) = true := ho
    rw [Bool.and_eq_true, decide_eq_true_eq] at ho
    show ((fT op).ord && fldZ x 25 25 == 1) = _
    rw [ho.1, Bool.true_and, ho.2]; exact bit_at x 25 (by omega)
  | 6, _ =>
    have ho : ((fT op).csr && tb ((formL 8).word (-1)) q) = true := ho
    rw [Bool.and_eq_true] at ho
    show tb (putF 8 (if (fT op).csr then fldZ x 31 20 else 0)) q = _
    rw [if_pos ho.1, csr_number, putF_number 8 (by omega), tb_and hq, ho.2, Bool.and_true]
  | 7, _ =>
    have ho : tb ((formL (fT op).imm).word (-1)) q = true := ho
    show tb (putF (fT op).imm ((formL (fT op).imm).number x)) q = _
    rw [putF_number _ (own7 ho hf.imm), tb_and hq, ho, Bool.and_true]

end Go.Proofs.YtehlihhnkojjeaaDoor
