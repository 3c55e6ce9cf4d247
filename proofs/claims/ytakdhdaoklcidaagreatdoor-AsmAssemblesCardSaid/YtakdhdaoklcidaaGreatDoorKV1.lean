/- Joined: AsA AsB Fw Fk Fv Fb Fm Fo Dt Dm Dn Du AsC AsF FdA DaA DaB DaC DaD FdB FdC Cp FdD -/
import Derived.Lib.ItoaNum
import Derived.Lib.ParseIntBTie
import Derived.Lib.IndexMore
import Derived.WalkKit
import Derived.ProofKit
import Derived.Test.YtakdhdaoklcidaaGreatDoorRows
import Derived.Lib.Hide
import Derived.Below
import Derived.Deep.QuietTactic
import Derived.BigQuiet
import Derived.WalkLawsBesides
import Derived.Deep.RegionHeld3
import Derived.IntWalk
import Derived.Laws.CopyOwn
import Derived.Deep.WholeRow
namespace Go.Proofs.YtakdhdaoklcidaaGreatDoor
open Go.Lib
set_option linter.unusedVariables false
set_option maxRecDepth 100000
abbrev Bs := List UInt8
def isDig (b : UInt8) : Bool := 48 ≤ b && b ≤ 57
theorem dig_nat {b : UInt8} : isDig b = true ↔ 48 ≤ b.toNat ∧ b.toNat ≤ 57 := by
  unfold isDig
  simp [UInt8.le_iff_toNat_le]
theorem ofNat_dig {d : Nat} (h : d < 10) : isDig (UInt8.ofNat (48 + d)) = true ∧ (UInt8.ofNat (48 + d)).toNat = 48 + d := by
  have e : (UInt8.ofNat (48 + d)).toNat = 48 + d := by rw [UInt8.toNat_ofNat']; exact Nat.mod_eq_of_lt (by omega)
  exact ⟨dig_nat.2 (by omega), e⟩
theorem decDigits_small {u : Nat} (h : u < 10) : decDigits u = [UInt8.ofNat (48 + u)] := by rw [decDigits, dif_pos h]
theorem decDigits_big {u : Nat} (h : ¬ u < 10) : decDigits u = decDigits (u / 10) ++ [UInt8.ofNat (48 + u % 10)] := by rw [decDigits, dif_neg h]
theorem decDigits_all (u : Nat) : ∀ b ∈ decDigits u, isDig b = true := by
  induction u using Nat.strongRecOn with
  | _ u ih =>
    by_cases h : u < 10
    · rw [decDigits_small h]; intro b hb
      obtain rfl := List.mem_singleton.1 hb; exact (ofNat_dig h).1
    · rw [decDigits_big h]
      intro b hb
      rcases List.mem_append.1 hb with hb | hb
      · exact ih (u / 10) (by omega) b hb
      · obtain rfl := List.mem_singleton.1 hb; exact (ofNat_dig (by omega)).1
theorem decDigits_ne (u : Nat) : decDigits u ≠ [] := by
  have h1 := decDigits_length u
  have h2 := nDigits_pos u
  intro h; rw [h, List.length_nil] at h1; omega
theorem parse_app (v : Nat) (l : Bs) (a acc : Nat) (h : parseUint10 acc l = .ok a) (b : UInt8) (hb : isDig b = true) (h1 : a < 1844674407370955162) (h2 : a * 10 + (b.toNat - 48) < 18446744073709551616) :
    parseUint10 acc (l ++ [b]) = .ok (a * 10 + (b.toNat - 48)) := by
  induction l generalizing acc with
  | nil =>
    simp only [parseUint10] at h
    injection h with h; subst h
    have := dig_nat.1 hb
    simp only [List.nil_append, parseUint10, if_pos this]
    rw [if_neg (by omega), if_neg (by omega)]
  | cons c r ih =>
    simp only [parseUint10] at h
    simp only [List.cons_append, parseUint10]
    split at h
    · rename_i hc
      rw [if_pos hc]
      split at h
      · cases h
      · rename_i h3
        rw [if_neg h3]
        split at h
        · cases h
        · rename_i h4
          rw [if_neg h4]
          exact ih _ h
    · cases h
theorem parse_dec (u : Nat) (h : u < 18446744073709551616) : parseUint10 0 (decDigits u) = .ok u := by
  induction u using Nat.strongRecOn with
  | _ u ih =>
    by_cases c : u < 10
    · rw [decDigits_small c]
      have ⟨d1, d2⟩ := ofNat_dig c
      have := parse_app 0 [] 0 0 rfl _ d1 (by omega) (by omega)
      rw [List.nil_append] at this
      rw [this, d2]; congr 1; omega
    · rw [decDigits_big c]
      have ⟨d1, d2⟩ := ofNat_dig (show u % 10 < 10 by omega)
      have := parse_app 0 _ _ 0 (ih (u / 10) (by omega) (by omega)) _ d1 (by omega) (by omega)
      rw [this, d2]; congr 1; omega
theorem atoiAll_itoa (n : Int) (h0 : -9223372036854775808 ≤ n) (h1 : n ≤ 9223372036854775807) : atoiAll (itoa n) = .ok n := by
  unfold itoa
  by_cases c : n < 0
  · rw [if_pos c]
    have hp : parseMag (decDigits n.natAbs) = .ok n.natAbs := by unfold parseMag; rw [if_neg (decDigits_ne _)]; exact parse_dec _ (by omega)
    unfold atoiAll
    simp only [show (45 : UInt8).toNat = 45 from rfl, or_true, if_true, hp, not_true, false_and, if_false, true_and]
    rw [if_neg (by omega)]
    refine congrArg NumEnd.ok ?_
    omega
  · rw [if_neg c]
    have hp : parseMag (decDigits n.toNat) = .ok n.toNat := by unfold parseMag; rw [if_neg (decDigits_ne _)]; exact parse_dec _ (by omega)
    cases e : decDigits n.toNat with
    | nil => exact absurd e (decDigits_ne _)
    | cons b r =>
      have hb := dig_nat.1 (decDigits_all n.toNat b (by rw [e]; simp))
      rw [e] at hp
      unfold atoiAll
      simp only []
      rw [if_neg (show ¬ (b.toNat = 43 ∨ b.toNat = 45) by omega), hp]
      simp only []
      rw [if_neg (by omega), if_neg (by omega), if_neg (by omega)]
      congr 1; omega
def numP (l : Bs) : Int := match atoiAll l with
  | .ok v => v
  | .range => atoiSat l
  | _ => 0
theorem numP_itoa (n : Int) (h0 : -9223372036854775808 ≤ n) (h1 : n ≤ 9223372036854775807) : numP (itoa n) = n := by unfold numP; rw [atoiAll_itoa n h0 h1]
theorem numP_in (l : Bs) : -9223372036854775808 ≤ numP l ∧ numP l ≤ 9223372036854775807 := by
  unfold numP
  cases e : atoiAll l with
  | ok v =>
    rw [← parseIntB_64] at e
    have := parseIntB_bounds e
    have e2 : (2 ^ (64 - 1) : Nat) = 9223372036854775808 := by decide
    rw [e2] at this
    simp only []
    omega
  | range => simp only [atoiSat]; split <;> omega
  | _ => simp
def isNum (b : UInt8) : Bool := isDig b || b == 45
theorem itoa_all (n : Int) : ∀ b ∈ itoa n, isNum b = true := by
  intro b hb
  unfold itoa at hb
  unfold isNum
  split at hb
  · rcases List.mem_cons.1 hb with hb | hb
    · subst hb; rfl
    · rw [decDigits_all _ _ hb]; rfl
  · rw [decDigits_all _ _ hb]; rfl
theorem itoa_ne (n : Int) : itoa n ≠ [] := by
  unfold itoa
  split
  · simp
  · exact decDigits_ne _
theorem itoa_inj {m n : Int} (hm0 : -9223372036854775808 ≤ m) (hm1 : m ≤ 9223372036854775807) (h0 : -9223372036854775808 ≤ n) (h1 : n ≤ 9223372036854775807) (h : itoa m = itoa n) : m = n := by
  have := atoiAll_itoa m hm0 hm1
  rw [h, atoiAll_itoa n h0 h1] at this
  injection this with this; exact this.symm
theorem occAt_no {l sep : Bs} {c : UInt8} (hc : c ∈ sep) (hl : c ∉ l) (j : Nat) : occAt l sep j = false := by
  cases e : occAt l sep j
  · rfl
  · have hp := List.isPrefixOf_iff_prefix.1 (show sep.isPrefixOf (l.drop j) = true from e)
    exact absurd (List.mem_of_mem_drop (hp.subset hc)) hl
theorem cut_none {l sep : Bs} {c : UInt8} (hc : c ∈ sep) (hl : c ∉ l) : cut l sep = (l, [], false) := by
  have h : index l sep = -1 := index_none fun j _ => occAt_no hc hl j
  unfold cut; rw [h]; simp
theorem cut_hit {l sep r : Bs} {c : UInt8} {t : Bs} (hs : sep = c :: t) (hl : c ∉ l) : cut (l ++ sep ++ r) sep = (l, r, true) := by
  have h : index (l ++ sep ++ r) sep = l.length := by
    refine index_first (by simp) ?_ ?_
    · unfold occAt
      rw [List.append_assoc, List.drop_left]
      exact List.isPrefixOf_iff_prefix.2 (List.prefix_append _ _)
    · intro j hj
      cases e : occAt (l ++ sep ++ r) sep j
      · rfl
      · have := occAt_head hs e
        rw [List.append_assoc, List.getElem?_append_left hj] at this
        exact absurd (List.mem_of_getElem? this) hl
  unfold cut
  rw [h, if_pos (by omega)]
  simp
theorem cut_parts (l sep : Bs) : (cut l sep).2.2 = true → l = (cut l sep).1 ++ sep ++ (cut l sep).2.1 := by
  intro h
  unfold cut at h ⊢
  split at h
  · rename_i hi
    rw [if_pos hi]
    rcases index_spec l sep with ⟨h1, _⟩ | ⟨i, h1, h2, h3, _⟩
    · omega
    · rw [h1]
      simp only [Int.toNat_natCast]
      have hp := List.isPrefixOf_iff_prefix.1 (show sep.isPrefixOf (l.drop i) = true from h3)
      obtain ⟨r, hr⟩ := hp
      have e1 : l = l.take i ++ l.drop i := (List.take_append_drop i l).symm
      have e2 : l.drop (i + sep.length) = r := by rw [← List.drop_drop, ← hr, List.drop_left]
      rw [e2, List.append_assoc, hr]
      exact e1
  · cases h
theorem cut_not (l sep : Bs) (h : (cut l sep).2.2 = false) : (cut l sep).1 = l ∧ (cut l sep).2.1 = [] := by
  unfold cut at h ⊢
  split at h
  · cases h
  · rename_i hi; rw [if_neg hi]; exact ⟨rfl, rfl⟩
theorem cut_len (l sep : Bs) : (cut l sep).1.length ≤ l.length ∧ (cut l sep).2.1.length ≤ l.length := by
  unfold cut; split <;> simp <;> omega
end Go.Proofs.YtakdhdaoklcidaaGreatDoor

namespace Go.Proofs.YtakdhdaoklcidaaGreatDoor
open Go.Lib
set_option linter.unusedVariables false
set_option maxRecDepth 100000
def sepC : Bs := [44, 32]
def tailT (sep : Bs) : List Bs → Bs
  | [] => []
  | o :: os => sep ++ o ++ tailT sepC os
def lineT (name : Bs) (ops : List Bs) : Bs := name ++ tailT [32] ops
def remT : List Bs → Bs
  | [] => []
  | o :: os => o ++ tailT sepC os
theorem cut_name {name : Bs} (hn : (32 : UInt8) ∉ name) (ops : List Bs) : (cut (lineT name ops) [32]).1 = name ∧ (cut (lineT name ops) [32]).2.1 = remT ops := by
  cases ops with
  | nil =>
    rw [show lineT name [] = name by simp [lineT, tailT], cut_none (c := 32) (by simp) hn]
    exact ⟨rfl, rfl⟩
  | cons o os =>
    have e : lineT name (o :: os) = name ++ [32] ++ (o ++ tailT sepC os) := by simp [lineT, tailT]
    rw [e, cut_hit (c := 32) (t := []) rfl hn]
    exact ⟨rfl, rfl⟩
theorem cut_op {o : Bs} (ho : (44 : UInt8) ∉ o) (os : List Bs) : (cut (remT (o :: os)) sepC).1 = o ∧ (cut (remT (o :: os)) sepC).2.1 = remT os := by
  cases os with
  | nil =>
    rw [show remT [o] = o by simp [remT, tailT], cut_none (c := 44) (by simp [sepC]) ho]
    exact ⟨rfl, rfl⟩
  | cons p os =>
    have e : remT (o :: p :: os) = o ++ sepC ++ (p ++ tailT sepC os) := by simp [remT, tailT]
    rw [e, cut_hit (sep := sepC) (c := 44) (t := [32]) rfl ho]
    exact ⟨rfl, rfl⟩
def rdOp (b : Bool) (g : Bs → Int) (rest : Bs) : Int × Bs := if b then (g (cut rest sepC).1, (cut rest sepC).2.1) else (0, rest)
theorem rdOp_at {o : Bs} (ho : (44 : UInt8) ∉ o) (b : Bool) (g : Bs → Int) (os : List Bs) : rdOp b g (remT ((if b then [o] else []) ++ os)) = (if b then g o else 0, remT os) := by
  cases b
  · rfl
  · have := cut_op ho os
    simp only [rdOp, if_true, List.cons_append, List.nil_append]
    rw [this.1, this.2]
def xr (n : Int) : Bs := 120 :: itoa n
def regP (o : Bs) : Int := numP (trimPrefix o [120])
theorem regP_xr (n : Int) (h0 : -9223372036854775808 ≤ n) (h1 : n ≤ 9223372036854775807) : regP (xr n) = n := by
  have e : trimPrefix (xr n) [120] = itoa n := by
    unfold trimPrefix hasPrefix xr
    simp
  unfold regP; rw [e, numP_itoa n h0 h1]
def isLow (b : UInt8) : Bool := 97 ≤ b && b ≤ 122
def inLine (b : UInt8) : Bool := isNum b || isLow b || b == 46 || b == 44 || b == 32
theorem num_inLine {b : UInt8} (h : isNum b = true) : inLine b = true := by unfold inLine; rw [h]; rfl
theorem num_no {n : Int} {c : UInt8} (h : isNum c = false) : c ∉ itoa n := fun hm => by rw [itoa_all n c hm] at h; cases h
theorem xr_no {n : Int} {c : UInt8} (h : isNum c = false) (h2 : c ≠ 120) : c ∉ xr n := by
  unfold xr
  intro hm
  rcases List.mem_cons.1 hm with e | e
  · exact h2 e
  · exact num_no h e
theorem xr_inLine (n : Int) : ∀ b ∈ xr n, inLine b = true := by
  intro b hb
  rcases List.mem_cons.1 hb with e | e
  · subst e; rfl
  · exact num_inLine (itoa_all n b e)
theorem tailT_inLine (sep : Bs) (hs : ∀ b ∈ sep, inLine b = true) (os : List Bs) (h : ∀ o ∈ os, ∀ b ∈ o, inLine b = true) : ∀ b ∈ tailT sep os, inLine b = true := by
  induction os generalizing sep with
  | nil => intro b hb; cases hb
  | cons o os ih =>
    intro b hb
    simp only [tailT, List.mem_append] at hb
    rcases hb with (hb | hb) | hb
    · exact hs b hb
    · exact h o (by simp) b hb
    · exact ih sepC (by decide) (fun o ho => h o (by simp [ho])) b hb
theorem last_app (a : Bs) {b : Bs} (h : b ≠ []) : (a ++ b).getLast? = b.getLast? := by
  rw [List.getLast?_append]
  cases e : b.getLast? with
  | none => exact absurd (List.getLast?_eq_none_iff.1 e) h
  | some x => rfl
theorem itoa_last (n : Int) : ∃ b, (itoa n).getLast? = some b ∧ isNum b = true := by
  cases e : (itoa n).getLast? with
  | none => exact absurd (List.getLast?_eq_none_iff.1 e) (itoa_ne n)
  | some b => exact ⟨b, rfl, itoa_all n b (List.mem_of_getLast? e)⟩
end Go.Proofs.YtakdhdaoklcidaaGreatDoor

namespace Go.Proofs.YtakdhdaoklcidaaGreatDoor
open Go.RowKit
set_option linter.unusedVariables false
set_option maxRecDepth 100000
def In32 (x : Int) : Prop := 0 ≤ x ∧ x < 4294967296
def In63 (x : Int) : Prop := -9223372036854775808 ≤ x ∧ x < 9223372036854775808
def fldZ (x hi lo : Int) : Int := if 0 ≤ lo ∧ lo ≤ hi ∧ hi ≤ 31 then x / 2 ^ lo.toNat % 2 ^ (hi - lo + 1).toNat else 0
theorem fldZ_out {x hi lo : Int} (h : ¬ (0 ≤ lo ∧ lo ≤ hi ∧ hi ≤ 31)) : fldZ x hi lo = 0 := by unfold fldZ; rw [if_neg h]
theorem fldZ_eq {x hi lo : Int} (h : 0 ≤ lo ∧ lo ≤ hi ∧ hi ≤ 31) : fldZ x hi lo = x / 2 ^ lo.toNat % 2 ^ (hi - lo + 1).toNat := by unfold fldZ; rw [if_pos h]
theorem wrap32 (x : Int) : IntKind.u32.wrap x = x % 4294967296 := by simp [IntKind.wrap, IntKind.bits, IntKind.signed]
theorem two_pow_pos (k : Nat) : (0 : Int) < 2 ^ k := Int.pow_pos (by decide)
theorem emod_ediv_pow (y : Int) (b c : Nat) : y % (2 ^ b * 2 ^ c) / 2 ^ b = y / 2 ^ b % 2 ^ c := by
  have hb := two_pow_pos b
  rw [Int.emod_def, Int.emod_def, Int.mul_assoc, Int.sub_eq_add_neg, ← Int.mul_neg, Int.add_mul_ediv_left _ _ (by omega), Int.ediv_ediv_of_nonneg (by omega)]
  omega
theorem shift_out (x : Int) (a b c : Nat) (h : a + b + c = 32) : x * 2 ^ a % 4294967296 / 2 ^ (a + b) = x / 2 ^ b % 2 ^ c := by
  have e : (4294967296 : Int) = 2 ^ a * (2 ^ b * 2 ^ c) := by rw [← Int.pow_add, ← Int.pow_add, show a + (b + c) = 32 by omega]; rfl
  rw [e, Int.mul_comm x, Int.mul_emod_mul_of_pos _ _ (two_pow_pos a), Int.pow_add, Int.mul_ediv_mul_of_pos _ _ (two_pow_pos a), emod_ediv_pow]
theorem fldZ_in {x hi lo : Int} (h1 : 0 ≤ lo) (h2 : lo ≤ hi) (h3 : hi ≤ 31) : IntKind.u32.wrap (x * 2 ^ (31 - hi).toNat) / 2 ^ (31 - hi + lo).toNat = fldZ x hi lo := by
  rw [fldZ_eq ⟨h1, h2, h3⟩, wrap32, show (31 - hi + lo).toNat = (31 - hi).toNat + lo.toNat by omega]
  exact shift_out x _ _ _ (by omega)
def bitZ (x k : Int) : Int := x / 2 ^ k.toNat % 2
theorem and_one_i64 (y : Int) : bits .and .i64 y 1 = y % 2 := by
  show IntKind.i64.wrap ((BitVec.ofInt 64 y &&& 1#64).toNat : Int) = _
  have h : (BitVec.ofInt 64 y &&& 1#64).toNat = (y % 2).toNat := by
    rw [BitVec.toNat_and, show (1#64).toNat = 1 from rfl, Nat.and_one_is_mod, BitVec.toNat_ofInt]; omega
  rw [h]
  simp [IntKind.wrap, IntKind.bits, IntKind.signed]; omega
theorem half_step (y : Int) (m : Nat) : 2 * (y / 2 % 2 ^ m) + y % 2 = y % 2 ^ (m + 1) := by
  have h := emod_ediv_pow y 1 m
  have h2 : (2 : Int) ^ (m + 1) = 2 ^ 1 * 2 ^ m := by rw [Int.pow_add]; omega
  rw [h2]
  rw [show (2 : Int) ^ 1 = 2 from rfl] at *
  rw [← h]
  have h3 : y % (2 * 2 ^ m) % 2 = y % 2 := Int.emod_emod_of_dvd _ ⟨2 ^ m, rfl⟩
  omega
theorem fld_step (x : Int) (t m : Nat) : 2 * (x / 2 ^ (t + 1) % 2 ^ m) + bitZ x (t : Int) = x / 2 ^ t % 2 ^ (m + 1) := by
  have e : x / 2 ^ (t + 1) = x / 2 ^ t / 2 := by
    rw [Int.ediv_ediv_of_nonneg (Int.le_of_lt (two_pow_pos _)), Int.pow_succ]
  rw [e]; unfold bitZ; exact half_step _ _
theorem mod_pow_lt (y : Int) (m : Nat) (h : m ≤ 32) : 0 ≤ y % 2 ^ m ∧ y % 2 ^ m < 4294967296 := by
  have h1 := two_pow_pos m
  have h2 : (2 : Int) ^ m ≤ 2 ^ 32 := by exact_mod_cast Nat.pow_le_pow_right (by omega) h
  have h3 := Int.emod_nonneg y (show (2 : Int) ^ m ≠ 0 by omega)
  have h4 := Int.emod_lt_of_pos y h1
  have h5 : (2 : Int) ^ 32 = 4294967296 := rfl
  omega
theorem fldZ_in32 (x hi lo : Int) : In32 (fldZ x hi lo) := by
  unfold fldZ In32
  split
  · exact mod_pow_lt _ _ (by omega)
  · omega
structure Lay where
  ps : List (Int × Int)
  nt : Nat
  sg : Bool
def Lay.h (L : Lay) (k : Nat) : Int := (L.ps.getD k (0, 0)).1
def Lay.l (L : Lay) (k : Nat) : Int := (L.ps.getD k (0, 0)).2
def Lay.len (L : Lay) (k : Nat) : Nat := (L.h k - L.l k + 1).toNat
def Lay.neg (L : Lay) (x : Int) : Bool := L.sg && fldZ x (L.h 0) (L.h 0) == 1
def Lay.num (L : Lay) (x : Int) : Nat → Int
  | 0 => if L.neg x then -1 else 0
  | k + 1 => L.num x k * 2 ^ L.len k + fldZ x (L.h k) (L.l k)
def Lay.number (L : Lay) (x : Int) : Int := L.num x L.ps.length * 2 ^ L.nt
def Lay.rest (L : Lay) (n : Int) : Nat → Int
  | 0 => n / 2 ^ L.nt
  | m + 1 => L.rest n m / 2 ^ L.len (L.ps.length - 1 - m)
def Lay.put (L : Lay) (n : Int) : Nat → Int
  | 0 => 0
  | m + 1 => bits .or .u32 (L.put n m) (IntKind.u32.wrap (fldZ (IntKind.u32.wrap (L.rest n m)) (L.h (L.ps.length - 1 - m) - L.l (L.ps.length - 1 - m)) 0 * 2 ^ (L.l (L.ps.length - 1 - m)).toNat))
def Lay.word (L : Lay) (n : Int) : Int := L.put n L.ps.length
structure Lay.Ok (L : Lay) : Prop where
  one : 1 ≤ L.ps.length
  four : L.ps.length ≤ 4
  in31 : ∀ k, k < L.ps.length → 0 ≤ L.l k ∧ L.l k ≤ L.h k ∧ L.h k ≤ 31
  nt12 : L.nt ≤ 12
  small : ∀ x k, k ≤ L.ps.length → -4294967296 ≤ L.num x k ∧ L.num x k < 4294967296
theorem or_i64 {n f : Int} {l : Nat} (hl : l < 64) (h1 : 0 ≤ f) (h2 : f < 2 ^ l) (h3 : -9223372036854775808 ≤ n * 2 ^ l + f) (h4 : n * 2 ^ l + f < 9223372036854775808) :
    bits .or .i64 (wrap64 (n * 2 ^ l)) f = n * 2 ^ l + f := by
  have a1 : BitVec.ofInt 64 (wrap64 (n * 2 ^ l)) = BitVec.ofInt 64 n <<< l := by
    rw [← BitVec.mul_twoPow_eq_shiftLeft]
    have e : BitVec.twoPow 64 l = BitVec.ofInt 64 (2 ^ l) := by
      apply BitVec.eq_of_toNat_eq
      rw [show (2 : Int) ^ l = ((2 ^ l : Nat) : Int) by norm_cast, BitVec.ofInt_natCast, BitVec.toNat_ofNat, BitVec.toNat_twoPow]
    rw [e, ← BitVec.ofInt_mul]
    apply BitVec.eq_of_toInt_eq
    rw [BitVec.toInt_ofInt, BitVec.toInt_ofInt, Int.bmod_def, Int.bmod_def]; unfold wrap64; omega
  have a2 : BitVec.ofInt 64 n <<< l &&& BitVec.ofInt 64 f = 0#64 := by
    apply BitVec.eq_of_getLsbD_eq
    intro i hi
    rw [BitVec.getLsbD_and, BitVec.getLsbD_shiftLeft]
    by_cases c : i < l
    · simp [c]
    · have : (BitVec.ofInt 64 f).getLsbD i = false := by
        obtain ⟨m, rfl⟩ := Int.eq_ofNat_of_zero_le h1
        rw [BitVec.ofInt_natCast, BitVec.getLsbD_ofNat]
        have hm : m < 2 ^ i := Nat.lt_of_lt_of_le (by exact_mod_cast h2) (Nat.pow_le_pow_right (by omega) (by omega))
        rw [Nat.testBit_lt_two_pow hm]; simp
      simp [this]
  show IntKind.i64.wrap (((BitVec.ofInt 64 (wrap64 (n * 2 ^ l)) ||| BitVec.ofInt 64 f).toNat : Int)) = _
  rw [a1, ← BitVec.add_eq_or_of_and_eq_zero _ _ a2, ← a1, ← BitVec.ofInt_add, BitVec.toNat_ofInt]
  simp [IntKind.wrap, IntKind.bits, IntKind.signed]
  unfold wrap64
  omega
theorem wrap_i64 (y : Int) : IntKind.i64.wrap y = wrap64 y := by
  simp [IntKind.wrap, IntKind.bits, IntKind.signed]; unfold wrap64; omega
theorem wrap64_id {y : Int} (h1 : -9223372036854775808 ≤ y) (h2 : y < 9223372036854775808) : wrap64 y = y := by unfold wrap64; omega
theorem pow_le_32 {l : Nat} (h : l ≤ 32) : (1 : Int) ≤ 2 ^ l ∧ (2 : Int) ^ l ≤ 4294967296 := by
  have h1 := two_pow_pos l
  have h2 : (2 : Int) ^ l ≤ 2 ^ 32 := by exact_mod_cast Nat.pow_le_pow_right (by omega) h
  have h5 : (2 : Int) ^ 32 = 4294967296 := rfl
  omega
theorem fldZ_lt {x hi lo : Int} (h : 0 ≤ lo ∧ lo ≤ hi ∧ hi ≤ 31) : 0 ≤ fldZ x hi lo ∧ fldZ x hi lo < 2 ^ (hi - lo + 1).toNat := by
  rw [fldZ_eq h]
  have h1 := two_pow_pos (hi - lo + 1).toNat
  exact ⟨Int.emod_nonneg _ (by omega), Int.emod_lt_of_pos _ h1⟩
theorem mul_small {n p : Int} (h1 : -4294967296 ≤ n) (h2 : n < 4294967296) (h3 : 1 ≤ p) (h4 : p ≤ 1073741824) : -4611686018427387904 ≤ n * p ∧ n * p ≤ 4611686018427387904 := by
  constructor
  · have := Int.mul_le_mul_of_nonneg_right h1 (show 0 ≤ p by omega)
    omega
  · have := Int.mul_le_mul_of_nonneg_right (show n ≤ 4294967296 by omega) (show 0 ≤ p by omega)
    omega
theorem Lay.step {L : Lay} (hL : L.Ok) {x : Int} {k : Nat} (hk : k < L.ps.length) :
    bits .or .i64 (IntKind.i64.wrap (L.num x k * 2 ^ (L.h k - L.l k + 1).toNat)) (IntKind.i64.wrap (fldZ x (L.h k) (L.l k))) = L.num x (k + 1) := by
  have a := hL.small x (k + 1) hk
  have g := hL.in31 k hk
  have f := fldZ_lt (x := x) g
  have f2 := fldZ_in32 x (L.h k) (L.l k)
  unfold In32 at f2
  rw [wrap_i64, wrap_i64, wrap64_id (y := fldZ x (L.h k) (L.l k)) (by omega) (by omega)]
  have e : L.num x (k + 1) = L.num x k * 2 ^ (L.h k - L.l k + 1).toNat + fldZ x (L.h k) (L.l k) := rfl
  rw [e] at a ⊢
  exact or_i64 (by omega) f.1 f.2 (by omega) (by omega)
theorem Lay.last {L : Lay} (hL : L.Ok) (x : Int) : wrap64 (L.num x L.ps.length * 2 ^ L.nt) = L.number x := by
  have a := hL.small x L.ps.length (Nat.le_refl _)
  have p : (1 : Int) ≤ 2 ^ L.nt ∧ (2 : Int) ^ L.nt ≤ 1073741824 := by
    have h1 := two_pow_pos L.nt
    have h2 : (2 : Int) ^ L.nt ≤ 2 ^ 30 := by exact_mod_cast Nat.pow_le_pow_right (by omega) (show L.nt ≤ 30 by have := hL.nt12; omega)
    have h5 : (2 : Int) ^ 30 = 1073741824 := rfl
    omega
  have m := mul_small a.1 a.2 p.1 p.2
  unfold Lay.number
  exact wrap64_id (by omega) (by omega)
theorem Lay.put_at (L : Lay) (n : Int) {j : Nat} (hj : j < L.ps.length) :
    L.put n (L.ps.length - j) = bits .or .u32 (L.put n (L.ps.length - (j + 1))) (IntKind.u32.wrap (fldZ (IntKind.u32.wrap (L.rest n (L.ps.length - (j + 1)))) (L.h j - L.l j) 0 * 2 ^ (L.l j).toNat)) := by
  have e : L.ps.length - j = (L.ps.length - (j + 1)) + 1 := by omega
  have e2 : L.ps.length - 1 - (L.ps.length - (j + 1)) = j := by omega
  rw [e, Lay.put, e2]
theorem Lay.rest_at (L : Lay) (n : Int) {j : Nat} (hj : j < L.ps.length) :
    L.rest n (L.ps.length - j) = L.rest n (L.ps.length - (j + 1)) / 2 ^ (L.h j - L.l j + 1).toNat := by
  have e : L.ps.length - j = (L.ps.length - (j + 1)) + 1 := by omega
  have e2 : L.ps.length - 1 - (L.ps.length - (j + 1)) = j := by omega
  rw [e, Lay.rest, e2]; rfl
end Go.Proofs.YtakdhdaoklcidaaGreatDoor

namespace Go.Proofs.YtakdhdaoklcidaaGreatDoor
open Go.RowKit
set_option linter.unusedVariables false
set_option maxRecDepth 100000
def formL : Nat → Lay
  | 1 => ⟨[(31, 20)], 0, true⟩
  | 2 => ⟨[(31, 25), (11, 7)], 0, true⟩
  | 3 => ⟨[(31, 31), (7, 7), (30, 25), (11, 8)], 1, true⟩
  | 4 => ⟨[(31, 12)], 12, true⟩
  | 5 => ⟨[(31, 31), (19, 12), (20, 20), (30, 21)], 1, true⟩
  | 6 => ⟨[(25, 20)], 0, false⟩
  | 7 => ⟨[(24, 20)], 0, false⟩
  | 8 => ⟨[(31, 20)], 0, false⟩
  | 9 => ⟨[(19, 15)], 0, false⟩
  | _ => ⟨[], 0, false⟩
theorem Lay.num0 (L : Lay) (x : Int) : -1 ≤ L.num x 0 ∧ L.num x 0 ≤ 0 := by
  show -1 ≤ (if L.neg x then (-1 : Int) else 0) ∧ (if L.neg x then (-1 : Int) else 0) ≤ 0
  split <;> omega
theorem Lay.num1 (L : Lay) (x : Int) (k : Nat) (h : 0 ≤ L.l k ∧ L.l k ≤ L.h k ∧ L.h k ≤ 31) (a b : Int) (ha : a ≤ 0) (hb : 0 ≤ b) (hk : a ≤ L.num x k ∧ L.num x k ≤ b) :
    a * 2 ^ L.len k ≤ L.num x (k + 1) ∧ L.num x (k + 1) ≤ (b + 1) * 2 ^ L.len k - 1 := by
  have f := fldZ_lt (x := x) h
  have p := two_pow_pos (L.h k - L.l k + 1).toNat
  have e : L.num x (k + 1) = L.num x k * 2 ^ (L.h k - L.l k + 1).toNat + fldZ x (L.h k) (L.l k) := rfl
  unfold Lay.len
  rw [e]
  generalize (2 : Int) ^ (L.h k - L.l k + 1).toNat = q at *
  have m1 := Int.mul_le_mul_of_nonneg_right hk.1 (Int.le_of_lt p)
  have m2 := Int.mul_le_mul_of_nonneg_right hk.2 (Int.le_of_lt p)
  rw [Int.add_mul]
  omega
theorem okForm1 : (formL 1).Ok := by
  refine ⟨by decide, by decide, ?_, by decide, ?_⟩
  · intro j hj
    match j, hj with
    | 0, _ => exact (by decide : (0 : Int) ≤ 20 ∧ (20 : Int) ≤ 31 ∧ (31 : Int) ≤ 31)
    | j + 1, hj => exact absurd hj (by show ¬ j + 1 < 1; omega)
  · intro x j hj
    have b0 := (formL 1).num0 x
    have b1 := (formL 1).num1 x 0 (by decide : (0 : Int) ≤ 20 ∧ (20 : Int) ≤ 31 ∧ (31 : Int) ≤ 31) (-1) 0 (by omega) (by omega) b0
    rw [show (formL 1).len 0 = 12 from rfl] at b1
    have b1 : -4096 ≤ (formL 1).num x 1 ∧ (formL 1).num x 1 ≤ 4095 := by have := b1; rw [show 0 + 1 = 1 from rfl] at this; omega
    match j, hj with
    | 0, _ => omega
    | 1, _ => omega
    | j + 2, hj => exact absurd hj (by show ¬ j + 2 ≤ 1; omega)
theorem okForm2 : (formL 2).Ok := by
  refine ⟨by decide, by decide, ?_, by decide, ?_⟩
  · intro j hj
    match j, hj with
    | 0, _ => exact (by decide : (0 : Int) ≤ 25 ∧ (25 : Int) ≤ 31 ∧ (31 : Int) ≤ 31)
    | 1, _ => exact (by decide : (0 : Int) ≤ 7 ∧ (7 : Int) ≤ 11 ∧ (11 : Int) ≤ 31)
    | j + 2, hj => exact absurd hj (by show ¬ j + 2 < 2; omega)
  · intro x j hj
    have b0 := (formL 2).num0 x
    have b1 := (formL 2).num1 x 0 (by decide : (0 : Int) ≤ 25 ∧ (25 : Int) ≤ 31 ∧ (31 : Int) ≤ 31) (-1) 0 (by omega) (by omega) b0
    rw [show (formL 2).len 0 = 7 from rfl] at b1
    have b1 : -128 ≤ (formL 2).num x 1 ∧ (formL 2).num x 1 ≤ 127 := by have := b1; rw [show 0 + 1 = 1 from rfl] at this; omega
    have b2 := (formL 2).num1 x 1 (by decide : (0 : Int) ≤ 7 ∧ (7 : Int) ≤ 11 ∧ (11 : Int) ≤ 31) (-128) 127 (by omega) (by omega) b1
    rw [show (formL 2).len 1 = 5 from rfl] at b2
    have b2 : -4096 ≤ (formL 2).num x 2 ∧ (formL 2).num x 2 ≤ 4095 := by have := b2; rw [show 1 + 1 = 2 from rfl] at this; omega
    match j, hj with
    | 0, _ => omega
    | 1, _ => omega
    | 2, _ => omega
    | j + 3, hj => exact absurd hj (by show ¬ j + 3 ≤ 2; omega)
theorem okForm3 : (formL 3).Ok := by
  refine ⟨by decide, by decide, ?_, by decide, ?_⟩
  · intro j hj
    match j, hj with
    | 0, _ => exact (by decide : (0 : Int) ≤ 31 ∧ (31 : Int) ≤ 31 ∧ (31 : Int) ≤ 31)
    | 1, _ => exact (by decide : (0 : Int) ≤ 7 ∧ (7 : Int) ≤ 7 ∧ (7 : Int) ≤ 31)
    | 2, _ => exact (by decide : (0 : Int) ≤ 25 ∧ (25 : Int) ≤ 30 ∧ (30 : Int) ≤ 31)
    | 3, _ => exact (by decide : (0 : Int) ≤ 8 ∧ (8 : Int) ≤ 11 ∧ (11 : Int) ≤ 31)
    | j + 4, hj => exact absurd hj (by show ¬ j + 4 < 4; omega)
  · intro x j hj
    have b0 := (formL 3).num0 x
    have b1 := (formL 3).num1 x 0 (by decide : (0 : Int) ≤ 31 ∧ (31 : Int) ≤ 31 ∧ (31 : Int) ≤ 31) (-1) 0 (by omega) (by omega) b0
    rw [show (formL 3).len 0 = 1 from rfl] at b1
    have b1 : -2 ≤ (formL 3).num x 1 ∧ (formL 3).num x 1 ≤ 1 := by have := b1; rw [show 0 + 1 = 1 from rfl] at this; omega
    have b2 := (formL 3).num1 x 1 (by decide : (0 : Int) ≤ 7 ∧ (7 : Int) ≤ 7 ∧ (7 : Int) ≤ 31) (-2) 1 (by omega) (by omega) b1
    rw [show (formL 3).len 1 = 1 from rfl] at b2
    have b2 : -4 ≤ (formL 3).num x 2 ∧ (formL 3).num x 2 ≤ 3 := by have := b2; rw [show 1 + 1 = 2 from rfl] at this; omega
    have b3 := (formL 3).num1 x 2 (by decide : (0 : Int) ≤ 25 ∧ (25 : Int) ≤ 30 ∧ (30 : Int) ≤ 31) (-4) 3 (by omega) (by omega) b2
    rw [show (formL 3).len 2 = 6 from rfl] at b3
    have b3 : -256 ≤ (formL 3).num x 3 ∧ (formL 3).num x 3 ≤ 255 := by have := b3; rw [show 2 + 1 = 3 from rfl] at this; omega
    have b4 := (formL 3).num1 x 3 (by decide : (0 : Int) ≤ 8 ∧ (8 : Int) ≤ 11 ∧ (11 : Int) ≤ 31) (-256) 255 (by omega) (by omega) b3
    rw [show (formL 3).len 3 = 4 from rfl] at b4
    have b4 : -4096 ≤ (formL 3).num x 4 ∧ (formL 3).num x 4 ≤ 4095 := by have := b4; rw [show 3 + 1 = 4 from rfl] at this; omega
    match j, hj with
    | 0, _ => omega
    | 1, _ => omega
    | 2, _ => omega
    | 3, _ => omega
    | 4, _ => omega
    | j + 5, hj => exact absurd hj (by show ¬ j + 5 ≤ 4; omega)
theorem okForm4 : (formL 4).Ok := by
  refine ⟨by decide, by decide, ?_, by decide, ?_⟩
  · intro j hj
    match j, hj with
    | 0, _ => exact (by decide : (0 : Int) ≤ 12 ∧ (12 : Int) ≤ 31 ∧ (31 : Int) ≤ 31)
    | j + 1, hj => exact absurd hj (by show ¬ j + 1 < 1; omega)
  · intro x j hj
    have b0 := (formL 4).num0 x
    have b1 := (formL 4).num1 x 0 (by decide : (0 : Int) ≤ 12 ∧ (12 : Int) ≤ 31 ∧ (31 : Int) ≤ 31) (-1) 0 (by omega) (by omega) b0
    rw [show (formL 4).len 0 = 20 from rfl] at b1
    have b1 : -1048576 ≤ (formL 4).num x 1 ∧ (formL 4).num x 1 ≤ 1048575 := by have := b1; rw [show 0 + 1 = 1 from rfl] at this; omega
    match j, hj with
    | 0, _ => omega
    | 1, _ => omega
    | j + 2, hj => exact absurd hj (by show ¬ j + 2 ≤ 1; omega)
theorem okForm5 : (formL 5).Ok := by
  refine ⟨by decide, by decide, ?_, by decide, ?_⟩
  · intro j hj
    match j, hj with
    | 0, _ => exact (by decide : (0 : Int) ≤ 31 ∧ (31 : Int) ≤ 31 ∧ (31 : Int) ≤ 31)
    | 1, _ => exact (by decide : (0 : Int) ≤ 12 ∧ (12 : Int) ≤ 19 ∧ (19 : Int) ≤ 31)
    | 2, _ => exact (by decide : (0 : Int) ≤ 20 ∧ (20 : Int) ≤ 20 ∧ (20 : Int) ≤ 31)
    | 3, _ => exact (by decide : (0 : Int) ≤ 21 ∧ (21 : Int) ≤ 30 ∧ (30 : Int) ≤ 31)
    | j + 4, hj => exact absurd hj (by show ¬ j + 4 < 4; omega)
  · intro x j hj
    have b0 := (formL 5).num0 x
    have b1 := (formL 5).num1 x 0 (by decide : (0 : Int) ≤ 31 ∧ (31 : Int) ≤ 31 ∧ (31 : Int) ≤ 31) (-1) 0 (by omega) (by omega) b0
    rw [show (formL 5).len 0 = 1 from rfl] at b1
    have b1 : -2 ≤ (formL 5).num x 1 ∧ (formL 5).num x 1 ≤ 1 := by have := b1; rw [show 0 + 1 = 1 from rfl] at this; omega
    have b2 := (formL 5).num1 x 1 (by decide : (0 : Int) ≤ 12 ∧ (12 : Int) ≤ 19 ∧ (19 : Int) ≤ 31) (-2) 1 (by omega) (by omega) b1
    rw [show (formL 5).len 1 = 8 from rfl] at b2
    have b2 : -512 ≤ (formL 5).num x 2 ∧ (formL 5).num x 2 ≤ 511 := by have := b2; rw [show 1 + 1 = 2 from rfl] at this; omega
    have b3 := (formL 5).num1 x 2 (by decide : (0 : Int) ≤ 20 ∧ (20 : Int) ≤ 20 ∧ (20 : Int) ≤ 31) (-512) 511 (by omega) (by omega) b2
    rw [show (formL 5).len 2 = 1 from rfl] at b3
    have b3 : -1024 ≤ (formL 5).num x 3 ∧ (formL 5).num x 3 ≤ 1023 := by have := b3; rw [show 2 + 1 = 3 from rfl] at this; omega
    have b4 := (formL 5).num1 x 3 (by decide : (0 : Int) ≤ 21 ∧ (21 : Int) ≤ 30 ∧ (30 : Int) ≤ 31) (-1024) 1023 (by omega) (by omega) b3
    rw [show (formL 5).len 3 = 10 from rfl] at b4
    have b4 : -1048576 ≤ (formL 5).num x 4 ∧ (formL 5).num x 4 ≤ 1048575 := by have := b4; rw [show 3 + 1 = 4 from rfl] at this; omega
    match j, hj with
    | 0, _ => omega
    | 1, _ => omega
    | 2, _ => omega
    | 3, _ => omega
    | 4, _ => omega
    | j + 5, hj => exact absurd hj (by show ¬ j + 5 ≤ 4; omega)
theorem okForm6 : (formL 6).Ok := by
  refine ⟨by decide, by decide, ?_, by decide, ?_⟩
  · intro j hj
    match j, hj with
    | 0, _ => exact (by decide : (0 : Int) ≤ 20 ∧ (20 : Int) ≤ 25 ∧ (25 : Int) ≤ 31)
    | j + 1, hj => exact absurd hj (by show ¬ j + 1 < 1; omega)
  · intro x j hj
    have b0 := (formL 6).num0 x
    have b1 := (formL 6).num1 x 0 (by decide : (0 : Int) ≤ 20 ∧ (20 : Int) ≤ 25 ∧ (25 : Int) ≤ 31) (-1) 0 (by omega) (by omega) b0
    rw [show (formL 6).len 0 = 6 from rfl] at b1
    have b1 : -64 ≤ (formL 6).num x 1 ∧ (formL 6).num x 1 ≤ 63 := by have := b1; rw [show 0 + 1 = 1 from rfl] at this; omega
    match j, hj with
    | 0, _ => omega
    | 1, _ => omega
    | j + 2, hj => exact absurd hj (by show ¬ j + 2 ≤ 1; omega)
theorem okForm7 : (formL 7).Ok := by
  refine ⟨by decide, by decide, ?_, by decide, ?_⟩
  · intro j hj
    match j, hj with
    | 0, _ => exact (by decide : (0 : Int) ≤ 20 ∧ (20 : Int) ≤ 24 ∧ (24 : Int) ≤ 31)
    | j + 1, hj => exact absurd hj (by show ¬ j + 1 < 1; omega)
  · intro x j hj
    have b0 := (formL 7).num0 x
    have b1 := (formL 7).num1 x 0 (by decide : (0 : Int) ≤ 20 ∧ (20 : Int) ≤ 24 ∧ (24 : Int) ≤ 31) (-1) 0 (by omega) (by omega) b0
    rw [show (formL 7).len 0 = 5 from rfl] at b1
    have b1 : -32 ≤ (formL 7).num x 1 ∧ (formL 7).num x 1 ≤ 31 := by have := b1; rw [show 0 + 1 = 1 from rfl] at this; omega
    match j, hj with
    | 0, _ => omega
    | 1, _ => omega
    | j + 2, hj => exact absurd hj (by show ¬ j + 2 ≤ 1; omega)
theorem okForm8 : (formL 8).Ok := by
  refine ⟨by decide, by decide, ?_, by decide, ?_⟩
  · intro j hj
    match j, hj with
    | 0, _ => exact (by decide : (0 : Int) ≤ 20 ∧ (20 : Int) ≤ 31 ∧ (31 : Int) ≤ 31)
    | j + 1, hj => exact absurd hj (by show ¬ j + 1 < 1; omega)
  · intro x j hj
    have b0 := (formL 8).num0 x
    have b1 := (formL 8).num1 x 0 (by decide : (0 : Int) ≤ 20 ∧ (20 : Int) ≤ 31 ∧ (31 : Int) ≤ 31) (-1) 0 (by omega) (by omega) b0
    rw [show (formL 8).len 0 = 12 from rfl] at b1
    have b1 : -4096 ≤ (formL 8).num x 1 ∧ (formL 8).num x 1 ≤ 4095 := by have := b1; rw [show 0 + 1 = 1 from rfl] at this; omega
    match j, hj with
    | 0, _ => omega
    | 1, _ => omega
    | j + 2, hj => exact absurd hj (by show ¬ j + 2 ≤ 1; omega)
theorem okForm9 : (formL 9).Ok := by
  refine ⟨by decide, by decide, ?_, by decide, ?_⟩
  · intro j hj
    match j, hj with
    | 0, _ => exact (by decide : (0 : Int) ≤ 15 ∧ (15 : Int) ≤ 19 ∧ (19 : Int) ≤ 31)
    | j + 1, hj => exact absurd hj (by show ¬ j + 1 < 1; omega)
  · intro x j hj
    have b0 := (formL 9).num0 x
    have b1 := (formL 9).num1 x 0 (by decide : (0 : Int) ≤ 15 ∧ (15 : Int) ≤ 19 ∧ (19 : Int) ≤ 31) (-1) 0 (by omega) (by omega) b0
    rw [show (formL 9).len 0 = 5 from rfl] at b1
    have b1 : -32 ≤ (formL 9).num x 1 ∧ (formL 9).num x 1 ≤ 31 := by have := b1; rw [show 0 + 1 = 1 from rfl] at this; omega
    match j, hj with
    | 0, _ => omega
    | 1, _ => omega
    | j + 2, hj => exact absurd hj (by show ¬ j + 2 ≤ 1; omega)
theorem formL_ok (k : Nat) (hk : 1 ≤ k ∧ k ≤ 9) : (formL k).Ok := by
  match k, hk with
  | 1, _ => exact okForm1
  | 2, _ => exact okForm2
  | 3, _ => exact okForm3
  | 4, _ => exact okForm4
  | 5, _ => exact okForm5
  | 6, _ => exact okForm6
  | 7, _ => exact okForm7
  | 8, _ => exact okForm8
  | 9, _ => exact okForm9
  | k + 10, hk => omega
end Go.Proofs.YtakdhdaoklcidaaGreatDoor

namespace Go.Proofs.YtakdhdaoklcidaaGreatDoor
open Go.RowKit
set_option linter.unusedVariables false
set_option maxRecDepth 100000
def down (a : Int) (m : Nat) : List Int := (List.range m).map fun (j : Nat) => a - (j : Int)
theorem down_succ (a : Int) (m : Nat) : down a (m + 1) = down a m ++ [a - (m : Int)] := by unfold down; rw [List.range_succ, List.map_append]; rfl
theorem down_len (a : Int) (m : Nat) : (down a m).length = m := by unfold down; simp
def formP : Nat → List Int
  | 1 => down 31 12
  | 2 => down 31 7 ++ down 11 5
  | 3 => [31, 7, 30, 29, 28, 27, 26, 25, 11, 10, 9, 8, -1]
  | 4 => down 31 20 ++ List.replicate 12 (-1)
  | 5 => [31, 19, 18, 17, 16, 15, 14, 13, 12, 20, 30, 29, 28, 27, 26, 25, 24, 23, 22, 21, -1]
  | 6 => [25, 24, 23, 22, 21, 20]
  | 7 => [24, 23, 22, 21, 20]
  | 8 => down 31 12
  | 9 => [19, 18, 17, 16, 15]
  | _ => []
def plZ (x p : Int) : Int := if 0 ≤ p then bitZ x p else 0
def numD (x : Int) (l : List Int) : Int := l.foldl (fun n p => 2 * n + plZ x p) 0
theorem numD_snoc (x : Int) (l : List Int) (p : Int) : numD x (l ++ [p]) = 2 * numD x l + plZ x p := by unfold numD; rw [List.foldl_append]; rfl
theorem take_snoc' (xs : List Int) (k : Nat) (h : k < xs.length) : xs.take (k + 1) = xs.take k ++ [xs.getD k 0] := by
  rw [List.take_add_one, List.getElem?_eq_getElem h]; simp [List.getD, h]
theorem numD_take (x : Int) (xs : List Int) (k : Nat) (h : k < xs.length) : numD x (xs.take (k + 1)) = 2 * numD x (xs.take k) + plZ x (xs.getD k 0) := by
  rw [take_snoc' xs k h, numD_snoc]
def bitN (n : Int) (j : Nat) : Int := n / 2 ^ j % 2
theorem bitN_01 (n : Int) (j : Nat) : bitN n j = 0 ∨ bitN n j = 1 := by unfold bitN; omega
theorem bitN_and (n : Int) (j : Nat) : bits .and .i64 (n / 2 ^ j) 1 = bitN n j := by rw [and_one_i64]; rfl
def badAt (n : Int) (l : List Int) (i : Nat) : Bool := decide (l.getD i 0 < 0) && bitN n (l.length - 1 - i) == 1
def fitsD (n : Int) (sg : Bool) (l : List Int) : Bool :=
  decide ((if sg then -(2 : Int) ^ (l.length - 1) else 0) ≤ n ∧ n ≤ (if sg then (2 : Int) ^ (l.length - 1) - 1 else 2 ^ l.length - 1)) && !(List.range l.length).any (badAt n l)
theorem fitsD_out {n : Int} {sg : Bool} {l : List Int} (h : ¬ ((if sg then -(2 : Int) ^ (l.length - 1) else 0) ≤ n ∧ n ≤ (if sg then (2 : Int) ^ (l.length - 1) - 1 else 2 ^ l.length - 1))) : fitsD n sg l = false := by
  unfold fitsD; rw [decide_eq_false h]; rfl
theorem fitsD_bad {n : Int} {sg : Bool} {l : List Int} {i : Nat} (hi : i < l.length) (h : badAt n l i = true) : fitsD n sg l = false := by
  unfold fitsD
  have : (List.range l.length).any (badAt n l) = true := List.any_eq_true.2 ⟨i, List.mem_range.2 hi, h⟩
  rw [this]; simp
theorem fitsD_yes {n : Int} {sg : Bool} {l : List Int} (h : (if sg then -(2 : Int) ^ (l.length - 1) else 0) ≤ n ∧ n ≤ (if sg then (2 : Int) ^ (l.length - 1) - 1 else 2 ^ l.length - 1)) (hb : ∀ i, i < l.length → badAt n l i = false) : fitsD n sg l = true := by
  unfold fitsD
  have : (List.range l.length).any (badAt n l) = false := List.any_eq_false.2 fun i hi => by rw [hb i (List.mem_range.1 hi)]; simp
  rw [decide_eq_true h, this]; rfl
def putD (n : Int) (l : List Int) : Nat → Int
  | 0 => 0
  | j + 1 => if 0 ≤ l.getD j 0 ∧ bitN n (l.length - 1 - j) = 1 then bits .or .u32 (putD n l j) (IntKind.u32.wrap (2 ^ (l.getD j 0).toNat)) else putD n l j
def bitsD (l : List Int) : Nat → Int
  | 0 => 0
  | j + 1 => if 0 ≤ l.getD j 0 then bits .or .u32 (bitsD l j) (IntKind.u32.wrap (2 ^ (l.getD j 0).toNat)) else bitsD l j
def numR (x : Int) (sg : Bool) (l : List Int) : Int := numD x l - (if sg && bitZ x 31 == 1 then 2 ^ l.length else 0)
end Go.Proofs.YtakdhdaoklcidaaGreatDoor

namespace Go.Proofs.YtakdhdaoklcidaaGreatDoor
open Go.RowKit
set_option linter.unusedVariables false
set_option maxRecDepth 100000
def tb (x : Int) (q : Nat) : Bool := x / 2 ^ q % 2 == 1
theorem tb_div (x : Int) (s q : Nat) : tb (x / 2 ^ s) q = tb x (s + q) := by
  unfold tb; rw [Int.ediv_ediv_of_nonneg (Int.le_of_lt (two_pow_pos s)), ← Int.pow_add]
theorem tb_mod (x : Int) (m q : Nat) : tb (x % 2 ^ m) q = (decide (q < m) && tb x q) := by
  by_cases h : q < m
  · rw [decide_eq_true h, Bool.true_and]
    unfold tb
    obtain ⟨r, rfl⟩ : ∃ r, m = q + (r + 1) := ⟨m - q - 1, by omega⟩
    rw [Int.pow_add, emod_ediv_pow, Int.emod_emod_of_dvd _ ⟨2 ^ r, by rw [Int.pow_succ, Int.mul_comm]⟩]
  · rw [decide_eq_false h, Bool.false_and]
    unfold tb
    have h1 := two_pow_pos m
    have h2 := Int.emod_nonneg x (show (2 : Int) ^ m ≠ 0 by omega)
    have h3 := Int.emod_lt_of_pos x h1
    have h4 : (2 : Int) ^ m ≤ 2 ^ q := by exact_mod_cast Nat.pow_le_pow_right (by omega) (show m ≤ q by omega)
    rw [Int.ediv_eq_zero_of_lt h2 (by omega)]; rfl
theorem tb_mul (x : Int) (s q : Nat) : tb (x * 2 ^ s) q = (decide (s ≤ q) && tb x (q - s)) := by
  by_cases h : s ≤ q
  · obtain ⟨r, rfl⟩ : ∃ r, q = s + r := ⟨q - s, by omega⟩
    rw [decide_eq_true h, Bool.true_and, Nat.add_sub_cancel_left, ← tb_div, Int.mul_ediv_cancel _ (by have := two_pow_pos s; omega)]
  · rw [decide_eq_false h, Bool.false_and]
    unfold tb
    obtain ⟨r, rfl⟩ : ∃ r, s = q + (r + 1) := ⟨s - q - 1, by omega⟩
    rw [Int.pow_add, ← Int.mul_assoc, Int.mul_right_comm, Int.mul_ediv_cancel _ (by have := two_pow_pos q; omega), Int.pow_succ, ← Int.mul_assoc, Int.mul_emod_left]; rfl
theorem tb_wrap {x : Int} {q : Nat} (h : q < 32) : tb (IntKind.u32.wrap x) q = tb x q := by
  rw [wrap32, show (4294967296 : Int) = 2 ^ 32 from rfl, tb_mod, decide_eq_true h, Bool.true_and]
theorem fldZ_tb (x hi lo : Int) (h : 0 ≤ lo ∧ lo ≤ hi ∧ hi ≤ 31) (q : Nat) : tb (fldZ x hi lo) q = (decide (q < (hi - lo + 1).toNat) && tb x (lo.toNat + q)) := by
  rw [fldZ_eq h, tb_mod, tb_div]
def V3 (x : Int) : BitVec 32 := BitVec.ofInt 32 x
theorem V3_toNat {x : Int} (h : In32 x) : ((V3 x).toNat : Int) = x := by
  unfold In32 at h; unfold V3; rw [BitVec.toNat_ofInt]; omega
theorem tb_bv (b : BitVec 32) (q : Nat) : tb (b.toNat : Int) q = b.getLsbD q := by
  unfold tb
  rw [BitVec.getLsbD, Nat.testBit_eq_decide_div_mod_eq, Bool.eq_iff_iff, beq_iff_eq, decide_eq_true_eq]
  have e : ((b.toNat : Int) / 2 ^ q % 2) = ((b.toNat / 2 ^ q % 2 : Nat) : Int) := by norm_cast
  rw [e]; omega
theorem V3_bit (x : Int) (q : Nat) : (V3 x).getLsbD q = (decide (q < 32) && tb x q) := by
  rw [← tb_bv]
  have e : ((V3 x).toNat : Int) = x % 2 ^ 32 := by unfold V3; rw [BitVec.toNat_ofInt]; omega
  rw [e, tb_mod]
theorem ext32 {x y : Int} (hx : In32 x) (hy : In32 y) (h : ∀ q, q < 32 → tb x q = tb y q) : x = y := by
  have e : V3 x = V3 y := BitVec.eq_of_getLsbD_eq fun q hq => by rw [V3_bit, V3_bit, h q hq]
  rw [← V3_toNat hx, ← V3_toNat hy, e]
theorem bv_in32 (b : BitVec 32) : In32 (b.toNat : Int) := by have := b.isLt; unfold In32; omega
theorem wrap_bv (b : BitVec 32) : IntKind.u32.wrap (b.toNat : Int) = (b.toNat : Int) := by
  have := bv_in32 b; unfold In32 at this; rw [wrap32]; omega
theorem or_bv (x y : Int) : bits .or .u32 x y = ((V3 x ||| V3 y).toNat : Int) := by
  show IntKind.u32.wrap ((V3 x ||| V3 y).toNat : Int) = _
  exact wrap_bv _
theorem andNot_bv (x y : Int) : bits .andNot .u32 x y = ((V3 x &&& ~~~ V3 y).toNat : Int) := by
  show IntKind.u32.wrap ((V3 x &&& ~~~ V3 y).toNat : Int) = _
  exact wrap_bv _
theorem or_in (x y : Int) : In32 (bits .or .u32 x y) := by rw [or_bv]; exact bv_in32 _
theorem andNot_in (x y : Int) : In32 (bits .andNot .u32 x y) := by rw [andNot_bv]; exact bv_in32 _
theorem tb_or {x y : Int} {q : Nat} (h : q < 32) : tb (bits .or .u32 x y) q = (tb x q || tb y q) := by
  rw [or_bv, tb_bv, BitVec.getLsbD_or, V3_bit, V3_bit, decide_eq_true h]; simp
theorem tb_andNot {x y : Int} {q : Nat} (h : q < 32) : tb (bits .andNot .u32 x y) q = (tb x q && !tb y q) := by
  rw [andNot_bv, tb_bv, BitVec.getLsbD_and, BitVec.getLsbD_not, V3_bit, V3_bit, decide_eq_true h]; simp
def Lay.has (L : Lay) (q : Nat) (j : Nat) : Bool := decide (L.l j ≤ q ∧ (q : Int) ≤ L.h j)
theorem Lay.put_in (L : Lay) (n : Int) (m : Nat) : In32 (L.put n m) := by
  cases m with
  | zero => unfold Lay.put In32; omega
  | succ m => unfold Lay.put; exact or_in _ _
theorem piece_tb {r h l : Int} (hh : 0 ≤ l ∧ l ≤ h ∧ h ≤ 31) {q : Nat} (hq : q < 32) :
    tb (IntKind.u32.wrap (fldZ (IntKind.u32.wrap r) (h - l) 0 * 2 ^ l.toNat)) q = (decide (l ≤ q ∧ (q : Int) ≤ h) && tb r (q - l.toNat)) := by
  rw [tb_wrap hq, tb_mul, fldZ_tb _ _ _ (by omega)]
  by_cases a : l.toNat ≤ q
  · rw [decide_eq_true a, Bool.true_and, show (0 : Int).toNat + (q - l.toNat) = q - l.toNat by simp, tb_wrap (by omega)]
    congr 1
    rw [decide_eq_decide]; omega
  · rw [decide_eq_false a, decide_eq_false (show ¬ (l ≤ q ∧ (q : Int) ≤ h) by omega)]; rfl
theorem Lay.put_tb {L : Lay} (hL : L.Ok) (n : Int) {q : Nat} (hq : q < 32) : ∀ m, m ≤ L.ps.length →
    tb (L.put n m) q = (List.range m).any fun i => L.has q (L.ps.length - 1 - i) && tb (L.rest n i) (q - (L.l (L.ps.length - 1 - i)).toNat) := by
  intro m
  induction m with
  | zero => intro _; show tb 0 q = false; unfold tb; rw [Int.zero_ediv]; rfl
  | succ m ih =>
    intro hm
    rw [List.range_succ, List.any_append, ← ih (by omega)]
    show tb (bits .or .u32 (L.put n m) (IntKind.u32.wrap (fldZ (IntKind.u32.wrap (L.rest n m)) (L.h (L.ps.length - 1 - m) - L.l (L.ps.length - 1 - m)) 0 * 2 ^ (L.l (L.ps.length - 1 - m)).toNat))) q = _
    rw [tb_or hq, piece_tb (hL.in31 _ (by omega)) hq]
    simp [Lay.has]
theorem Lay.word_in (L : Lay) (n : Int) : In32 (L.word n) := L.put_in n _
theorem rest_neg (L : Lay) (m : Nat) : L.rest (-1) m = -1 := by
  have h : ∀ k : Nat, (-1 : Int) / 2 ^ k = -1 := fun k => by
    have hp := two_pow_pos k
    have h1 := (Int.le_ediv_iff_mul_le (a := -1) (b := -1) hp).2 (by omega)
    have h2 := (Int.ediv_lt_iff_lt_mul (a := -1) (b := 0) hp).2 (by omega)
    omega
  induction m with
  | zero => exact h _
  | succ m ih => show L.rest (-1) m / _ = -1; rw [ih]; exact h _
theorem tb_neg (q : Nat) : tb (-1) q = true := by
  have h := rest_neg ⟨[], q, false⟩ 0
  have h2 : (-1 : Int) / 2 ^ q = -1 := h
  unfold tb; rw [h2]; rfl
theorem Lay.mask_tb {L : Lay} (hL : L.Ok) {q : Nat} (hq : q < 32) : tb (L.word (-1)) q = (List.range L.ps.length).any fun i => L.has q (L.ps.length - 1 - i) := by
  unfold Lay.word
  rw [L.put_tb hL (-1) hq _ (Nat.le_refl _)]
  congr 1; funext i
  rw [rest_neg, tb_neg, Bool.and_true]
theorem Lay.word_mask {L : Lay} (hL : L.Ok) (n : Int) : bits .andNot .u32 (L.word n) (L.word (-1)) = 0 := by
  refine ext32 (andNot_in _ _) (by unfold In32; omega) fun q hq => ?_
  have z : tb 0 q = false := by unfold tb; rw [Int.zero_ediv]; rfl
  rw [tb_andNot hq, z, L.mask_tb hL hq]
  unfold Lay.word
  rw [L.put_tb hL n hq _ (Nat.le_refl _)]
  cases h : (List.range L.ps.length).any fun i => L.has q (L.ps.length - 1 - i)
  · have : ((List.range L.ps.length).any fun i => L.has q (L.ps.length - 1 - i) && tb (L.rest n i) (q - (L.l (L.ps.length - 1 - i)).toNat)) = false := by
      rw [List.any_eq_false] at h ⊢
      intro i hi
      have := h i hi
      simp only [Bool.not_eq_true] at this ⊢
      rw [this]; rfl
    rw [this]; rfl
  · simp
theorem fldZ_congr {x y hi lo : Int} (h : ∀ q : Nat, lo ≤ q → (q : Int) ≤ hi → tb x q = tb y q) : fldZ x hi lo = fldZ y hi lo := by
  by_cases g : 0 ≤ lo ∧ lo ≤ hi ∧ hi ≤ 31
  · refine ext32 (fldZ_in32 _ _ _) (fldZ_in32 _ _ _) fun q hq => ?_
    rw [fldZ_tb _ _ _ g, fldZ_tb _ _ _ g]
    by_cases c : q < (hi - lo + 1).toNat
    · rw [h (lo.toNat + q) (by omega) (by omega)]
    · rw [decide_eq_false c]; rfl
  · rw [fldZ_out g, fldZ_out g]
theorem Lay.num_congr {L : Lay} (hL : L.Ok) {x y : Int} (h : ∀ j q : Nat, j < L.ps.length → L.l j ≤ q → (q : Int) ≤ L.h j → tb x q = tb y q) : ∀ k, k ≤ L.ps.length → L.num x k = L.num y k := by
  intro k
  induction k with
  | zero =>
    intro _
    have g := hL.in31 0 hL.one
    have e : fldZ x (L.h 0) (L.h 0) = fldZ y (L.h 0) (L.h 0) := fldZ_congr fun q h1 h2 => h 0 q hL.one (by omega) h2
    show (if L.neg x then (-1 : Int) else 0) = if L.neg y then (-1 : Int) else 0
    unfold Lay.neg; rw [e]
  | succ k ih =>
    intro hk
    show L.num x k * _ + fldZ x (L.h k) (L.l k) = L.num y k * _ + fldZ y (L.h k) (L.l k)
    rw [ih (by omega), fldZ_congr fun q h1 h2 => h k q (by omega) h1 h2]
theorem Lay.number_congr {L : Lay} (hL : L.Ok) {x y : Int} (h : ∀ j q : Nat, j < L.ps.length → L.l j ≤ q → (q : Int) ≤ L.h j → tb x q = tb y q) : L.number x = L.number y := by
  unfold Lay.number; rw [L.num_congr hL h _ (Nat.le_refl _)]
theorem Lay.mask_on {L : Lay} (hL : L.Ok) {j q : Nat} (hj : j < L.ps.length) (h1 : L.l j ≤ q) (h2 : (q : Int) ≤ L.h j) : tb (L.word (-1)) q = true := by
  have g := hL.in31 j hj
  rw [L.mask_tb hL (by omega), List.any_eq_true]
  refine ⟨L.ps.length - 1 - j, List.mem_range.2 (by omega), ?_⟩
  rw [show L.ps.length - 1 - (L.ps.length - 1 - j) = j by omega]
  unfold Lay.has; exact decide_eq_true ⟨h1, h2⟩
end Go.Proofs.YtakdhdaoklcidaaGreatDoor

namespace Go.Proofs.YtakdhdaoklcidaaGreatDoor
open Go.RowKit
set_option linter.unusedVariables false
set_option maxRecDepth 100000
theorem plZ_nat (x : Int) (p : Int) (h : 0 ≤ p) : plZ x p = x / 2 ^ p.toNat % 2 := by unfold plZ; rw [if_pos h]; rfl
theorem numD_app (x : Int) (a b : List Int) : numD x (a ++ b) = numD x a * 2 ^ b.length + numD x b := by
  have h : ∀ (b : List Int) (s : Int), b.foldl (fun n p => 2 * n + plZ x p) s = s * 2 ^ b.length + numD x b := by
    intro b
    induction b with
    | nil => intro s; show s = s * 2 ^ 0 + 0; rw [Int.pow_zero]; omega
    | cons p b ih =>
      intro s
      show b.foldl (fun n p => 2 * n + plZ x p) (2 * s + plZ x p) = s * 2 ^ (b.length + 1) + numD x (p :: b)
      have e : numD x (p :: b) = b.foldl (fun n p => 2 * n + plZ x p) (2 * 0 + plZ x p) := rfl
      rw [e, ih, ih, Int.pow_succ, Int.add_mul, Int.add_mul, ← Int.mul_assoc, Int.mul_comm 2 s, Int.mul_assoc s 2, Int.mul_comm 2 (2 ^ b.length), Int.mul_assoc]
      omega
  unfold numD
  rw [List.foldl_append]
  exact h b _
theorem numD_down (x hi : Int) (m : Nat) (h : (m : Int) ≤ hi + 1) : numD x (down hi m) = x / 2 ^ (hi - m + 1).toNat % 2 ^ m := by
  induction m with
  | zero => show (0 : Int) = _; rw [Int.pow_zero, Int.emod_one]
  | succ m ih =>
    rw [down_succ, numD_snoc, ih (by omega), plZ_nat _ _ (by omega)]
    have e := fld_step x (hi - m).toNat m
    rw [show (hi - (m : Int)).toNat + 1 = (hi - (m : Int) + 1).toNat by omega] at e
    unfold bitZ at e
    rw [show (((hi - (m : Int)).toNat : Nat) : Int).toNat = (hi - (m : Int)).toNat by omega] at e
    rw [e, show (hi - ((m + 1 : Nat) : Int) + 1).toNat = (hi - (m : Int)).toNat by omega]
theorem numD_nts (x : Int) (m : Nat) : numD x (List.replicate m (-1)) = 0 := by
  induction m with
  | zero => rfl
  | succ m ih => rw [List.replicate_succ', numD_snoc, ih]; rfl
def Lay.pl (L : Lay) : Nat → List Int
  | 0 => []
  | k + 1 => L.pl k ++ down (L.h k) (L.len k)
def Lay.places (L : Lay) : List Int := L.pl L.ps.length ++ List.replicate L.nt (-1)
theorem Lay.num_pl {L : Lay} (hL : L.Ok) (x : Int) : ∀ k, k ≤ L.ps.length → L.num x k = L.num x 0 * 2 ^ (L.pl k).length + numD x (L.pl k) := by
  intro k
  induction k with
  | zero => intro _; show _ = L.num x 0 * 2 ^ 0 + 0; rw [Int.pow_zero]; omega
  | succ k ih =>
    intro hk
    have g := hL.in31 k (by omega)
    have e : fldZ x (L.h k) (L.l k) = numD x (down (L.h k) (L.len k)) := by
      unfold Lay.len
      rw [numD_down _ _ _ (by omega), fldZ_eq g]; congr 3; omega
    show L.num x k * 2 ^ L.len k + fldZ x (L.h k) (L.l k) = L.num x 0 * 2 ^ (L.pl k ++ down (L.h k) (L.len k)).length + numD x (L.pl k ++ down (L.h k) (L.len k))
    rw [ih (by omega), numD_app, e, List.length_append, down_len, Int.add_mul, Int.mul_assoc, ← Int.pow_add, Int.add_assoc]
theorem Lay.number_pl {L : Lay} (hL : L.Ok) (x : Int) : L.number x = L.num x 0 * 2 ^ L.places.length + numD x L.places := by
  unfold Lay.number Lay.places
  rw [L.num_pl hL x _ (Nat.le_refl _), numD_app, numD_nts, List.length_append, List.length_replicate, Int.add_mul, Int.mul_assoc, ← Int.pow_add]
  omega
theorem Lay.number_numR {L : Lay} (hL : L.Ok) (hh : L.sg = true → L.h 0 = 31) (x : Int) : L.number x = numR x L.sg L.places := by
  rw [L.number_pl hL]
  have e : L.num x 0 = if L.neg x then -1 else 0 := rfl
  unfold numR
  rw [e]
  unfold Lay.neg
  cases hs : L.sg
  · simp
  · rw [hh hs]
    have e2 : fldZ x 31 31 = bitZ x 31 := by rw [fldZ_eq (by decide)]; rfl
    rw [e2]
    cases (bitZ x 31 == 1)
    · simp
    · simp; omega
def Lay.sft (L : Lay) : Nat → Nat
  | 0 => L.nt
  | m + 1 => L.sft m + L.len (L.ps.length - 1 - m)
theorem Lay.rest_sft (L : Lay) (n : Int) (m : Nat) : L.rest n m = n / 2 ^ L.sft m := by
  induction m with
  | zero => rfl
  | succ m ih =>
    show L.rest n m / 2 ^ L.len (L.ps.length - 1 - m) = n / 2 ^ (L.sft m + L.len (L.ps.length - 1 - m))
    rw [ih, Int.ediv_ediv_of_nonneg (Int.le_of_lt (two_pow_pos _)), ← Int.pow_add]
def Lay.src (L : Lay) (q : Nat) : List Nat := ((List.range L.ps.length).filter fun i => L.has q (L.ps.length - 1 - i)).map fun i => L.sft i + (q - (L.l (L.ps.length - 1 - i)).toNat)
theorem any_src {α : Type} (xs : List α) (f : α → Bool) (g : α → Nat) (B : Nat → Bool) : (xs.any fun i => f i && B (g i)) = ((xs.filter f).map g).any B := by
  induction xs with
  | nil => rfl
  | cons a xs ih =>
    rw [List.any_cons, ih, List.filter_cons]
    cases f a <;> simp
theorem Lay.word_src {L : Lay} (hL : L.Ok) (n : Int) {q : Nat} (hq : q < 32) : tb (L.word n) q = (L.src q).any (tb n) := by
  unfold Lay.word Lay.src
  rw [L.put_tb hL n hq _ (Nat.le_refl _), ← any_src]
  congr 1; funext i
  rw [L.rest_sft, tb_div]
def srcD (l : List Int) (j q : Nat) : List Nat := ((List.range j).filter fun i => decide (l.getD i 0 = q)).map fun i => l.length - 1 - i
theorem tb_pow {p : Int} (h0 : 0 ≤ p) (q : Nat) : tb (2 ^ p.toNat) q = decide (p = q) := by
  have h := tb_mul 1 p.toNat q
  rw [Int.one_mul] at h
  rw [h]
  by_cases a : p.toNat ≤ q
  · rw [decide_eq_true a, Bool.true_and]
    by_cases b : q - p.toNat = 0
    · rw [b, decide_eq_true (show p = (q : Int) by omega)]; rfl
    · rw [decide_eq_false (show ¬ p = (q : Int) by omega)]
      unfold tb
      have e : (1 : Int) / 2 ^ (q - p.toNat) = 0 := by
        have h2 : (2 : Int) ^ 1 ≤ 2 ^ (q - p.toNat) := by exact_mod_cast Nat.pow_le_pow_right (by omega) (show 1 ≤ q - p.toNat by omega)
        exact Int.ediv_eq_zero_of_lt (by omega) (by omega)
      rw [e]; rfl
  · rw [decide_eq_false a, decide_eq_false (show ¬ p = (q : Int) by omega)]; rfl
theorem bitN_tb (n : Int) (j : Nat) : (bitN n j = 1) ↔ tb n j = true := by unfold bitN tb; rw [beq_iff_eq]
theorem putD_src (n : Int) (l : List Int) {q : Nat} (hq : q < 32) : ∀ j, tb (putD n l j) q = (srcD l j q).any (tb n) := by
  intro j
  unfold srcD
  rw [← any_src]
  induction j with
  | zero => show tb 0 q = false; unfold tb; rw [Int.zero_ediv]; rfl
  | succ j ih =>
    rw [List.range_succ, List.any_append, ← ih]
    simp only [List.any_cons, List.any_nil, Bool.or_false]
    by_cases h : 0 ≤ l.getD j 0 ∧ bitN n (l.length - 1 - j) = 1
    · rw [putD, if_pos h, tb_or hq, tb_wrap hq, tb_pow h.1, (bitN_tb _ _).1 h.2, Bool.and_true]
    · rw [putD, if_neg h]
      by_cases c : l.getD j 0 = q
      · have : tb n (l.length - 1 - j) = false := by
          rw [← Bool.not_eq_true, ← bitN_tb]; intro hb; exact h ⟨by omega, hb⟩
        rw [this]; simp
      · rw [decide_eq_false c]; simp
theorem putD_in (n : Int) (l : List Int) (j : Nat) : In32 (putD n l j) := by
  induction j with
  | zero => unfold putD In32; omega
  | succ j ih => unfold putD; split; exact or_in _ _; exact ih
theorem Lay.word_putD {L : Lay} (hL : L.Ok) (n : Int) (l : List Int) (h : ∀ q, q < 32 → L.src q = srcD l l.length q) : L.word n = putD n l l.length :=
  ext32 (L.word_in _) (putD_in _ _ _) fun q hq => by rw [L.word_src hL n hq, putD_src n l hq, h q hq]
theorem fold_bits (n : Int) (len : Nat) : ∀ (x : Int) (l : List Int) (k : Nat), l.length = len → k ≤ len → (∀ i, i < len → plZ x (l.getD i 0) = bitN n (len - 1 - i)) → numD x (l.take k) = n / 2 ^ (len - k) % 2 ^ k := by
  intro x l k hl hk h
  induction k with
  | zero => show (0 : Int) = _; rw [Int.pow_zero, Int.emod_one]
  | succ k ih =>
    rw [numD_take x l k (by omega), ih (by omega), h k (by omega)]
    have e := fld_step n (len - 1 - k) k
    unfold bitZ at e
    unfold bitN
    rw [show ((len - 1 - k : Nat) : Int).toNat = len - 1 - k by omega, show len - 1 - k + 1 = len - k by omega] at e
    rw [e, show len - (k + 1) = len - 1 - k by omega]
structure FormOk (L : Lay) (l : List Int) : Prop where
  ok : L.Ok
  pl : L.places = l
  src : ∀ q, q < 32 → L.src q = srcD l l.length q
  own : ∀ i, i < l.length → 0 ≤ l.getD i 0 → l.getD i 0 < 32 ∧ L.src (l.getD i 0).toNat = [l.length - 1 - i]
  nts : ∀ i, i < l.length → (l.getD i 0 < 0 ↔ l.length - 1 - i < L.nt)
  top : L.sg = true → L.h 0 = 31 ∧ l.getD 0 0 = 31
  len : 1 ≤ l.length ∧ l.length ≤ 32 ∧ L.nt ≤ l.length
theorem mod_zero (n : Int) : ∀ m : Nat, (∀ j, j < m → bitN n j = 0) → n % 2 ^ m = 0 := by
  intro m
  induction m generalizing n with
  | zero => intro _; rw [Int.pow_zero, Int.emod_one]
  | succ m ih =>
    intro h
    have h0 := h 0 (by omega)
    unfold bitN at h0
    rw [Int.pow_zero, Int.ediv_one] at h0
    have h1 := ih (n / 2) fun j hj => by
      have := h (j + 1) (by omega)
      unfold bitN at this ⊢
      rw [Int.ediv_ediv_of_nonneg (by omega), show (2 : Int) * 2 ^ j = 2 ^ (j + 1) by rw [Int.pow_succ, Int.mul_comm]]
      exact this
    have e := half_step n m
    rw [← e, h0, h1]; rfl
theorem zero_mod (n : Int) (m j : Nat) (hj : j < m) (h : n % 2 ^ m = 0) : bitN n j = 0 := by
  have e := tb_mod n m j
  rw [h, decide_eq_true hj, Bool.true_and] at e
  have z : tb 0 j = false := by unfold tb; rw [Int.zero_ediv]; rfl
  rw [z] at e
  rcases bitN_01 n j with h | h
  · exact h
  · rw [(bitN_tb _ _).1 h] at e; cases e
end Go.Proofs.YtakdhdaoklcidaaGreatDoor

namespace Go.Proofs.YtakdhdaoklcidaaGreatDoor
open Go.RowKit
set_option linter.unusedVariables false
set_option maxRecDepth 100000
theorem formOk (k : Nat) (hk : 1 ≤ k ∧ k ≤ 9) : FormOk (formL k) (formP k) := by
  match k, hk with
  | 1, _ => exact ⟨okForm1, by decide +kernel, by decide +kernel, by decide +kernel, by decide +kernel, by decide +kernel, by decide +kernel⟩
  | 2, _ => exact ⟨okForm2, by decide +kernel, by decide +kernel, by decide +kernel, by decide +kernel, by decide +kernel, by decide +kernel⟩
  | 3, _ => exact ⟨okForm3, by decide +kernel, by decide +kernel, by decide +kernel, by decide +kernel, by decide +kernel, by decide +kernel⟩
  | 4, _ => exact ⟨okForm4, by decide +kernel, by decide +kernel, by decide +kernel, by decide +kernel, by decide +kernel, by decide +kernel⟩
  | 5, _ => exact ⟨okForm5, by decide +kernel, by decide +kernel, by decide +kernel, by decide +kernel, by decide +kernel, by decide +kernel⟩
  | 6, _ => exact ⟨okForm6, by decide +kernel, by decide +kernel, by decide +kernel, by decide +kernel, by decide +kernel, by decide +kernel⟩
  | 7, _ => exact ⟨okForm7, by decide +kernel, by decide +kernel, by decide +kernel, by decide +kernel, by decide +kernel, by decide +kernel⟩
  | 8, _ => exact ⟨okForm8, by decide +kernel, by decide +kernel, by decide +kernel, by decide +kernel, by decide +kernel, by decide +kernel⟩
  | 9, _ => exact ⟨okForm9, by decide +kernel, by decide +kernel, by decide +kernel, by decide +kernel, by decide +kernel, by decide +kernel⟩
  | k + 10, hk => omega
theorem form_sg (k : Nat) (hk : 1 ≤ k ∧ k ≤ 9) : (formL k).sg = decide (k ≤ 5) := by
  match k, hk with
  | 1, _ => rfl
  | 2, _ => rfl
  | 3, _ => rfl
  | 4, _ => rfl
  | 5, _ => rfl
  | 6, _ => rfl
  | 7, _ => rfl
  | 8, _ => rfl
  | 9, _ => rfl
  | k + 10, hk => omega
theorem form_len (k : Nat) (hk : 1 ≤ k ∧ k ≤ 9) : (formP k).length = 5 ∨ (formP k).length = 6 ∨ (formP k).length = 12 ∨ (formP k).length = 13 ∨ (formP k).length = 21 ∨ (formP k).length = 32 := by
  match k, hk with
  | 1, _ => exact (by decide +kernel)
  | 2, _ => exact (by decide +kernel)
  | 3, _ => exact (by decide +kernel)
  | 4, _ => exact (by decide +kernel)
  | 5, _ => exact (by decide +kernel)
  | 6, _ => exact (by decide +kernel)
  | 7, _ => exact (by decide +kernel)
  | 8, _ => exact (by decide +kernel)
  | 9, _ => exact (by decide +kernel)
  | k + 10, hk => omega
theorem range_un (n : Int) {len : Nat} (h : len = 5 ∨ len = 6 ∨ len = 12 ∨ len = 13 ∨ len = 21 ∨ len = 32) : (n % 2 ^ len = n) ↔ (0 ≤ n ∧ n ≤ 2 ^ len - 1) := by
  rcases h with rfl | rfl | rfl | rfl | rfl | rfl <;> omega
theorem range_sg (n : Int) {len : Nat} (h : len = 5 ∨ len = 6 ∨ len = 12 ∨ len = 13 ∨ len = 21 ∨ len = 32) :
    (n % 2 ^ len - (if bitN n (len - 1) == 1 then 2 ^ len else 0) = n) ↔ (-(2 : Int) ^ (len - 1) ≤ n ∧ n ≤ 2 ^ (len - 1) - 1) := by
  unfold bitN
  rcases h with rfl | rfl | rfl | rfl | rfl | rfl <;> simp only [Nat.add_one_sub_one, Nat.reduceSub, Int.reducePow, beq_iff_eq] <;> split <;> omega
theorem FormOk.own_bit {L : Lay} {l : List Int} (h : FormOk L l) (n : Int) {i : Nat} (hi : i < l.length) (hp : 0 ≤ l.getD i 0) : plZ (L.word n) (l.getD i 0) = bitN n (l.length - 1 - i) := by
  obtain ⟨h32, hs⟩ := h.own i hi hp
  have e := L.word_src h.ok n (q := (l.getD i 0).toNat) (by omega)
  rw [hs] at e
  simp only [List.any_cons, List.any_nil, Bool.or_false] at e
  unfold plZ bitZ
  rw [if_pos hp]
  have a : L.word n / 2 ^ (l.getD i 0).toNat % 2 = 0 ∨ L.word n / 2 ^ (l.getD i 0).toNat % 2 = 1 := by omega
  unfold tb at e
  rcases bitN_01 n (l.length - 1 - i) with b | b
  · rw [b]
    unfold bitN at b
    rw [b] at e
    rcases a with a | a
    · exact a
    · rw [a] at e; cases e
  · rw [b]
    unfold bitN at b
    rw [b] at e
    rcases a with a | a
    · rw [a] at e; cases e
    · exact a
theorem FormOk.fits {L : Lay} {l : List Int} (h : FormOk L l) (hlen : l.length = 5 ∨ l.length = 6 ∨ l.length = 12 ∨ l.length = 13 ∨ l.length = 21 ∨ l.length = 32) (n : Int) :
    (L.number (L.word n) == n) = fitsD n L.sg l := by
  obtain ⟨l1, l2, l3⟩ := h.len
  by_cases hn : ∀ j, j < L.nt → bitN n j = 0
  · have hb : ∀ i, i < l.length → plZ (L.word n) (l.getD i 0) = bitN n (l.length - 1 - i) := by
      intro i hi
      by_cases hp : 0 ≤ l.getD i 0
      · exact h.own_bit n hi hp
      · rw [hn _ ((h.nts i hi).1 (by omega))]; unfold plZ; rw [if_neg hp]
    have hnum : numD (L.word n) l = n % 2 ^ l.length := by
      have := fold_bits n l.length (L.word n) l l.length rfl (Nat.le_refl _) hb
      rw [List.take_length, Nat.sub_self, Int.pow_zero, Int.ediv_one] at this
      exact this
    have hbad : ∀ i, i < l.length → badAt n l i = false := by
      intro i hi
      unfold badAt
      by_cases hp : l.getD i 0 < 0
      · rw [hn _ ((h.nts i hi).1 hp)]; simp
      · rw [decide_eq_false hp]; rfl
    have hany : (List.range l.length).any (badAt n l) = false := List.any_eq_false.2 fun i hi => by rw [hbad i (List.mem_range.1 hi)]; simp
    rw [L.number_numR h.ok (fun s => (h.top s).1), h.pl]
    unfold numR fitsD
    rw [hnum, hany]
    cases hs : L.sg
    · have r := range_un n hlen
      rw [Bool.eq_iff_iff]
      simp only [beq_iff_eq, Bool.false_and, Bool.not_false, Bool.and_true, decide_eq_true_eq, Bool.false_eq_true, if_false, Int.sub_zero]
      exact r
    · have r := range_sg n hlen
      have e31 : bitZ (L.word n) 31 = bitN n (l.length - 1) := by
        have h0 := hb 0 (by omega)
        rw [(h.top hs).2] at h0
        exact h0
      rw [Bool.eq_iff_iff, e31]
      simp only [beq_iff_eq, Bool.true_and, Bool.not_false, Bool.and_true, decide_eq_true_eq, if_true]
      simp only [beq_iff_eq] at r
      exact r
  · obtain ⟨j, hj⟩ : ∃ j, ¬ (j < L.nt → bitN n j = 0) := by
      simpa using hn
    have hj1 : j < L.nt := by
      by_cases c : j < L.nt
      · exact c
      · exact absurd (fun h => absurd h c) hj
    have hj2 : bitN n j = 1 := by
      rcases bitN_01 n j with b | b
      · exact absurd (fun _ => b) hj
      · exact b
    have hi : l.length - 1 - j < l.length := by omega
    have hij : l.length - 1 - (l.length - 1 - j) = j := by omega
    have hbad : badAt n l (l.length - 1 - j) = true := by
      unfold badAt
      rw [hij, hj2, decide_eq_true ((h.nts _ hi).2 (by rw [hij]; exact hj1))]; rfl
    rw [fitsD_bad hi hbad, beq_eq_false_iff_ne]
    intro e
    have z : n % 2 ^ L.nt = 0 := by
      rw [← e]; unfold Lay.number; exact Int.mul_emod_left _ _
    rw [zero_mod n _ j hj1 z] at hj2
    cases hj2
end Go.Proofs.YtakdhdaoklcidaaGreatDoor

namespace Go.Proofs.YtakdhdaoklcidaaGreatDoor
open Go.RowKit
set_option linter.unusedVariables false
set_option maxRecDepth 100000
structure Frm where
  mask : Nat
  rd : Bool
  a : Bool
  b : Bool
  imm : Nat
  csr : Bool
  ord : Bool
def frm : Nat → Frm
  | 0 => ⟨127, true, false, false, 4, false, false⟩
  | 1 => ⟨127, true, false, false, 5, false, false⟩
  | 2 => ⟨28799, true, true, false, 1, false, false⟩
  | 3 => ⟨28799, false, true, true, 3, false, false⟩
  | 4 => ⟨28799, false, true, true, 2, false, false⟩
  | 5 => ⟨4227887231, true, true, false, 6, false, false⟩
  | 6 => ⟨4261441663, true, true, false, 7, false, false⟩
  | 7 => ⟨4261441663, true, true, true, 0, false, false⟩
  | 8 => ⟨4193284223, true, true, false, 0, false, true⟩
  | 9 => ⟨4160778367, true, true, true, 0, false, true⟩
  | 10 => ⟨4294967295, false, false, false, 0, false, false⟩
  | 11 => ⟨4261445631, false, true, true, 0, false, false⟩
  | 12 => ⟨28799, true, true, false, 0, true, false⟩
  | 13 => ⟨28799, true, false, false, 9, true, false⟩
  | 14 => ⟨4293947519, true, true, false, 0, false, false⟩
  | _ => ⟨0, false, false, false, 0, false, false⟩
def tabL : List (Nat × Nat) := [(0, 15), (55, 0), (23, 0), (111, 1), (103, 2), (99, 3), (4195, 3), (16483, 3), (20579, 3), (24675, 3), (28771, 3), (3, 2), (4099, 2), (8195, 2), (12291, 2), (16387, 2), (20483, 2), (24579, 2), (35, 4), (4131, 4), (8227, 4), (12323, 4), (19, 2), (8211, 2), (12307, 2), (16403, 2), (24595, 2), (28691, 2), (4115, 5), (20499, 5), (1073762323, 5), (27, 2), (4123, 6), (20507, 6), (1073762331, 6), (51, 7), (1073741875, 7), (4147, 7), (8243, 7), (12339, 7), (16435, 7), (20531, 7), (1073762355, 7), (24627, 7), (28723, 7), (59, 7), (1073741883, 7), (4155, 7), (20539, 7), (1073762363, 7), (33554483, 7), (33558579, 7), (33562675, 7), (33566771, 7), (33570867, 7), (33574963, 7), (33579059, 7), (33583155, 7), (33554491, 7), (33570875, 7), (33574971, 7), (33579067, 7), (33583163, 7), (268443695, 8), (402661423, 9), (134225967, 9), (8239, 9), (536879151, 9), (1610620975, 9), (1073750063, 9), (2147491887, 9), (2684362799, 9), (3221233711, 9), (3758104623, 9), (268447791, 8), (402665519, 9), (134230063, 9), (12335, 9), (536883247, 9), (1610625071, 9), (1073754159, 9), (2147495983, 9), (2684366895, 9), (3221237807, 9), (3758108719, 9), (15, 2), (4111, 2), (115, 10), (1048691, 10), (270532723, 10), (807403635, 10), (273678451, 10), (301990003, 11), (570425459, 11), (1644167283, 11), (4211, 12), (8307, 12), (12403, 12), (20595, 13), (24691, 13), (28787, 13), (1610629235, 14), (1611677811, 14), (1677738099, 14), (1678786675, 14), (1680883827, 14), (1744846963, 14), (1745895539, 14), (1747992691, 14), (1811955827, 14), (1644183667, 11), (1711292531, 11), (1778401395, 11), (1845510259, 11)]
def matT (op : Nat) : Nat := (tabL.getD op (0, 15)).1
def frmT (op : Nat) : Nat := (tabL.getD op (0, 15)).2
def fT (op : Nat) : Frm := frm (frmT op)
def mskT (op : Nat) : Nat := (fT op).mask
def nameL : List (List UInt8) := [[], [108, 117, 105], [97, 117, 105, 112, 99], [106, 97, 108], [106, 97, 108, 114], [98, 101, 113], [98, 110, 101], [98, 108, 116], [98, 103, 101], [98, 108, 116, 117], [98, 103, 101, 117], [108, 98], [108, 104], [108, 119], [108, 100], [108, 98, 117], [108, 104, 117], [108, 119, 117], [115, 98], [115, 104], [115, 119], [115, 100], [97, 100, 100, 105], [115, 108, 116, 105], [115, 108, 116, 105, 117], [120, 111, 114, 105], [111, 114, 105], [97, 110, 100, 105], [115, 108, 108, 105], [115, 114, 108, 105], [115, 114, 97, 105], [97, 100, 100, 105, 119], [115, 108, 108, 105, 119], [115, 114, 108, 105, 119], [115, 114, 97, 105, 119], [97, 100, 100], [115, 117, 98], [115, 108, 108], [115, 108, 116], [115, 108, 116, 117], [120, 111, 114], [115, 114, 108], [115, 114, 97], [111, 114], [97, 110, 100], [97, 100, 100, 119], [115, 117, 98, 119], [115, 108, 108, 119], [115, 114, 108, 119], [115, 114, 97, 119], [109, 117, 108], [109, 117, 108, 104], [109, 117, 108, 104, 115, 117], [109, 117, 108, 104, 117], [100, 105, 118], [100, 105, 118, 117], [114, 101, 109], [114, 101, 109, 117], [109, 117, 108, 119], [100, 105, 118, 119], [100, 105, 118, 117, 119], [114, 101, 109, 119], [114, 101, 109, 117, 119], [108, 114, 46, 119], [115, 99, 46, 119], [97, 109, 111, 115, 119, 97, 112, 46, 119], [97, 109, 111, 97, 100, 100, 46, 119], [97, 109, 111, 120, 111, 114, 46, 119], [97, 109, 111, 97, 110, 100, 46, 119], [97, 109, 111, 111, 114, 46, 119], [97, 109, 111, 109, 105, 110, 46, 119], [97, 109, 111, 109, 97, 120, 46, 119], [97, 109, 111, 109, 105, 110, 117, 46, 119], [97, 109, 111, 109, 97, 120, 117, 46, 119], [108, 114, 46, 100], [115, 99, 46, 100], [97, 109, 111, 115, 119, 97, 112, 46, 100], [97, 109, 111, 97, 100, 100, 46, 100], [97, 109, 111, 120, 111, 114, 46, 100], [97, 109, 111, 97, 110, 100, 46, 100], [97, 109, 111, 111, 114, 46, 100], [97, 109, 111, 109, 105, 110, 46, 100], [97, 109, 111, 109, 97, 120, 46, 100], [97, 109, 111, 109, 105, 110, 117, 46, 100], [97, 109, 111, 109, 97, 120, 117, 46, 100], [102, 101, 110, 99, 101], [102, 101, 110, 99, 101, 46, 105], [101, 99, 97, 108, 108], [101, 98, 114, 101, 97, 107], [115, 114, 101, 116], [109, 114, 101, 116], [119, 102, 105], [115, 102, 101, 110, 99, 101, 46, 118, 109, 97], [104, 102, 101, 110, 99, 101, 46, 118, 118, 109, 97], [104, 102, 101, 110, 99, 101, 46, 103, 118, 109, 97], [99, 115, 114, 114, 119], [99, 115, 114, 114, 115], [99, 115, 114, 114, 99], [99, 115, 114, 114, 119, 105], [99, 115, 114, 114, 115, 105], [99, 115, 114, 114, 99, 105], [104, 108, 118, 46, 98], [104, 108, 118, 46, 98, 117], [104, 108, 118, 46, 104], [104, 108, 118, 46, 104, 117], [104, 108, 118, 120, 46, 104, 117], [104, 108, 118, 46, 119], [104, 108, 118, 46, 119, 117], [104, 108, 118, 120, 46, 119, 117], [104, 108, 118, 46, 100], [104, 115, 118, 46, 98], [104, 115, 118, 46, 104], [104, 115, 118, 46, 119], [104, 115, 118, 46, 100]]
def nameT (op : Nat) : ByteArray := ⟨(nameL.getD op []).toArray⟩
theorem tab_sub : ∀ op, op < 114 → matT op &&& mskT op = matT op := by decide +kernel
theorem tab_form : ∀ op, op < 114 → 1 ≤ op → frmT op < 15 := by decide +kernel
end Go.Proofs.YtakdhdaoklcidaaGreatDoor

namespace Go.Proofs.YtakdhdaoklcidaaGreatDoor
open Go.RowKit
set_option linter.unusedVariables false
set_option maxRecDepth 100000
structure Ins where
  op : Int
  rd : Int
  a : Int
  b : Int
  imm : Int
  csr : Int
  aq : Bool
  rl : Bool
def isT (op : Nat) (x : Int) : Bool := bits .and .u32 x (mskT op) == (matT op : Int)
def says (f : Frm) (op x : Int) : Ins :=
  ⟨op, if f.rd then fldZ x 11 7 else 0, if f.a then fldZ x 19 15 else 0, if f.b then fldZ x 24 20 else 0, (formL f.imm).number x, if f.csr then fldZ x 31 20 else 0, f.ord && fldZ x 26 26 == 1, f.ord && fldZ x 25 25 == 1⟩
def put5 (n : Int) (s : Nat) : Int := IntKind.u32.wrap (fldZ (IntKind.u32.wrap n) 4 0 * 2 ^ s)
def markZ (b : Bool) (s : Nat) : Int := if b then 2 ^ s else 0
def putF (k : Nat) (n : Int) : Int := if (formL k).number ((formL k).word n) == n then (formL k).word n else 0
def w1 (f : Frm) (i : Ins) : Int := if f.rd then bits .or .u32 0 (put5 i.rd 7) else 0
def w2 (f : Frm) (i : Ins) : Int := if f.a then bits .or .u32 (w1 f i) (put5 i.a 15) else w1 f i
def w3 (f : Frm) (i : Ins) : Int := if f.b then bits .or .u32 (w2 f i) (put5 i.b 20) else w2 f i
def w4 (f : Frm) (i : Ins) : Int := if f.ord then bits .or .u32 (w3 f i) (bits .or .u32 (markZ i.aq 26) (markZ i.rl 25)) else w3 f i
def w5 (f : Frm) (i : Ins) : Int := if f.csr then bits .or .u32 (w4 f i) (putF 8 i.csr) else w4 f i
def wF (f : Frm) (i : Ins) : Int := bits .or .u32 (w5 f i) (putF f.imm i.imm)
def wordI (m : Nat) (f : Frm) (i : Ins) : Int := bits .or .u32 m (wF f i)
theorem tb_zero (q : Nat) : tb 0 q = false := by unfold tb; rw [Int.zero_ediv]; rfl
theorem tb_nat (n q : Nat) : tb (n : Int) q = n.testBit q := by
  unfold tb
  rw [Nat.testBit_eq_decide_div_mod_eq, Bool.eq_iff_iff, beq_iff_eq, decide_eq_true_eq]
  have e : ((n : Int) / 2 ^ q % 2) = ((n / 2 ^ q % 2 : Nat) : Int) := by norm_cast
  rw [e]; omega
theorem put5_tb (n : Int) (s : Nat) {q : Nat} (hq : q < 32) : tb (put5 n s) q = (decide (s ≤ q ∧ q < s + 5) && tb n (q - s)) := by
  unfold put5
  rw [tb_wrap hq, tb_mul, fldZ_tb _ _ _ (by omega)]
  by_cases a : s ≤ q
  · rw [decide_eq_true a, Bool.true_and, show (0 : Int).toNat + (q - s) = q - s by simp, tb_wrap (by omega)]
    congr 1
    rw [decide_eq_decide]; omega
  · rw [decide_eq_false a, decide_eq_false (show ¬ (s ≤ q ∧ q < s + 5) by omega)]; rfl
theorem markZ_tb (b : Bool) (s q : Nat) : tb (markZ b s) q = (decide (q = s) && b) := by
  unfold markZ
  cases b
  · simp [tb_zero]
  · have h := tb_pow (p := (s : Int)) (by omega) q
    rw [show ((s : Int)).toNat = s by omega] at h
    rw [if_pos rfl, h, Bool.and_true, decide_eq_decide]; omega
theorem word0 (n : Int) : (formL 0).word n = 0 := rfl
theorem number0 (x : Int) : (formL 0).number x = 0 := by
  unfold Lay.number
  show (if (formL 0).neg x then (-1 : Int) else 0) * 2 ^ 0 = 0
  have : (formL 0).neg x = false := rfl
  rw [this]; rfl
theorem putF_own (k : Nat) (hk : k ≤ 9) (n : Int) {q : Nat} (hq : q < 32) (h : tb (putF k n) q = true) : tb ((formL k).word (-1)) q = true := by
  unfold putF at h
  split at h
  · by_cases h0 : k = 0
    · rw [h0, word0, tb_zero] at h; cases h
    · have e : tb (bits .andNot .u32 ((formL k).word n) ((formL k).word (-1))) q = tb 0 q := by rw [(formL k).word_mask (formL_ok k (by omega)) n]
      rw [tb_andNot hq, tb_zero, h] at e
      cases hm : tb ((formL k).word (-1)) q
      · rw [hm] at e; cases e
      · rfl
  · rw [tb_zero] at h; cases h
def own (f : Frm) (q : Nat) : List Bool :=
  [f.mask.testBit q, f.rd && decide (7 ≤ q ∧ q < 12), f.a && decide (15 ≤ q ∧ q < 20), f.b && decide (20 ≤ q ∧ q < 25), f.ord && decide (q = 26), f.ord && decide (q = 25), f.csr && tb ((formL 8).word (-1)) q, tb ((formL f.imm).word (-1)) q]
theorem own_one : ∀ k, k < 15 → ∀ q, q < 32 → ((own (frm k) q).countP id) = 1 := by decide +kernel
theorem frm_imm : ∀ k, k < 15 → (frm k).imm ≤ 9 := by decide +kernel
def vals (m : Nat) (i : Ins) (k q : Nat) : List Bool :=
  [tb (m : Int) q, tb i.rd (q - 7), tb i.a (q - 15), tb i.b (q - 20), i.aq, i.rl, tb (putF 8 i.csr) q, tb (putF k i.imm) q]
def parts (m : Nat) (f : Frm) (i : Ins) (q : Nat) : List (Bool × Bool) := (own f q).zip (vals m i f.imm q)
theorem tb_if {f : Bool} {x y : Int} {q : Nat} (hq : q < 32) : tb (if f then bits .or .u32 x y else x) q = (tb x q || (f && tb y q)) := by
  cases f
  · simp
  · rw [if_pos rfl, tb_or hq, Bool.true_and]
theorem word_tb (m : Nat) (f : Frm) (hi : f.imm ≤ 9) (hm : ∀ q, q < 32 → m.testBit q = true → f.mask.testBit q = true) (i : Ins) {q : Nat} (hq : q < 32) :
    tb (wordI m f i) q = (parts m f i q).any fun p => p.1 && p.2 := by
  have e0 : tb (m : Int) q = (f.mask.testBit q && tb (m : Int) q) := by
    rw [tb_nat]
    cases h : m.testBit q
    · simp
    · rw [hm q hq h]; rfl
  have e6 : tb (putF 8 i.csr) q = (tb ((formL 8).word (-1)) q && tb (putF 8 i.csr) q) := by
    cases h : tb (putF 8 i.csr) q
    · simp
    · rw [putF_own 8 (by omega) _ hq h]; rfl
  have e7 : tb (putF f.imm i.imm) q = (tb ((formL f.imm).word (-1)) q && tb (putF f.imm i.imm) q) := by
    cases h : tb (putF f.imm i.imm) q
    · simp
    · rw [putF_own f.imm hi _ hq h]; rfl
  unfold wordI wF w5 w4 w3 w2 w1
  rw [tb_or hq, tb_or hq, tb_if hq, tb_if hq, tb_or hq, tb_if hq, tb_if hq, tb_if hq, tb_zero, put5_tb _ _ hq, put5_tb _ _ hq, put5_tb _ _ hq, markZ_tb, markZ_tb]
  unfold parts own vals
  simp only [List.zip_cons_cons, List.zip_nil_left, List.any_cons, List.any_nil, Bool.or_false, Bool.false_or, Bool.and_assoc]
  rw [← e0, ← e6, ← e7]
  simp only [Bool.or_assoc, Bool.and_or_distrib_left]
theorem any_one (l : List (Bool × Bool)) (h : l.countP (·.1) = 1) (p : Bool × Bool) (hp : p ∈ l) (ho : p.1 = true) : (l.any fun p => p.1 && p.2) = p.2 := by
  rw [List.countP_eq_length_filter] at h
  obtain ⟨a, ha⟩ := List.length_eq_one_iff.1 h
  have hp' : p ∈ l.filter (·.1) := List.mem_filter.2 ⟨hp, ho⟩
  rw [ha, List.mem_singleton] at hp'
  rw [Bool.eq_iff_iff, List.any_eq_true]
  constructor
  · rintro ⟨r, hr, h⟩
    rw [Bool.and_eq_true] at h
    have hr' : r ∈ l.filter (·.1) := List.mem_filter.2 ⟨hr, h.1⟩
    rw [ha, List.mem_singleton] at hr'
    rw [hp', ← hr']; exact h.2
  · intro h2; exact ⟨p, hp, by rw [ho, h2]; rfl⟩
structure FOk (f : Frm) : Prop where
  one : ∀ q, q < 32 → (own f q).countP id = 1
  imm : f.imm ≤ 9
theorem frm_ok {k : Nat} (h : k < 15) : FOk (frm k) := ⟨own_one k h, frm_imm k h⟩
theorem fT_ok {op : Nat} (h1 : 1 ≤ op) (h2 : op < 114) : FOk (fT op) := frm_ok (tab_form op h2 h1)
theorem parts_one {f : Frm} (hf : FOk f) (m : Nat) (i : Ins) {q : Nat} (hq : q < 32) : (parts m f i q).countP (·.1) = 1 := by
  have e : (parts m f i q).map (·.1) = own f q := rfl
  rw [← hf.one q hq, ← e, List.countP_map]; rfl
def Sub (m : Nat) (f : Frm) : Prop := ∀ q, q < 32 → m.testBit q = true → f.mask.testBit q = true
theorem pick {m : Nat} {f : Frm} (hf : FOk f) (hm : Sub m f) (i : Ins) {q : Nat} (hq : q < 32) (j : Nat) (hj : j < 8) (ho : (own f q).getD j false = true) :
    tb (wordI m f i) q = (vals m i f.imm q).getD j false := by
  rw [word_tb m f hf.imm hm i hq]
  refine any_one _ (parts_one hf m i hq) ((own f q).getD j false, (vals m i f.imm q).getD j false) ?_ ho
  unfold parts own vals
  match j, hj with
  | 0, _ => simp
  | 1, _ => simp
  | 2, _ => simp
  | 3, _ => simp
  | 4, _ => simp
  | 5, _ => simp
  | 6, _ => simp
  | 7, _ => simp
theorem sub_T {op : Nat} (h2 : op < 114) : Sub (matT op) (fT op) := by
  intro q _ h
  have e : (matT op &&& mskT op).testBit q = (matT op).testBit q := by rw [tab_sub op h2]
  rw [Nat.testBit_and, h, Bool.true_and] at e
  exact e
theorem bit_at (x : Int) (s : Nat) (h : s < 32) : (fldZ x s s == 1) = tb x s := by
  rw [fldZ_eq (by omega), show ((s : Int) - s + 1).toNat = 1 by omega, show ((s : Int)).toNat = s by omega, show (2 : Int) ^ 1 = 2 from rfl]; rfl
theorem csr_number (x : Int) : fldZ x 31 20 = (formL 8).number x := by
  rw [Lay.number]
  show _ = ((if (formL 8).neg x then (-1 : Int) else 0) * 2 ^ (formL 8).len 0 + fldZ x 31 20) * 2 ^ 0
  have : (formL 8).neg x = false := rfl
  rw [this, if_neg (by simp), Int.zero_mul, Int.zero_add, show (2 : Int) ^ 0 = 1 from rfl, Int.mul_one]
end Go.Proofs.YtakdhdaoklcidaaGreatDoor

namespace Go.Proofs.YtakdhdaoklcidaaGreatDoor
open Go.RowKit
set_option linter.unusedVariables false
set_option maxRecDepth 100000
theorem fld5 {W n : Int} {hi lo : Int} (h0 : 0 ≤ lo) (h1 : hi = lo + 4) (h2 : hi ≤ 31) (h : ∀ q : Nat, q < 5 → tb W (lo.toNat + q) = tb n q) : fldZ W hi lo = n % 32 := by
  refine ext32 (fldZ_in32 _ _ _) (by unfold In32; omega) fun q hq => ?_
  rw [fldZ_tb _ _ _ (by omega), show (32 : Int) = 2 ^ 5 from rfl, tb_mod]
  by_cases c : q < 5
  · rw [decide_eq_true (by omega), decide_eq_true c, h q c]
  · rw [decide_eq_false (by omega), decide_eq_false c]; rfl
theorem num_zero : ∀ k, k ≤ 9 → (formL k).number 0 = 0 ∧ (formL k).word 0 = 0 := by decide +kernel
theorem number_own {k : Nat} (hk : k ≤ 9) {x y : Int} (h : ∀ q, q < 32 → tb ((formL k).word (-1)) q = true → tb x q = tb y q) : (formL k).number x = (formL k).number y := by
  by_cases h0 : k = 0
  · rw [h0, number0, number0]
  · have hL := formL_ok k (by omega)
    refine (formL k).number_congr hL fun j q hj h1 h2 => h q ?_ ((formL k).mask_on hL hj h1 h2)
    have := hL.in31 j hj
    omega
theorem says_word {op : Nat} (h1 : 1 ≤ op) (h2 : op < 114) (n : Int) (i : Ins) :
    says (fT op) n (wordI (matT op) (fT op) i) = ⟨n, if (fT op).rd then i.rd % 32 else 0, if (fT op).a then i.a % 32 else 0, if (fT op).b then i.b % 32 else 0, (formL (fT op).imm).number (putF (fT op).imm i.imm), if (fT op).csr then (formL 8).number (putF 8 i.csr) else 0, (fT op).ord && i.aq, (fT op).ord && i.rl⟩ := by
  have hf := fT_ok h1 h2
  have P := fun (q : Nat) (hq : q < 32) (j : Nat) (hj : j < 8) ho => pick hf (sub_T h2) i hq j hj ho
  have e1 : (if (fT op).rd then fldZ (wordI (matT op) (fT op) i) 11 7 else 0) = if (fT op).rd then i.rd % 32 else 0 := by
    cases h : (fT op).rd
    · rfl
    · rw [if_pos rfl, if_pos rfl]
      refine fld5 (by omega) (by omega) (by omega) fun q hq => ?_
      rw [P ((7 : Int).toNat + q) (by omega) 1 (by omega) (by show ((fT op).rd && decide (7 ≤ (7 : Int).toNat + q ∧ (7 : Int).toNat + q < 12)) = true; rw [h, decide_eq_true (by omega)]; rfl)]
      show tb i.rd ((7 : Int).toNat + q - 7) = _
      congr 1; omega
  have e2 : (if (fT op).a then fldZ (wordI (matT op) (fT op) i) 19 15 else 0) = if (fT op).a then i.a % 32 else 0 := by
    cases h : (fT op).a
    · rfl
    · rw [if_pos rfl, if_pos rfl]
      refine fld5 (by omega) (by omega) (by omega) fun q hq => ?_
      rw [P ((15 : Int).toNat + q) (by omega) 2 (by omega) (by show ((fT op).a && decide (15 ≤ (15 : Int).toNat + q ∧ (15 : Int).toNat + q < 20)) = true; rw [h, decide_eq_true (by omega)]; rfl)]
      show tb i.a ((15 : Int).toNat + q - 15) = _
      congr 1; omega
  have e3 : (if (fT op).b then fldZ (wordI (matT op) (fT op) i) 24 20 else 0) = if (fT op).b then i.b % 32 else 0 := by
    cases h : (fT op).b
    · rfl
    · rw [if_pos rfl, if_pos rfl]
      refine fld5 (by omega) (by omega) (by omega) fun q hq => ?_
      rw [P ((20 : Int).toNat + q) (by omega) 3 (by omega) (by show ((fT op).b && decide (20 ≤ (20 : Int).toNat + q ∧ (20 : Int).toNat + q < 25)) = true; rw [h, decide_eq_true (by omega)]; rfl)]
      show tb i.b ((20 : Int).toNat + q - 20) = _
      congr 1; omega
  have e4 : (formL (fT op).imm).number (wordI (matT op) (fT op) i) = (formL (fT op).imm).number (putF (fT op).imm i.imm) :=
    number_own hf.imm fun q hq ho => P q hq 7 (by omega) ho
  have e5 : (if (fT op).csr then fldZ (wordI (matT op) (fT op) i) 31 20 else 0) = if (fT op).csr then (formL 8).number (putF 8 i.csr) else 0 := by
    cases h : (fT op).csr
    · rfl
    · rw [if_pos rfl, if_pos rfl, csr_number]
      exact number_own (by omega) fun q hq ho => P q hq 6 (by omega) (by show ((fT op).csr && tb ((formL 8).word (-1)) q) = true; rw [h, ho]; rfl)
  have e6 : ((fT op).ord && fldZ (wordI (matT op) (fT op) i) 26 26 == 1) = ((fT op).ord && i.aq) := by
    cases h : (fT op).ord
    · rfl
    · rw [Bool.true_and, Bool.true_and]
      exact (bit_at _ 26 (by omega)).trans (P 26 (by omega) 4 (by omega) (by show ((fT op).ord && decide (26 = 26)) = true; rw [h]; rfl))
  have e7 : ((fT op).ord && fldZ (wordI (matT op) (fT op) i) 25 25 == 1) = ((fT op).ord && i.rl) := by
    cases h : (fT op).ord
    · rfl
    · rw [Bool.true_and, Bool.true_and]
      exact (bit_at _ 25 (by omega)).trans (P 25 (by omega) 5 (by omega) (by show ((fT op).ord && decide (25 = 25)) = true; rw [h]; rfl))
  unfold says
  rw [e1, e2, e3, e4, e5, e6, e7]
structure Right (f : Frm) (i : Ins) : Prop where
  rd : 0 ≤ i.rd ∧ i.rd ≤ 31
  a : 0 ≤ i.a ∧ i.a ≤ 31
  b : 0 ≤ i.b ∧ i.b ≤ 31
  csr : 0 ≤ i.csr ∧ i.csr ≤ 4095
  nrd : f.rd = false → i.rd = 0
  na : f.a = false → i.a = 0
  nb : f.b = false → i.b = 0
  ncsr : f.csr = false → i.csr = 0
  nord : f.ord = false → i.aq = false ∧ i.rl = false
  imm : (formL f.imm).number ((formL f.imm).word i.imm) = i.imm
theorem fit_csr (n : Int) : ((formL 8).number ((formL 8).word n) = n) ↔ (0 ≤ n ∧ n ≤ 4095) := by
  have h := (formOk 8 (by omega)).fits (form_len 8 (by omega)) n
  rw [form_sg 8 (by omega)] at h
  have hb : (List.range (formP 8).length).any (badAt n (formP 8)) = false := by
    rw [List.any_eq_false]
    intro j hj
    have c : ∀ j, j < 12 → decide ((formP 8).getD j 0 < 0) = false := by decide +kernel
    have hl : (formP 8).length = 12 := by decide
    unfold badAt
    rw [c j (by have := List.mem_range.1 hj; omega)]; simp
  have hd : fitsD n (decide (8 ≤ 5)) (formP 8) = decide (0 ≤ n ∧ n ≤ 4095) := by
    unfold fitsD
    rw [hb, show (decide (8 ≤ 5)) = false from rfl, show (formP 8).length = 12 by decide]
    simp only [Bool.not_false, Bool.and_true, Bool.false_eq_true, if_false]
    rw [decide_eq_decide, show (2 : Int) ^ 12 = 4096 from rfl]; omega
  rw [hd] at h
  constructor
  · intro e
    rw [beq_iff_eq.2 e] at h
    exact of_decide_eq_true h.symm
  · intro e
    rw [decide_eq_true e] at h
    exact beq_iff_eq.1 h
theorem putF_fit {k : Nat} (hk : k ≤ 9) {n : Int} : ((formL k).number (putF k n) = n) ↔ ((formL k).number ((formL k).word n) = n) := by
  unfold putF
  cases h : ((formL k).number ((formL k).word n) == n)
  · simp only [Bool.false_eq_true, if_false]
    rw [(num_zero k hk).1]
    have h' := beq_eq_false_iff_ne.1 h
    constructor
    · intro e; subst e; rw [(num_zero k hk).2, (num_zero k hk).1]
    · intro e; exact absurd e h'
  · simp
theorem right_iff {op : Nat} (h1 : 1 ≤ op) (h2 : op < 114) (i : Ins) : says (fT op) i.op (wordI (matT op) (fT op) i) = i ↔ Right (fT op) i := by
  have hi := (fT_ok h1 h2).imm
  rw [says_word h1 h2]
  obtain ⟨op', rd, a, b, imm, csr, aq, rl⟩ := i
  simp only [Ins.mk.injEq, true_and]
  generalize fT op = f at *
  constructor
  · rintro ⟨e1, e2, e3, e4, e5, e6, e7⟩
    have c : 0 ≤ csr ∧ csr ≤ 4095 := by
      cases h : f.csr
      · rw [h] at e5; simp at e5; omega
      · rw [h, if_pos rfl] at e5
        exact (fit_csr csr).1 ((putF_fit (by omega)).1 e5)
    refine ⟨?_, ?_, ?_, c, ?_, ?_, ?_, ?_, ?_, (putF_fit hi).1 e4⟩
    · show 0 ≤ rd ∧ rd ≤ 31; split at e1 <;> omega
    · show 0 ≤ a ∧ a ≤ 31; split at e2 <;> omega
    · show 0 ≤ b ∧ b ≤ 31; split at e3 <;> omega
    · intro h; rw [h] at e1; simp at e1; exact e1.symm
    · intro h; rw [h] at e2; simp at e2; exact e2.symm
    · intro h; rw [h] at e3; simp at e3; exact e3.symm
    · intro h; rw [h] at e5; simp at e5; exact e5.symm
    · intro h; rw [h] at e6 e7; exact ⟨e6.symm, e7.symm⟩
  · rintro ⟨r1, r2, r3, r4, r5, r6, r7, r8, r9, r10⟩
    simp only at r1 r2 r3 r4 r5 r6 r7 r8 r9 r10
    refine ⟨?_, ?_, ?_, (putF_fit hi).2 r10, ?_, ?_, ?_⟩
    · cases h : f.rd
      · rw [r5 h]; rfl
      · rw [if_pos rfl]; omega
    · cases h : f.a
      · rw [r6 h]; rfl
      · rw [if_pos rfl]; omega
    · cases h : f.b
      · rw [r7 h]; rfl
      · rw [if_pos rfl]; omega
    · cases h : f.csr
      · rw [r8 h]; rfl
      · rw [if_pos rfl]; exact (putF_fit (by omega)).2 ((fit_csr csr).2 r4)
    · cases h : f.ord
      · rw [(r9 h).1]; rfl
      · rfl
    · cases h : f.ord
      · rw [(r9 h).2]; rfl
      · rfl
def wD (m : Nat) (k : Nat) (i : Ins) : Int :=
  bits .or .u32 (bits .or .u32 (bits .or .u32 (bits .or .u32 (bits .or .u32 (bits .or .u32 (bits .or .u32 m (i.rd * 128)) (i.a * 32768)) (i.b * 1048576)) (i.csr * 1048576)) (markZ i.aq 26)) (markZ i.rl 25)) (putF k i.imm)
theorem or_zero32 {x : Int} (hx : In32 x) : bits .or .u32 x 0 = x :=
  ext32 (or_in _ _) hx fun q hq => by rw [tb_or hq, tb_zero, Bool.or_false]
theorem tb_hi {n : Int} {s : Nat} (h0 : 0 ≤ n) (h1 : n < 2 ^ s) {q : Nat} (hq : s ≤ q) : tb n q = false := by
  unfold tb
  have h2 : (2 : Int) ^ s ≤ 2 ^ q := by exact_mod_cast Nat.pow_le_pow_right (by omega) hq
  rw [Int.ediv_eq_zero_of_lt h0 (by omega)]; rfl
theorem csr_word {n : Int} (h0 : 0 ≤ n) (h1 : n ≤ 4095) {q : Nat} (hq : q < 32) : tb (putF 8 n) q = (decide (20 ≤ q) && tb n (q - 20)) := by
  have e : putF 8 n = (formL 8).word n := by unfold putF; rw [beq_iff_eq.2 ((fit_csr n).2 ⟨h0, h1⟩)]; rfl
  have hs : ∀ q, q < 32 → (formL 8).src q = if 20 ≤ q then [q - 20] else [] := by decide +kernel
  rw [e, (formL 8).word_src (formL_ok 8 (by omega)) n hq, hs q hq]
  by_cases c : 20 ≤ q
  · rw [if_pos c, decide_eq_true c]; simp
  · rw [if_neg c, decide_eq_false c]; rfl
theorem put5_shl {n : Int} (h0 : 0 ≤ n) (h1 : n ≤ 31) (s : Nat) {q : Nat} (hq : q < 32) : tb (put5 n s) q = (decide (s ≤ q) && tb n (q - s)) := by
  rw [put5_tb _ _ hq]
  by_cases c : s ≤ q ∧ q < s + 5
  · rw [decide_eq_true c, decide_eq_true c.1]
  · rw [decide_eq_false c, Bool.false_and]
    by_cases d : s ≤ q
    · rw [tb_hi (s := 5) h0 (by omega) (by omega)]; simp
    · rw [decide_eq_false d]; rfl
theorem wD_word {op : Nat} (i : Ins) (h : Right (fT op) i) : wD (matT op) (fT op).imm i = wordI (matT op) (fT op) i := by
  refine ext32 (or_in _ _) (or_in _ _) fun q hq => ?_
  unfold wD wordI wF w5 w4 w3 w2 w1
  rw [tb_or hq, tb_or hq, tb_or hq, tb_or hq, tb_or hq, tb_or hq, tb_or hq, tb_or hq, tb_or hq, tb_if hq, tb_if hq, tb_or hq, tb_if hq, tb_if hq, tb_if hq, tb_zero]
  rw [put5_shl h.rd.1 h.rd.2 7 hq, put5_shl h.a.1 h.a.2 15 hq, put5_shl h.b.1 h.b.2 20 hq, csr_word h.csr.1 h.csr.2 hq]
  rw [show (128 : Int) = 2 ^ 7 from rfl, show (32768 : Int) = 2 ^ 15 from rfl, show (1048576 : Int) = 2 ^ 20 from rfl, tb_mul, tb_mul, tb_mul, tb_mul]
  have z1 : ((fT op).rd && (decide (7 ≤ q) && tb i.rd (q - 7))) = (decide (7 ≤ q) && tb i.rd (q - 7)) := by
    cases c : (fT op).rd
    · rw [h.nrd c, tb_zero]; simp
    · rfl
  have z2 : ((fT op).a && (decide (15 ≤ q) && tb i.a (q - 15))) = (decide (15 ≤ q) && tb i.a (q - 15)) := by
    cases c : (fT op).a
    · rw [h.na c, tb_zero]; simp
    · rfl
  have z3 : ((fT op).b && (decide (20 ≤ q) && tb i.b (q - 20))) = (decide (20 ≤ q) && tb i.b (q - 20)) := by
    cases c : (fT op).b
    · rw [h.nb c, tb_zero]; simp
    · rfl
  have z4 : ((fT op).csr && (decide (20 ≤ q) && tb i.csr (q - 20))) = (decide (20 ≤ q) && tb i.csr (q - 20)) := by
    cases c : (fT op).csr
    · rw [h.ncsr c, tb_zero]; simp
    · rfl
  have z5 : ((fT op).ord && (tb (markZ i.aq 26) q || tb (markZ i.rl 25) q)) = (tb (markZ i.aq 26) q || tb (markZ i.rl 25) q) := by
    cases c : (fT op).ord
    · rw [(h.nord c).1, (h.nord c).2, markZ_tb, markZ_tb]; simp
    · rfl
  rw [z1, z2, z3, z4, z5]
  simp only [Bool.false_or, Bool.or_assoc]
  generalize tb (matT op : Int) q = b0
  generalize (decide (7 ≤ q) && tb i.rd (q - 7)) = b1
  generalize (decide (15 ≤ q) && tb i.a (q - 15)) = b2
  generalize (decide (20 ≤ q) && tb i.b (q - 20)) = b3
  generalize (decide (20 ≤ q) && tb i.csr (q - 20)) = b4
  generalize tb (markZ i.aq 26) q = b5
  generalize tb (markZ i.rl 25) q = b6
  generalize tb (putF (fT op).imm i.imm) q = b7
  revert b0 b1 b2 b3 b4 b5 b6 b7
  decide
end Go.Proofs.YtakdhdaoklcidaaGreatDoor

namespace Go.Proofs.YtakdhdaoklcidaaGreatDoor
open Go.RowKit
set_option linter.unusedVariables false
set_option maxRecDepth 100000
def decK (x : Int) : Nat := ((List.range 114).find? fun k => decide (1 ≤ k) && isT k x).getD 0
def insZ : Ins := ⟨0, 0, 0, 0, 0, 0, false, false⟩
def decI (x : Int) : Ins := if decK x = 0 then insZ else says (fT (decK x)) (decK x) x
def decB (x : Int) : Bool := decide (¬ decK x = 0)
def eqI (u v : Ins) : Bool := (u.op == v.op) && (u.rd == v.rd) && (u.a == v.a) && (u.b == v.b) && (u.imm == v.imm) && (u.csr == v.csr) && (u.aq == v.aq) && (u.rl == v.rl)
theorem eqI_iff (u v : Ins) : eqI u v = true ↔ u = v := by
  obtain ⟨a, b, c, d, e, f, g, h⟩ := u
  obtain ⟨a', b', c', d', e', f', g', h'⟩ := v
  unfold eqI
  simp only [Bool.and_eq_true, beq_iff_eq, Ins.mk.injEq]
  constructor
  · rintro ⟨⟨⟨⟨⟨⟨⟨h1, h2⟩, h3⟩, h4⟩, h5⟩, h6⟩, h7⟩, h8⟩; exact ⟨h1, h2, h3, h4, h5, h6, h7, h8⟩
  · rintro ⟨h1, h2, h3, h4, h5, h6, h7, h8⟩; exact ⟨⟨⟨⟨⟨⟨⟨h1, h2⟩, h3⟩, h4⟩, h5⟩, h6⟩, h7⟩, h8⟩
def RightT (k : Nat) (i : Ins) : Prop := 1 ≤ k ∧ k ≤ 113 ∧ i.op = k ∧ Right (fT k) i
def rightB (i : Ins) : Bool := decide (1 ≤ i.op ∧ i.op ≤ 113) && eqI (says (fT i.op.toNat) i.op (wordI (matT i.op.toNat) (fT i.op.toNat) i)) i
def encW (i : Ins) : Int := if rightB i then wordI (matT i.op.toNat) (fT i.op.toNat) i else 0
def encE (i : Ins) : Int := if rightB i then 0 else 80
theorem rightB_of {k : Nat} {i : Ins} (h : RightT k i) : rightB i = true ∧ i.op.toNat = k := by
  obtain ⟨h1, h2, h3, h4⟩ := h
  have e : i.op.toNat = k := by omega
  refine ⟨?_, e⟩
  unfold rightB
  rw [decide_eq_true (by omega), Bool.true_and, e]
  exact (eqI_iff _ _).2 ((right_iff h1 (by omega) i).2 h4)
theorem rightT_of {i : Ins} (h : rightB i = true) : RightT i.op.toNat i := by
  unfold rightB at h
  rw [Bool.and_eq_true, decide_eq_true_eq] at h
  exact ⟨by omega, by omega, by omega, (right_iff (by omega) (by omega) i).1 ((eqI_iff _ _).1 h.2)⟩
theorem name_apart : ∀ j, j < 114 → ∀ k, k < 114 → j < k → nameL.getD j [] ≠ nameL.getD k [] := by decide +kernel
end Go.Proofs.YtakdhdaoklcidaaGreatDoor

namespace Go.Proofs.YtakdhdaoklcidaaGreatDoor
open Go.Lib
set_option linter.unusedVariables false
set_option maxRecDepth 100000
def aqrlT : Bs := [46, 97, 113, 114, 108]
def aqT : Bs := [46, 97, 113]
def rlT : Bs := [46, 114, 108]
def markT (aq rl : Bool) : Bs := if aq then (if rl then aqrlT else aqT) else if rl then rlT else []
def unmark (n : Bs) : Bs × Bool × Bool :=
  if hasSuffix n aqrlT then (trimSuffix n aqrlT, true, true)
  else if hasSuffix n aqT then (trimSuffix n aqT, true, false)
  else (trimSuffix n rlT, false, hasSuffix n rlT)
def nameB (k : Nat) : Bs := nameL.getD k []
theorem unmark_name : ∀ k, k < 114 → ∀ aq rl, unmark (nameB k ++ markT aq rl) = (nameB k, aq, rl) := by decide +kernel
theorem name_inLine : ∀ k, k < 114 → (nameB k).all (fun b => isLow b || b == 46) = true := by decide +kernel
theorem name_ends : ∀ k, k < 114 → 1 ≤ k → (match (nameB k).head? with | some b => isLow b | none => false) = true ∧ ((match (nameB k).getLast? with | some b => isLow b | none => false) = true) := by decide +kernel
theorem mark_inLine (aq rl : Bool) : (markT aq rl).all (fun b => isLow b || b == 46) = true := by cases aq <;> cases rl <;> decide
def nmT (i : Ins) : Bs := nameB i.op.toNat ++ markT i.aq i.rl
def opsF (f : Frm) (i : Ins) : List Bs :=
  (if f.rd then [xr i.rd] else []) ++ ((if f.a then [xr i.a] else []) ++ ((if f.b then [xr i.b] else []) ++ ((if f.imm != 0 then [itoa i.imm] else []) ++ ((if f.csr then [itoa i.csr] else []) ++ []))))
def printT (i : Ins) : Bs := lineT (nmT i) (opsF (fT i.op.toNat) i)
def opL (l : Bs) : Nat := ((List.range 114).find? fun j => decide (1 ≤ j) && (nameB j == l)).getD 0
theorem opL_name {k : Nat} (h1 : 1 ≤ k) (h2 : k < 114) : opL (nameB k) = k := by
  unfold opL
  cases e : (List.range 114).find? fun j => decide (1 ≤ j) && (nameB j == nameB k) with
  | none =>
    have := (List.find?_eq_none.1 e) k (List.mem_range.2 (by omega))
    simp [h1] at this
  | some j =>
    have hj := List.find?_some e
    have hm := List.mem_range.1 (List.mem_of_find?_eq_some e)
    rw [Bool.and_eq_true, decide_eq_true_eq, beq_iff_eq] at hj
    show j = k
    rcases Nat.lt_trichotomy j k with h | h | h
    · exact absurd hj.2 (name_apart j hm k h2 h)
    · exact h
    · exact absurd hj.2.symm (name_apart k h2 j hm h)
theorem opL_is {l : Bs} (h : ¬ opL l = 0) : 1 ≤ opL l ∧ opL l ≤ 113 ∧ nameB (opL l) = l := by
  unfold opL at h ⊢
  cases e : (List.range 114).find? fun j => decide (1 ≤ j) && (nameB j == l) with
  | none => rw [e] at h; exact absurd rfl h
  | some j =>
    have hj := List.find?_some e
    have hm := List.mem_range.1 (List.mem_of_find?_eq_some e)
    rw [Bool.and_eq_true, decide_eq_true_eq, beq_iff_eq] at hj
    exact ⟨hj.1, by show j ≤ 113; omega, hj.2⟩
def guessP (line : Bs) : Ins :=
  let n := unmark (cut line [32]).1
  let f := fT (opL n.1)
  let r1 := rdOp f.rd regP (cut line [32]).2.1
  let r2 := rdOp f.a regP r1.2
  let r3 := rdOp f.b regP r2.2
  let r4 := rdOp (f.imm != 0) numP r3.2
  let r5 := rdOp f.csr numP r4.2
  ⟨opL n.1, r1.1, r2.1, r3.1, r4.1, r5.1, n.2.1, n.2.2⟩
theorem number_bd {k : Nat} (hk : 1 ≤ k ∧ k ≤ 9) (x : Int) : -17592186044416 ≤ (formL k).number x ∧ (formL k).number x ≤ 17592186044416 := by
  have hL := formL_ok k hk
  have a := hL.small x (formL k).ps.length (Nat.le_refl _)
  have p : (1 : Int) ≤ 2 ^ (formL k).nt ∧ (2 : Int) ^ (formL k).nt ≤ 4096 := by
    have h1 := two_pow_pos (formL k).nt
    have h2 : (2 : Int) ^ (formL k).nt ≤ 2 ^ 12 := by exact_mod_cast Nat.pow_le_pow_right (by omega) hL.nt12
    have h5 : (2 : Int) ^ 12 = 4096 := rfl
    omega
  unfold Lay.number
  generalize (2 : Int) ^ (formL k).nt = q at *
  generalize (formL k).num x (formL k).ps.length = m at *
  have h1 : m * q ≤ 4294967296 * q := Int.mul_le_mul_of_nonneg_right (by omega) (by omega)
  have h2 : (-4294967296) * q ≤ m * q := Int.mul_le_mul_of_nonneg_right (by omega) (by omega)
  omega
theorem right_imm {f : Frm} {i : Ins} (hf : f.imm ≤ 9) (h : Right f i) : (-17592186044416 ≤ i.imm ∧ i.imm ≤ 17592186044416) ∧ (f.imm = 0 → i.imm = 0) := by
  have e := h.imm
  by_cases h0 : f.imm = 0
  · rw [h0, number0] at e
    exact ⟨by omega, fun _ => e.symm⟩
  · refine ⟨?_, fun c => absurd c h0⟩
    have := number_bd (k := f.imm) (by omega) ((formL f.imm).word i.imm)
    rw [e] at this; exact this
theorem nmT_no {i : Ins} (hk : i.op.toNat < 114) {c : UInt8} (hc : (isLow c || c == 46) = false) : c ∉ nmT i := by
  unfold nmT
  intro h
  rcases List.mem_append.1 h with h | h
  · have := List.all_eq_true.1 (name_inLine _ hk) c h; rw [hc] at this; cases this
  · have := List.all_eq_true.1 (mark_inLine i.aq i.rl) c h; rw [hc] at this; cases this
theorem guessP_print {i : Ins} (hr : rightB i = true) : guessP (printT i) = i := by
  obtain ⟨h1, h2, h3, h4⟩ := rightT_of hr
  have hf := (fT_ok h1 (by omega)).imm
  have hI := right_imm hf h4
  have n44 : ∀ n, (44 : UInt8) ∉ itoa n := fun n => num_no (by decide)
  have x44 : ∀ n, (44 : UInt8) ∉ xr n := fun n => xr_no (by decide) (by decide)
  have hn := cut_name (nmT_no (i := i) (c := 32) (by omega) (by decide)) (opsF (fT i.op.toNat) i)
  have hu := unmark_name i.op.toNat (by omega) i.aq i.rl
  have ho := opL_name h1 (show i.op.toNat < 114 by omega)
  unfold guessP
  show (let n := unmark (cut (lineT (nmT i) (opsF (fT i.op.toNat) i)) [32]).1; _) = i
  unfold printT
  rw [hn.1, hn.2]
  unfold nmT
  rw [hu]
  simp only []
  rw [ho]
  unfold opsF
  rw [rdOp_at (x44 _)]
  simp only []
  rw [rdOp_at (x44 _)]
  simp only []
  rw [rdOp_at (x44 _)]
  simp only []
  rw [rdOp_at (n44 _)]
  simp only []
  rw [rdOp_at (n44 _)]
  simp only []
  have p1 := h4.rd; have p2 := h4.a; have p3 := h4.b; have p4 := h4.csr
  rw [regP_xr _ (by omega) (by omega), regP_xr _ (by omega) (by omega), regP_xr _ (by omega) (by omega), numP_itoa _ (by omega) (by omega), numP_itoa _ (by omega) (by omega)]
  have q1 := h4.nrd; have q2 := h4.na; have q3 := h4.nb; have q4 := h4.ncsr; have q5 := hI.2
  generalize hF : fT i.op.toNat = f at *
  obtain ⟨op, rd, a, b, imm, csr, aq, rl⟩ := i
  simp only at *
  congr 1
  · omega
  · cases e : f.rd
    · exact (q1 e).symm
    · rfl
  · cases e : f.a
    · exact (q2 e).symm
    · rfl
  · cases e : f.b
    · exact (q3 e).symm
    · rfl
  · by_cases e : f.imm = 0
    · rw [e]; exact (q5 e).symm
    · rw [if_pos (by simpa using e)]
  · cases e : f.csr
    · exact (q4 e).symm
    · rfl
theorem opsF_all (f : Frm) (i : Ins) : ∀ o ∈ opsF f i, (∀ b ∈ o, inLine b = true) ∧ ∃ b, o.getLast? = some b ∧ isNum b = true := by
  have hx : ∀ n, (∀ b ∈ xr n, inLine b = true) ∧ ∃ b, (xr n).getLast? = some b ∧ isNum b = true := fun n =>
    ⟨xr_inLine n, by
      obtain ⟨b, h1, h2⟩ := itoa_last n
      exact ⟨b, by rw [show xr n = [120] ++ itoa n from rfl, last_app _ (itoa_ne n)]; exact h1, h2⟩⟩
  have hn : ∀ n, (∀ b ∈ itoa n, inLine b = true) ∧ ∃ b, (itoa n).getLast? = some b ∧ isNum b = true := fun n => ⟨fun b hb => num_inLine (itoa_all n b hb), itoa_last n⟩
  intro o ho
  unfold opsF at ho
  simp only [List.mem_append] at ho
  have one : ∀ (c : Bool) (x : Bs), o ∈ (if c then [x] else []) → o = x := fun c x h => by cases c <;> simp at h; exact h
  rcases ho with h | h | h | h | h | h
  · rw [one _ _ h]; exact hx _
  · rw [one _ _ h]; exact hx _
  · rw [one _ _ h]; exact hx _
  · rw [one _ _ h]; exact hn _
  · rw [one _ _ h]; exact hn _
  · cases h
theorem nmT_inLine {i : Ins} (hk : i.op.toNat < 114) : ∀ b ∈ nmT i, inLine b = true := by
  intro b hb
  unfold inLine
  have : (isLow b || b == 46) = true := by
    unfold nmT at hb
    rcases List.mem_append.1 hb with h | h
    · exact List.all_eq_true.1 (name_inLine _ hk) b h
    · exact List.all_eq_true.1 (mark_inLine i.aq i.rl) b h
  rw [Bool.or_eq_true] at this
  rcases this with h | h <;> simp [h]
theorem printT_inLine {i : Ins} (hk : i.op.toNat < 114) : ∀ b ∈ printT i, inLine b = true := by
  intro b hb
  unfold printT lineT at hb
  rcases List.mem_append.1 hb with h | h
  · exact nmT_inLine hk b h
  · exact tailT_inLine _ (by decide) _ (fun o ho => (opsF_all _ i o ho).1) b h
theorem printT_first {i : Ins} (hr : rightB i = true) : ∃ b r, printT i = b :: r ∧ isLow b = true := by
  obtain ⟨h1, h2, h3, h4⟩ := rightT_of hr
  have := (name_ends i.op.toNat (by omega) h1).1
  cases e : nameB i.op.toNat with
  | nil => rw [e] at this; cases this
  | cons b r =>
    rw [e] at this
    exact ⟨b, r ++ markT i.aq i.rl ++ tailT [32] (opsF (fT i.op.toNat) i), by unfold printT lineT nmT; rw [e]; simp, this⟩
end Go.Proofs.YtakdhdaoklcidaaGreatDoor

namespace Go.Proofs.YtakdhdaoklcidaaGreatDoor
open Go.RowKit
set_option linter.unusedVariables false
set_option maxRecDepth 100000
abbrev str (l : Bs) : Value := .string ⟨l.toArray⟩
abbrev insV (i : Ins) : Value := .agg #[.int .i64 i.op, .int .i64 i.rd, .int .i64 i.a, .int .i64 i.b, .int .i64 i.imm, .int .i64 i.csr, .bool i.aq, .bool i.rl]
theorem marks_any (i : Ins) (w : World) : Calls Tryz.prog 26 #[insV i] w fun e w' => e = .returned (str (markT i.aq i.rl)) ∧ Below w.heap.size w w' := by
  obtain ⟨op, rd, a, b, imm, csr, aq, rl⟩ := i
  cases aq <;> cases rl
  all_goals
    go_enter Tryz.func26, Tryz.ntmps26
    go_wp2
    go_ret
    exact ⟨rfl, (Below.refl _ _).alloc (Nat.le_refl _) _⟩
theorem where_yes (s : ByteArray) (w : World) : Calls Tryz.prog 27 #[.bool true, .string s] w fun e w' => e = .returned (.string s) ∧ w = w' := by
  go_enter Tryz.func27, Tryz.ntmps27
  go_wp2
  go_ret
  exact ⟨rfl, rfl⟩
theorem where_no (s : ByteArray) (w : World) : Calls Tryz.prog 27 #[.bool false, .string s] w fun e w' => e = .returned (.string ⟨#[]⟩) ∧ w = w' := by
  go_enter Tryz.func27, Tryz.ntmps27
  go_wp2
  go_ret
  exact ⟨rfl, rfl⟩
def isLowZ (b : Int) : Bool := decide (97 ≤ b) && decide (b ≤ 122)
theorem isLetter_any (b : Int) (w : World) : Calls Tryz.prog 136 #[.int .u8 b] w fun e w' => e = .returned (.bool (isLowZ b)) ∧ w = w' := by
  unfold isLowZ
  by_cases h1 : 97 ≤ b <;> by_cases h2 : b ≤ 122
  all_goals
    go_enter Tryz.func136, Tryz.ntmps136
    go_wp2
    go_ret
    simp [h1, h2]
def jumpsZ (op : Int) : Bool := op == 3 || decide (5 ≤ op ∧ op ≤ 10)
theorem jumps_yes (op : Int) (h : jumpsZ op = true) (w : World) : Calls Tryz.prog 158 #[.int .i64 op] w fun e w' => e = .returned (.bool true) ∧ w = w' := by
  have h' : op = 3 ∨ op = 5 ∨ op = 6 ∨ op = 7 ∨ op = 8 ∨ op = 9 ∨ op = 10 := by unfold jumpsZ at h; simp at h; omega
  clear h
  rcases h' with rfl | rfl | rfl | rfl | rfl | rfl | rfl
  all_goals
    go_enter Tryz.func158, Tryz.ntmps158
    go_wp2
    go_ret
    exact ⟨rfl, rfl⟩
theorem jumps_no (op : Int) (h : jumpsZ op = false) (w : World) : Calls Tryz.prog 158 #[.int .i64 op] w fun e w' => e = .returned (.bool false) ∧ w = w' := by
  have h' : ¬ op = 3 ∧ ¬ op = 5 ∧ ¬ op = 6 ∧ ¬ op = 7 ∧ ¬ op = 8 ∧ ¬ op = 9 ∧ ¬ op = 10 := by unfold jumpsZ at h; simp at h; omega
  obtain ⟨a, b, c, d, e, f, g⟩ := h'
  have a1 : (op == 3) = false := by simpa using a
  have a2 : (op == 5) = false := by simpa using b
  have a3 : (op == 6) = false := by simpa using c
  have a4 : (op == 7) = false := by simpa using d
  have a5 : (op == 8) = false := by simpa using e
  have a6 : (op == 9) = false := by simpa using f
  have a7 : (op == 10) = false := by simpa using g
  clear h a b c d e f g
  go_enter Tryz.func158, Tryz.ntmps158
  go_wp2
  go_ret
  exact ⟨rfl, rfl⟩
end Go.Proofs.YtakdhdaoklcidaaGreatDoor

namespace Go.Proofs.YtakdhdaoklcidaaGreatDoor
open Go.RowKit
set_option linter.unusedVariables false
set_option maxRecDepth 100000
theorem ret_int {k : IntKind} {a b : Int} (h : a = b) : Ending.returned (.int k a) = .returned (.int k b) := by rw [h]
theorem ret_bool {a b : Bool} (h : a = b) : Ending.returned (.bool a) = .returned (.bool b) := by rw [h]
theorem ret_two {k : IntKind} {a b : Int} {v u : Value} (h : a = b) (h2 : v = u) : Ending.returned (.tuple #[.int k a, v]) = .returned (.tuple #[.int k b, u]) := by rw [h, h2]
theorem field_any (x hi lo : Int) (w : World) :
    Calls Tryz.prog 89 #[.int .u32 x, .int .i64 hi, .int .i64 lo] w fun e w' => e = .returned (.int .u32 (fldZ x hi lo)) ∧ w = w' := by
  by_cases h1 : lo < 0
  · have E := Lib.hid (fldZ_out (x := x) (hi := hi) (lo := lo) (by omega))
    go_enter Tryz.func89, Tryz.ntmps89
    go_wp2
    go_ret
    exact ⟨ret_int E.out.symm, rfl⟩
  by_cases h2 : hi < lo
  · have E := Lib.hid (fldZ_out (x := x) (hi := hi) (lo := lo) (by omega))
    go_enter Tryz.func89, Tryz.ntmps89
    go_wp2
    go_ret
    exact ⟨ret_int E.out.symm, rfl⟩
  by_cases h3 : 31 < hi
  · have E := Lib.hid (fldZ_out (x := x) (hi := hi) (lo := lo) (by omega))
    go_enter Tryz.func89, Tryz.ntmps89
    go_wp2
    go_ret
    exact ⟨ret_int E.out.symm, rfl⟩
  have E := Lib.hid (fldZ_in (x := x) (hi := hi) (lo := lo) (by omega) (by omega) (by omega))
  go_enter Tryz.func89, Tryz.ntmps89
  go_wp2
  go_ret
  exact ⟨ret_int E.out, rfl⟩
theorem length_any (hi lo : Int) (h : -1000 ≤ hi ∧ hi ≤ 1000 ∧ -1000 ≤ lo ∧ lo ≤ 1000) (w : World) :
    Calls Tryz.prog 125 #[.agg #[.int .i64 hi, .int .i64 lo]] w fun e w' => e = .returned (.int .i64 (hi - lo + 1)) ∧ Below w.heap.size w w' := by
  obtain ⟨h1, h2, h3, h4⟩ := h
  go_enter Tryz.func125, Tryz.ntmps125
  go_wp2
  go_ret
  exact ⟨rfl, (Below.refl _ _).alloc (Nat.le_refl _) _⟩
theorem signed_any (f : Int) (w : World) :
    Calls Tryz.prog 79 #[.int .i64 f] w fun e w' => e = .returned (.bool (decide (1 ≤ f ∧ f ≤ 5))) ∧ w = w' := by
  by_cases h1 : 1 ≤ f
  · by_cases h2 : f ≤ 5
    · go_enter Tryz.func79, Tryz.ntmps79
      go_wp2
      go_ret
      exact ⟨ret_bool (by simp [h1, h2]), rfl⟩
    · go_enter Tryz.func79, Tryz.ntmps79
      go_wp2
      go_ret
      exact ⟨ret_bool (by simp [h2]), rfl⟩
  · go_enter Tryz.func79, Tryz.ntmps79
    go_wp2
    go_ret
    exact ⟨ret_bool (by simp; omega), rfl⟩
end Go.Proofs.YtakdhdaoklcidaaGreatDoor

namespace Go.Proofs.YtakdhdaoklcidaaGreatDoor
open Go.RowKit
set_option linter.unusedVariables false
set_option maxRecDepth 100000
section
variable {P : Program}
theorem wpList_build_atA {ops : Array Oper} {rest : List Oper} {o : Oper} {a : Act} {w : World} {Q : Exit → Act → World → Prop} (hg : o.guard = none) (t : TypeId) (parts : Array (Nat × Operand)) (ho : o.op = .build t parts) (vs : List (Nat × Value)) (hp : (parts.map fun (i, x) => (i, a.eval x)).toList = vs) (row : Array Value) (hb : P.built t vs = some row) (h : wpList P ops Q rest (a.put o.dst (.agg row)) w) : wpList P ops Q (o :: rest) a w :=
  wpList_build hg t parts ho (by rw [hp, hb]; rfl) (by rw [hp, hb]; exact h)
end
def tblA : Array Value := #[.string ⟨#[]⟩, .int .u32 0, .int .u8 0, .string ⟨#[108, 117, 105]⟩, .int .u32 55, .int .u8 0, .string ⟨#[97, 117, 105, 112, 99]⟩, .int .u32 23, .int .u8 0, .string ⟨#[106, 97, 108]⟩, .int .u32 111, .int .u8 1, .string ⟨#[106, 97, 108, 114]⟩, .int .u32 103, .int .u8 2, .string ⟨#[98, 101, 113]⟩, .int .u32 99, .int .u8 3, .string ⟨#[98, 110, 101]⟩, .int .u32 4195, .int .u8 3, .string ⟨#[98, 108, 116]⟩, .int .u32 16483, .int .u8 3, .string ⟨#[98, 103, 101]⟩, .int .u32 20579, .int .u8 3, .string ⟨#[98, 108, 116, 117]⟩, .int .u32 24675, .int .u8 3, .string ⟨#[98, 103, 101, 117]⟩, .int .u32 28771, .int .u8 3, .string ⟨#[108, 98]⟩, .int .u32 3, .int .u8 2, .string ⟨#[108, 104]⟩, .int .u32 4099, .int .u8 2, .string ⟨#[108, 119]⟩, .int .u32 8195, .int .u8 2, .string ⟨#[108, 100]⟩, .int .u32 12291, .int .u8 2, .string ⟨#[108, 98, 117]⟩, .int .u32 16387, .int .u8 2, .string ⟨#[108, 104, 117]⟩, .int .u32 20483, .int .u8 2, .string ⟨#[108, 119, 117]⟩, .int .u32 24579, .int .u8 2, .string ⟨#[115, 98]⟩, .int .u32 35, .int .u8 4, .string ⟨#[115, 104]⟩, .int .u32 4131, .int .u8 4, .string ⟨#[115, 119]⟩, .int .u32 8227, .int .u8 4, .string ⟨#[115, 100]⟩, .int .u32 12323, .int .u8 4]
theorem bldA : Tryz.prog.built 156 [(1, .agg #[.string ⟨#[108, 117, 105]⟩, .int .u32 55, .int .u8 0]), (2, .agg #[.string ⟨#[97, 117, 105, 112, 99]⟩, .int .u32 23, .int .u8 0]), (3, .agg #[.string ⟨#[106, 97, 108]⟩, .int .u32 111, .int .u8 1]), (4, .agg #[.string ⟨#[106, 97, 108, 114]⟩, .int .u32 103, .int .u8 2]), (5, .agg #[.string ⟨#[98, 101, 113]⟩, .int .u32 99, .int .u8 3]), (6, .agg #[.string ⟨#[98, 110, 101]⟩, .int .u32 4195, .int .u8 3]), (7, .agg #[.string ⟨#[98, 108, 116]⟩, .int .u32 16483, .int .u8 3]), (8, .agg #[.string ⟨#[98, 103, 101]⟩, .int .u32 20579, .int .u8 3]), (9, .agg #[.string ⟨#[98, 108, 116, 117]⟩, .int .u32 24675, .int .u8 3]), (10, .agg #[.string ⟨#[98, 103, 101, 117]⟩, .int .u32 28771, .int .u8 3]), (11, .agg #[.string ⟨#[108, 98]⟩, .int .u32 3, .int .u8 2]), (12, .agg #[.string ⟨#[108, 104]⟩, .int .u32 4099, .int .u8 2]), (13, .agg #[.string ⟨#[108, 119]⟩, .int .u32 8195, .int .u8 2]), (14, .agg #[.string ⟨#[108, 100]⟩, .int .u32 12291, .int .u8 2]), (15, .agg #[.string ⟨#[108, 98, 117]⟩, .int .u32 16387, .int .u8 2]), (16, .agg #[.string ⟨#[108, 104, 117]⟩, .int .u32 20483, .int .u8 2]), (17, .agg #[.string ⟨#[108, 119, 117]⟩, .int .u32 24579, .int .u8 2]), (18, .agg #[.string ⟨#[115, 98]⟩, .int .u32 35, .int .u8 4]), (19, .agg #[.string ⟨#[115, 104]⟩, .int .u32 4131, .int .u8 4]), (20, .agg #[.string ⟨#[115, 119]⟩, .int .u32 8227, .int .u8 4]), (21, .agg #[.string ⟨#[115, 100]⟩, .int .u32 12323, .int .u8 4])] = some tblA := by kernel_rfl
theorem idxA (k : Nat) (h1 : 1 ≤ k) (h2 : k ≤ 21) (w : World) : (Instr.index 156 (.agg tblA) (.int .i64 k)).run Tryz.prog w = .ok (.agg #[.string (nameT k), .int .u32 (matT k), .int .u8 (frmT k)]) w :=
  match k, h1, h2 with
  | 1, _, _ => by kernel_rfl
  | 2, _, _ => by kernel_rfl
  | 3, _, _ => by kernel_rfl
  | 4, _, _ => by kernel_rfl
  | 5, _, _ => by kernel_rfl
  | 6, _, _ => by kernel_rfl
  | 7, _, _ => by kernel_rfl
  | 8, _, _ => by kernel_rfl
  | 9, _, _ => by kernel_rfl
  | 10, _, _ => by kernel_rfl
  | 11, _, _ => by kernel_rfl
  | 12, _, _ => by kernel_rfl
  | 13, _, _ => by kernel_rfl
  | 14, _, _ => by kernel_rfl
  | 15, _, _ => by kernel_rfl
  | 16, _, _ => by kernel_rfl
  | 17, _, _ => by kernel_rfl
  | 18, _, _ => by kernel_rfl
  | 19, _, _ => by kernel_rfl
  | 20, _, _ => by kernel_rfl
  | 21, _, _ => by kernel_rfl
  | 0, h, _ => absurd h (by omega)
  | k + 22, _, h => absurd h (by omega)
set_option maxHeartbeats 40000000 in
theorem jumpOrMove_at (k : Nat) (nm : ByteArray) (m fr : Int) (hx : ∀ w, (Instr.index 156 (.agg tblA) (.int .i64 k)).run Tryz.prog w = .ok (.agg #[.string nm, .int .u32 m, .int .u8 fr]) w) (w : World) :
    Calls Tryz.prog 81 #[.int .i64 k] w fun e w' => e = .returned (.agg #[.string nm, .int .u32 m, .int .u8 fr]) ∧ Below w.heap.size w w' := by
  go_enter Tryz.func81, Tryz.ntmps81
  go_wp2_with (refine wpList_build_atA rfl 156 _ rfl _ (by simp [Act.eval]) _ bldA ?_)
  exact bodyPost_ret (v := .agg #[.string nm, .int .u32 m, .int .u8 fr]) (by simp [results, Tryz.results81, go_sem]) rfl ⟨rfl, (Below.refl _ _).alloc (Nat.le_refl _) _⟩
theorem jumpOrMove_any (k : Nat) (h1 : 1 ≤ k) (h2 : k ≤ 21) (w : World) :
    Calls Tryz.prog 81 #[.int .i64 k] w fun e w' => e = .returned (.agg #[.string (nameT k), .int .u32 (matT k), .int .u8 (frmT k)]) ∧ Below w.heap.size w w' :=
  jumpOrMove_at k _ _ _ (idxA k h1 h2) w
end Go.Proofs.YtakdhdaoklcidaaGreatDoor

namespace Go.Proofs.YtakdhdaoklcidaaGreatDoor
open Go.RowKit
set_option linter.unusedVariables false
set_option maxRecDepth 100000
section
variable {P : Program}
theorem wpList_build_atB {ops : Array Oper} {rest : List Oper} {o : Oper} {a : Act} {w : World} {Q : Exit → Act → World → Prop} (hg : o.guard = none) (t : TypeId) (parts : Array (Nat × Operand)) (ho : o.op = .build t parts) (vs : List (Nat × Value)) (hp : (parts.map fun (i, x) => (i, a.eval x)).toList = vs) (row : Array Value) (hb : P.built t vs = some row) (h : wpList P ops Q rest (a.put o.dst (.agg row)) w) : wpList P ops Q (o :: rest) a w :=
  wpList_build hg t parts ho (by rw [hp, hb]; rfl) (by rw [hp, hb]; exact h)
end
def tblB : Array Value := #[.string ⟨#[]⟩, .int .u32 0, .int .u8 0, .string ⟨#[]⟩, .int .u32 0, .int .u8 0, .string ⟨#[]⟩, .int .u32 0, .int .u8 0, .string ⟨#[]⟩, .int .u32 0, .int .u8 0, .string ⟨#[]⟩, .int .u32 0, .int .u8 0, .string ⟨#[]⟩, .int .u32 0, .int .u8 0, .string ⟨#[]⟩, .int .u32 0, .int .u8 0, .string ⟨#[]⟩, .int .u32 0, .int .u8 0, .string ⟨#[]⟩, .int .u32 0, .int .u8 0, .string ⟨#[]⟩, .int .u32 0, .int .u8 0, .string ⟨#[]⟩, .int .u32 0, .int .u8 0, .string ⟨#[]⟩, .int .u32 0, .int .u8 0, .string ⟨#[]⟩, .int .u32 0, .int .u8 0, .string ⟨#[]⟩, .int .u32 0, .int .u8 0, .string ⟨#[]⟩, .int .u32 0, .int .u8 0, .string ⟨#[]⟩, .int .u32 0, .int .u8 0, .string ⟨#[]⟩, .int .u32 0, .int .u8 0, .string ⟨#[]⟩, .int .u32 0, .int .u8 0, .string ⟨#[]⟩, .int .u32 0, .int .u8 0, .string ⟨#[]⟩, .int .u32 0, .int .u8 0, .string ⟨#[]⟩, .int .u32 0, .int .u8 0, .string ⟨#[]⟩, .int .u32 0, .int .u8 0, .string ⟨#[97, 100, 100, 105]⟩, .int .u32 19, .int .u8 2, .string ⟨#[115, 108, 116, 105]⟩, .int .u32 8211, .int .u8 2, .string ⟨#[115, 108, 116, 105, 117]⟩, .int .u32 12307, .int .u8 2, .string ⟨#[120, 111, 114, 105]⟩, .int .u32 16403, .int .u8 2, .string ⟨#[111, 114, 105]⟩, .int .u32 24595, .int .u8 2, .string ⟨#[97, 110, 100, 105]⟩, .int .u32 28691, .int .u8 2, .string ⟨#[115, 108, 108, 105]⟩, .int .u32 4115, .int .u8 5, .string ⟨#[115, 114, 108, 105]⟩, .int .u32 20499, .int .u8 5, .string ⟨#[115, 114, 97, 105]⟩, .int .u32 1073762323, .int .u8 5, .string ⟨#[97, 100, 100, 105, 119]⟩, .int .u32 27, .int .u8 2, .string ⟨#[115, 108, 108, 105, 119]⟩, .int .u32 4123, .int .u8 6, .string ⟨#[115, 114, 108, 105, 119]⟩, .int .u32 20507, .int .u8 6, .string ⟨#[115, 114, 97, 105, 119]⟩, .int .u32 1073762331, .int .u8 6, .string ⟨#[97, 100, 100]⟩, .int .u32 51, .int .u8 7, .string ⟨#[115, 117, 98]⟩, .int .u32 1073741875, .int .u8 7, .string ⟨#[115, 108, 108]⟩, .int .u32 4147, .int .u8 7, .string ⟨#[115, 108, 116]⟩, .int .u32 8243, .int .u8 7, .string ⟨#[115, 108, 116, 117]⟩, .int .u32 12339, .int .u8 7, .string ⟨#[120, 111, 114]⟩, .int .u32 16435, .int .u8 7, .string ⟨#[115, 114, 108]⟩, .int .u32 20531, .int .u8 7, .string ⟨#[115, 114, 97]⟩, .int .u32 1073762355, .int .u8 7, .string ⟨#[111, 114]⟩, .int .u32 24627, .int .u8 7, .string ⟨#[97, 110, 100]⟩, .int .u32 28723, .int .u8 7, .string ⟨#[97, 100, 100, 119]⟩, .int .u32 59, .int .u8 7, .string ⟨#[115, 117, 98, 119]⟩, .int .u32 1073741883, .int .u8 7, .string ⟨#[115, 108, 108, 119]⟩, .int .u32 4155, .int .u8 7, .string ⟨#[115, 114, 108, 119]⟩, .int .u32 20539, .int .u8 7, .string ⟨#[115, 114, 97, 119]⟩, .int .u32 1073762363, .int .u8 7, .string ⟨#[109, 117, 108]⟩, .int .u32 33554483, .int .u8 7, .string ⟨#[109, 117, 108, 104]⟩, .int .u32 33558579, .int .u8 7, .string ⟨#[109, 117, 108, 104, 115, 117]⟩, .int .u32 33562675, .int .u8 7, .string ⟨#[109, 117, 108, 104, 117]⟩, .int .u32 33566771, .int .u8 7, .string ⟨#[100, 105, 118]⟩, .int .u32 33570867, .int .u8 7, .string ⟨#[100, 105, 118, 117]⟩, .int .u32 33574963, .int .u8 7, .string ⟨#[114, 101, 109]⟩, .int .u32 33579059, .int .u8 7, .string ⟨#[114, 101, 109, 117]⟩, .int .u32 33583155, .int .u8 7, .string ⟨#[109, 117, 108, 119]⟩, .int .u32 33554491, .int .u8 7, .string ⟨#[100, 105, 118, 119]⟩, .int .u32 33570875, .int .u8 7, .string ⟨#[100, 105, 118, 117, 119]⟩, .int .u32 33574971, .int .u8 7, .string ⟨#[114, 101, 109, 119]⟩, .int .u32 33579067, .int .u8 7, .string ⟨#[114, 101, 109, 117, 119]⟩, .int .u32 33583163, .int .u8 7]
theorem bldB : Tryz.prog.built 157 [(22, .agg #[.string ⟨#[97, 100, 100, 105]⟩, .int .u32 19, .int .u8 2]), (23, .agg #[.string ⟨#[115, 108, 116, 105]⟩, .int .u32 8211, .int .u8 2]), (24, .agg #[.string ⟨#[115, 108, 116, 105, 117]⟩, .int .u32 12307, .int .u8 2]), (25, .agg #[.string ⟨#[120, 111, 114, 105]⟩, .int .u32 16403, .int .u8 2]), (26, .agg #[.string ⟨#[111, 114, 105]⟩, .int .u32 24595, .int .u8 2]), (27, .agg #[.string ⟨#[97, 110, 100, 105]⟩, .int .u32 28691, .int .u8 2]), (28, .agg #[.string ⟨#[115, 108, 108, 105]⟩, .int .u32 4115, .int .u8 5]), (29, .agg #[.string ⟨#[115, 114, 108, 105]⟩, .int .u32 20499, .int .u8 5]), (30, .agg #[.string ⟨#[115, 114, 97, 105]⟩, .int .u32 1073762323, .int .u8 5]), (31, .agg #[.string ⟨#[97, 100, 100, 105, 119]⟩, .int .u32 27, .int .u8 2]), (32, .agg #[.string ⟨#[115, 108, 108, 105, 119]⟩, .int .u32 4123, .int .u8 6]), (33, .agg #[.string ⟨#[115, 114, 108, 105, 119]⟩, .int .u32 20507, .int .u8 6]), (34, .agg #[.string ⟨#[115, 114, 97, 105, 119]⟩, .int .u32 1073762331, .int .u8 6]), (35, .agg #[.string ⟨#[97, 100, 100]⟩, .int .u32 51, .int .u8 7]), (36, .agg #[.string ⟨#[115, 117, 98]⟩, .int .u32 1073741875, .int .u8 7]), (37, .agg #[.string ⟨#[115, 108, 108]⟩, .int .u32 4147, .int .u8 7]), (38, .agg #[.string ⟨#[115, 108, 116]⟩, .int .u32 8243, .int .u8 7]), (39, .agg #[.string ⟨#[115, 108, 116, 117]⟩, .int .u32 12339, .int .u8 7]), (40, .agg #[.string ⟨#[120, 111, 114]⟩, .int .u32 16435, .int .u8 7]), (41, .agg #[.string ⟨#[115, 114, 108]⟩, .int .u32 20531, .int .u8 7]), (42, .agg #[.string ⟨#[115, 114, 97]⟩, .int .u32 1073762355, .int .u8 7]), (43, .agg #[.string ⟨#[111, 114]⟩, .int .u32 24627, .int .u8 7]), (44, .agg #[.string ⟨#[97, 110, 100]⟩, .int .u32 28723, .int .u8 7]), (45, .agg #[.string ⟨#[97, 100, 100, 119]⟩, .int .u32 59, .int .u8 7]), (46, .agg #[.string ⟨#[115, 117, 98, 119]⟩, .int .u32 1073741883, .int .u8 7]), (47, .agg #[.string ⟨#[115, 108, 108, 119]⟩, .int .u32 4155, .int .u8 7]), (48, .agg #[.string ⟨#[115, 114, 108, 119]⟩, .int .u32 20539, .int .u8 7]), (49, .agg #[.string ⟨#[115, 114, 97, 119]⟩, .int .u32 1073762363, .int .u8 7]), (50, .agg #[.string ⟨#[109, 117, 108]⟩, .int .u32 33554483, .int .u8 7]), (51, .agg #[.string ⟨#[109, 117, 108, 104]⟩, .int .u32 33558579, .int .u8 7]), (52, .agg #[.string ⟨#[109, 117, 108, 104, 115, 117]⟩, .int .u32 33562675, .int .u8 7]), (53, .agg #[.string ⟨#[109, 117, 108, 104, 117]⟩, .int .u32 33566771, .int .u8 7]), (54, .agg #[.string ⟨#[100, 105, 118]⟩, .int .u32 33570867, .int .u8 7]), (55, .agg #[.string ⟨#[100, 105, 118, 117]⟩, .int .u32 33574963, .int .u8 7]), (56, .agg #[.string ⟨#[114, 101, 109]⟩, .int .u32 33579059, .int .u8 7]), (57, .agg #[.string ⟨#[114, 101, 109, 117]⟩, .int .u32 33583155, .int .u8 7]), (58, .agg #[.string ⟨#[109, 117, 108, 119]⟩, .int .u32 33554491, .int .u8 7]), (59, .agg #[.string ⟨#[100, 105, 118, 119]⟩, .int .u32 33570875, .int .u8 7]), (60, .agg #[.string ⟨#[100, 105, 118, 117, 119]⟩, .int .u32 33574971, .int .u8 7]), (61, .agg #[.string ⟨#[114, 101, 109, 119]⟩, .int .u32 33579067, .int .u8 7]), (62, .agg #[.string ⟨#[114, 101, 109, 117, 119]⟩, .int .u32 33583163, .int .u8 7])] = some tblB := by kernel_rfl
theorem idxB (k : Nat) (h1 : 22 ≤ k) (h2 : k ≤ 62) (w : World) : (Instr.index 157 (.agg tblB) (.int .i64 k)).run Tryz.prog w = .ok (.agg #[.string (nameT k), .int .u32 (matT k), .int .u8 (frmT k)]) w :=
  match k, h1, h2 with
  | 22, _, _ => by kernel_rfl
  | 23, _, _ => by kernel_rfl
  | 24, _, _ => by kernel_rfl
  | 25, _, _ => by kernel_rfl
  | 26, _, _ => by kernel_rfl
  | 27, _, _ => by kernel_rfl
  | 28, _, _ => by kernel_rfl
  | 29, _, _ => by kernel_rfl
  | 30, _, _ => by kernel_rfl
  | 31, _, _ => by kernel_rfl
  | 32, _, _ => by kernel_rfl
  | 33, _, _ => by kernel_rfl
  | 34, _, _ => by kernel_rfl
  | 35, _, _ => by kernel_rfl
  | 36, _, _ => by kernel_rfl
  | 37, _, _ => by kernel_rfl
  | 38, _, _ => by kernel_rfl
  | 39, _, _ => by kernel_rfl
  | 40, _, _ => by kernel_rfl
  | 41, _, _ => by kernel_rfl
  | 42, _, _ => by kernel_rfl
  | 43, _, _ => by kernel_rfl
  | 44, _, _ => by kernel_rfl
  | 45, _, _ => by kernel_rfl
  | 46, _, _ => by kernel_rfl
  | 47, _, _ => by kernel_rfl
  | 48, _, _ => by kernel_rfl
  | 49, _, _ => by kernel_rfl
  | 50, _, _ => by kernel_rfl
  | 51, _, _ => by kernel_rfl
  | 52, _, _ => by kernel_rfl
  | 53, _, _ => by kernel_rfl
  | 54, _, _ => by kernel_rfl
  | 55, _, _ => by kernel_rfl
  | 56, _, _ => by kernel_rfl
  | 57, _, _ => by kernel_rfl
  | 58, _, _ => by kernel_rfl
  | 59, _, _ => by kernel_rfl
  | 60, _, _ => by kernel_rfl
  | 61, _, _ => by kernel_rfl
  | 62, _, _ => by kernel_rfl
  | 0, h, _ => absurd h (by omega)
  | 1, h, _ => absurd h (by omega)
  | 2, h, _ => absurd h (by omega)
  | 3, h, _ => absurd h (by omega)
  | 4, h, _ => absurd h (by omega)
  | 5, h, _ => absurd h (by omega)
  | 6, h, _ => absurd h (by omega)
  | 7, h, _ => absurd h (by omega)
  | 8, h, _ => absurd h (by omega)
  | 9, h, _ => absurd h (by omega)
  | 10, h, _ => absurd h (by omega)
  | 11, h, _ => absurd h (by omega)
  | 12, h, _ => absurd h (by omega)
  | 13, h, _ => absurd h (by omega)
  | 14, h, _ => absurd h (by omega)
  | 15, h, _ => absurd h (by omega)
  | 16, h, _ => absurd h (by omega)
  | 17, h, _ => absurd h (by omega)
  | 18, h, _ => absurd h (by omega)
  | 19, h, _ => absurd h (by omega)
  | 20, h, _ => absurd h (by omega)
  | 21, h, _ => absurd h (by omega)
  | k + 63, _, h => absurd h (by omega)
set_option maxHeartbeats 40000000 in
theorem reckoning_at (k : Nat) (nm : ByteArray) (m fr : Int) (hx : ∀ w, (Instr.index 157 (.agg tblB) (.int .i64 k)).run Tryz.prog w = .ok (.agg #[.string nm, .int .u32 m, .int .u8 fr]) w) (w : World) :
    Calls Tryz.prog 82 #[.int .i64 k] w fun e w' => e = .returned (.agg #[.string nm, .int .u32 m, .int .u8 fr]) ∧ Below w.heap.size w w' := by
  go_enter Tryz.func82, Tryz.ntmps82
  go_wp2_with (refine wpList_build_atB rfl 157 _ rfl _ (by simp [Act.eval]) _ bldB ?_)
  exact bodyPost_ret (v := .agg #[.string nm, .int .u32 m, .int .u8 fr]) (by simp [results, Tryz.results82, go_sem]) rfl ⟨rfl, (Below.refl _ _).alloc (Nat.le_refl _) _⟩
theorem reckoning_any (k : Nat) (h1 : 22 ≤ k) (h2 : k ≤ 62) (w : World) :
    Calls Tryz.prog 82 #[.int .i64 k] w fun e w' => e = .returned (.agg #[.string (nameT k), .int .u32 (matT k), .int .u8 (frmT k)]) ∧ Below w.heap.size w w' :=
  reckoning_at k _ _ _ (idxB k h1 h2) w
end Go.Proofs.YtakdhdaoklcidaaGreatDoor

namespace Go.Proofs.YtakdhdaoklcidaaGreatDoor
open Go.RowKit
set_option linter.unusedVariables false
set_option maxRecDepth 100000
section
variable {P : Program}
theorem wpList_build_atC {ops : Array Oper} {rest : List Oper} {o : Oper} {a : Act} {w : World} {Q : Exit → Act → World → Prop} (hg : o.guard = none) (t : TypeId) (parts : Array (Nat × Operand)) (ho : o.op = .build t parts) (vs : List (Nat × Value)) (hp : (parts.map fun (i, x) => (i, a.eval x)).toList = vs) (row : Array Value) (hb : P.built t vs = some row) (h : wpList P ops Q rest (a.put o.dst (.agg row)) w) : wpList P ops Q (o :: rest) a w :=
  wpList_build hg t parts ho (by rw [hp, hb]; rfl) (by rw [hp, hb]; exact h)
end
def tblC : Array Value := #[.string ⟨#[]⟩, .int .u32 0, .int .u8 0, .string ⟨#[]⟩, .int .u32 0, .int .u8 0, .string ⟨#[]⟩, .int .u32 0, .int .u8 0, .string ⟨#[]⟩, .int .u32 0, .int .u8 0, .string ⟨#[]⟩, .int .u32 0, .int .u8 0, .string ⟨#[]⟩, .int .u32 0, .int .u8 0, .string ⟨#[]⟩, .int .u32 0, .int .u8 0, .string ⟨#[]⟩, .int .u32 0, .int .u8 0, .string ⟨#[]⟩, .int .u32 0, .int .u8 0, .string ⟨#[]⟩, .int .u32 0, .int .u8 0, .string ⟨#[]⟩, .int .u32 0, .int .u8 0, .string ⟨#[]⟩, .int .u32 0, .int .u8 0, .string ⟨#[]⟩, .int .u32 0, .int .u8 0, .string ⟨#[]⟩, .int .u32 0, .int .u8 0, .string ⟨#[]⟩, .int .u32 0, .int .u8 0, .string ⟨#[]⟩, .int .u32 0, .int .u8 0, .string ⟨#[]⟩, .int .u32 0, .int .u8 0, .string ⟨#[]⟩, .int .u32 0, .int .u8 0, .string ⟨#[]⟩, .int .u32 0, .int .u8 0, .string ⟨#[]⟩, .int .u32 0, .int .u8 0, .string ⟨#[]⟩, .int .u32 0, .int .u8 0, .string ⟨#[]⟩, .int .u32 0, .int .u8 0, .string ⟨#[]⟩, .int .u32 0, .int .u8 0, .string ⟨#[]⟩, .int .u32 0, .int .u8 0, .string ⟨#[]⟩, .int .u32 0, .int .u8 0, .string ⟨#[]⟩, .int .u32 0, .int .u8 0, .string ⟨#[]⟩, .int .u32 0, .int .u8 0, .string ⟨#[]⟩, .int .u32 0, .int .u8 0, .string ⟨#[]⟩, .int .u32 0, .int .u8 0, .string ⟨#[]⟩, .int .u32 0, .int .u8 0, .string ⟨#[]⟩, .int .u32 0, .int .u8 0, .string ⟨#[]⟩, .int .u32 0, .int .u8 0, .string ⟨#[]⟩, .int .u32 0, .int .u8 0, .string ⟨#[]⟩, .int .u32 0, .int .u8 0, .string ⟨#[]⟩, .int .u32 0, .int .u8 0, .string ⟨#[]⟩, .int .u32 0, .int .u8 0, .string ⟨#[]⟩, .int .u32 0, .int .u8 0, .string ⟨#[]⟩, .int .u32 0, .int .u8 0, .string ⟨#[]⟩, .int .u32 0, .int .u8 0, .string ⟨#[]⟩, .int .u32 0, .int .u8 0, .string ⟨#[]⟩, .int .u32 0, .int .u8 0, .string ⟨#[]⟩, .int .u32 0, .int .u8 0, .string ⟨#[]⟩, .int .u32 0, .int .u8 0, .string ⟨#[]⟩, .int .u32 0, .int .u8 0, .string ⟨#[]⟩, .int .u32 0, .int .u8 0, .string ⟨#[]⟩, .int .u32 0, .int .u8 0, .string ⟨#[]⟩, .int .u32 0, .int .u8 0, .string ⟨#[]⟩, .int .u32 0, .int .u8 0, .string ⟨#[]⟩, .int .u32 0, .int .u8 0, .string ⟨#[]⟩, .int .u32 0, .int .u8 0, .string ⟨#[]⟩, .int .u32 0, .int .u8 0, .string ⟨#[]⟩, .int .u32 0, .int .u8 0, .string ⟨#[]⟩, .int .u32 0, .int .u8 0, .string ⟨#[]⟩, .int .u32 0, .int .u8 0, .string ⟨#[]⟩, .int .u32 0, .int .u8 0, .string ⟨#[]⟩, .int .u32 0, .int .u8 0, .string ⟨#[]⟩, .int .u32 0, .int .u8 0, .string ⟨#[]⟩, .int .u32 0, .int .u8 0, .string ⟨#[]⟩, .int .u32 0, .int .u8 0, .string ⟨#[]⟩, .int .u32 0, .int .u8 0, .string ⟨#[]⟩, .int .u32 0, .int .u8 0, .string ⟨#[]⟩, .int .u32 0, .int .u8 0, .string ⟨#[]⟩, .int .u32 0, .int .u8 0, .string ⟨#[108, 114, 46, 119]⟩, .int .u32 268443695, .int .u8 8, .string ⟨#[115, 99, 46, 119]⟩, .int .u32 402661423, .int .u8 9, .string ⟨#[97, 109, 111, 115, 119, 97, 112, 46, 119]⟩, .int .u32 134225967, .int .u8 9, .string ⟨#[97, 109, 111, 97, 100, 100, 46, 119]⟩, .int .u32 8239, .int .u8 9, .string ⟨#[97, 109, 111, 120, 111, 114, 46, 119]⟩, .int .u32 536879151, .int .u8 9, .string ⟨#[97, 109, 111, 97, 110, 100, 46, 119]⟩, .int .u32 1610620975, .int .u8 9, .string ⟨#[97, 109, 111, 111, 114, 46, 119]⟩, .int .u32 1073750063, .int .u8 9, .string ⟨#[97, 109, 111, 109, 105, 110, 46, 119]⟩, .int .u32 2147491887, .int .u8 9, .string ⟨#[97, 109, 111, 109, 97, 120, 46, 119]⟩, .int .u32 2684362799, .int .u8 9, .string ⟨#[97, 109, 111, 109, 105, 110, 117, 46, 119]⟩, .int .u32 3221233711, .int .u8 9, .string ⟨#[97, 109, 111, 109, 97, 120, 117, 46, 119]⟩, .int .u32 3758104623, .int .u8 9, .string ⟨#[108, 114, 46, 100]⟩, .int .u32 268447791, .int .u8 8, .string ⟨#[115, 99, 46, 100]⟩, .int .u32 402665519, .int .u8 9, .string ⟨#[97, 109, 111, 115, 119, 97, 112, 46, 100]⟩, .int .u32 134230063, .int .u8 9, .string ⟨#[97, 109, 111, 97, 100, 100, 46, 100]⟩, .int .u32 12335, .int .u8 9, .string ⟨#[97, 109, 111, 120, 111, 114, 46, 100]⟩, .int .u32 536883247, .int .u8 9, .string ⟨#[97, 109, 111, 97, 110, 100, 46, 100]⟩, .int .u32 1610625071, .int .u8 9, .string ⟨#[97, 109, 111, 111, 114, 46, 100]⟩, .int .u32 1073754159, .int .u8 9, .string ⟨#[97, 109, 111, 109, 105, 110, 46, 100]⟩, .int .u32 2147495983, .int .u8 9, .string ⟨#[97, 109, 111, 109, 97, 120, 46, 100]⟩, .int .u32 2684366895, .int .u8 9, .string ⟨#[97, 109, 111, 109, 105, 110, 117, 46, 100]⟩, .int .u32 3221237807, .int .u8 9, .string ⟨#[97, 109, 111, 109, 97, 120, 117, 46, 100]⟩, .int .u32 3758108719, .int .u8 9]
theorem bldC : Tryz.prog.built 158 [(63, .agg #[.string ⟨#[108, 114, 46, 119]⟩, .int .u32 268443695, .int .u8 8]), (64, .agg #[.string ⟨#[115, 99, 46, 119]⟩, .int .u32 402661423, .int .u8 9]), (65, .agg #[.string ⟨#[97, 109, 111, 115, 119, 97, 112, 46, 119]⟩, .int .u32 134225967, .int .u8 9]), (66, .agg #[.string ⟨#[97, 109, 111, 97, 100, 100, 46, 119]⟩, .int .u32 8239, .int .u8 9]), (67, .agg #[.string ⟨#[97, 109, 111, 120, 111, 114, 46, 119]⟩, .int .u32 536879151, .int .u8 9]), (68, .agg #[.string ⟨#[97, 109, 111, 97, 110, 100, 46, 119]⟩, .int .u32 1610620975, .int .u8 9]), (69, .agg #[.string ⟨#[97, 109, 111, 111, 114, 46, 119]⟩, .int .u32 1073750063, .int .u8 9]), (70, .agg #[.string ⟨#[97, 109, 111, 109, 105, 110, 46, 119]⟩, .int .u32 2147491887, .int .u8 9]), (71, .agg #[.string ⟨#[97, 109, 111, 109, 97, 120, 46, 119]⟩, .int .u32 2684362799, .int .u8 9]), (72, .agg #[.string ⟨#[97, 109, 111, 109, 105, 110, 117, 46, 119]⟩, .int .u32 3221233711, .int .u8 9]), (73, .agg #[.string ⟨#[97, 109, 111, 109, 97, 120, 117, 46, 119]⟩, .int .u32 3758104623, .int .u8 9]), (74, .agg #[.string ⟨#[108, 114, 46, 100]⟩, .int .u32 268447791, .int .u8 8]), (75, .agg #[.string ⟨#[115, 99, 46, 100]⟩, .int .u32 402665519, .int .u8 9]), (76, .agg #[.string ⟨#[97, 109, 111, 115, 119, 97, 112, 46, 100]⟩, .int .u32 134230063, .int .u8 9]), (77, .agg #[.string ⟨#[97, 109, 111, 97, 100, 100, 46, 100]⟩, .int .u32 12335, .int .u8 9]), (78, .agg #[.string ⟨#[97, 109, 111, 120, 111, 114, 46, 100]⟩, .int .u32 536883247, .int .u8 9]), (79, .agg #[.string ⟨#[97, 109, 111, 97, 110, 100, 46, 100]⟩, .int .u32 1610625071, .int .u8 9]), (80, .agg #[.string ⟨#[97, 109, 111, 111, 114, 46, 100]⟩, .int .u32 1073754159, .int .u8 9]), (81, .agg #[.string ⟨#[97, 109, 111, 109, 105, 110, 46, 100]⟩, .int .u32 2147495983, .int .u8 9]), (82, .agg #[.string ⟨#[97, 109, 111, 109, 97, 120, 46, 100]⟩, .int .u32 2684366895, .int .u8 9]), (83, .agg #[.string ⟨#[97, 109, 111, 109, 105, 110, 117, 46, 100]⟩, .int .u32 3221237807, .int .u8 9]), (84, .agg #[.string ⟨#[97, 109, 111, 109, 97, 120, 117, 46, 100]⟩, .int .u32 3758108719, .int .u8 9])] = some tblC := by kernel_rfl
theorem idxC (k : Nat) (h1 : 63 ≤ k) (h2 : k ≤ 84) (w : World) : (Instr.index 158 (.agg tblC) (.int .i64 k)).run Tryz.prog w = .ok (.agg #[.string (nameT k), .int .u32 (matT k), .int .u8 (frmT k)]) w :=
  match k, h1, h2 with
  | 63, _, _ => by kernel_rfl
  | 64, _, _ => by kernel_rfl
  | 65, _, _ => by kernel_rfl
  | 66, _, _ => by kernel_rfl
  | 67, _, _ => by kernel_rfl
  | 68, _, _ => by kernel_rfl
  | 69, _, _ => by kernel_rfl
  | 70, _, _ => by kernel_rfl
  | 71, _, _ => by kernel_rfl
  | 72, _, _ => by kernel_rfl
  | 73, _, _ => by kernel_rfl
  | 74, _, _ => by kernel_rfl
  | 75, _, _ => by kernel_rfl
  | 76, _, _ => by kernel_rfl
  | 77, _, _ => by kernel_rfl
  | 78, _, _ => by kernel_rfl
  | 79, _, _ => by kernel_rfl
  | 80, _, _ => by kernel_rfl
  | 81, _, _ => by kernel_rfl
  | 82, _, _ => by kernel_rfl
  | 83, _, _ => by kernel_rfl
  | 84, _, _ => by kernel_rfl
  | 0, h, _ => absurd h (by omega)
  | 1, h, _ => absurd h (by omega)
  | 2, h, _ => absurd h (by omega)
  | 3, h, _ => absurd h (by omega)
  | 4, h, _ => absurd h (by omega)
  | 5, h, _ => absurd h (by omega)
  | 6, h, _ => absurd h (by omega)
  | 7, h, _ => absurd h (by omega)
  | 8, h, _ => absurd h (by omega)
  | 9, h, _ => absurd h (by omega)
  | 10, h, _ => absurd h (by omega)
  | 11, h, _ => absurd h (by omega)
  | 12, h, _ => absurd h (by omega)
  | 13, h, _ => absurd h (by omega)
  | 14, h, _ => absurd h (by omega)
  | 15, h, _ => absurd h (by omega)
  | 16, h, _ => absurd h (by omega)
  | 17, h, _ => absurd h (by omega)
  | 18, h, _ => absurd h (by omega)
  | 19, h, _ => absurd h (by omega)
  | 20, h, _ => absurd h (by omega)
  | 21, h, _ => absurd h (by omega)
  | 22, h, _ => absurd h (by omega)
  | 23, h, _ => absurd h (by omega)
  | 24, h, _ => absurd h (by omega)
  | 25, h, _ => absurd h (by omega)
  | 26, h, _ => absurd h (by omega)
  | 27, h, _ => absurd h (by omega)
  | 28, h, _ => absurd h (by omega)
  | 29, h, _ => absurd h (by omega)
  | 30, h, _ => absurd h (by omega)
  | 31, h, _ => absurd h (by omega)
  | 32, h, _ => absurd h (by omega)
  | 33, h, _ => absurd h (by omega)
  | 34, h, _ => absurd h (by omega)
  | 35, h, _ => absurd h (by omega)
  | 36, h, _ => absurd h (by omega)
  | 37, h, _ => absurd h (by omega)
  | 38, h, _ => absurd h (by omega)
  | 39, h, _ => absurd h (by omega)
  | 40, h, _ => absurd h (by omega)
  | 41, h, _ => absurd h (by omega)
  | 42, h, _ => absurd h (by omega)
  | 43, h, _ => absurd h (by omega)
  | 44, h, _ => absurd h (by omega)
  | 45, h, _ => absurd h (by omega)
  | 46, h, _ => absurd h (by omega)
  | 47, h, _ => absurd h (by omega)
  | 48, h, _ => absurd h (by omega)
  | 49, h, _ => absurd h (by omega)
  | 50, h, _ => absurd h (by omega)
  | 51, h, _ => absurd h (by omega)
  | 52, h, _ => absurd h (by omega)
  | 53, h, _ => absurd h (by omega)
  | 54, h, _ => absurd h (by omega)
  | 55, h, _ => absurd h (by omega)
  | 56, h, _ => absurd h (by omega)
  | 57, h, _ => absurd h (by omega)
  | 58, h, _ => absurd h (by omega)
  | 59, h, _ => absurd h (by omega)
  | 60, h, _ => absurd h (by omega)
  | 61, h, _ => absurd h (by omega)
  | 62, h, _ => absurd h (by omega)
  | k + 85, _, h => absurd h (by omega)
set_option maxHeartbeats 40000000 in
theorem atomic_at (k : Nat) (nm : ByteArray) (m fr : Int) (hx : ∀ w, (Instr.index 158 (.agg tblC) (.int .i64 k)).run Tryz.prog w = .ok (.agg #[.string nm, .int .u32 m, .int .u8 fr]) w) (w : World) :
    Calls Tryz.prog 83 #[.int .i64 k] w fun e w' => e = .returned (.agg #[.string nm, .int .u32 m, .int .u8 fr]) ∧ Below w.heap.size w w' := by
  go_enter Tryz.func83, Tryz.ntmps83
  go_wp2_with (refine wpList_build_atC rfl 158 _ rfl _ (by simp [Act.eval]) _ bldC ?_)
  exact bodyPost_ret (v := .agg #[.string nm, .int .u32 m, .int .u8 fr]) (by simp [results, Tryz.results83, go_sem]) rfl ⟨rfl, (Below.refl _ _).alloc (Nat.le_refl _) _⟩
theorem atomic_any (k : Nat) (h1 : 63 ≤ k) (h2 : k ≤ 84) (w : World) :
    Calls Tryz.prog 83 #[.int .i64 k] w fun e w' => e = .returned (.agg #[.string (nameT k), .int .u32 (matT k), .int .u8 (frmT k)]) ∧ Below w.heap.size w w' :=
  atomic_at k _ _ _ (idxC k h1 h2) w
end Go.Proofs.YtakdhdaoklcidaaGreatDoor

namespace Go.Proofs.YtakdhdaoklcidaaGreatDoor
open Go.RowKit
set_option linter.unusedVariables false
set_option maxRecDepth 100000
section
variable {P : Program}
theorem wpList_build_atD {ops : Array Oper} {rest : List Oper} {o : Oper} {a : Act} {w : World} {Q : Exit → Act → World → Prop} (hg : o.guard = none) (t : TypeId) (parts : Array (Nat × Operand)) (ho : o.op = .build t parts) (vs : List (Nat × Value)) (hp : (parts.map fun (i, x) => (i, a.eval x)).toList = vs) (row : Array Value) (hb : P.built t vs = some row) (h : wpList P ops Q rest (a.put o.dst (.agg row)) w) : wpList P ops Q (o :: rest) a w :=
  wpList_build hg t parts ho (by rw [hp, hb]; rfl) (by rw [hp, hb]; exact h)
end
def tblD : Array Value := #[.string ⟨#[]⟩, .int .u32 0, .int .u8 0, .string ⟨#[]⟩, .int .u32 0, .int .u8 0, .string ⟨#[]⟩, .int .u32 0, .int .u8 0, .string ⟨#[]⟩, .int .u32 0, .int .u8 0, .string ⟨#[]⟩, .int .u32 0, .int .u8 0, .string ⟨#[]⟩, .int .u32 0, .int .u8 0, .string ⟨#[]⟩, .int .u32 0, .int .u8 0, .string ⟨#[]⟩, .int .u32 0, .int .u8 0, .string ⟨#[]⟩, .int .u32 0, .int .u8 0, .string ⟨#[]⟩, .int .u32 0, .int .u8 0, .string ⟨#[]⟩, .int .u32 0, .int .u8 0, .string ⟨#[]⟩, .int .u32 0, .int .u8 0, .string ⟨#[]⟩, .int .u32 0, .int .u8 0, .string ⟨#[]⟩, .int .u32 0, .int .u8 0, .string ⟨#[]⟩, .int .u32 0, .int .u8 0, .string ⟨#[]⟩, .int .u32 0, .int .u8 0, .string ⟨#[]⟩, .int .u32 0, .int .u8 0, .string ⟨#[]⟩, .int .u32 0, .int .u8 0, .string ⟨#[]⟩, .int .u32 0, .int .u8 0, .string ⟨#[]⟩, .int .u32 0, .int .u8 0, .string ⟨#[]⟩, .int .u32 0, .int .u8 0, .string ⟨#[]⟩, .int .u32 0, .int .u8 0, .string ⟨#[]⟩, .int .u32 0, .int .u8 0, .string ⟨#[]⟩, .int .u32 0, .int .u8 0, .string ⟨#[]⟩, .int .u32 0, .int .u8 0, .string ⟨#[]⟩, .int .u32 0, .int .u8 0, .string ⟨#[]⟩, .int .u32 0, .int .u8 0, .string ⟨#[]⟩, .int .u32 0, .int .u8 0, .string ⟨#[]⟩, .int .u32 0, .int .u8 0, .string ⟨#[]⟩, .int .u32 0, .int .u8 0, .string ⟨#[]⟩, .int .u32 0, .int .u8 0, .string ⟨#[]⟩, .int .u32 0, .int .u8 0, .string ⟨#[]⟩, .int .u32 0, .int .u8 0, .string ⟨#[]⟩, .int .u32 0, .int .u8 0, .string ⟨#[]⟩, .int .u32 0, .int .u8 0, .string ⟨#[]⟩, .int .u32 0, .int .u8 0, .string ⟨#[]⟩, .int .u32 0, .int .u8 0, .string ⟨#[]⟩, .int .u32 0, .int .u8 0, .string ⟨#[]⟩, .int .u32 0, .int .u8 0, .string ⟨#[]⟩, .int .u32 0, .int .u8 0, .string ⟨#[]⟩, .int .u32 0, .int .u8 0, .string ⟨#[]⟩, .int .u32 0, .int .u8 0, .string ⟨#[]⟩, .int .u32 0, .int .u8 0, .string ⟨#[]⟩, .int .u32 0, .int .u8 0, .string ⟨#[]⟩, .int .u32 0, .int .u8 0, .string ⟨#[]⟩, .int .u32 0, .int .u8 0, .string ⟨#[]⟩, .int .u32 0, .int .u8 0, .string ⟨#[]⟩, .int .u32 0, .int .u8 0, .string ⟨#[]⟩, .int .u32 0, .int .u8 0, .string ⟨#[]⟩, .int .u32 0, .int .u8 0, .string ⟨#[]⟩, .int .u32 0, .int .u8 0, .string ⟨#[]⟩, .int .u32 0, .int .u8 0, .string ⟨#[]⟩, .int .u32 0, .int .u8 0, .string ⟨#[]⟩, .int .u32 0, .int .u8 0, .string ⟨#[]⟩, .int .u32 0, .int .u8 0, .string ⟨#[]⟩, .int .u32 0, .int .u8 0, .string ⟨#[]⟩, .int .u32 0, .int .u8 0, .string ⟨#[]⟩, .int .u32 0, .int .u8 0, .string ⟨#[]⟩, .int .u32 0, .int .u8 0, .string ⟨#[]⟩, .int .u32 0, .int .u8 0, .string ⟨#[]⟩, .int .u32 0, .int .u8 0, .string ⟨#[]⟩, .int .u32 0, .int .u8 0, .string ⟨#[]⟩, .int .u32 0, .int .u8 0, .string ⟨#[]⟩, .int .u32 0, .int .u8 0, .string ⟨#[]⟩, .int .u32 0, .int .u8 0, .string ⟨#[]⟩, .int .u32 0, .int .u8 0, .string ⟨#[]⟩, .int .u32 0, .int .u8 0, .string ⟨#[]⟩, .int .u32 0, .int .u8 0, .string ⟨#[]⟩, .int .u32 0, .int .u8 0, .string ⟨#[]⟩, .int .u32 0, .int .u8 0, .string ⟨#[]⟩, .int .u32 0, .int .u8 0, .string ⟨#[]⟩, .int .u32 0, .int .u8 0, .string ⟨#[]⟩, .int .u32 0, .int .u8 0, .string ⟨#[]⟩, .int .u32 0, .int .u8 0, .string ⟨#[]⟩, .int .u32 0, .int .u8 0, .string ⟨#[]⟩, .int .u32 0, .int .u8 0, .string ⟨#[]⟩, .int .u32 0, .int .u8 0, .string ⟨#[]⟩, .int .u32 0, .int .u8 0, .string ⟨#[]⟩, .int .u32 0, .int .u8 0, .string ⟨#[]⟩, .int .u32 0, .int .u8 0, .string ⟨#[]⟩, .int .u32 0, .int .u8 0, .string ⟨#[]⟩, .int .u32 0, .int .u8 0, .string ⟨#[]⟩, .int .u32 0, .int .u8 0, .string ⟨#[]⟩, .int .u32 0, .int .u8 0, .string ⟨#[]⟩, .int .u32 0, .int .u8 0, .string ⟨#[102, 101, 110, 99, 101]⟩, .int .u32 15, .int .u8 2, .string ⟨#[102, 101, 110, 99, 101, 46, 105]⟩, .int .u32 4111, .int .u8 2, .string ⟨#[101, 99, 97, 108, 108]⟩, .int .u32 115, .int .u8 10, .string ⟨#[101, 98, 114, 101, 97, 107]⟩, .int .u32 1048691, .int .u8 10, .string ⟨#[115, 114, 101, 116]⟩, .int .u32 270532723, .int .u8 10, .string ⟨#[109, 114, 101, 116]⟩, .int .u32 807403635, .int .u8 10, .string ⟨#[119, 102, 105]⟩, .int .u32 273678451, .int .u8 10, .string ⟨#[115, 102, 101, 110, 99, 101, 46, 118, 109, 97]⟩, .int .u32 301990003, .int .u8 11, .string ⟨#[104, 102, 101, 110, 99, 101, 46, 118, 118, 109, 97]⟩, .int .u32 570425459, .int .u8 11, .string ⟨#[104, 102, 101, 110, 99, 101, 46, 103, 118, 109, 97]⟩, .int .u32 1644167283, .int .u8 11, .string ⟨#[99, 115, 114, 114, 119]⟩, .int .u32 4211, .int .u8 12, .string ⟨#[99, 115, 114, 114, 115]⟩, .int .u32 8307, .int .u8 12, .string ⟨#[99, 115, 114, 114, 99]⟩, .int .u32 12403, .int .u8 12, .string ⟨#[99, 115, 114, 114, 119, 105]⟩, .int .u32 20595, .int .u8 13, .string ⟨#[99, 115, 114, 114, 115, 105]⟩, .int .u32 24691, .int .u8 13, .string ⟨#[99, 115, 114, 114, 99, 105]⟩, .int .u32 28787, .int .u8 13, .string ⟨#[104, 108, 118, 46, 98]⟩, .int .u32 1610629235, .int .u8 14, .string ⟨#[104, 108, 118, 46, 98, 117]⟩, .int .u32 1611677811, .int .u8 14, .string ⟨#[104, 108, 118, 46, 104]⟩, .int .u32 1677738099, .int .u8 14, .string ⟨#[104, 108, 118, 46, 104, 117]⟩, .int .u32 1678786675, .int .u8 14, .string ⟨#[104, 108, 118, 120, 46, 104, 117]⟩, .int .u32 1680883827, .int .u8 14, .string ⟨#[104, 108, 118, 46, 119]⟩, .int .u32 1744846963, .int .u8 14, .string ⟨#[104, 108, 118, 46, 119, 117]⟩, .int .u32 1745895539, .int .u8 14, .string ⟨#[104, 108, 118, 120, 46, 119, 117]⟩, .int .u32 1747992691, .int .u8 14, .string ⟨#[104, 108, 118, 46, 100]⟩, .int .u32 1811955827, .int .u8 14, .string ⟨#[104, 115, 118, 46, 98]⟩, .int .u32 1644183667, .int .u8 11, .string ⟨#[104, 115, 118, 46, 104]⟩, .int .u32 1711292531, .int .u8 11, .string ⟨#[104, 115, 118, 46, 119]⟩, .int .u32 1778401395, .int .u8 11, .string ⟨#[104, 115, 118, 46, 100]⟩, .int .u32 1845510259, .int .u8 11]
theorem bldD : Tryz.prog.built 159 [(85, .agg #[.string ⟨#[102, 101, 110, 99, 101]⟩, .int .u32 15, .int .u8 2]), (86, .agg #[.string ⟨#[102, 101, 110, 99, 101, 46, 105]⟩, .int .u32 4111, .int .u8 2]), (87, .agg #[.string ⟨#[101, 99, 97, 108, 108]⟩, .int .u32 115, .int .u8 10]), (88, .agg #[.string ⟨#[101, 98, 114, 101, 97, 107]⟩, .int .u32 1048691, .int .u8 10]), (89, .agg #[.string ⟨#[115, 114, 101, 116]⟩, .int .u32 270532723, .int .u8 10]), (90, .agg #[.string ⟨#[109, 114, 101, 116]⟩, .int .u32 807403635, .int .u8 10]), (91, .agg #[.string ⟨#[119, 102, 105]⟩, .int .u32 273678451, .int .u8 10]), (92, .agg #[.string ⟨#[115, 102, 101, 110, 99, 101, 46, 118, 109, 97]⟩, .int .u32 301990003, .int .u8 11]), (93, .agg #[.string ⟨#[104, 102, 101, 110, 99, 101, 46, 118, 118, 109, 97]⟩, .int .u32 570425459, .int .u8 11]), (94, .agg #[.string ⟨#[104, 102, 101, 110, 99, 101, 46, 103, 118, 109, 97]⟩, .int .u32 1644167283, .int .u8 11]), (95, .agg #[.string ⟨#[99, 115, 114, 114, 119]⟩, .int .u32 4211, .int .u8 12]), (96, .agg #[.string ⟨#[99, 115, 114, 114, 115]⟩, .int .u32 8307, .int .u8 12]), (97, .agg #[.string ⟨#[99, 115, 114, 114, 99]⟩, .int .u32 12403, .int .u8 12]), (98, .agg #[.string ⟨#[99, 115, 114, 114, 119, 105]⟩, .int .u32 20595, .int .u8 13]), (99, .agg #[.string ⟨#[99, 115, 114, 114, 115, 105]⟩, .int .u32 24691, .int .u8 13]), (100, .agg #[.string ⟨#[99, 115, 114, 114, 99, 105]⟩, .int .u32 28787, .int .u8 13]), (101, .agg #[.string ⟨#[104, 108, 118, 46, 98]⟩, .int .u32 1610629235, .int .u8 14]), (102, .agg #[.string ⟨#[104, 108, 118, 46, 98, 117]⟩, .int .u32 1611677811, .int .u8 14]), (103, .agg #[.string ⟨#[104, 108, 118, 46, 104]⟩, .int .u32 1677738099, .int .u8 14]), (104, .agg #[.string ⟨#[104, 108, 118, 46, 104, 117]⟩, .int .u32 1678786675, .int .u8 14]), (105, .agg #[.string ⟨#[104, 108, 118, 120, 46, 104, 117]⟩, .int .u32 1680883827, .int .u8 14]), (106, .agg #[.string ⟨#[104, 108, 118, 46, 119]⟩, .int .u32 1744846963, .int .u8 14]), (107, .agg #[.string ⟨#[104, 108, 118, 46, 119, 117]⟩, .int .u32 1745895539, .int .u8 14]), (108, .agg #[.string ⟨#[104, 108, 118, 120, 46, 119, 117]⟩, .int .u32 1747992691, .int .u8 14]), (109, .agg #[.string ⟨#[104, 108, 118, 46, 100]⟩, .int .u32 1811955827, .int .u8 14]), (110, .agg #[.string ⟨#[104, 115, 118, 46, 98]⟩, .int .u32 1644183667, .int .u8 11]), (111, .agg #[.string ⟨#[104, 115, 118, 46, 104]⟩, .int .u32 1711292531, .int .u8 11]), (112, .agg #[.string ⟨#[104, 115, 118, 46, 119]⟩, .int .u32 1778401395, .int .u8 11]), (113, .agg #[.string ⟨#[104, 115, 118, 46, 100]⟩, .int .u32 1845510259, .int .u8 11])] = some tblD := by kernel_rfl
theorem idxD (k : Nat) (h1 : 85 ≤ k) (h2 : k ≤ 113) (w : World) : (Instr.index 159 (.agg tblD) (.int .i64 k)).run Tryz.prog w = .ok (.agg #[.string (nameT k), .int .u32 (matT k), .int .u8 (frmT k)]) w :=
  match k, h1, h2 with
  | 85, _, _ => by kernel_rfl
  | 86, _, _ => by kernel_rfl
  | 87, _, _ => by kernel_rfl
  | 88, _, _ => by kernel_rfl
  | 89, _, _ => by kernel_rfl
  | 90, _, _ => by kernel_rfl
  | 91, _, _ => by kernel_rfl
  | 92, _, _ => by kernel_rfl
  | 93, _, _ => by kernel_rfl
  | 94, _, _ => by kernel_rfl
  | 95, _, _ => by kernel_rfl
  | 96, _, _ => by kernel_rfl
  | 97, _, _ => by kernel_rfl
  | 98, _, _ => by kernel_rfl
  | 99, _, _ => by kernel_rfl
  | 100, _, _ => by kernel_rfl
  | 101, _, _ => by kernel_rfl
  | 102, _, _ => by kernel_rfl
  | 103, _, _ => by kernel_rfl
  | 104, _, _ => by kernel_rfl
  | 105, _, _ => by kernel_rfl
  | 106, _, _ => by kernel_rfl
  | 107, _, _ => by kernel_rfl
  | 108, _, _ => by kernel_rfl
  | 109, _, _ => by kernel_rfl
  | 110, _, _ => by kernel_rfl
  | 111, _, _ => by kernel_rfl
  | 112, _, _ => by kernel_rfl
  | 113, _, _ => by kernel_rfl
  | 0, h, _ => absurd h (by omega)
  | 1, h, _ => absurd h (by omega)
  | 2, h, _ => absurd h (by omega)
  | 3, h, _ => absurd h (by omega)
  | 4, h, _ => absurd h (by omega)
  | 5, h, _ => absurd h (by omega)
  | 6, h, _ => absurd h (by omega)
  | 7, h, _ => absurd h (by omega)
  | 8, h, _ => absurd h (by omega)
  | 9, h, _ => absurd h (by omega)
  | 10, h, _ => absurd h (by omega)
  | 11, h, _ => absurd h (by omega)
  | 12, h, _ => absurd h (by omega)
  | 13, h, _ => absurd h (by omega)
  | 14, h, _ => absurd h (by omega)
  | 15, h, _ => absurd h (by omega)
  | 16, h, _ => absurd h (by omega)
  | 17, h, _ => absurd h (by omega)
  | 18, h, _ => absurd h (by omega)
  | 19, h, _ => absurd h (by omega)
  | 20, h, _ => absurd h (by omega)
  | 21, h, _ => absurd h (by omega)
  | 22, h, _ => absurd h (by omega)
  | 23, h, _ => absurd h (by omega)
  | 24, h, _ => absurd h (by omega)
  | 25, h, _ => absurd h (by omega)
  | 26, h, _ => absurd h (by omega)
  | 27, h, _ => absurd h (by omega)
  | 28, h, _ => absurd h (by omega)
  | 29, h, _ => absurd h (by omega)
  | 30, h, _ => absurd h (by omega)
  | 31, h, _ => absurd h (by omega)
  | 32, h, _ => absurd h (by omega)
  | 33, h, _ => absurd h (by omega)
  | 34, h, _ => absurd h (by omega)
  | 35, h, _ => absurd h (by omega)
  | 36, h, _ => absurd h (by omega)
  | 37, h, _ => absurd h (by omega)
  | 38, h, _ => absurd h (by omega)
  | 39, h, _ => absurd h (by omega)
  | 40, h, _ => absurd h (by omega)
  | 41, h, _ => absurd h (by omega)
  | 42, h, _ => absurd h (by omega)
  | 43, h, _ => absurd h (by omega)
  | 44, h, _ => absurd h (by omega)
  | 45, h, _ => absurd h (by omega)
  | 46, h, _ => absurd h (by omega)
  | 47, h, _ => absurd h (by omega)
  | 48, h, _ => absurd h (by omega)
  | 49, h, _ => absurd h (by omega)
  | 50, h, _ => absurd h (by omega)
  | 51, h, _ => absurd h (by omega)
  | 52, h, _ => absurd h (by omega)
  | 53, h, _ => absurd h (by omega)
  | 54, h, _ => absurd h (by omega)
  | 55, h, _ => absurd h (by omega)
  | 56, h, _ => absurd h (by omega)
  | 57, h, _ => absurd h (by omega)
  | 58, h, _ => absurd h (by omega)
  | 59, h, _ => absurd h (by omega)
  | 60, h, _ => absurd h (by omega)
  | 61, h, _ => absurd h (by omega)
  | 62, h, _ => absurd h (by omega)
  | 63, h, _ => absurd h (by omega)
  | 64, h, _ => absurd h (by omega)
  | 65, h, _ => absurd h (by omega)
  | 66, h, _ => absurd h (by omega)
  | 67, h, _ => absurd h (by omega)
  | 68, h, _ => absurd h (by omega)
  | 69, h, _ => absurd h (by omega)
  | 70, h, _ => absurd h (by omega)
  | 71, h, _ => absurd h (by omega)
  | 72, h, _ => absurd h (by omega)
  | 73, h, _ => absurd h (by omega)
  | 74, h, _ => absurd h (by omega)
  | 75, h, _ => absurd h (by omega)
  | 76, h, _ => absurd h (by omega)
  | 77, h, _ => absurd h (by omega)
  | 78, h, _ => absurd h (by omega)
  | 79, h, _ => absurd h (by omega)
  | 80, h, _ => absurd h (by omega)
  | 81, h, _ => absurd h (by omega)
  | 82, h, _ => absurd h (by omega)
  | 83, h, _ => absurd h (by omega)
  | 84, h, _ => absurd h (by omega)
  | k + 114, _, h => absurd h (by omega)
set_option maxHeartbeats 40000000 in
theorem system_at (k : Nat) (nm : ByteArray) (m fr : Int) (hx : ∀ w, (Instr.index 159 (.agg tblD) (.int .i64 k)).run Tryz.prog w = .ok (.agg #[.string nm, .int .u32 m, .int .u8 fr]) w) (w : World) :
    Calls Tryz.prog 84 #[.int .i64 k] w fun e w' => e = .returned (.agg #[.string nm, .int .u32 m, .int .u8 fr]) ∧ Below w.heap.size w w' := by
  go_enter Tryz.func84, Tryz.ntmps84
  go_wp2_with (refine wpList_build_atD rfl 159 _ rfl _ (by simp [Act.eval]) _ bldD ?_)
  exact bodyPost_ret (v := .agg #[.string nm, .int .u32 m, .int .u8 fr]) (by simp [results, Tryz.results84, go_sem]) rfl ⟨rfl, (Below.refl _ _).alloc (Nat.le_refl _) _⟩
theorem system_any (k : Nat) (h1 : 85 ≤ k) (h2 : k ≤ 113) (w : World) :
    Calls Tryz.prog 84 #[.int .i64 k] w fun e w' => e = .returned (.agg #[.string (nameT k), .int .u32 (matT k), .int .u8 (frmT k)]) ∧ Below w.heap.size w w' :=
  system_at k _ _ _ (idxD k h1 h2) w
end Go.Proofs.YtakdhdaoklcidaaGreatDoor

namespace Go.Proofs.YtakdhdaoklcidaaGreatDoor
open Go.RowKit
set_option linter.unusedVariables false
set_option maxRecDepth 100000
def Lay.val (L : Lay) : Value := .agg #[.int .i64 (L.h 0), .int .i64 (L.l 0), .int .i64 (L.h 1), .int .i64 (L.l 1), .int .i64 (L.h 2), .int .i64 (L.l 2), .int .i64 (L.h 3), .int .i64 (L.l 3), .int .i64 L.ps.length, .int .i64 L.nt, .bool L.sg]
theorem size39 (w : World) : (sizeOf 118).run Tryz.prog w = .ok 2 w := by kernel_rfl
theorem slice_count (g h : Nat) (hh : h ≤ 4) (w : World) :
    (Instr.sliceAt 119 (.pointer (some ⟨g, 0, none⟩)) none (some (.int .i64 h)) none).run Tryz.prog w = .ok (.slice (some ⟨g, 0, none⟩) h 4) w := by
  have hs := size39 w
  have e2 : (⟨g, 0, none⟩ : Addr).add 0 = ⟨g, 0, none⟩ := by unfold Addr.add; simp
  simp [Instr.sliceAt, run_underlying Tryz.underlying119, Instr.sureAddr, Instr.sliceBounds, Instr.sliceBound, asIntOf, hs, e2, hh, Result.andThen]
def Lay.cells (L : Lay) : Array Value := #[.int .i64 (L.h 0), .int .i64 (L.l 0), .int .i64 (L.h 1), .int .i64 (L.l 1), .int .i64 (L.h 2), .int .i64 (L.l 2), .int .i64 (L.h 3), .int .i64 (L.l 3), .int .i64 L.ps.length, .int .i64 L.nt, .bool L.sg]
def LayAt (L : Lay) (b : Nat) (w : World) : Prop := w.heap[b]? = some (.cells L.cells 121 (0, 0))
theorem LayAt.cell {L : Lay} {b : Nat} {w : World} (h : LayAt L b w) {o : Nat} {v : Value} (hv : L.cells[o]? = some v) : w.cell? ⟨b, o, none⟩ = some v := by
  rw [cell_of_row w b o _ 121 (0, 0) h]; exact hv
theorem LayAt.piece {L : Lay} {b : Nat} {w : World} (h : LayAt L b w) {k : Nat} (hk : k < 4) : w.cell? ⟨b, k * 2, none⟩ = some (.int .i64 (L.h k)) ∧ w.cell? ⟨b, k * 2 + 1, none⟩ = some (.int .i64 (L.l k)) := by
  match k, hk with
  | 0, _ => exact ⟨h.cell rfl, h.cell rfl⟩
  | 1, _ => exact ⟨h.cell rfl, h.cell rfl⟩
  | 2, _ => exact ⟨h.cell rfl, h.cell rfl⟩
  | 3, _ => exact ⟨h.cell rfl, h.cell rfl⟩
theorem LayAt.lt {L : Lay} {b : Nat} {w : World} (h : LayAt L b w) : b < w.heap.size := (Array.getElem?_eq_some_iff.1 h).1
theorem LayAt.below {L : Lay} {b B : Nat} {w w' : World} (h : LayAt L b w) (hb : Below B w w') (hB : b < B) : LayAt L b w' := by
  unfold LayAt at *; rw [hb.block b hB]; exact h
set_option maxRecDepth 100000 in
theorem number_un (L : Lay) (hL : L.Ok) (x : Int) (hs : L.sg = false) (w : World) :
    Calls Tryz.prog 102 #[L.val, .int .u32 x] w fun e w' => e = .returned (.int .i64 (L.number x)) ∧ Below w.heap.size w w' := by
  unfold Lay.val
  have h4 := hL.four
  have h1 := hL.one
  have h12 := hL.nt12
  have HS := fun w : World => slice_count w.heap.size L.ps.length h4
  have H0 : Hid (LayAt L w.heap.size (w.alloc (.cells L.cells 121))) := Lib.hid (heap_alloc_new w _)
  have HN : Hid (L.num x 0 = 0) := Lib.hid (by show (if L.neg x then (-1 : Int) else 0) = 0; unfold Lay.neg; rw [hs]; rfl)
  rw [hs]
  go_enter Tryz.func102, Tryz.ntmps102
  go_wp2_with (go_at_call 89; refine (field_any _ _ _ _).mono ?_; rintro e w4 ⟨rfl, rfl⟩)
  go_loopw [5, 27] (fun v i wr => ∃ k : Nat, k ≤ L.ps.length ∧ i = .int .i64 k ∧ v = .int .i64 (L.num x k) ∧ LayAt L w.heap.size wr ∧ Below w.heap.size w wr) (fun _ i _ => L.ps.length - (intOf i).toNat)
  case atStart =>
    refine ⟨0, by omega, rfl, ?_, ?_, (Below.refl _ _).alloc (Nat.le_refl _) _⟩
    · rw [HN.out]
    · have := H0.out; unfold Lay.cells at this; rw [hs] at this; exact this
  case round =>
    obtain ⟨k, hk, rfl, rfl, hR, hb⟩ := hrel
    by_cases hlt : k < L.ps.length
    · obtain ⟨c0, c1⟩ := hR.piece (show k < 4 by omega)
      obtain ⟨g1, g2, g3⟩ := hL.in31 k hlt
      have hsz := hb.size
      have HE := Lib.hid (Lay.step hL (x := x) hlt)
      have hg : -1000 ≤ L.h k ∧ L.h k ≤ 1000 ∧ -1000 ≤ L.l k ∧ L.l k ≤ 1000 := by omega
      go_wp2
      have d0 : (wr.alloc (Obj.cells #[Value.int IntKind.i64 (L.h k), Value.int IntKind.i64 (L.l k)] 118)).cell? ⟨wr.heap.size, 0, none⟩ = some (.int .i64 (L.h k)) := World.cell?_alloc_at _ _ _ _ rfl
      have d1 : (wr.alloc (Obj.cells #[Value.int IntKind.i64 (L.h k), Value.int IntKind.i64 (L.l k)] 118)).cell? ⟨wr.heap.size, 1, none⟩ = some (.int .i64 (L.l k)) := World.cell?_alloc_at _ _ _ _ rfl
      have hB' := (Below.refl wr.heap.size wr).alloc (Nat.le_refl _) (Obj.cells #[Value.int IntKind.i64 (L.h k), Value.int IntKind.i64 (L.l k)] 118)
      have HR := Lib.hid (hR.below hB' hR.lt)
      have HB := Lib.hid (hb.trans (hB'.mono hsz))
      have HZ : Hid (w.heap.size ≤ (wr.alloc (Obj.cells #[Value.int IntKind.i64 (L.h k), Value.int IntKind.i64 (L.l k)] 118)).heap.size ∧ wr.heap.size < (wr.alloc (Obj.cells #[Value.int IntKind.i64 (L.h k), Value.int IntKind.i64 (L.l k)] 118)).heap.size ∧ w.heap.size < (wr.alloc (Obj.cells #[Value.int IntKind.i64 (L.h k), Value.int IntKind.i64 (L.l k)] 118)).heap.size) := Lib.hid (by have := hR.lt; simp; omega)
      have HG := Lib.hid hg
      clear hB' c0 c1 hb hR hg
      generalize wr.heap.size = B at *
      generalize (wr.alloc (Obj.cells #[Value.int IntKind.i64 (L.h k), Value.int IntKind.i64 (L.l k)] 118)) = w2 at *
      go_region_held3 (fun w' => w'.cell? ⟨B, 0, none⟩ = some (.int .i64 (L.h k)) ∧ w'.cell? ⟨B, 1, none⟩ = some (.int .i64 (L.l k))) (go_keep)
        (first
          | (go_at_call 125; refine (length_any (L.h k) (L.l k) HG.out _).mono ?_; rintro e w3 ⟨rfl, hb3⟩; have e0 := (hb3.cell (p := ⟨B, 0, none⟩) HZ.out.2.1).trans d0; have e1 := (hb3.cell (p := ⟨B, 1, none⟩) HZ.out.2.1).trans d1)
          | (go_at_call 89; refine (field_any _ _ _ _).mono ?_; rintro e w4 ⟨rfl, rfl⟩))
      rename (_ ∧ _) => hheld
      rw [HE.out]
      have HB3 := Lib.hid (HB.out.trans ((Below.refl _ _).drew.trans (hb3.mono (Nat.le_refl _)) |>.mono HZ.out.1))
      have HR3 := Lib.hid (HR.out.below ((Below.refl _ _).drew.trans hb3) HZ.out.2.2)
      clear hheld e0 e1 d0 d1 hb3
      go_wp2
      go_roundw
      case rel => exact ⟨k + 1, by omega, by go_num, rfl, HR3.out, HB3.out⟩
      case measure => simp [intOf]; omega
    · obtain rfl : k = L.ps.length := by omega
      have c9 := hR.cell (o := 9) (v := .int .i64 L.nt) rfl
      go_wp2
      go_ret
      exact ⟨ret_int (Lay.last hL x), hb⟩
set_option maxRecDepth 100000 in
theorem number_pos (L : Lay) (hL : L.Ok) (x : Int) (hs : L.sg = true) (hn : (fldZ x (L.h 0) (L.h 0) == 1) = false) (w : World) :
    Calls Tryz.prog 102 #[L.val, .int .u32 x] w fun e w' => e = .returned (.int .i64 (L.number x)) ∧ Below w.heap.size w w' := by
  unfold Lay.val
  have h4 := hL.four
  have h1 := hL.one
  have h12 := hL.nt12
  have HS := fun w : World => slice_count w.heap.size L.ps.length h4
  have H0 : Hid (LayAt L w.heap.size (w.alloc (.cells L.cells 121))) := Lib.hid (heap_alloc_new w _)
  have HN : Hid (L.num x 0 = 0) := Lib.hid (by show (if L.neg x then (-1 : Int) else 0) = 0; unfold Lay.neg; rw [hs, hn]; rfl)
  rw [hs]
  go_enter Tryz.func102, Tryz.ntmps102
  go_wp2_with (go_at_call 89; refine (field_any _ _ _ _).mono ?_; rintro e w4 ⟨rfl, rfl⟩)
  go_loopw [5, 27] (fun v i wr => ∃ k : Nat, k ≤ L.ps.length ∧ i = .int .i64 k ∧ v = .int .i64 (L.num x k) ∧ LayAt L w.heap.size wr ∧ Below w.heap.size w wr) (fun _ i _ => L.ps.length - (intOf i).toNat)
  case atStart =>
    refine ⟨0, by omega, rfl, ?_, ?_, (Below.refl _ _).alloc (Nat.le_refl _) _⟩
    · rw [HN.out]
    · have := H0.out; unfold Lay.cells at this; rw [hs] at this; exact this
  case round =>
    obtain ⟨k, hk, rfl, rfl, hR, hb⟩ := hrel
    by_cases hlt : k < L.ps.length
    · obtain ⟨c0, c1⟩ := hR.piece (show k < 4 by omega)
      obtain ⟨g1, g2, g3⟩ := hL.in31 k hlt
      have hsz := hb.size
      have HE := Lib.hid (Lay.step hL (x := x) hlt)
      have hg : -1000 ≤ L.h k ∧ L.h k ≤ 1000 ∧ -1000 ≤ L.l k ∧ L.l k ≤ 1000 := by omega
      go_wp2
      have d0 : (wr.alloc (Obj.cells #[Value.int IntKind.i64 (L.h k), Value.int IntKind.i64 (L.l k)] 118)).cell? ⟨wr.heap.size, 0, none⟩ = some (.int .i64 (L.h k)) := World.cell?_alloc_at _ _ _ _ rfl
      have d1 : (wr.alloc (Obj.cells #[Value.int IntKind.i64 (L.h k), Value.int IntKind.i64 (L.l k)] 118)).cell? ⟨wr.heap.size, 1, none⟩ = some (.int .i64 (L.l k)) := World.cell?_alloc_at _ _ _ _ rfl
      have hB' := (Below.refl wr.heap.size wr).alloc (Nat.le_refl _) (Obj.cells #[Value.int IntKind.i64 (L.h k), Value.int IntKind.i64 (L.l k)] 118)
      have HR := Lib.hid (hR.below hB' hR.lt)
      have HB := Lib.hid (hb.trans (hB'.mono hsz))
      have HZ : Hid (w.heap.size ≤ (wr.alloc (Obj.cells #[Value.int IntKind.i64 (L.h k), Value.int IntKind.i64 (L.l k)] 118)).heap.size ∧ wr.heap.size < (wr.alloc (Obj.cells #[Value.int IntKind.i64 (L.h k), Value.int IntKind.i64 (L.l k)] 118)).heap.size ∧ w.heap.size < (wr.alloc (Obj.cells #[Value.int IntKind.i64 (L.h k), Value.int IntKind.i64 (L.l k)] 118)).heap.size) := Lib.hid (by have := hR.lt; simp; omega)
      have HG := Lib.hid hg
      clear hB' c0 c1 hb hR hg
      generalize wr.heap.size = B at *
      generalize (wr.alloc (Obj.cells #[Value.int IntKind.i64 (L.h k), Value.int IntKind.i64 (L.l k)] 118)) = w2 at *
      go_region_held3 (fun w' => w'.cell? ⟨B, 0, none⟩ = some (.int .i64 (L.h k)) ∧ w'.cell? ⟨B, 1, none⟩ = some (.int .i64 (L.l k))) (go_keep)
        (first
          | (go_at_call 125; refine (length_any (L.h k) (L.l k) HG.out _).mono ?_; rintro e w3 ⟨rfl, hb3⟩; have e0 := (hb3.cell (p := ⟨B, 0, none⟩) HZ.out.2.1).trans d0; have e1 := (hb3.cell (p := ⟨B, 1, none⟩) HZ.out.2.1).trans d1)
          | (go_at_call 89; refine (field_any _ _ _ _).mono ?_; rintro e w4 ⟨rfl, rfl⟩))
      rename (_ ∧ _) => hheld
      rw [HE.out]
      have HB3 := Lib.hid (HB.out.trans ((Below.refl _ _).drew.trans (hb3.mono (Nat.le_refl _)) |>.mono HZ.out.1))
      have HR3 := Lib.hid (HR.out.below ((Below.refl _ _).drew.trans hb3) HZ.out.2.2)
      clear hheld e0 e1 d0 d1 hb3
      go_wp2
      go_roundw
      case rel => exact ⟨k + 1, by omega, by go_num, rfl, HR3.out, HB3.out⟩
      case measure => simp [intOf]; omega
    · obtain rfl : k = L.ps.length := by omega
      have c9 := hR.cell (o := 9) (v := .int .i64 L.nt) rfl
      go_wp2
      go_ret
      exact ⟨ret_int (Lay.last hL x), hb⟩
set_option maxRecDepth 100000 in
theorem number_neg (L : Lay) (hL : L.Ok) (x : Int) (hs : L.sg = true) (hn : (fldZ x (L.h 0) (L.h 0) == 1) = true) (w : World) :
    Calls Tryz.prog 102 #[L.val, .int .u32 x] w fun e w' => e = .returned (.int .i64 (L.number x)) ∧ Below w.heap.size w w' := by
  unfold Lay.val
  have h4 := hL.four
  have h1 := hL.one
  have h12 := hL.nt12
  have HS := fun w : World => slice_count w.heap.size L.ps.length h4
  have H0 : Hid (LayAt L w.heap.size (w.alloc (.cells L.cells 121))) := Lib.hid (heap_alloc_new w _)
  have HN : Hid (L.num x 0 = -1) := Lib.hid (by show (if L.neg x then (-1 : Int) else 0) = -1; unfold Lay.neg; rw [hs, hn]; rfl)
  rw [hs]
  go_enter Tryz.func102, Tryz.ntmps102
  go_wp2_with (go_at_call 89; refine (field_any _ _ _ _).mono ?_; rintro e w4 ⟨rfl, rfl⟩)
  go_loopw [5, 27] (fun v i wr => ∃ k : Nat, k ≤ L.ps.length ∧ i = .int .i64 k ∧ v = .int .i64 (L.num x k) ∧ LayAt L w.heap.size wr ∧ Below w.heap.size w wr) (fun _ i _ => L.ps.length - (intOf i).toNat)
  case atStart =>
    refine ⟨0, by omega, rfl, ?_, ?_, (Below.refl _ _).alloc (Nat.le_refl _) _⟩
    · rw [HN.out]
    · have := H0.out; unfold Lay.cells at this; rw [hs] at this; exact this
  case round =>
    obtain ⟨k, hk, rfl, rfl, hR, hb⟩ := hrel
    by_cases hlt : k < L.ps.length
    · obtain ⟨c0, c1⟩ := hR.piece (show k < 4 by omega)
      obtain ⟨g1, g2, g3⟩ := hL.in31 k hlt
      have hsz := hb.size
      have HE := Lib.hid (Lay.step hL (x := x) hlt)
      have hg : -1000 ≤ L.h k ∧ L.h k ≤ 1000 ∧ -1000 ≤ L.l k ∧ L.l k ≤ 1000 := by omega
      go_wp2
      have d0 : (wr.alloc (Obj.cells #[Value.int IntKind.i64 (L.h k), Value.int IntKind.i64 (L.l k)] 118)).cell? ⟨wr.heap.size, 0, none⟩ = some (.int .i64 (L.h k)) := World.cell?_alloc_at _ _ _ _ rfl
      have d1 : (wr.alloc (Obj.cells #[Value.int IntKind.i64 (L.h k), Value.int IntKind.i64 (L.l k)] 118)).cell? ⟨wr.heap.size, 1, none⟩ = some (.int .i64 (L.l k)) := World.cell?_alloc_at _ _ _ _ rfl
      have hB' := (Below.refl wr.heap.size wr).alloc (Nat.le_refl _) (Obj.cells #[Value.int IntKind.i64 (L.h k), Value.int IntKind.i64 (L.l k)] 118)
      have HR := Lib.hid (hR.below hB' hR.lt)
      have HB := Lib.hid (hb.trans (hB'.mono hsz))
      have HZ : Hid (w.heap.size ≤ (wr.alloc (Obj.cells #[Value.int IntKind.i64 (L.h k), Value.int IntKind.i64 (L.l k)] 118)).heap.size ∧ wr.heap.size < (wr.alloc (Obj.cells #[Value.int IntKind.i64 (L.h k), Value.int IntKind.i64 (L.l k)] 118)).heap.size ∧ w.heap.size < (wr.alloc (Obj.cells #[Value.int IntKind.i64 (L.h k), Value.int IntKind.i64 (L.l k)] 118)).heap.size) := Lib.hid (by have := hR.lt; simp; omega)
      have HG := Lib.hid hg
      clear hB' c0 c1 hb hR hg
      generalize wr.heap.size = B at *
      generalize (wr.alloc (Obj.cells #[Value.int IntKind.i64 (L.h k), Value.int IntKind.i64 (L.l k)] 118)) = w2 at *
      go_region_held3 (fun w' => w'.cell? ⟨B, 0, none⟩ = some (.int .i64 (L.h k)) ∧ w'.cell? ⟨B, 1, none⟩ = some (.int .i64 (L.l k))) (go_keep)
        (first
          | (go_at_call 125; refine (length_any (L.h k) (L.l k) HG.out _).mono ?_; rintro e w3 ⟨rfl, hb3⟩; have e0 := (hb3.cell (p := ⟨B, 0, none⟩) HZ.out.2.1).trans d0; have e1 := (hb3.cell (p := ⟨B, 1, none⟩) HZ.out.2.1).trans d1)
          | (go_at_call 89; refine (field_any _ _ _ _).mono ?_; rintro e w4 ⟨rfl, rfl⟩))
      rename (_ ∧ _) => hheld
      rw [HE.out]
      have HB3 := Lib.hid (HB.out.trans ((Below.refl _ _).drew.trans (hb3.mono (Nat.le_refl _)) |>.mono HZ.out.1))
      have HR3 := Lib.hid (HR.out.below ((Below.refl _ _).drew.trans hb3) HZ.out.2.2)
      clear hheld e0 e1 d0 d1 hb3
      go_wp2
      go_roundw
      case rel => exact ⟨k + 1, by omega, by go_num, rfl, HR3.out, HB3.out⟩
      case measure => simp [intOf]; omega
    · obtain rfl : k = L.ps.length := by omega
      have c9 := hR.cell (o := 9) (v := .int .i64 L.nt) rfl
      go_wp2
      go_ret
      exact ⟨ret_int (Lay.last hL x), hb⟩
theorem number_any (L : Lay) (hL : L.Ok) (x : Int) (w : World) :
    Calls Tryz.prog 102 #[L.val, .int .u32 x] w fun e w' => e = .returned (.int .i64 (L.number x)) ∧ Below w.heap.size w w' := by
  cases hs : L.sg
  · exact number_un L hL x hs w
  · cases hn : (fldZ x (L.h 0) (L.h 0) == 1)
    · exact number_pos L hL x hs hn w
    · exact number_neg L hL x hs hn w
end Go.Proofs.YtakdhdaoklcidaaGreatDoor

namespace Go.Proofs.YtakdhdaoklcidaaGreatDoor
open Go.RowKit
set_option linter.unusedVariables false
set_option maxRecDepth 100000
set_option maxRecDepth 100000 in
theorem word_any (L : Lay) (hL : L.Ok) (n : Int) (w : World) :
    Calls Tryz.prog 103 #[L.val, .int .i64 n] w fun e w' => e = .returned (.int .u32 (L.word n)) ∧ Below w.heap.size w w' := by
  unfold Lay.val
  have h4 := hL.four
  have h1 := hL.one
  have h12 := hL.nt12
  have H0 : Hid (LayAt L w.heap.size (w.alloc (.cells L.cells 121))) := Lib.hid (heap_alloc_new w _)
  go_enter Tryz.func103, Tryz.ntmps103
  go_wp2
  go_loopw [1, 5, 6] (fun r v i wr => ∃ k : Nat, k ≤ L.ps.length ∧ i = .int .i64 ((k : Int) - 1) ∧ r = .int .i64 (L.rest n (L.ps.length - k)) ∧ v = .int .u32 (L.put n (L.ps.length - k)) ∧ LayAt L w.heap.size wr ∧ Below w.heap.size w wr) (fun _ _ i _ => (intOf i + 1).toNat)
  case atStart =>
    refine ⟨L.ps.length, by omega, rfl, by rw [Nat.sub_self]; rfl, by rw [Nat.sub_self]; rfl, H0.out, (Below.refl _ _).alloc (Nat.le_refl _) _⟩
  case round =>
    obtain ⟨k, hk, rfl, rfl, rfl, hR, hb⟩ := hrel
    cases k with
    | succ k =>
      rw [show ((k + 1 : Nat) : Int) - 1 = (k : Int) by omega]
      have hlt : k < L.ps.length := by omega
      obtain ⟨c0, c1⟩ := hR.piece (show k < 4 by omega)
      obtain ⟨g1, g2, g3⟩ := hL.in31 k hlt
      have hsz := hb.size
      have he := L.put_at n hlt
      rw [← show IntKind.i64.wrap (L.h k - L.l k) = L.h k - L.l k by rw [wrap_i64, wrap64_id (by omega) (by omega)]] at he
      have HE := Lib.hid he
      clear he
      have HF := Lib.hid (L.rest_at n hlt)
      have hg : -1000 ≤ L.h k ∧ L.h k ≤ 1000 ∧ -1000 ≤ L.l k ∧ L.l k ≤ 1000 := by omega
      generalize L.rest n (L.ps.length - (k + 1)) = r at *
      generalize L.put n (L.ps.length - (k + 1)) = v at *
      go_wp2
      have d0 : (wr.alloc (Obj.cells #[Value.int IntKind.i64 (L.h k), Value.int IntKind.i64 (L.l k)] 118)).cell? ⟨wr.heap.size, 0, none⟩ = some (.int .i64 (L.h k)) := World.cell?_alloc_at _ _ _ _ rfl
      have d1 : (wr.alloc (Obj.cells #[Value.int IntKind.i64 (L.h k), Value.int IntKind.i64 (L.l k)] 118)).cell? ⟨wr.heap.size, 1, none⟩ = some (.int .i64 (L.l k)) := World.cell?_alloc_at _ _ _ _ rfl
      have hB' := (Below.refl wr.heap.size wr).alloc (Nat.le_refl _) (Obj.cells #[Value.int IntKind.i64 (L.h k), Value.int IntKind.i64 (L.l k)] 118)
      have HR := Lib.hid (hR.below hB' hR.lt)
      have HB := Lib.hid (hb.trans (hB'.mono hsz))
      have HZ : Hid (w.heap.size ≤ (wr.alloc (Obj.cells #[Value.int IntKind.i64 (L.h k), Value.int IntKind.i64 (L.l k)] 118)).heap.size ∧ wr.heap.size < (wr.alloc (Obj.cells #[Value.int IntKind.i64 (L.h k), Value.int IntKind.i64 (L.l k)] 118)).heap.size ∧ w.heap.size < (wr.alloc (Obj.cells #[Value.int IntKind.i64 (L.h k), Value.int IntKind.i64 (L.l k)] 118)).heap.size) := Lib.hid (by have := hR.lt; simp; omega)
      have HG := Lib.hid hg
      clear hB' c0 c1 hb hR hg
      generalize wr.heap.size = B at *
      generalize (wr.alloc (Obj.cells #[Value.int IntKind.i64 (L.h k), Value.int IntKind.i64 (L.l k)] 118)) = w2 at *
      go_region_held3 (fun w' => w'.cell? ⟨B, 0, none⟩ = some (.int .i64 (L.h k)) ∧ w'.cell? ⟨B, 1, none⟩ = some (.int .i64 (L.l k))) (go_keep)
        (first
          | (go_at_call 125; refine (length_any (L.h k) (L.l k) HG.out _).mono ?_; rintro e w3 ⟨rfl, hb3⟩; have e0 := (hb3.cell (p := ⟨B, 0, none⟩) HZ.out.2.1).trans d0; have e1 := (hb3.cell (p := ⟨B, 1, none⟩) HZ.out.2.1).trans d1)
          | (go_at_call 89; refine (field_any _ _ _ _).mono ?_; rintro e w4 ⟨rfl, rfl⟩))
      rename (_ ∧ _) => hheld
      rw [← HE.out]
      have HB3 := Lib.hid (HB.out.trans ((Below.refl _ _).drew.trans (hb3.mono (Nat.le_refl _)) |>.mono HZ.out.1))
      have HR3 := Lib.hid (HR.out.below ((Below.refl _ _).drew.trans hb3) HZ.out.2.2)
      have HZ3 : Hid (w.heap.size ≤ w3.heap.size) := Lib.hid HB3.out.size
      clear hheld d0 d1 hb3
      go_wp2_with (go_at_call 125; refine (length_any (L.h k) (L.l k) HG.out _).mono ?_; rintro e w5 ⟨rfl, hb5⟩)
      go_roundw
      case rel => exact ⟨k, by omega, rfl, by rw [HF.out], rfl, HR3.out.below hb5 HR3.out.lt, HB3.out.trans (hb5.mono HZ3.out)⟩
      case measure => simp [intOf]
    | zero =>
      go_wp2
      go_ret
      exact ⟨rfl, hb⟩
end Go.Proofs.YtakdhdaoklcidaaGreatDoor

namespace Go.Proofs.YtakdhdaoklcidaaGreatDoor
open Go.RowKit
set_option linter.unusedVariables false
set_option maxRecDepth 100000
theorem run_copy_els {P : Program} (w : World) (dT sT ty elem : TypeId) (g o dLen dCap : Nat) (a : Addr) (sLen sCap : Nat) (cur : Array Value) (t : TypeId) (cs : List Value) (sz n : Nat)
    (hu : P.underlying dT = some (.slice elem)) (hs : (P.info? elem).map (·.size) = some sz)
    (hg : w.heap[g]? = some (.cells cur t (0, 0))) (hm : n = Nat.min sLen dLen) (hn : cs.length = n * sz)
    (hsrc : ∀ j v, cs[j]? = some v → w.cell? (a.add j) = some v) (hfit : o + cs.length ≤ cur.size) (h1 : ∀ v ∈ cs, v.oneCell' = true) :
    (Builtin.copy_ #[dT, sT] ty #[.slice (some ⟨g, o, none⟩) dLen dCap, .slice (some a) sLen sCap]).run P w =
      .ok (goInt n) (w.setRow g (cur.toList.take o ++ cs ++ cur.toList.drop (o + cs.length)).toArray) := by
  have hl := run_loadCells_list (P := P) w a cs hsrc
  have hst := run_storeCells_at P g o t cs 0 cur w hg (by simpa using hfit) h1
  cases hq : P.info? elem with
  | none => simp [hq] at hs
  | some i =>
    have hi : i.size = sz := by simpa [hq] using hs
    simp [Builtin.copy_, run_underlying hu, Builtin.lenOf, Builtin.firstCells, sizeOf, typeInfo, hq, hi, ← hm, ← hn, hl, hst]
end Go.Proofs.YtakdhdaoklcidaaGreatDoor

namespace Go.Proofs.YtakdhdaoklcidaaGreatDoor
open Go.RowKit
set_option linter.unusedVariables false
set_option maxRecDepth 100000
set_option maxRecDepth 100000 in
theorem fits_any (L : Lay) (hL : L.Ok) (n : Int) (w : World) :
    Calls Tryz.prog 73 #[L.val, .int .i64 n] w fun e w' => e = .returned (.bool (L.number (L.word n) == n)) ∧ Below w.heap.size w w' := by
  have HW := Lib.hid (word_any L hL n)
  have HX := Lib.hid (number_any L hL (L.word n))
  have hR : LayAt L w.heap.size (w.alloc (.cells L.cells 121)) := heap_alloc_new w _
  have hb : Below w.heap.size w (w.alloc (.cells L.cells 121)) := (Below.refl _ _).alloc (Nat.le_refl _) _
  have HB := Lib.hid hb
  have HZ : Hid (w.heap.size < (w.alloc (.cells L.cells 121)).heap.size) := Lib.hid (by simp)
  unfold Lay.val at *
  go_enter Tryz.func73, Tryz.ntmps73
  go_wp2
  rw [show (#[.int .i64 (L.h 0), .int .i64 (L.l 0), .int .i64 (L.h 1), .int .i64 (L.l 1), .int .i64 (L.h 2), .int .i64 (L.l 2), .int .i64 (L.h 3), .int .i64 (L.l 3), .int .i64 (L.ps.length), .int .i64 (L.nt), .bool L.sg] : Array Value) = L.cells from rfl]
  generalize hw2 : (w.alloc (.cells L.cells 121)) = w2 at *
  clear hw2 hb
  have c0 := hR.cell (o := 0) (v := .int .i64 (L.h 0)) rfl
  have c1 := hR.cell (o := 1) (v := .int .i64 (L.l 0)) rfl
  have c2 := hR.cell (o := 2) (v := .int .i64 (L.h 1)) rfl
  have c3 := hR.cell (o := 3) (v := .int .i64 (L.l 1)) rfl
  have c4 := hR.cell (o := 4) (v := .int .i64 (L.h 2)) rfl
  have c5 := hR.cell (o := 5) (v := .int .i64 (L.l 2)) rfl
  have c6 := hR.cell (o := 6) (v := .int .i64 (L.h 3)) rfl
  have c7 := hR.cell (o := 7) (v := .int .i64 (L.l 3)) rfl
  have c8 := hR.cell (o := 8) (v := .int .i64 (L.ps.length)) rfl
  have c9 := hR.cell (o := 9) (v := .int .i64 (L.nt)) rfl
  have c10 := hR.cell (o := 10) (v := .bool L.sg) rfl
  have HR := Lib.hid hR
  clear hR
  generalize hB : w.heap.size = B at *
  go_region_held3 (fun w' => w'.cell? ⟨B, 0, none⟩ = some (.int .i64 (L.h 0)) ∧ w'.cell? ⟨B, 1, none⟩ = some (.int .i64 (L.l 0)) ∧ w'.cell? ⟨B, 2, none⟩ = some (.int .i64 (L.h 1)) ∧ w'.cell? ⟨B, 3, none⟩ = some (.int .i64 (L.l 1)) ∧ w'.cell? ⟨B, 4, none⟩ = some (.int .i64 (L.h 2)) ∧ w'.cell? ⟨B, 5, none⟩ = some (.int .i64 (L.l 2)) ∧ w'.cell? ⟨B, 6, none⟩ = some (.int .i64 (L.h 3)) ∧ w'.cell? ⟨B, 7, none⟩ = some (.int .i64 (L.l 3)) ∧ w'.cell? ⟨B, 8, none⟩ = some (.int .i64 (L.ps.length)) ∧ w'.cell? ⟨B, 9, none⟩ = some (.int .i64 (L.nt)) ∧ w'.cell? ⟨B, 10, none⟩ = some (.bool L.sg)) (go_keep)
    (first
      | (go_at_call 103; refine (HW.out _).mono ?_; rintro e w3 ⟨rfl, hb3⟩; have hR3 := HR.out.below ((Below.refl _ _).drew.trans hb3) HZ.out; have e0 := hR3.cell (o := 0) (v := .int .i64 (L.h 0)) rfl; have e1 := hR3.cell (o := 1) (v := .int .i64 (L.l 0)) rfl; have e2 := hR3.cell (o := 2) (v := .int .i64 (L.h 1)) rfl; have e3 := hR3.cell (o := 3) (v := .int .i64 (L.l 1)) rfl; have e4 := hR3.cell (o := 4) (v := .int .i64 (L.h 2)) rfl; have e5 := hR3.cell (o := 5) (v := .int .i64 (L.l 2)) rfl; have e6 := hR3.cell (o := 6) (v := .int .i64 (L.h 3)) rfl; have e7 := hR3.cell (o := 7) (v := .int .i64 (L.l 3)) rfl; have e8 := hR3.cell (o := 8) (v := .int .i64 (L.ps.length)) rfl; have e9 := hR3.cell (o := 9) (v := .int .i64 (L.nt)) rfl; have e10 := hR3.cell (o := 10) (v := .bool L.sg) rfl; have HB3 := Lib.hid ((Below.refl _ _).drew.trans hb3); have HR3 := Lib.hid hR3; clear hb3 hR3)
      | (go_at_call 102; refine (HX.out _).mono ?_; rintro e w4 ⟨rfl, hb4⟩; have hR4 := HR3.out.below hb4 HR3.out.lt; have f0 := hR4.cell (o := 0) (v := .int .i64 (L.h 0)) rfl; have f1 := hR4.cell (o := 1) (v := .int .i64 (L.l 0)) rfl; have f2 := hR4.cell (o := 2) (v := .int .i64 (L.h 1)) rfl; have f3 := hR4.cell (o := 3) (v := .int .i64 (L.l 1)) rfl; have f4 := hR4.cell (o := 4) (v := .int .i64 (L.h 2)) rfl; have f5 := hR4.cell (o := 5) (v := .int .i64 (L.l 2)) rfl; have f6 := hR4.cell (o := 6) (v := .int .i64 (L.h 3)) rfl; have f7 := hR4.cell (o := 7) (v := .int .i64 (L.l 3)) rfl; have f8 := hR4.cell (o := 8) (v := .int .i64 (L.ps.length)) rfl; have f9 := hR4.cell (o := 9) (v := .int .i64 (L.nt)) rfl; have f10 := hR4.cell (o := 10) (v := .bool L.sg) rfl; have HB4 := Lib.hid (HB.out.trans ((HB3.out.mono (Nat.le_of_lt HZ.out)).trans (hb4.mono (Nat.le_trans (Nat.le_of_lt HZ.out) HB3.out.size)))); clear hb4 hR4))
  go_wp2
  go_ret
  exact ⟨rfl, by rw [hB]; exact HB4.out⟩
theorem add_none (b off i : Nat) : (⟨b, off, none⟩ : Addr).add i = ⟨b, off + i, none⟩ := by
  unfold Addr.add; split <;> simp_all
theorem setRow_two (w : World) (o : Obj) (c c' : Array Value) (t : TypeId) : ((w.alloc o).alloc (.cells c t)).setRow (w.heap.size + 1) c' = (w.alloc o).alloc (.cells c' t) := by
  have h := World.setRow_alloc_new (w.alloc o) c c' t
  rwa [World.size_alloc] at h
theorem size39i : (Tryz.prog.info? 118).map (·.size) = some 2 := by kernel_rfl
theorem unsigned_1 (g0 : Nat) (a b : Int) (w : World) (h0 : w.cell? ⟨g0, 0, none⟩ = some (.int .i64 a)) (h1 : w.cell? ⟨g0, 1, none⟩ = some (.int .i64 b)) (hg : g0 < w.heap.size) :
    Calls Tryz.prog 101 #[.slice (some ⟨g0, 0, none⟩) 1 1] w fun e w' => e = .returned (.agg #[.int .i64 a, .int .i64 b, .int .i64 0, .int .i64 0, .int .i64 0, .int .i64 0, .int .i64 0, .int .i64 0, .int .i64 1, .int .i64 0, .bool false]) ∧ Below w.heap.size w w' := by
  have hcp : (Builtin.copy_ #[175, 175] 3 #[.slice (some ⟨w.heap.size + 1, 0, none⟩) 4 4, .slice (some ⟨g0, 0, none⟩) 1 1]).run Tryz.prog ((w.alloc (.cells #[.int .i64 0, .int .i64 0, .int .i64 0, .int .i64 0, .int .i64 0, .int .i64 0, .int .i64 0, .int .i64 0, .int .i64 0, .int .i64 0, .bool false] 121)).alloc (.cells #[.int .i64 0, .int .i64 0, .int .i64 0, .int .i64 0, .int .i64 0, .int .i64 0, .int .i64 0, .int .i64 0, .int .i64 0, .int .i64 0, .bool false] 121)) = .ok (.int .i64 1) ((w.alloc (.cells #[.int .i64 0, .int .i64 0, .int .i64 0, .int .i64 0, .int .i64 0, .int .i64 0, .int .i64 0, .int .i64 0, .int .i64 0, .int .i64 0, .bool false] 121)).alloc (.cells #[.int .i64 a, .int .i64 b, .int .i64 0, .int .i64 0, .int .i64 0, .int .i64 0, .int .i64 0, .int .i64 0, .int .i64 0, .int .i64 0, .bool false] 121)) := by
    rw [run_copy_els (P := Tryz.prog) _ 175 175 3 118 (w.heap.size + 1) 0 4 4 ⟨g0, 0, none⟩ 1 1 #[.int .i64 0, .int .i64 0, .int .i64 0, .int .i64 0, .int .i64 0, .int .i64 0, .int .i64 0, .int .i64 0, .int .i64 0, .int .i64 0, .bool false] 121 [.int .i64 a, .int .i64 b] 2 1 Tryz.underlying175 size39i (heap_alloc_new (w.alloc _) _ |> fun h => by rwa [World.size_alloc] at h) rfl rfl ?_ (by simp) (by simp [Value.oneCell']), setRow_two]
    · rfl
    · intro j v hv
      rw [add_none, Nat.zero_add]
      refine ((((Below.refl _ _).alloc (Nat.le_refl _) _).alloc (by simp) _ : Below w.heap.size w _).cell (p := ⟨g0, j, none⟩) hg).trans ?_
      match j, hv with
      | 0, hv => exact (h0).trans hv
      | 1, hv => exact (h1).trans hv
      | i + 2, hv => simp at hv
  go_enter Tryz.func101, Tryz.ntmps101
  go_wp2
  exact bodyPost_ret (v := .agg #[.int .i64 a, .int .i64 b, .int .i64 0, .int .i64 0, .int .i64 0, .int .i64 0, .int .i64 0, .int .i64 0, .int .i64 1, .int .i64 0, .bool false]) (by simp [results, Tryz.results101, go_sem]) rfl ⟨rfl, ((Below.refl _ _).alloc (Nat.le_refl _) _).alloc (by simp) _⟩
theorem unsigned_2 (g0 : Nat) (a b c d : Int) (w : World) (h0 : w.cell? ⟨g0, 0, none⟩ = some (.int .i64 a)) (h1 : w.cell? ⟨g0, 1, none⟩ = some (.int .i64 b)) (h2 : w.cell? ⟨g0, 2, none⟩ = some (.int .i64 c)) (h3 : w.cell? ⟨g0, 3, none⟩ = some (.int .i64 d)) (hg : g0 < w.heap.size) :
    Calls Tryz.prog 101 #[.slice (some ⟨g0, 0, none⟩) 2 2] w fun e w' => e = .returned (.agg #[.int .i64 a, .int .i64 b, .int .i64 c, .int .i64 d, .int .i64 0, .int .i64 0, .int .i64 0, .int .i64 0, .int .i64 2, .int .i64 0, .bool false]) ∧ Below w.heap.size w w' := by
  have hcp : (Builtin.copy_ #[175, 175] 3 #[.slice (some ⟨w.heap.size + 1, 0, none⟩) 4 4, .slice (some ⟨g0, 0, none⟩) 2 2]).run Tryz.prog ((w.alloc (.cells #[.int .i64 0, .int .i64 0, .int .i64 0, .int .i64 0, .int .i64 0, .int .i64 0, .int .i64 0, .int .i64 0, .int .i64 0, .int .i64 0, .bool false] 121)).alloc (.cells #[.int .i64 0, .int .i64 0, .int .i64 0, .int .i64 0, .int .i64 0, .int .i64 0, .int .i64 0, .int .i64 0, .int .i64 0, .int .i64 0, .bool false] 121)) = .ok (.int .i64 2) ((w.alloc (.cells #[.int .i64 0, .int .i64 0, .int .i64 0, .int .i64 0, .int .i64 0, .int .i64 0, .int .i64 0, .int .i64 0, .int .i64 0, .int .i64 0, .bool false] 121)).alloc (.cells #[.int .i64 a, .int .i64 b, .int .i64 c, .int .i64 d, .int .i64 0, .int .i64 0, .int .i64 0, .int .i64 0, .int .i64 0, .int .i64 0, .bool false] 121)) := by
    rw [run_copy_els (P := Tryz.prog) _ 175 175 3 118 (w.heap.size + 1) 0 4 4 ⟨g0, 0, none⟩ 2 2 #[.int .i64 0, .int .i64 0, .int .i64 0, .int .i64 0, .int .i64 0, .int .i64 0, .int .i64 0, .int .i64 0, .int .i64 0, .int .i64 0, .bool false] 121 [.int .i64 a, .int .i64 b, .int .i64 c, .int .i64 d] 2 2 Tryz.underlying175 size39i (heap_alloc_new (w.alloc _) _ |> fun h => by rwa [World.size_alloc] at h) rfl rfl ?_ (by simp) (by simp [Value.oneCell']), setRow_two]
    · rfl
    · intro j v hv
      rw [add_none, Nat.zero_add]
      refine ((((Below.refl _ _).alloc (Nat.le_refl _) _).alloc (by simp) _ : Below w.heap.size w _).cell (p := ⟨g0, j, none⟩) hg).trans ?_
      match j, hv with
      | 0, hv => exact (h0).trans hv
      | 1, hv => exact (h1).trans hv
      | 2, hv => exact (h2).trans hv
      | 3, hv => exact (h3).trans hv
      | i + 4, hv => simp at hv
  go_enter Tryz.func101, Tryz.ntmps101
  go_wp2
  exact bodyPost_ret (v := .agg #[.int .i64 a, .int .i64 b, .int .i64 c, .int .i64 d, .int .i64 0, .int .i64 0, .int .i64 0, .int .i64 0, .int .i64 2, .int .i64 0, .bool false]) (by simp [results, Tryz.results101, go_sem]) rfl ⟨rfl, ((Below.refl _ _).alloc (Nat.le_refl _) _).alloc (by simp) _⟩
theorem unsigned_4 (g0 : Nat) (a b c d p q r s : Int) (w : World) (h0 : w.cell? ⟨g0, 0, none⟩ = some (.int .i64 a)) (h1 : w.cell? ⟨g0, 1, none⟩ = some (.int .i64 b)) (h2 : w.cell? ⟨g0, 2, none⟩ = some (.int .i64 c)) (h3 : w.cell? ⟨g0, 3, none⟩ = some (.int .i64 d)) (h4 : w.cell? ⟨g0, 4, none⟩ = some (.int .i64 p)) (h5 : w.cell? ⟨g0, 5, none⟩ = some (.int .i64 q)) (h6 : w.cell? ⟨g0, 6, none⟩ = some (.int .i64 r)) (h7 : w.cell? ⟨g0, 7, none⟩ = some (.int .i64 s)) (hg : g0 < w.heap.size) :
    Calls Tryz.prog 101 #[.slice (some ⟨g0, 0, none⟩) 4 4] w fun e w' => e = .returned (.agg #[.int .i64 a, .int .i64 b, .int .i64 c, .int .i64 d, .int .i64 p, .int .i64 q, .int .i64 r, .int .i64 s, .int .i64 4, .int .i64 0, .bool false]) ∧ Below w.heap.size w w' := by
  have hcp : (Builtin.copy_ #[175, 175] 3 #[.slice (some ⟨w.heap.size + 1, 0, none⟩) 4 4, .slice (some ⟨g0, 0, none⟩) 4 4]).run Tryz.prog ((w.alloc (.cells #[.int .i64 0, .int .i64 0, .int .i64 0, .int .i64 0, .int .i64 0, .int .i64 0, .int .i64 0, .int .i64 0, .int .i64 0, .int .i64 0, .bool false] 121)).alloc (.cells #[.int .i64 0, .int .i64 0, .int .i64 0, .int .i64 0, .int .i64 0, .int .i64 0, .int .i64 0, .int .i64 0, .int .i64 0, .int .i64 0, .bool false] 121)) = .ok (.int .i64 4) ((w.alloc (.cells #[.int .i64 0, .int .i64 0, .int .i64 0, .int .i64 0, .int .i64 0, .int .i64 0, .int .i64 0, .int .i64 0, .int .i64 0, .int .i64 0, .bool false] 121)).alloc (.cells #[.int .i64 a, .int .i64 b, .int .i64 c, .int .i64 d, .int .i64 p, .int .i64 q, .int .i64 r, .int .i64 s, .int .i64 0, .int .i64 0, .bool false] 121)) := by
    rw [run_copy_els (P := Tryz.prog) _ 175 175 3 118 (w.heap.size + 1) 0 4 4 ⟨g0, 0, none⟩ 4 4 #[.int .i64 0, .int .i64 0, .int .i64 0, .int .i64 0, .int .i64 0, .int .i64 0, .int .i64 0, .int .i64 0, .int .i64 0, .int .i64 0, .bool false] 121 [.int .i64 a, .int .i64 b, .int .i64 c, .int .i64 d, .int .i64 p, .int .i64 q, .int .i64 r, .int .i64 s] 2 4 Tryz.underlying175 size39i (heap_alloc_new (w.alloc _) _ |> fun h => by rwa [World.size_alloc] at h) rfl rfl ?_ (by simp) (by simp [Value.oneCell']), setRow_two]
    · rfl
    · intro j v hv
      rw [add_none, Nat.zero_add]
      refine ((((Below.refl _ _).alloc (Nat.le_refl _) _).alloc (by simp) _ : Below w.heap.size w _).cell (p := ⟨g0, j, none⟩) hg).trans ?_
      match j, hv with
      | 0, hv => exact (h0).trans hv
      | 1, hv => exact (h1).trans hv
      | 2, hv => exact (h2).trans hv
      | 3, hv => exact (h3).trans hv
      | 4, hv => exact (h4).trans hv
      | 5, hv => exact (h5).trans hv
      | 6, hv => exact (h6).trans hv
      | 7, hv => exact (h7).trans hv
      | i + 8, hv => simp at hv
  go_enter Tryz.func101, Tryz.ntmps101
  go_wp2
  exact bodyPost_ret (v := .agg #[.int .i64 a, .int .i64 b, .int .i64 c, .int .i64 d, .int .i64 p, .int .i64 q, .int .i64 r, .int .i64 s, .int .i64 4, .int .i64 0, .bool false]) (by simp [results, Tryz.results101, go_sem]) rfl ⟨rfl, ((Below.refl _ _).alloc (Nat.le_refl _) _).alloc (by simp) _⟩
theorem size42i : (Tryz.prog.info? 121).map (·.size) = some 11 := by kernel_rfl
theorem signed_1 (g0 : Nat) (nt a b : Int) (w : World) (h0 : w.cell? ⟨g0, 0, none⟩ = some (.int .i64 a)) (h1 : w.cell? ⟨g0, 1, none⟩ = some (.int .i64 b)) (hg : g0 < w.heap.size) :
    Calls Tryz.prog 100 #[.int .i64 nt, .slice (some ⟨g0, 0, none⟩) 1 1] w fun e w' => e = .returned (.agg #[.int .i64 a, .int .i64 b, .int .i64 0, .int .i64 0, .int .i64 0, .int .i64 0, .int .i64 0, .int .i64 0, .int .i64 1, .int .i64 nt, .bool true]) ∧ Below w.heap.size w w' := by
  have hb0 : Below w.heap.size w (w.alloc (.cells #[.int .i64 0, .int .i64 0, .int .i64 0, .int .i64 0, .int .i64 0, .int .i64 0, .int .i64 0, .int .i64 0, .int .i64 0, .int .i64 0, .bool false] 121)) := (Below.refl _ _).alloc (Nat.le_refl _) _
  have HC := Lib.hid (unsigned_1 g0 a b (w.alloc (.cells #[.int .i64 0, .int .i64 0, .int .i64 0, .int .i64 0, .int .i64 0, .int .i64 0, .int .i64 0, .int .i64 0, .int .i64 0, .int .i64 0, .bool false] 121)) ((hb0.cell (p := ⟨g0, 0, none⟩) hg).trans h0) ((hb0.cell (p := ⟨g0, 1, none⟩) hg).trans h1) (by simp; omega))
  have HB0 := Lib.hid hb0
  clear hb0
  go_enter Tryz.func100, Tryz.ntmps100
  go_wp2_with (first
    | (go_at_call 101; refine HC.out.mono ?_; rintro e w1 ⟨rfl, hb1⟩; have HZ : Hid (w.heap.size < w1.heap.size) := Lib.hid (by have := hb1.size; simp at this; omega); have HR : Hid (∀ o, (w1.alloc o).heap[w.heap.size]? = some (.cells #[.int .i64 0, .int .i64 0, .int .i64 0, .int .i64 0, .int .i64 0, .int .i64 0, .int .i64 0, .int .i64 0, .int .i64 0, .int .i64 0, .bool false] 121 (0, 0))) := Lib.hid fun o => (Below.heap_alloc w1 o w.heap.size HZ.out).trans ((hb1.block w.heap.size (by simp)).trans (heap_alloc_new w _)); have HB1 := Lib.hid (HB0.out.trans (hb1.mono (by simp))); clear hb1)
    | (refine wpList_store_row rfl _ _ _ rfl w.heap.size _ rfl rfl 121 _ (HR.out _) size42i rfl (by simp [Value.oneCell']) ?_))
  exact bodyPost_ret (v := .agg #[.int .i64 a, .int .i64 b, .int .i64 0, .int .i64 0, .int .i64 0, .int .i64 0, .int .i64 0, .int .i64 0, .int .i64 1, .int .i64 nt, .bool true]) (results_cell_row (show Tryz.f100.results = #[.cell 4 121] by kernel_rfl) _ _ w.heap.size 121 _ _ _ rfl (setRow_heap _ _ _ _ _ _ (HR.out _)) Tryz.underlying121 rfl size42i) rfl ⟨rfl, below_setRow (HB1.out.alloc (Nat.le_of_lt HZ.out) _) (Nat.le_refl _) _⟩
theorem signed_2 (g0 : Nat) (nt a b c d : Int) (w : World) (h0 : w.cell? ⟨g0, 0, none⟩ = some (.int .i64 a)) (h1 : w.cell? ⟨g0, 1, none⟩ = some (.int .i64 b)) (h2 : w.cell? ⟨g0, 2, none⟩ = some (.int .i64 c)) (h3 : w.cell? ⟨g0, 3, none⟩ = some (.int .i64 d)) (hg : g0 < w.heap.size) :
    Calls Tryz.prog 100 #[.int .i64 nt, .slice (some ⟨g0, 0, none⟩) 2 2] w fun e w' => e = .returned (.agg #[.int .i64 a, .int .i64 b, .int .i64 c, .int .i64 d, .int .i64 0, .int .i64 0, .int .i64 0, .int .i64 0, .int .i64 2, .int .i64 nt, .bool true]) ∧ Below w.heap.size w w' := by
  have hb0 : Below w.heap.size w (w.alloc (.cells #[.int .i64 0, .int .i64 0, .int .i64 0, .int .i64 0, .int .i64 0, .int .i64 0, .int .i64 0, .int .i64 0, .int .i64 0, .int .i64 0, .bool false] 121)) := (Below.refl _ _).alloc (Nat.le_refl _) _
  have HC := Lib.hid (unsigned_2 g0 a b c d (w.alloc (.cells #[.int .i64 0, .int .i64 0, .int .i64 0, .int .i64 0, .int .i64 0, .int .i64 0, .int .i64 0, .int .i64 0, .int .i64 0, .int .i64 0, .bool false] 121)) ((hb0.cell (p := ⟨g0, 0, none⟩) hg).trans h0) ((hb0.cell (p := ⟨g0, 1, none⟩) hg).trans h1) ((hb0.cell (p := ⟨g0, 2, none⟩) hg).trans h2) ((hb0.cell (p := ⟨g0, 3, none⟩) hg).trans h3) (by simp; omega))
  have HB0 := Lib.hid hb0
  clear hb0
  go_enter Tryz.func100, Tryz.ntmps100
  go_wp2_with (first
    | (go_at_call 101; refine HC.out.mono ?_; rintro e w1 ⟨rfl, hb1⟩; have HZ : Hid (w.heap.size < w1.heap.size) := Lib.hid (by have := hb1.size; simp at this; omega); have HR : Hid (∀ o, (w1.alloc o).heap[w.heap.size]? = some (.cells #[.int .i64 0, .int .i64 0, .int .i64 0, .int .i64 0, .int .i64 0, .int .i64 0, .int .i64 0, .int .i64 0, .int .i64 0, .int .i64 0, .bool false] 121 (0, 0))) := Lib.hid fun o => (Below.heap_alloc w1 o w.heap.size HZ.out).trans ((hb1.block w.heap.size (by simp)).trans (heap_alloc_new w _)); have HB1 := Lib.hid (HB0.out.trans (hb1.mono (by simp))); clear hb1)
    | (refine wpList_store_row rfl _ _ _ rfl w.heap.size _ rfl rfl 121 _ (HR.out _) size42i rfl (by simp [Value.oneCell']) ?_))
  exact bodyPost_ret (v := .agg #[.int .i64 a, .int .i64 b, .int .i64 c, .int .i64 d, .int .i64 0, .int .i64 0, .int .i64 0, .int .i64 0, .int .i64 2, .int .i64 nt, .bool true]) (results_cell_row (show Tryz.f100.results = #[.cell 4 121] by kernel_rfl) _ _ w.heap.size 121 _ _ _ rfl (setRow_heap _ _ _ _ _ _ (HR.out _)) Tryz.underlying121 rfl size42i) rfl ⟨rfl, below_setRow (HB1.out.alloc (Nat.le_of_lt HZ.out) _) (Nat.le_refl _) _⟩
theorem signed_4 (g0 : Nat) (nt a b c d p q r s : Int) (w : World) (h0 : w.cell? ⟨g0, 0, none⟩ = some (.int .i64 a)) (h1 : w.cell? ⟨g0, 1, none⟩ = some (.int .i64 b)) (h2 : w.cell? ⟨g0, 2, none⟩ = some (.int .i64 c)) (h3 : w.cell? ⟨g0, 3, none⟩ = some (.int .i64 d)) (h4 : w.cell? ⟨g0, 4, none⟩ = some (.int .i64 p)) (h5 : w.cell? ⟨g0, 5, none⟩ = some (.int .i64 q)) (h6 : w.cell? ⟨g0, 6, none⟩ = some (.int .i64 r)) (h7 : w.cell? ⟨g0, 7, none⟩ = some (.int .i64 s)) (hg : g0 < w.heap.size) :
    Calls Tryz.prog 100 #[.int .i64 nt, .slice (some ⟨g0, 0, none⟩) 4 4] w fun e w' => e = .returned (.agg #[.int .i64 a, .int .i64 b, .int .i64 c, .int .i64 d, .int .i64 p, .int .i64 q, .int .i64 r, .int .i64 s, .int .i64 4, .int .i64 nt, .bool true]) ∧ Below w.heap.size w w' := by
  have hb0 : Below w.heap.size w (w.alloc (.cells #[.int .i64 0, .int .i64 0, .int .i64 0, .int .i64 0, .int .i64 0, .int .i64 0, .int .i64 0, .int .i64 0, .int .i64 0, .int .i64 0, .bool false] 121)) := (Below.refl _ _).alloc (Nat.le_refl _) _
  have HC := Lib.hid (unsigned_4 g0 a b c d p q r s (w.alloc (.cells #[.int .i64 0, .int .i64 0, .int .i64 0, .int .i64 0, .int .i64 0, .int .i64 0, .int .i64 0, .int .i64 0, .int .i64 0, .int .i64 0, .bool false] 121)) ((hb0.cell (p := ⟨g0, 0, none⟩) hg).trans h0) ((hb0.cell (p := ⟨g0, 1, none⟩) hg).trans h1) ((hb0.cell (p := ⟨g0, 2, none⟩) hg).trans h2) ((hb0.cell (p := ⟨g0, 3, none⟩) hg).trans h3) ((hb0.cell (p := ⟨g0, 4, none⟩) hg).trans h4) ((hb0.cell (p := ⟨g0, 5, none⟩) hg).trans h5) ((hb0.cell (p := ⟨g0, 6, none⟩) hg).trans h6) ((hb0.cell (p := ⟨g0, 7, none⟩) hg).trans h7) (by simp; omega))
  have HB0 := Lib.hid hb0
  clear hb0
  go_enter Tryz.func100, Tryz.ntmps100
  go_wp2_with (first
    | (go_at_call 101; refine HC.out.mono ?_; rintro e w1 ⟨rfl, hb1⟩; have HZ : Hid (w.heap.size < w1.heap.size) := Lib.hid (by have := hb1.size; simp at this; omega); have HR : Hid (∀ o, (w1.alloc o).heap[w.heap.size]? = some (.cells #[.int .i64 0, .int .i64 0, .int .i64 0, .int .i64 0, .int .i64 0, .int .i64 0, .int .i64 0, .int .i64 0, .int .i64 0, .int .i64 0, .bool false] 121 (0, 0))) := Lib.hid fun o => (Below.heap_alloc w1 o w.heap.size HZ.out).trans ((hb1.block w.heap.size (by simp)).trans (heap_alloc_new w _)); have HB1 := Lib.hid (HB0.out.trans (hb1.mono (by simp))); clear hb1)
    | (refine wpList_store_row rfl _ _ _ rfl w.heap.size _ rfl rfl 121 _ (HR.out _) size42i rfl (by simp [Value.oneCell']) ?_))
  exact bodyPost_ret (v := .agg #[.int .i64 a, .int .i64 b, .int .i64 c, .int .i64 d, .int .i64 p, .int .i64 q, .int .i64 r, .int .i64 s, .int .i64 4, .int .i64 nt, .bool true]) (results_cell_row (show Tryz.f100.results = #[.cell 4 121] by kernel_rfl) _ _ w.heap.size 121 _ _ _ rfl (setRow_heap _ _ _ _ _ _ (HR.out _)) Tryz.underlying121 rfl size42i) rfl ⟨rfl, below_setRow (HB1.out.alloc (Nat.le_of_lt HZ.out) _) (Nat.le_refl _) _⟩
end Go.Proofs.YtakdhdaoklcidaaGreatDoor
