/- Joined: BuR BuS BuT BuTab -/
import Derived.Test.YtohidopbggcejaaDoorMZ6
import Derived.Test.YtohidopbggcejaaDoorMZ4
import Derived.Test.YtohidopbggcejaaDoorMZ5
namespace Go.Proofs.YtohidopbggcejaaDoor
open Go.RowKit
set_option linter.unusedVariables false
set_option maxRecDepth 100000

/-! ### the plic -/
theorem ps_ext7 {t u : P5.PS} (h1 : ∀ i, t.prio i = u.prio i) (h2 : ∀ i, t.up i = u.up i) (h3 : ∀ i, t.pend i = u.pend i) (h4 : ∀ i, t.busy i = u.busy i) (h5 : ∀ i c, t.on i c = u.on i c) (h6 : ∀ c, t.floor c = u.floor c) : t = u := by
  obtain ⟨a1, a2, a3, a4, a5, a6⟩ := t
  obtain ⟨b1, b2, b3, b4, b5, b6⟩ := u
  obtain rfl : a1 = b1 := funext h1
  obtain rfl : a2 = b2 := funext h2
  obtain rfl : a3 = b3 := funext h3
  obtain rfl : a4 = b4 := funext h4
  obtain rfl : a5 = b5 := funext fun i => funext fun c => h5 i c
  obtain rfl : a6 = b6 := funext h6
  rfl
/-- Two numbers of sources 10 and 11, and what all others have. -/
def two {α : Type} (z x y : α) (i : Nat) : α := if i = 10 then x else if i = 11 then y else z
theorem upd10 {α : Type} (z x y v : α) : P5.upd (two z x y) 10 v = two z v y := by
  funext i; unfold P5.upd two
  by_cases h : i = 10 <;> simp [h]
theorem upd11 {α : Type} (z x y v : α) : P5.upd (two z x y) 11 v = two z x v := by
  funext i; unfold P5.upd two
  by_cases h : i = 11
  · subst h; simp
  · simp [h]
/-- Priorities 1, enabled at context 1 alone: up, pending, claimed. -/
def qd (u0 u1 e0 e1 b0 b1 : Bool) : P5.PS := ⟨two 0 1 1, two false u0 u1, two false e0 e1, two false b0 b1, fun s c => decide (c = 1) && two false true true s, fun _ => 0⟩
theorem onBits_3072 (s : Nat) : P5.onBits 3072 s = two false true true s := by
  by_cases h : s < 12
  · have : ∀ s, s < 12 → P5.onBits 3072 s = two false true true s := by decide +kernel
    exact this s h
  · have h2 : (2 : Int) ^ 12 ≤ 2 ^ s := by exact_mod_cast Nat.pow_le_pow_right (by omega) (show 12 ≤ s by omega)
    have e : (3072 : Int) / 2 ^ s = 0 := Int.ediv_eq_zero_of_lt (by decide) (by have : (2 : Int) ^ 12 = 4096 := rfl; omega)
    unfold P5.onBits P5.vbit two
    rw [e, if_neg (by omega), if_neg (by omega)]
    simp
theorem qd_made : P5.onT (P5.prioT (P5.prioT P5.p0 10 1) 11 1) 1 (P5.onBits 3072) = qd false false false false false false := by
  refine ps_ext7 (fun i => ?_) (fun i => ?_) (fun i => ?_) (fun i => ?_) (fun i c => ?_) (fun c => ?_)
  · show P5.upd (P5.upd (fun _ => (0 : Int)) 10 1) 11 1 i = two 0 1 1 i
    unfold P5.upd two
    by_cases h : i = 11
    · subst h; simp
    · simp [h]
  · show false = two false false false i; unfold two; split <;> (try split) <;> rfl
  · show false = two false false false i; unfold two; split <;> (try split) <;> rfl
  · show false = two false false false i; unfold two; split <;> (try split) <;> rfl
  · show (if c = 1 then P5.onBits 3072 i else false) = (decide (c = 1) && two false true true i)
    rw [onBits_3072]
    by_cases h : c = 1 <;> simp [h]
  · rfl
theorem qd_level10 (u0 u1 e0 e1 b1 u : Bool) : P5.levelP (qd u0 u1 e0 e1 false b1) 10 u = qd u u1 (e0 || u) e1 false b1 := by
  show P5.lookP { qd u0 u1 e0 e1 false b1 with up := P5.upd (two false u0 u1) 10 u } 10 = _
  rw [upd10]
  cases u
  · rw [Bool.or_false]; rfl
  · rw [Bool.or_true]
    show ({ qd u0 u1 e0 e1 false b1 with up := two false true u1, pend := P5.upd (two false e0 e1) 10 true } : P5.PS) = _
    rw [upd10]; rfl
theorem qd_level11 (u0 u1 e0 e1 b0 u : Bool) : P5.levelP (qd u0 u1 e0 e1 b0 false) 11 u = qd u0 u e0 (e1 || u) b0 false := by
  show P5.lookP { qd u0 u1 e0 e1 b0 false with up := P5.upd (two false u0 u1) 11 u } 11 = _
  rw [upd11]
  cases u
  · rw [Bool.or_false]; rfl
  · rw [Bool.or_true]
    show ({ qd u0 u1 e0 e1 b0 false with up := two false u0 true, pend := P5.upd (two false e0 e1) 11 true } : P5.PS) = _
    rw [upd11]; rfl
theorem qd_best (u0 u1 e0 e1 b0 b1 : Bool) : P5.bestC (qd u0 u1 e0 e1 b0 b1) 1 = if e0 then 10 else if e1 then 11 else 0 := by
  cases e0 <;> cases e1 <;> kernel_rfl
theorem qd_line1 (u0 u1 e0 e1 b0 b1 : Bool) : P5.lineT (qd u0 u1 e0 e1 b0 b1) 1 = (e0 || e1) := by
  cases e0 <;> cases e1 <;> kernel_rfl
theorem qd_claim10 (u0 u1 e0 e1 b0 b1 : Bool) : P5.claimed (qd u0 u1 e0 e1 b0 b1) 10 = qd u0 u1 false e1 true b1 := by
  show ({ qd u0 u1 e0 e1 b0 b1 with pend := P5.upd (two false e0 e1) 10 false, busy := P5.upd (two false b0 b1) 10 true } : P5.PS) = _
  rw [upd10, upd10]; rfl
theorem qd_claim11 (u0 u1 e0 e1 b0 b1 : Bool) : P5.claimed (qd u0 u1 e0 e1 b0 b1) 11 = qd u0 u1 e0 false b0 true := by
  show ({ qd u0 u1 e0 e1 b0 b1 with pend := P5.upd (two false e0 e1) 11 false, busy := P5.upd (two false b0 b1) 11 true } : P5.PS) = _
  rw [upd11, upd11]; rfl
theorem qd_done10 (u0 u1 e1 b1 : Bool) : P5.doneT (qd u0 u1 false e1 true b1) 1 10 = qd u0 u1 u0 e1 false b1 := by
  show P5.lookP { qd u0 u1 false e1 true b1 with busy := P5.upd (two false true b1) 10 false } 10 = _
  rw [upd10]
  cases u0
  · rfl
  · show ({ qd true u1 false e1 true b1 with busy := two false false b1, pend := P5.upd (two false false e1) 10 true } : P5.PS) = _
    rw [upd10]; rfl
theorem qd_done11 (u0 u1 e0 b0 : Bool) : P5.doneT (qd u0 u1 e0 false b0 true) 1 11 = qd u0 u1 e0 u1 b0 false := by
  show P5.lookP { qd u0 u1 e0 false b0 true with busy := P5.upd (two false b0 true) 11 false } 11 = _
  rw [upd11]
  cases u1
  · rfl
  · show ({ qd u0 true e0 false b0 true with busy := two false b0 false, pend := P5.upd (two false e0 false) 11 true } : P5.PS) = _
    rw [upd11]; rfl
theorem qd_done0 (t : P5.PS) : P5.doneT t 1 0 = t := rfl

/-! ### the bus's state -/
def dst (m : Int → Int) (c : C4.Cl) (t : Nat → U6.US) (e0 e1 b0 b1 : Bool) : BS := ⟨4096, m, c, qd (U6.lineU (t 0)) (U6.lineU (t 1)) e0 e1 b0 b1, [t 0, t 1]⟩
/-- Ahead of an act; and behind one, ahead of the claims. -/
def idleS (m : Int → Int) (c : C4.Cl) (t : Nat → U6.US) : BS := dst m c t (U6.lineU (t 0)) (U6.lineU (t 1)) false false
def actS (m : Int → Int) (c : C4.Cl) (t t' : Nat → U6.US) : BS := dst m c t' (U6.lineU (t 0) || U6.lineU (t' 0)) (U6.lineU (t 1) || U6.lineU (t' 1)) false false
theorem actS_same (m : Int → Int) (c : C4.Cl) (t : Nat → U6.US) : actS m c t t = idleS m c t := by unfold actS idleS; rw [Bool.or_self, Bool.or_self]
def setT (t : Nat → U6.US) (k : Nat) (x : U6.US) : Nat → U6.US := P5.upd t k x
theorem setT_self (t : Nat → U6.US) (k : Nat) : setT t k (t k) = t := by
  funext i; unfold setT P5.upd; split
  · rename_i h; rw [h]
  · rfl
theorem drive_idle (m : Int → Int) (c : C4.Cl) (t : Nat → U6.US) (k : Nat) (hk : k < 2) (x : U6.US) : driveS (uartS (idleS m c t) k x) k = actS m c t (setT t k x) := by
  match k, hk with
  | 0, _ =>
    show ({ size := 4096, m := m, c := c, p := P5.levelP (qd (U6.lineU (t 0)) (U6.lineU (t 1)) (U6.lineU (t 0)) (U6.lineU (t 1)) false false) 10 (U6.lineU x), us := [x, t 1] } : BS) = _
    rw [qd_level10]
    show _ = ({ size := 4096, m := m, c := c, p := qd (U6.lineU x) (U6.lineU (t 1)) (U6.lineU (t 0) || U6.lineU x) (U6.lineU (t 1) || U6.lineU (t 1)) false false, us := [x, t 1] } : BS)
    rw [Bool.or_self]
  | 1, _ =>
    show ({ size := 4096, m := m, c := c, p := P5.levelP (qd (U6.lineU (t 0)) (U6.lineU (t 1)) (U6.lineU (t 0)) (U6.lineU (t 1)) false false) 11 (U6.lineU x), us := [t 0, x] } : BS) = _
    rw [qd_level11]
    show _ = ({ size := 4096, m := m, c := c, p := qd (U6.lineU (t 0)) (U6.lineU x) (U6.lineU (t 0) || U6.lineU (t 0)) (U6.lineU (t 1) || U6.lineU x) false false, us := [t 0, x] } : BS)
    rw [Bool.or_self]
theorem reg_uart (k : Nat) (hk : k < 2) (r : Int) (h0 : 0 ≤ r) (h1 : r < 8) : regK 4096 2 (268435456 + 4096 * (k : Int) + r) = k + 3 ∧ offK 2 (k + 3) (268435456 + 4096 * (k : Int) + r) = r := by
  constructor
  · unfold regK
    rw [if_neg (by omega), if_neg (by omega), if_neg (by omega), if_pos (by omega)]
    omega
  · unfold offK regBase
    rw [if_neg (by omega), if_neg (by omega), if_neg (by omega), if_neg (by omega), if_pos (by omega)]
    omega
theorem okN_one {n : Int} (h : ¬ M3.okN n = true) : ¬ n = 1 := by rintro rfl; exact h rfl
theorem plK_no (x : U6.US) (r : Int) {n : Int} (h : ¬ n = 1) : U6.plK x r n = 10 := by unfold U6.plK; rw [if_neg (fun c => h c.1)]
theorem us_get (m : Int → Int) (c : C4.Cl) (t : Nat → U6.US) (k : Nat) (hk : k < 2) : (idleS m c t).us.getD k U6.u0 = t k := by
  match k, hk with
  | 0, _ => rfl
  | 1, _ => rfl
theorem act_write (m : Int → Int) (c : C4.Cl) (t : Nat → U6.US) (k : Nat) (hk : k < 2) (r n v : Int) (h0 : 0 ≤ r) (h1 : r < 8) :
    busWr (idleS m c t) (268435456 + 4096 * (k : Int) + r) n v = (U6.okK (U6.plK (t k) r n), actS m c t (setT t k (U6.wrT (t k) (v % 256) (U6.plK (t k) r n)))) := by
  obtain ⟨e1, e2⟩ := reg_uart k hk r h0 h1
  unfold busWr
  show (if M3.okN n = true ∧ regK 4096 2 _ < 11 then wrR (idleS m c t) (offK 2 (regK 4096 2 _) _) n v (regK 4096 2 _) else _) = _
  rw [e1]
  by_cases hn : M3.okN n = true
  · rw [if_pos ⟨hn, by omega⟩, e2]
    show (U6.okK (U6.plK ((idleS m c t).us.getD k U6.u0) r n), driveS (uartS (idleS m c t) k (U6.wrT ((idleS m c t).us.getD k U6.u0) (v % 256) (U6.plK ((idleS m c t).us.getD k U6.u0) r n))) k) = _
    rw [us_get m c t k hk, drive_idle m c t k hk]
  · rw [if_neg (fun c => hn c.1), plK_no _ _ (okN_one hn)]
    show _ = (false, actS m c t (setT t k (t k)))
    rw [setT_self, actS_same]
theorem act_read (m : Int → Int) (c : C4.Cl) (t : Nat → U6.US) (k : Nat) (hk : k < 2) (r n : Int) (h0 : 0 ≤ r) (h1 : r < 8) :
    busRd (idleS m c t) (268435456 + 4096 * (k : Int) + r) n = (U6.rdX (t k) (U6.plK (t k) r n), U6.okK (U6.plK (t k) r n), actS m c t (setT t k (U6.rdT (t k) (U6.plK (t k) r n)))) := by
  obtain ⟨e1, e2⟩ := reg_uart k hk r h0 h1
  unfold busRd
  show (if M3.okN n = true ∧ regK 4096 2 _ < 11 then rdR (idleS m c t) (offK 2 (regK 4096 2 _) _) n (regK 4096 2 _) else _) = _
  rw [e1]
  by_cases hn : M3.okN n = true
  · rw [if_pos ⟨hn, by omega⟩, e2]
    show (U6.rdX ((idleS m c t).us.getD k U6.u0) (U6.plK ((idleS m c t).us.getD k U6.u0) r n), U6.okK (U6.plK ((idleS m c t).us.getD k U6.u0) r n), driveS (uartS (idleS m c t) k (U6.rdT ((idleS m c t).us.getD k U6.u0) (U6.plK ((idleS m c t).us.getD k U6.u0) r n))) k) = _
    rw [us_get m c t k hk, drive_idle m c t k hk]
  · rw [if_neg (fun c => hn c.1), plK_no _ _ (okN_one hn)]
    show _ = (0, false, actS m c t (setT t k (t k)))
    rw [setT_self, actS_same]
theorem act_feed (m : Int → Int) (c : C4.Cl) (t : Nat → U6.US) (k : Nat) (hk : k < 2) (x : Int) :
    busFd (idleS m c t) k x = (U6.feedK (t k), actS m c t (setT t k (U6.feedT (t k) x))) := by
  unfold busFd
  have hU : isU (idleS m c t).us.length (k : Int) = true := by
    match k, hk with
    | 0, _ => rfl
    | 1, _ => rfl
  rw [if_pos hU, show ((k : Int)).toNat = k by omega, us_get m c t k hk, drive_idle m c t k hk]
/-- The claims and their ends. -/
theorem claim_is (m : Int → Int) (c : C4.Cl) (t : Nat → U6.US) (e0 e1 b0 b1 : Bool) : busRd (dst m c t e0 e1 b0 b1) 203427844 4 = (((P5.bestC (qd (U6.lineU (t 0)) (U6.lineU (t 1)) e0 e1 b0 b1) 1 : Nat) : Int), true, { dst m c t e0 e1 b0 b1 with p := P5.claimed (qd (U6.lineU (t 0)) (U6.lineU (t 1)) e0 e1 b0 b1) (P5.bestC (qd (U6.lineU (t 0)) (U6.lineU (t 1)) e0 e1 b0 b1) 1) }) := rfl
theorem claim_10 (m : Int → Int) (c : C4.Cl) (t : Nat → U6.US) (e1 b0 b1 : Bool) : busRd (dst m c t true e1 b0 b1) 203427844 4 = (10, true, dst m c t false e1 true b1) := by
  rw [claim_is, qd_best]
  show ((10 : Int), true, ({ dst m c t true e1 b0 b1 with p := P5.claimed (qd (U6.lineU (t 0)) (U6.lineU (t 1)) true e1 b0 b1) 10 } : BS)) = _
  rw [qd_claim10]; rfl
theorem claim_11 (m : Int → Int) (c : C4.Cl) (t : Nat → U6.US) (b0 b1 : Bool) : busRd (dst m c t false true b0 b1) 203427844 4 = (11, true, dst m c t false false b0 true) := by
  rw [claim_is, qd_best]
  show ((11 : Int), true, ({ dst m c t false true b0 b1 with p := P5.claimed (qd (U6.lineU (t 0)) (U6.lineU (t 1)) false true b0 b1) 11 } : BS)) = _
  rw [qd_claim11]; rfl
theorem claim_0 (m : Int → Int) (c : C4.Cl) (t : Nat → U6.US) (b0 b1 : Bool) : busRd (dst m c t false false b0 b1) 203427844 4 = (0, true, dst m c t false false b0 b1) := by
  rw [claim_is, qd_best]; rfl
theorem done_is (m : Int → Int) (c : C4.Cl) (t : Nat → U6.US) (e0 e1 b0 b1 : Bool) (v : Int) (j : Nat) (hv : (v % 4294967296).toNat = j) : busWr (dst m c t e0 e1 b0 b1) 203427844 4 v = (true, { dst m c t e0 e1 b0 b1 with p := P5.doneT (qd (U6.lineU (t 0)) (U6.lineU (t 1)) e0 e1 b0 b1) 1 j }) := by
  subst hv; rfl
theorem done_10 (m : Int → Int) (c : C4.Cl) (t : Nat → U6.US) (e1 b1 : Bool) : busWr (dst m c t false e1 true b1) 203427844 4 10 = (true, dst m c t (U6.lineU (t 0)) e1 false b1) := by
  rw [done_is _ _ _ _ _ _ _ 10 10 rfl, qd_done10]; rfl
theorem done_11 (m : Int → Int) (c : C4.Cl) (t : Nat → U6.US) (e0 b0 : Bool) : busWr (dst m c t e0 false b0 true) 203427844 4 11 = (true, dst m c t e0 (U6.lineU (t 1)) b0 false) := by
  rw [done_is _ _ _ _ _ _ _ 11 11 rfl, qd_done11]; rfl
theorem done_0 (m : Int → Int) (c : C4.Cl) (t : Nat → U6.US) (e0 e1 b0 b1 : Bool) : busWr (dst m c t e0 e1 b0 b1) 203427844 4 0 = (true, dst m c t e0 e1 b0 b1) := by
  rw [done_is _ _ _ _ _ _ _ 0 0 rfl]; rfl
theorem seip_is (m : Int → Int) (c : C4.Cl) (t : Nat → U6.US) (e0 e1 b0 b1 : Bool) : linesV (dst m c t e0 e1 b0 b1) = linesW c.s (C4.mtC c) (P5.lineT (qd (U6.lineU (t 0)) (U6.lineU (t 1)) e0 e1 b0 b1) 0) (e0 || e1) (P5.upT (qd (U6.lineU (t 0)) (U6.lineU (t 1)) e0 e1 b0 b1) 31) c.n := by
  show linesW c.s (C4.mtC c) _ (P5.lineT (qd (U6.lineU (t 0)) (U6.lineU (t 1)) e0 e1 b0 b1) 1) _ _ = _
  rw [qd_line1]; rfl

end Go.Proofs.YtohidopbggcejaaDoor

namespace Go.Proofs.YtohidopbggcejaaDoor
open Go.RowKit
set_option linter.unusedVariables false
set_option maxRecDepth 100000

/-- A bus and n uarts of the law's own, none of whose blocks is another's. -/
structure Drv (w0 : World) (b g : Nat) (vp : Value) (ul : List Nat) (st : BS) (n : Nat) (ua : Nat → Nat) (t : Nat → U6.US) (K : Nat → Nat) (F : Nat → Nat → Prop) (w : World) : Prop where
  bel : Below w0.heap.size w0 w
  tab0 : ∀ i, TabB i → i < w0.heap.size
  newK : ∀ i, ¬ K i = 0 → w0.heap.size ≤ i
  newF : ∀ j i, j < n → F j i → w0.heap.size ≤ i ∧ K i = 0
  far : ∀ j j' i, j < n → j' < n → ¬ j = j' → F j i → ¬ F j' i
  bus : BusP w b K g vp ul st
  uart : ∀ j, j < n → U6.UP w (ua j) (F j) (t j)
/-- The law's array of the two uarts. -/
def ArrAt (w : World) (ub : Nat) (ua : Nat → Nat) : Prop := w.heap[ub]? = some (.cells #[.pointer (some ⟨ua 0, 0, none⟩), .pointer (some ⟨ua 1, 0, none⟩)] 31 (0, 0))
/-- All that the law made. -/
def All (w0 : World) (b g : Nat) (vp : Value) (ul : List Nat) (ub : Nat) (ua : Nat → Nat) (st : BS) (t : Nat → U6.US) (w : World) : Prop :=
  ∃ K F, Drv w0 b g vp ul st 2 ua t K F w ∧ K ub = 0 ∧ (∀ j, j < 2 → ¬ F j ub) ∧ w0.heap.size ≤ ub ∧ ArrAt w ub ua
section
variable {w0 w w' : World} {b g : Nat} {vp : Value} {ul : List Nat} {st : BS} {n : Nat} {ua : Nat → Nat} {t : Nat → U6.US} {K : Nat → Nat} {F : Nat → Nat → Prop} {ub : Nat}
theorem Drv.later (h : Drv w0 b g vp ul st n ua t K F w) (o : Below w.heap.size w w') : Drv w0 b g vp ul st n ua t K F w' :=
  ⟨h.bel.trans (o.mono h.bel.size), h.tab0, h.newK, h.newF, h.far, h.bus.below o, fun j hj => by obtain ⟨vi, vo, k⟩ := h.uart j hj; exact ⟨vi, vo, k.below o⟩⟩
theorem Drv.ofBus (h : Drv w0 b g vp ul st n ua t K F w) {r : Value} {st' : BS} {e : Ending} (k : BusEnd w b K g vp ul r st' e w') : ∃ K', Only (fun i => ¬ K i = 0) w w' ∧ (∀ i, i < w.heap.size → K' i = K i) ∧ Drv w0 b g vp ul st' n ua t K' F w' := by
  obtain ⟨_, o, K', hg, hp⟩ := k
  refine ⟨K', o, hg, h.bel.trans (o.below (fun i hi => h.newK i hi) h.bel.size), h.tab0, fun i hi => ?_, fun j i hj hi => ?_, h.far, hp, fun j hj => (h.uart j hj).keeps o fun i hi => ?_⟩
  · by_cases c : i < w.heap.size
    · exact h.newK i (by rw [← hg i c]; exact hi)
    · have := h.bel.size; omega
  · have hl := (h.uart j hj).lt i hi
    exact ⟨(h.newF j i hj hi).1, by rw [hg i hl]; exact (h.newF j i hj hi).2⟩
  · have := (h.newF j i hj hi).2; intro c; exact c this
theorem Drv.ofUart (h : Drv w0 b g vp ul st n ua t K F w) {k : Nat} (hk : k < n) {t' : U6.US} (e : U6.EndU U6.cellsP 72 w (ua k) (F k) t' w') : ∃ F', Only (F k) w w' ∧ (∀ i, i < w.heap.size → ¬ F k i → ¬ F' i) ∧ Drv w0 b g vp ul st n ua (setT t k t') K (fun j => if j = k then F' else F j) w' := by
  obtain ⟨o, F', hF, vi, vo, hh⟩ := e
  have ho : ∀ j i, j < n → ¬ j = k → F j i → ¬ F' i := by
    intro j i hj hjk hi hi'
    rcases hF i hi' with h1 | h1
    · exact h.far j k i hj hk hjk hi h1
    · have := (h.uart j hj).lt i hi; omega
  refine ⟨F', o, fun i hi hn hi' => ?_, h.bel.trans (o.below (fun i hi => (h.newF k i hk hi).1) h.bel.size), h.tab0, h.newK, fun j i hj hi => ?_, fun j j' i hj hj' hne hi => ?_, h.bus.keeps o fun i hi => ?_, fun j hj => ?_⟩
  · rcases hF i hi' with h1 | h1
    · exact hn h1
    · omega
  · by_cases c : j = k
    · simp only [if_pos c] at hi
      rcases hF i hi with h1 | h1
      · exact h.newF k i hk h1
      · refine ⟨Nat.le_trans h.bel.size h1, ?_⟩
        by_cases z : K i = 0
        · exact z
        · have := h.bus.lt i z; omega
    · simp only [if_neg c] at hi
      exact h.newF j i hj hi
  · by_cases c : j = k
    · have c' : ¬ j' = k := fun c' => hne (c.trans c'.symm)
      simp only [if_pos c] at hi
      simp only [if_neg c']
      exact fun hx => ho j' i hj' c' hx hi
    · simp only [if_neg c] at hi
      by_cases c' : j' = k
      · simp only [if_pos c']
        exact ho j i hj c hi
      · simp only [if_neg c']
        exact h.far j j' i hj hj' hne hi
  · intro hx
    have hn := h.newF k i hk hx
    rcases hi with hi | hi
    · exact hi hn.2
    · have := h.tab0 i hi; omega
  · by_cases c : j = k
    · subst c
      simp only [if_true]
      have e1 : setT t j t' j = t' := P5.upd_same t j t'
      rw [e1]; exact ⟨vi, vo, hh⟩
    · simp only [if_neg c]
      have e1 : setT t k t' j = t j := P5.upd_other t t' c
      rw [e1]
      exact (h.uart j hj).keeps o fun i hi => h.far j k i hj hk c hi

theorem All.later (h : All w0 b g vp ul ub ua st t w) (o : Below w.heap.size w w') : All w0 b g vp ul ub ua st t w' := by
  obtain ⟨K, F, hd, h1, h2, h3, h4⟩ := h
  exact ⟨K, F, hd.later o, h1, h2, h3, (o.block ub (Array.getElem?_eq_some_iff.1 h4).1).trans h4⟩
theorem All.bel (h : All w0 b g vp ul ub ua st t w) : Below w0.heap.size w0 w := by
  obtain ⟨K, F, hd, _⟩ := h; exact hd.bel
theorem All.tabs (h : All w0 b g vp ul ub ua st t w) : Tabs w := by
  obtain ⟨K, F, hd, _⟩ := h; exact hd.bus.tabs
theorem All.arr (h : All w0 b g vp ul ub ua st t w) : w.cell? ⟨ub, 0, none⟩ = some (.pointer (some ⟨ua 0, 0, none⟩)) ∧ w.cell? ⟨ub, 1, none⟩ = some (.pointer (some ⟨ua 1, 0, none⟩)) := by
  obtain ⟨K, F, _, _, _, _, h4⟩ := h
  exact ⟨by rw [cell_of_row w ub 0 _ _ _ h4]; rfl, by rw [cell_of_row w ub 1 _ _ _ h4]; rfl⟩
theorem All.arrK (h : All w0 b g vp ul ub ua st t w) {k : Nat} (hk : k < 2) : w.cell? ⟨ub, k, none⟩ = some (.pointer (some ⟨ua k, 0, none⟩)) := by
  match k, hk with
  | 0, _ => exact h.arr.1
  | 1, _ => exact h.arr.2
theorem All.ofBus (h : All w0 b g vp ul ub ua st t w) {r : Value} {st' : BS} (hc : ∀ K F, Drv w0 b g vp ul st 2 ua t K F w → BusEnd w b K g vp ul r st' (.returned r) w') : All w0 b g vp ul ub ua st' t w' := by
  obtain ⟨K, F, hd, h1, h2, h3, h4⟩ := h
  have hl := (Array.getElem?_eq_some_iff.1 h4).1
  obtain ⟨K', o, hg, hd'⟩ := hd.ofBus (hc K F hd)
  exact ⟨K', F, hd', by rw [hg ub hl]; exact h1, h2, h3, o.keeps (fun c => c h1) h4⟩
/-- What a call on the bus tells, and that all is there behind it. -/
def EndA (w0 : World) (b g : Nat) (vp : Value) (ul : List Nat) (ub : Nat) (ua : Nat → Nat) (r : Value) (st' : BS) (t' : Nat → U6.US) (e : Ending) (w' : World) : Prop := e = .returned r ∧ All w0 b g vp ul ub ua st' t' w'
theorem busEnd_all (h : All w0 b g vp ul ub ua st t w) {r : Value} {st' : BS} {f : FuncId} {args : Array Value} (hc : ∀ K, BusP w b K g vp ul st → Calls Tryd.prog f args w (BusEnd w b K g vp ul r st')) : Calls Tryd.prog f args w (EndA w0 b g vp ul ub ua r st' t) := by
  obtain ⟨K, F, hd, h1, h2, h3, h4⟩ := h
  have hl := (Array.getElem?_eq_some_iff.1 h4).1
  exact (hc K hd.bus).mono fun e w' k => by
    obtain ⟨K', o, hg, hd'⟩ := hd.ofBus k
    exact ⟨k.1, K', F, hd', by rw [hg ub hl]; exact h1, h2, h3, o.keeps (fun c => c h1) h4⟩
theorem uartEnd_all (h : All w0 b g vp ul ub ua st t w) {k : Nat} (hk : k < 2) {r : Value} {t' : U6.US} {f : FuncId} {args : Array Value} (hc : ∀ F : Nat → Prop, U6.UP w (ua k) F (t k) → (∀ i, TabB i → ¬ F i) → Calls Tryd.prog f args w (U6.TellU w (ua k) F r t')) :
    Calls Tryd.prog f args w (EndA w0 b g vp ul ub ua r st (setT t k t')) := by
  obtain ⟨K, F, hd, h1, h2, h3, h4⟩ := h
  have hl := (Array.getElem?_eq_some_iff.1 h4).1
  exact (hc (F k) (hd.uart k hk) (fun i hi hF => by have := (hd.newF k i hk hF).1; have := hd.tab0 i hi; omega)).mono fun e w' ke => by
    obtain ⟨F', o, hn, hd'⟩ := hd.ofUart hk ke.2
    refine ⟨ke.1, K, _, hd', h1, fun j hj => ?_, h3, o.keeps (h2 k hk) h4⟩
    by_cases c : j = k
    · simp only [if_pos c]; exact hn ub hl (h2 k hk)
    · simp only [if_neg c]; exact h2 j hj

theorem allWrite (h : All w0 b g vp ul ub ua st t w) (a n v : Int) (ha : In64 a) (hv : In64 v) (r : Bool) (st' : BS) (e : busWr st a n v = (r, st')) : Calls Tryd.prog 7 #[.pointer (some ⟨b, 0, none⟩), .int .u64 a, .int .i64 n, .int .u64 v] w (EndA w0 b g vp ul ub ua (.bool r) st' t) :=
  busEnd_all h fun K hp => by have k := busWrite_any hp a n v ha hv; rw [e] at k; exact k
theorem allRead (h : All w0 b g vp ul ub ua st t w) (a n : Int) (ha : In64 a) (x : Int) (r : Bool) (st' : BS) (e : busRd st a n = (x, r, st')) : Calls Tryd.prog 9 #[.pointer (some ⟨b, 0, none⟩), .int .u64 a, .int .i64 n] w (EndA w0 b g vp ul ub ua (.tuple #[.int .u64 x, .bool r]) st' t) :=
  busEnd_all h fun K hp => by have k := busRead_any hp a n ha; rw [e] at k; exact k
theorem allFeed (h : All w0 b g vp ul ub ua st t w) (i x : Int) (hx : 0 ≤ x ∧ x < 256) (r : Bool) (st' : BS) (e : busFd st i x = (r, st')) : Calls Tryd.prog 11 #[.pointer (some ⟨b, 0, none⟩), .int .i64 i, .int .u8 x] w (EndA w0 b g vp ul ub ua (.bool r) st' t) :=
  busEnd_all h fun K hp => by have k := busFeed_any hp i x hx; rw [e] at k; exact k
theorem allLines (h : All w0 b g vp ul ub ua st t w) : Calls Tryd.prog 16 #[.pointer (some ⟨b, 0, none⟩)] w fun e w' => e = .returned (linesV st) ∧ Below w.heap.size w w' := by
  obtain ⟨K, F, hd, _⟩ := h
  exact busLines_any hd.bus
theorem allOut (h : All w0 b g vp ul ub ua st t w) (i : Int) : Calls Tryd.prog 13 #[.pointer (some ⟨b, 0, none⟩), .int .i64 i] w (OutE w (busOt st.us i)) := by
  obtain ⟨K, F, hd, _⟩ := h
  exact busOut_any hd.bus i
theorem allUWrite (h : All w0 b g vp ul ub ua st t w) {k : Nat} (hk : k < 2) (off n v : Int) (ho : In64 off) (hv : In64 v) : Calls Tryd.prog 8 #[.pointer (some ⟨ua k, 0, none⟩), .int .u64 off, .int .i64 n, .int .u64 v] w (EndA w0 b g vp ul ub ua (.bool (U6.okK (U6.plK (t k) off n))) st (setT t k (U6.wrT (t k) (v % 256) (U6.plK (t k) off n)))) :=
  have ht := h.tabs
  uartEnd_all h hk fun F hu hT => U6.write_any w (ua k) F (t k) hu ht.2 (hT _ (.inr rfl)) off n v ho hv
theorem allURead (h : All w0 b g vp ul ub ua st t w) {k : Nat} (hk : k < 2) (off n : Int) (ho : In64 off) : Calls Tryd.prog 10 #[.pointer (some ⟨ua k, 0, none⟩), .int .u64 off, .int .i64 n] w (EndA w0 b g vp ul ub ua (.tuple #[.int .u64 (U6.rdX (t k) (U6.plK (t k) off n)), .bool (U6.okK (U6.plK (t k) off n))]) st (setT t k (U6.rdT (t k) (U6.plK (t k) off n)))) :=
  uartEnd_all h hk fun F hu hT => U6.read_any w (ua k) F (t k) hu off n ho
theorem allUFeed (h : All w0 b g vp ul ub ua st t w) {k : Nat} (hk : k < 2) (x : Int) (hx : 0 ≤ x ∧ x < 256) : Calls Tryd.prog 12 #[.pointer (some ⟨ua k, 0, none⟩), .int .u8 x] w (EndA w0 b g vp ul ub ua (.bool (U6.feedK (t k))) st (setT t k (U6.feedT (t k) x))) :=
  uartEnd_all h hk fun F hu hT => by obtain ⟨vi, vo, hp⟩ := hu; exact U6.feed_any w (ua k) F (t k) vi vo hp x hx
theorem allULine (h : All w0 b g vp ul ub ua st t w) {k : Nat} (hk : k < 2) : Calls Tryd.prog 15 #[.pointer (some ⟨ua k, 0, none⟩)] w fun e w' => e = .returned (.bool (U6.lineU (t k))) ∧ w = w' := by
  obtain ⟨K, F, hd, _⟩ := h
  obtain ⟨vi, vo, hp⟩ := hd.uart k hk
  exact U6.line_any w (ua k) (F k) (t k) vi vo hp
theorem allUOut (h : All w0 b g vp ul ub ua st t w) {k : Nat} (hk : k < 2) : Calls Tryd.prog 14 #[.pointer (some ⟨ua k, 0, none⟩)] w (U6.CloneE w (t k).out) := by
  obtain ⟨K, F, hd, _⟩ := h
  exact U6.out_any w (ua k) (F k) (t k) (hd.uart k hk)
end

end Go.Proofs.YtohidopbggcejaaDoor

namespace Go.Proofs.YtohidopbggcejaaDoor
open Go.RowKit
set_option linter.unusedVariables false
set_option maxRecDepth 100000

section
variable {w0 w w' : World} {b g : Nat} {vp : Value} {ul : List Nat} {st : BS} {n : Nat} {ua : Nat → Nat} {t : Nat → U6.US} {K : Nat → Nat} {F : Nat → Nat → Prop} {ub : Nat}
/-- A new uart beside the bus. -/
theorem drvNewU (h : Drv w0 b g vp ul st n ua t K F w) : Calls Tryd.prog 6 #[] w fun e w' => ∃ a F', e = .returned (.pointer (some ⟨a, 0, none⟩)) ∧ Drv w0 b g vp ul st (n + 1) (P5.upd ua n a) (setT t n U6.u0) K (fun j => if j = n then F' else F j) w' :=
  (U6.new_any w).mono fun e w' k => by
    obtain ⟨a, F', vi, vo, he, o, hn, hh⟩ := k
    have hl := h.later o
    refine ⟨a, F', he, hl.bel, hl.tab0, hl.newK, fun j i hj hi => ?_, fun j j' i hj hj' hne hi => ?_, hl.bus, fun j hj => ?_⟩
    · by_cases c : j = n
      · simp only [if_pos c] at hi
        refine ⟨Nat.le_trans h.bel.size (hn i hi), ?_⟩
        by_cases z : K i = 0
        · exact z
        · have := h.bus.lt i z; have := hn i hi; omega
      · simp only [if_neg c] at hi
        exact h.newF j i (by omega) hi
    · by_cases c : j = n
      · have c' : ¬ j' = n := fun c' => hne (c.trans c'.symm)
        simp only [if_pos c] at hi
        simp only [if_neg c']
        intro hx
        have := (h.uart j' (by omega)).lt i hx
        have := hn i hi
        omega
      · simp only [if_neg c] at hi
        by_cases c' : j' = n
        · simp only [if_pos c']
          intro hx
          have := (h.uart j (by omega)).lt i hi
          have := hn i hx
          omega
        · simp only [if_neg c']
          exact h.far j j' i (by omega) (by omega) hne hi
    · by_cases c : j = n
      · subst c
        simp only [if_true]
        have e1 : P5.upd ua j a j = a := P5.upd_same ua j a
        have e2 : setT t j U6.u0 j = U6.u0 := P5.upd_same t j U6.u0
        rw [e1, e2]; exact ⟨vi, vo, hh⟩
      · simp only [if_neg c]
        have e1 : P5.upd ua n a j = ua j := P5.upd_other ua a c
        have e2 : setT t n U6.u0 j = t j := P5.upd_other t U6.u0 c
        rw [e1, e2]; exact hl.uart j (by omega)
theorem drvNew (w0 w : World) (hb : Below w0.heap.size w0 w) (tabs0 : Tabs w0) (ua : Nat → Nat) (t : Nat → U6.US) : Calls Tryd.prog 5 #[.int .u64 4096, .int .i64 2] w fun e w' => ∃ b g vp ul K F, e = .returned (.tuple #[.pointer (some ⟨b, 0, none⟩), .int .i64 0]) ∧ Drv w0 b g vp ul (bs0 4096 2) 0 ua t K F w' :=
  (busNew_any w (tabs0.below hb) 4096 2 (by unfold In64; omega)).mono fun e w' k => by
    obtain ⟨h1, h2 | ⟨_, b, K, g, vp, ul, he, hk, hp⟩⟩ := k
    · exact absurd h2.1 (by decide)
    · exact ⟨b, g, vp, ul, K, fun _ _ => False, he, hb.trans (h1.mono hb.size), fun i hi => tabs0.lt hi, fun i hi => Nat.le_trans hb.size (hk i hi), fun j i hj => by omega, fun j j' i hj => by omega, hp, fun j hj => by omega⟩
theorem All.made (h : Drv w0 b g vp ul st 2 ua t K F w) : All w0 b g vp ul w.heap.size ua st t (w.alloc (.cells #[.pointer (some ⟨ua 0, 0, none⟩), .pointer (some ⟨ua 1, 0, none⟩)] 31)) := by
  refine ⟨K, F, h.later ((Below.refl _ _).alloc (Nat.le_refl _) _), ?_, fun j hj hi => ?_, h.bel.size, heap_alloc_new w _⟩
  · by_cases z : K w.heap.size = 0
    · exact z
    · have := h.bus.lt _ z; omega
  · have := (h.uart j hj).lt _ hi; omega
end
/-! ### the states at the beginning -/
def tz : Nat → U6.US := fun _ => U6.u0
def mz : Int → Int := fun _ => 0
def sd1 : BS := { bs0 4096 2 with p := P5.prioT P5.p0 10 1 }
def sd2 : BS := { bs0 4096 2 with p := P5.prioT (P5.prioT P5.p0 10 1) 11 1 }
theorem sd_1 : busWr (bs0 4096 2) 201326632 4 1 = (true, sd1) := by kernel_rfl
theorem sd_2 : busWr sd1 201326636 4 1 = (true, sd2) := by kernel_rfl
theorem sd_3 : busWr sd2 201334912 4 3072 = (true, idleS mz cl0 tz) := by
  have h : busWr sd2 201334912 4 3072 = (true, { bs0 4096 2 with p := P5.onT (P5.prioT (P5.prioT P5.p0 10 1) 11 1) 1 (P5.onBits 3072) }) := by kernel_rfl
  rw [h, qd_made]
  have e : U6.lineU U6.u0 = false := by kernel_rfl
  show (true, ({ size := 4096, m := mz, c := cl0, p := qd false false false false false false, us := [U6.u0, U6.u0] } : BS)) = (true, ({ size := 4096, m := mz, c := cl0, p := qd (U6.lineU U6.u0) (U6.lineU U6.u0) (U6.lineU U6.u0) (U6.lineU U6.u0) false false, us := [U6.u0, U6.u0] } : BS))
  rw [e]
theorem and_one {y : Int} : bits .and .i64 y 1 = y % 2 := by
  show IntKind.i64.wrap ((BitVec.ofInt 64 y &&& 1#64).toNat : Int) = _
  have h : (BitVec.ofInt 64 y &&& 1#64).toNat = (y % 2).toNat := by
    rw [BitVec.toNat_and, show (1#64).toNat = 1 from rfl, Nat.and_one_is_mod, BitVec.toNat_ofInt]; omega
  rw [h]
  simp [IntKind.wrap, IntKind.bits, IntKind.signed]; omega

/-! ### behind the act -/
theorem lines_ex (m : Int → Int) (c : C4.Cl) (t : Nat → U6.US) (e0 e1 b0 b1 q : Bool) (h : (e0 || e1) = q) : ∃ p0 p1 p2 p4 p5, linesV (dst m c t e0 e1 b0 b1) = .agg #[.bool p0, .bool p1, .bool p2, .bool q, .int .u64 p4, .int .u64 p5] := by
  subst h; exact ⟨_, _, _, _, _, by rw [seip_is]; rfl⟩
section
variable {w0 w : World} {b g : Nat} {vp : Value} {ul : List Nat} {ua : Nat → Nat} {t : Nat → U6.US} {ub : Nat} {m : Int → Int} {c : C4.Cl} {e0 e1 b0 b1 : Bool}
def LinesQ (w : World) (q : Bool) (e : Ending) (w' : World) : Prop := ∃ p0 p1 p2 p4 p5, e = .returned (.agg #[.bool p0, .bool p1, .bool p2, .bool q, .int .u64 p4, .int .u64 p5]) ∧ Below w.heap.size w w'
theorem allLinesQ (h : All w0 b g vp ul ub ua (dst m c t e0 e1 b0 b1) t w) (q : Bool) (hq : (e0 || e1) = q) : Calls Tryd.prog 16 #[.pointer (some ⟨b, 0, none⟩)] w (LinesQ w q) :=
  (allLines h).mono fun e w' k => by
    obtain ⟨p0, p1, p2, p4, p5, hp⟩ := lines_ex m c t e0 e1 b0 b1 q hq
    exact ⟨p0, p1, p2, p4, p5, by rw [k.1, hp], k.2⟩
theorem allLineQ {st : BS} (h : All w0 b g vp ul ub ua st t w) {k : Nat} (hk : k < 2) (q : Bool) (hq : U6.lineU (t k) = q) : Calls Tryd.prog 15 #[.pointer (some ⟨ua k, 0, none⟩)] w fun e w' => e = .returned (.bool q) ∧ w = w' := by
  subst hq; exact allULine h hk
theorem out_is (k : Nat) (hk : k < 2) : busOt (dst m c t e0 e1 b0 b1).us k = (t k).out := by
  match k, hk with
  | 0, _ => rfl
  | 1, _ => rfl
theorem All.lo {st : BS} (h : All w0 b g vp ul ub ua st t w) {k : Nat} (hk : k < 2) : (t k).out.length ≤ 70000 := by
  obtain ⟨K, F, hd, _⟩ := h
  obtain ⟨vi, vo, hh⟩ := hd.uart k hk
  have := hh.ok.lo; omega
end
theorem field_seip (p0 p1 p2 q : Bool) (p4 p5 : Int) (wx : World) : (Instr.field 43 (.agg #[.bool p0, .bool p1, .bool p2, .bool q, .int .u64 p4, .int .u64 p5]) 3).run Tryd.prog wx = .ok (.bool q) wx := by kernel_rfl
theorem done_10q (m : Int → Int) (c : C4.Cl) (t : Nat → U6.US) (e1 b1 q : Bool) (h : U6.lineU (t 0) = q) : busWr (dst m c t false e1 true b1) 203427844 4 10 = (true, dst m c t q e1 false b1) := by rw [done_10, h]
theorem done_11q (m : Int → Int) (c : C4.Cl) (t : Nat → U6.US) (e0 b0 q : Bool) (h : U6.lineU (t 1) = q) : busWr (dst m c t e0 false b0 true) 203427844 4 11 = (true, dst m c t e0 q b0 false) := by rw [done_11, h]
theorem idle_is (m : Int → Int) (c : C4.Cl) (t : Nat → U6.US) (q0 q1 : Bool) (h0 : U6.lineU (t 0) = q0) (h1 : U6.lineU (t 1) = q1) : dst m c t q0 q1 false false = idleS m c t := by unfold idleS; rw [h0, h1]

end Go.Proofs.YtohidopbggcejaaDoor

namespace Go.Proofs.YtohidopbggcejaaDoor
open Go.ChangeShapes Go.WideShapes Go.ChangeAt Go.RowKit
set_option linter.unusedVariables false
set_option maxRecDepth 100000

/-- The listed variables. -/
abbrev laidT : List (String × DataW Unit) := [("mezzanine/plic.groups", Rows.laid_mezzanine_plic_groups), ("mezzanine/uart.kept", Rows.laid_mezzanine_uart_kept)]
theorem door_met (os : Os) (args : Array Value) : laidMetH Tryd.prog laidT ((World.doorLaid Tryd.prog 400 os).forCall (fun _ _ => 0) ⟨#[], args, []⟩).memory :=
  laidMetH_of_parts3 (fuel := 8) (laidMet_of_run' 8 (by kernel_rfl) (by kernel_rfl)) (by kernel_rfl) (by kernel_rfl)
/-- What the condition gives. -/
theorem tab_of_laid {W : World} (h : laidMetH Tryd.prog laidT W) : Tabs W := by
  rw [MakeChecks.laidMetH_plain _ _ _ (by kernel_rfl)] at h
  obtain ⟨ps, ⟨g0, t0, cs0, f0, p0, q0, hg0, ht0, hv0, hd0, hr, hps⟩, hn, hc⟩ := h
  subst hps
  refine ⟨P5.tab_of_laid ?_, U6.tab_of_laid ?_⟩
  · rw [MakeChecks.laidMetH_plain _ _ _ (by kernel_rfl)]
    refine ⟨MemPlace.row ⟨g0, 0, none⟩ cs0.size ++ p0 ++ [], ⟨g0, t0, cs0, f0, p0, [], hg0, ht0, hv0, hd0, rfl, rfl⟩, ?_, fun b off hm => hc b off ?_⟩
    · rw [List.append_nil]; exact (List.nodup_append.1 hn).1
    · rw [List.append_nil] at hm; exact List.mem_append.2 (.inl hm)
  · rw [MakeChecks.laidMetH_plain _ _ _ (by kernel_rfl)]
    exact ⟨q0, hr, (List.nodup_append.1 hn).2.1, fun b off hm => hc b off (List.mem_append.2 (.inr hm))⟩

end Go.Proofs.YtohidopbggcejaaDoor
