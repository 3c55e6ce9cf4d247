/- Joined: RfB RfC RfD RfG RfH RfI RfE RfF BuV BuActs -/
import Derived.Test.YtbcnkhfpogglmaaGreatDoorKP5
import Derived.Deep.RegionWith
import Derived.Test.YtbcnkhfpogglmaaGreatDoorRows
import Derived.Laws.BytesArg
import Derived.Deep.Slices
import Derived.Deep.Fields
import Derived.ChangeSame
import Derived.WalkKit
import Derived.ProofKit
import Derived.Below
import Derived.Laws.Tables
namespace Go.Proofs.YtbcnkhfpogglmaaGreatDoor
open Go.RowKit
set_option linter.unusedVariables false
set_option maxRecDepth 100000

theorem width_any (n : Int) (w : World) : Calls Tryz.prog 96 #[.int .i64 n] w fun e w' => e = .returned (.bool (M3.okN n)) ∧ w = w' := by
  by_cases h1 : n = 1
  · subst h1
    have HE : Hid (true = M3.okN 1) := Lib.hid (by decide)
    go_enter Tryz.func96, Tryz.ntmps96
    go_wp2
    go_ret
    exact ⟨by rw [← HE.out]; rfl, rfl⟩
  by_cases h2 : n = 2
  · subst h2
    have HE : Hid (true = M3.okN 2) := Lib.hid (by decide)
    go_enter Tryz.func96, Tryz.ntmps96
    go_wp2
    go_ret
    exact ⟨by rw [← HE.out]; rfl, rfl⟩
  by_cases h4 : n = 4
  · subst h4
    have HE : Hid (true = M3.okN 4) := Lib.hid (by decide)
    go_enter Tryz.func96, Tryz.ntmps96
    go_wp2
    go_ret
    exact ⟨by rw [← HE.out]; rfl, rfl⟩
  by_cases h8 : n = 8
  · subst h8
    have HE : Hid (true = M3.okN 8) := Lib.hid (by decide)
    go_enter Tryz.func96, Tryz.ntmps96
    go_wp2
    go_ret
    exact ⟨by rw [← HE.out]; rfl, rfl⟩
  have HE : Hid (false = M3.okN n) := Lib.hid (by unfold M3.okN; symm; rw [decide_eq_false_iff_not]; omega)
  have e1 : (n == 1) = false := by simpa using h1
  have e2 : (n == 2) = false := by simpa using h2
  have e4 : (n == 4) = false := by simpa using h4
  have e8 : (n == 8) = false := by simpa using h8
  clear h1 h2 h4 h8
  go_enter Tryz.func96, Tryz.ntmps96
  go_wp2
  go_ret
  exact ⟨by rw [← HE.out]; rfl, rfl⟩

/-- Whether an address lies in a region. -/
def inB (a base size : Int) : Bool := decide (base ≤ a ∧ a - base < size)
theorem in_any (a base size : Int) (ha : In64 a) (h0 : 0 ≤ base) (w : World) : Calls Tryz.prog 97 #[.int .u64 a, .int .u64 base, .int .u64 size] w fun e w' => e = .returned (.bool (inB a base size)) ∧ w = w' := by
  by_cases h1 : base ≤ a
  · have hw : IntKind.u64.wrap (a - base) = a - base := by rw [IntKind.wrap_u64]; unfold In64 at ha; omega
    by_cases h2 : a - base < size
    · have HE : Hid (true = inB a base size) := Lib.hid (by unfold inB; rw [decide_eq_true ⟨h1, h2⟩])
      obtain ⟨d, hd⟩ : ∃ d, a - base = d := ⟨_, rfl⟩
      rw [hd] at h2
      replace hw : IntKind.u64.wrap (a - base) = d := hw.trans hd
      clear hd ha
      go_enter Tryz.func97, Tryz.ntmps97
      go_wp2
      go_ret
      exact ⟨by rw [← HE.out]; rfl, rfl⟩
    · have HE : Hid (false = inB a base size) := Lib.hid (by unfold inB; symm; rw [decide_eq_false_iff_not]; omega)
      obtain ⟨d, hd⟩ : ∃ d, a - base = d := ⟨_, rfl⟩
      rw [hd] at h2
      replace hw : IntKind.u64.wrap (a - base) = d := hw.trans hd
      clear hd ha
      go_enter Tryz.func97, Tryz.ntmps97
      go_wp2
      go_ret
      exact ⟨by rw [← HE.out]; rfl, rfl⟩
  · have HE : Hid (false = inB a base size) := Lib.hid (by unfold inB; symm; rw [decide_eq_false_iff_not]; omega)
    clear ha
    go_enter Tryz.func97, Tryz.ntmps97
    go_wp2
    go_ret
    exact ⟨by rw [← HE.out]; rfl, rfl⟩

/-- The uart of an address: its number, or -1. -/
def uaI (n : Nat) (a : Int) : Int := if 268435456 ≤ a ∧ (a - 268435456) % 4096 < 8 ∧ (a - 268435456) / 4096 < n then (a - 268435456) / 4096 else -1
theorem inB_uart {n k : Nat} {a : Int} (hn : n ≤ 8) (hk : k < n) : inB a (268435456 + 4096 * (k : Int)) 8 = decide (uaI n a = (k : Int)) := by
  unfold inB uaI
  rw [Bool.eq_iff_iff, decide_eq_true_eq, decide_eq_true_eq]
  split <;> omega
theorem uaI_bd (n : Nat) (a : Int) : uaI n a = -1 ∨ ∃ q : Nat, uaI n a = q ∧ q < n := by
  unfold uaI
  split
  · rename_i h; exact .inr ⟨((a - 268435456) / 4096).toNat, by omega, by omega⟩
  · exact .inl rfl
def UaE (w : World) (q : Int) (e : Ending) (w' : World) : Prop := e = .returned (.int .i64 q) ∧ w = w'
set_option maxHeartbeats 1000000 in
theorem refUart_any {w : World} {b g : Nat} {K : Nat → Nat} {vp : Value} {ul : List Nat} {N : Nat} {st : BS} (h : BusR w b K g vp ul N st) (a : Int) (ha : In64 a) :
    Calls Tryz.prog 100 #[.pointer (some ⟨b, 0, none⟩), .int .u64 a] w (UaE w (uaI ul.length a)) := by
  have c0 := h.obj.uarts_
  have hle := h.le
  obtain ⟨av, cv, rfl, hcap⟩ := h.uarts.len
  have HA := Lib.hid ha
  have HIU : Hid (∀ k : Nat, k < ul.length → inB a (268435456 + 4096 * (k : Int)) 8 = decide (uaI ul.length a = (k : Int))) := Lib.hid fun k hk => inB_uart hle hk
  have HBD := Lib.hid (uaI_bd ul.length a)
  clear h ha
  generalize uaI ul.length a = q at *
  generalize ul.length = n at *
  go_enter Tryz.func100, Tryz.ntmps100
  go_wp2
  go_loop [5] (fun i => ∃ k : Nat, k ≤ n ∧ (∀ j : Nat, j < k → ¬ q = (j : Int)) ∧ i = .int .i64 k) (fun i => (n - (intOf i).toNat))
  case atStart => exact ⟨0, by omega, fun j hj => by omega, rfl⟩
  case round =>
    obtain ⟨k, hk, hno, rfl⟩ := hrel
    have HNO := Lib.hid hno
    clear hno
    by_cases hlt : k < n
    · have hlk : (k : Int) < n := by omega
      have hwr : IntKind.u64.wrap (k : Int) = k := by rw [IntKind.wrap_u64]; omega
      by_cases hq : q = (k : Int)
      · have HI : Hid (inB a (268435456 + 4096 * (k : Int)) 8 = true) := Lib.hid (by rw [HIU.out k hlt, decide_eq_true hq])
        have HQ := Lib.hid hq
        clear hq
        go_wp2_with fail
        (with_reducible refine (in_any a _ 8 HA.out (by omega) _).mono ?_)
        rintro e w2 ⟨rfl, rfl⟩
        rw [HI.out]
        go_wp2
        go_ret
        exact ⟨by rw [HQ.out]; rfl, rfl⟩
      · have HI : Hid (inB a (268435456 + 4096 * (k : Int)) 8 = false) := Lib.hid (by rw [HIU.out k hlt, decide_eq_false hq])
        have HQ := Lib.hid hq
        clear hq
        go_wp2_with fail
        (with_reducible refine (in_any a _ 8 HA.out (by omega) _).mono ?_)
        rintro e w2 ⟨rfl, rfl⟩
        rw [HI.out]
        go_wp2
        go_round
        case rel => exact ⟨k + 1, by omega, fun j hj => by
          by_cases e : j = k
          · subst e; exact HQ.out
          · exact HNO.out j (by omega), by go_num⟩
        case measure => simp [intOf]; omega
    · obtain rfl : k = n := by omega
      have HQ1 : Hid (q = -1) := Lib.hid (by
        rcases HBD.out with h | ⟨j, h1, h2⟩
        · exact h
        · exact absurd h1 (HNO.out j h2))
      clear hk hlt
      go_wp2
      go_ret
      exact ⟨by rw [HQ1.out]; rfl, rfl⟩

/-- drive. -/
def RDriveE (w : World) (b : Nat) (K : Nat → Nat) (g : Nat) (vp : Value) (ul : List Nat) (N : Nat) (st' : BS) (e : Ending) (w' : World) : Prop := (∃ v, e = .returned v) ∧ Only (fun i => i = b) w w' ∧ BusR w' b K g vp ul N st'
set_option maxHeartbeats 1000000 in
theorem refDrive_any {w : World} {b g : Nat} {K : Nat → Nat} {vp : Value} {ul : List Nat} {N : Nat} {st : BS} (h : BusR w b K g vp ul N st) (i : Nat) (hi : i < ul.length) :
    Calls Tryz.prog 102 #[.pointer (some ⟨b, 0, none⟩), .int .i64 i] w (RDriveE w b K g vp ul N (driveS st i)) := by
  obtain ⟨gp, cap, rfl, hcap, e0⟩ := h.uarts.cells hi
  have c0 := h.obj.uarts_
  have hle := h.le
  have HL : Hid (∀ w', BusR w' b K g (.slice (some ⟨gp, 0, none⟩) ul.length cap) ul N st → Calls Tryz.prog 135 #[.pointer (some ⟨ul.getD i 0, 0, none⟩)] w' fun e w'' => e = .returned (.bool (U6.lineU (st.us.getD i U6.u0))) ∧ w' = w'') := Lib.hid fun w' h' => by
    obtain ⟨vi, vo, hu⟩ := h'.uart i hi
    exact U6.refLine_any w' _ _ _ vi vo hu
  have HV : Hid (∀ w', BusR w' b K g (.slice (some ⟨gp, 0, none⟩) ul.length cap) ul N st → Calls Tryz.prog 108 #[.pointer (some ⟨b, 4, none⟩), .int .i64 (10 + (i : Int)), .bool (U6.lineU (st.us.getD i U6.u0))] w' fun e w'' => (∃ v, e = .returned v) ∧ Only (fun i => i = b) w' w'' ∧ BusR w'' b K g (.slice (some ⟨gp, 0, none⟩) ul.length cap) ul N (driveS st i)) := Lib.hid fun w' h' =>
    (P5.In.refLevel_any w' b st.p (10 + (i : Int)) (U6.lineU (st.us.getD i U6.u0)) h'.obj.plic).mono fun e w'' k => ⟨⟨_, k.1⟩, k.2.1, h'.setPlic k.2.1 k.2.2⟩
  have HPD : Hid (BusR w.drew b K g (.slice (some ⟨gp, 0, none⟩) ul.length cap) ul N st) := Lib.hid (h.below (Below.refl _ _).drew)
  have HBD : Hid (Only (fun i => i = b) w w.drew) := Lib.hid ((Only.refl _ w).drewN 1)
  have d0 : w.drew.cell? ⟨b, 198, none⟩ = some (.slice (some ⟨gp, 0, none⟩) ul.length cap) := c0
  have d1 : w.drew.cell? ⟨gp, i, none⟩ = some (.pointer (some ⟨ul.getD i 0, 0, none⟩)) := e0
  have hsum : IntKind.i64.wrap (10 + (i : Int)) = 10 + (i : Int) := IntWalk.i64_in _ (by omega)
  have hlt : (i : Int) < ul.length := by omega
  clear h c0 e0
  generalize U6.lineU (st.us.getD i U6.u0) = r at *
  generalize ul.getD i 0 = ui at *
  generalize driveS st i = st' at *
  generalize hn : ul.length = n at *
  clear hn
  go_enter Tryz.func102, Tryz.ntmps102
  go_wp2_with fail
  go_region_with (first
    | (go_at_call 135; (with_reducible refine (HL.out _ HPD.out).mono ?_); rintro e w' ⟨rfl, rfl⟩)
    | (go_at_call 108; (with_reducible refine (HV.out _ HPD.out).mono ?_); rintro e w2 ⟨⟨v, rfl⟩, ho, hp⟩; have HO2 := Lib.hid (HBD.out.trans ho); have HP2 := Lib.hid hp; clear ho hp))
  all_goals
    go_end0
    exact ⟨⟨_, rfl⟩, HO2.out, HP2.out⟩

end Go.Proofs.YtbcnkhfpogglmaaGreatDoor

namespace Go.Proofs.YtbcnkhfpogglmaaGreatDoor
open Go.RowKit
set_option linter.unusedVariables false
set_option maxRecDepth 100000

section
variable {size a : Int} {n : Nat}
theorem inB_ram (h0 : 4096 ≤ size) (h1 : size ≤ 67108864) (hn : n ≤ 8) : inB a 2147483648 size = decide (regK size n a = 0) := by
  unfold inB regK
  rw [Bool.eq_iff_iff, decide_eq_true_eq, decide_eq_true_eq]
  split
  · omega
  · split
    · omega
    · split
      · omega
      · split <;> omega
theorem inB_clint (h0 : 4096 ≤ size) (h1 : size ≤ 67108864) (hn : n ≤ 8) : inB a 33554432 65536 = decide (regK size n a = 1) := by
  unfold inB regK
  rw [Bool.eq_iff_iff, decide_eq_true_eq, decide_eq_true_eq]
  split
  · omega
  · split
    · omega
    · split
      · omega
      · split <;> omega
theorem inB_plic (h0 : 4096 ≤ size) (h1 : size ≤ 67108864) (hn : n ≤ 8) : inB a 201326592 4194304 = decide (regK size n a = 2) := by
  unfold inB regK
  rw [Bool.eq_iff_iff, decide_eq_true_eq, decide_eq_true_eq]
  split
  · omega
  · split
    · omega
    · split
      · omega
      · split <;> omega
theorem uaI_reg (hn : n ≤ 8) {i : Nat} (h : regK size n a = i + 3) (h11 : i + 3 < 11) : uaI n a = (i : Int) := by
  unfold regK at h
  unfold uaI
  split at h; omega
  split at h; omega
  split at h; omega
  split at h
  · rename_i c; rw [if_pos c]; omega
  · omega
theorem uaI_none (hn : n ≤ 8) (h0 : 4096 ≤ size) (h1 : size ≤ 67108864) (h : regK size n a = 11) : uaI n a = -1 := by
  unfold regK at h
  unfold uaI
  split at h; omega
  split at h; omega
  split at h; omega
  split at h
  · omega
  · rename_i c; rw [if_neg c]
end
section
variable {w w' w1 : World} {b g : Nat} {K : Nat → Nat} {vp : Value} {ul : List Nat} {N : Nat} {st : BS}
theorem BusR.uartEnd (h : BusR w b K g vp ul N st) {i : Nat} (hi : i < ul.length) {r : Value} {t' : U6.US} {e : Ending} (k : U6.TellR w (ul.getD i 0) (fun x => K x = 3 + i) r t' e w') : RefBE w b K g vp ul N r (uartS st i t') e w' := by
  obtain ⟨he, k⟩ := k
  exact ⟨he, k.1.mono fun x hx => .inl (by show ¬ K x = 0; have : K x = 3 + i := hx; omega), _, relabel_grow w K (3 + i) w', h.setUart hi k⟩
theorem BusR.plicEnd (h : BusR w b K g vp ul N st) {r : Value} {p' : P5.PS} {e : Ending} (k : P5.In.RefPEnd (fqP g st.c vp) w b r p' e w') : RefBE w b K g vp ul N r { st with p := p' } e w' :=
  ⟨k.1, k.2.1.mono fun i hi => .inl (by subst hi; rw [h.kb]; omega), K, Grow.refl _ _, h.setPlic k.2.1 k.2.2⟩
theorem BusR.clintEnd (h : BusR w b K g vp ul N st) {r : Value} {c' : C4.Cl} {e : Ending} (k : C4.In.RefEnd (fqC g st.p vp) w b r c' e w') : RefBE w b K g vp ul N r { st with c := c' } e w' :=
  ⟨k.1, k.2.1.mono fun i hi => .inl (by subst hi; rw [h.kb]; omega), K, Grow.refl _ _, h.setClint k.2.1 k.2.2⟩
theorem BusR.ramRd (h : BusR w b K g vp ul N st) {q : Int × Bool} {e : Ending} (k : M3.ReadEnd w q e w') : RefBE w b K g vp ul N (.tuple #[.int .u64 q.1, .bool q.2]) st e w' := by
  obtain ⟨rfl, kb⟩ := k; exact h.end_same kb
theorem BusR.clRd (h : BusR w b K g vp ul N st) {x : Int} {r : Bool} {e : Ending} (k : C4.ReadC w x r e w') : RefBE w b K g vp ul N (.tuple #[.int .u64 x, .bool r]) st e w' := by
  obtain ⟨rfl, kb⟩ := k; exact h.end_same kb
theorem BusR.memEnd (h : BusR w b K g vp ul N st) {N' : Nat} {m' : Int → Int} {r : Bool} {e : Ending} (k : ∀ gl, M3.RefMem w g gl 2147483648 st.size N st.m → M3.MemEnd w g gl 2147483648 st.size N' m' r e w') : RefBE w b K g vp ul N' (.bool r) { st with m := m' } e w' := by
  obtain ⟨he, o, hp⟩ := h.setMem k
  exact ⟨he, o.mono fun i hi => .inl (by show ¬ K i = 0; have : K i = 2 := hi; omega), _, relabel_grow w K 2 w', hp⟩
theorem RefBE.more {N' : Nat} {r : Value} {st' : BS} {e : Ending} (hN : N ≤ N') (k : RefBE w b K g vp ul N r st' e w') : RefBE w b K g vp ul N' r st' e w' := by
  obtain ⟨he, o, K', hg, hp⟩ := k
  exact ⟨he, o, K', hg, hp.more hN⟩
theorem RDriveE.end {K1 : Nat → Nat} {st1 st' : BS} {r : Value} {e : Ending} (o : Only (fun i => ¬ K i = 0) w w1) (hg : Grow w K K1) (h1 : BusR w1 b K1 g vp ul N st1) (k : RDriveE w1 b K1 g vp ul N st' e w') : RefBE w b K g vp ul N r st' (.returned r) w' := by
  obtain ⟨_, o2, hp⟩ := k
  refine ⟨rfl, o.step o2 fun i hi => ?_, K1, hg, hp⟩
  subst hi
  by_cases c : i < w.heap.size
  · left; rw [← hg i c, h1.kb]; omega
  · right; omega
theorem BusR.sizeCell (h : BusR w b K g vp ul N st) : w.cell? ⟨g, 1, none⟩ = some (.int .u64 st.size) := by
  obtain ⟨hg, gl, hl, l, ⟨a, c, h1, _⟩, _⟩ := h.mem
  rw [cell_of_row w g 1 _ _ _ h1]; rfl
end
theorem refRead_none_bus (a n : Int) (w : World) : Calls Tryz.prog 56 #[.pointer none, .int .u64 a, .int .i64 n] w fun e w' => e = .returned (.tuple #[.int .u64 0, .bool false]) ∧ w = w' := by
  go_enter Tryz.func56, Tryz.ntmps56
  go_wp2
  go_ret2
  exact ⟨rfl, rfl⟩
theorem refWrite_none_bus (a n v : Int) (w : World) : Calls Tryz.prog 55 #[.pointer none, .int .u64 a, .int .i64 n, .int .u64 v] w fun e w' => e = .returned (.bool false) ∧ w = w' := by
  go_enter Tryz.func55, Tryz.ntmps55
  go_wp2
  go_ret
  exact ⟨rfl, rfl⟩

set_option maxHeartbeats 1000000 in
theorem refRead7_ram {w : World} {b g : Nat} {K : Nat → Nat} {vp : Value} {ul : List Nat} {N : Nat} {st : BS} (h : BusR w b K g vp ul N st) (a n : Int) (ha : In64 a) (hk : M3.okN n = true) (hq : regK st.size ul.length a = 0) (X : Int) (r : Bool) (st' : BS)
    (hC : Calls Tryz.prog 105 #[.pointer (some ⟨g, 0, none⟩), .int .u64 (offK ul.length 0 a), .int .i64 n] w (RefBE w b K g vp ul N (.tuple #[.int .u64 X, .bool r]) st')) :
    Calls Tryz.prog 56 #[.pointer (some ⟨b, 0, none⟩), .int .u64 a, .int .i64 n] w (RefBE w b K g vp ul N (.tuple #[.int .u64 X, .bool r]) st') := by
  have HI1 : Hid (inB a 33554432 65536 = false) := Lib.hid (by rw [inB_clint (a := a) (n := ul.length) h.fits.2.1 h.fits.2.2.1 h.le, hq]; rfl)
  have HI2 : Hid (inB a 201326592 4194304 = false) := Lib.hid (by rw [inB_plic (a := a) (n := ul.length) h.fits.2.1 h.fits.2.2.1 h.le, hq]; rfl)
  have HI0 : Hid (inB a 2147483648 st.size = true) := Lib.hid (by rw [inB_ram (a := a) (n := ul.length) h.fits.2.1 h.fits.2.2.1 h.le, hq]; rfl)
  have c0 := h.obj.ram_
  have cs := h.sizeCell
  obtain ⟨k1, k2, k3⟩ := h.obj.clint_
  have HK := Lib.hid hk
  have HA := Lib.hid ha
  have HC := Lib.hid hC
  clear hC h hk hq ha
  rw [show offK ul.length 0 a = a from rfl] at HC
  generalize st.size = sz at *
  generalize C4.sI st.c.s = k1v at *
  generalize st.c.c = k2v at *
  generalize st.c.n = k3v at *
  go_enter Tryz.func56, Tryz.ntmps56
  go_wp2_with fail
  (with_reducible refine (width_any _ _).mono ?_)
  rintro e x1 ⟨rfl, rfl⟩
  rw [HK.out]
  go_wp2_with fail
  (with_reducible refine (in_any a _ _ HA.out (by omega) _).mono ?_)
  rintro e x2 ⟨rfl, rfl⟩
  rw [HI1.out]
  go_wp2_with fail
  (with_reducible refine (in_any a _ _ HA.out (by omega) _).mono ?_)
  rintro e x2 ⟨rfl, rfl⟩
  rw [HI2.out]
  go_wp2_with fail
  (with_reducible refine (in_any a _ _ HA.out (by omega) _).mono ?_)
  rintro e x2 ⟨rfl, rfl⟩
  rw [HI0.out]
  go_wp2_with fail
  (with_reducible refine HC.out.mono ?_)
  rintro e w4 hE
  obtain ⟨rfl, _⟩ := id hE
  have HE := Lib.hid hE
  clear hE
  go_wp2
  go_ret2
  exact HE.out

set_option maxHeartbeats 1000000 in
theorem refRead7_clint {w : World} {b g : Nat} {K : Nat → Nat} {vp : Value} {ul : List Nat} {N : Nat} {st : BS} (h : BusR w b K g vp ul N st) (a n : Int) (ha : In64 a) (hk : M3.okN n = true) (hq : regK st.size ul.length a = 1) (X : Int) (r : Bool) (st' : BS)
    (hC : Calls Tryz.prog 103 #[.agg #[.int .u64 (C4.sI st.c.s), .int .u64 st.c.c, .int .u64 st.c.n], .int .u64 (offK ul.length 1 a), .int .i64 n] w (RefBE w b K g vp ul N (.tuple #[.int .u64 X, .bool r]) st')) :
    Calls Tryz.prog 56 #[.pointer (some ⟨b, 0, none⟩), .int .u64 a, .int .i64 n] w (RefBE w b K g vp ul N (.tuple #[.int .u64 X, .bool r]) st') := by
  have HI1 : Hid (inB a 33554432 65536 = true) := Lib.hid (by rw [inB_clint (a := a) (n := ul.length) h.fits.2.1 h.fits.2.2.1 h.le, hq]; rfl)
  have HI2 : Hid (inB a 201326592 4194304 = false) := Lib.hid (by rw [inB_plic (a := a) (n := ul.length) h.fits.2.1 h.fits.2.2.1 h.le, hq]; rfl)
  have HI0 : Hid (inB a 2147483648 st.size = false) := Lib.hid (by rw [inB_ram (a := a) (n := ul.length) h.fits.2.1 h.fits.2.2.1 h.le, hq]; rfl)
  have hw := (offK_is hq h.le (by omega) ha h.fits.2.1 h.fits.2.2.1).1
  rw [if_neg (by omega), show regBase ul.length 1 = 33554432 from rfl] at hw
  have c0 := h.obj.ram_
  have cs := h.sizeCell
  obtain ⟨k1, k2, k3⟩ := h.obj.clint_
  have HK := Lib.hid hk
  have HA := Lib.hid ha
  have HC := Lib.hid hC
  clear hC h hk hq ha
  generalize offK ul.length 1 a = D at *
  generalize st.size = sz at *
  generalize C4.sI st.c.s = k1v at *
  generalize st.c.c = k2v at *
  generalize st.c.n = k3v at *
  go_enter Tryz.func56, Tryz.ntmps56
  go_wp2_with fail
  (with_reducible refine (width_any _ _).mono ?_)
  rintro e x1 ⟨rfl, rfl⟩
  rw [HK.out]
  go_wp2_with fail
  (with_reducible refine (in_any a _ _ HA.out (by omega) _).mono ?_)
  rintro e x2 ⟨rfl, rfl⟩
  rw [HI1.out]
  go_wp2_with fail
  (with_reducible refine HC.out.mono ?_)
  rintro e w4 hE
  obtain ⟨rfl, _⟩ := id hE
  have HE := Lib.hid hE
  clear hE
  go_wp2
  go_ret2
  exact HE.out

set_option maxHeartbeats 1000000 in
theorem refRead7_plic {w : World} {b g : Nat} {K : Nat → Nat} {vp : Value} {ul : List Nat} {N : Nat} {st : BS} (h : BusR w b K g vp ul N st) (a n : Int) (ha : In64 a) (hk : M3.okN n = true) (hq : regK st.size ul.length a = 2) (X : Int) (r : Bool) (st' : BS)
    (hC : Calls Tryz.prog 104 #[.pointer (some ⟨b, 4, none⟩), .int .u64 (offK ul.length 2 a), .int .i64 n] w (RefBE w b K g vp ul N (.tuple #[.int .u64 X, .bool r]) st')) :
    Calls Tryz.prog 56 #[.pointer (some ⟨b, 0, none⟩), .int .u64 a, .int .i64 n] w (RefBE w b K g vp ul N (.tuple #[.int .u64 X, .bool r]) st') := by
  have HI1 : Hid (inB a 33554432 65536 = false) := Lib.hid (by rw [inB_clint (a := a) (n := ul.length) h.fits.2.1 h.fits.2.2.1 h.le, hq]; rfl)
  have HI2 : Hid (inB a 201326592 4194304 = true) := Lib.hid (by rw [inB_plic (a := a) (n := ul.length) h.fits.2.1 h.fits.2.2.1 h.le, hq]; rfl)
  have HI0 : Hid (inB a 2147483648 st.size = false) := Lib.hid (by rw [inB_ram (a := a) (n := ul.length) h.fits.2.1 h.fits.2.2.1 h.le, hq]; rfl)
  have hw := (offK_is hq h.le (by omega) ha h.fits.2.1 h.fits.2.2.1).1
  rw [if_neg (by omega), show regBase ul.length 2 = 201326592 from rfl] at hw
  have c0 := h.obj.ram_
  have cs := h.sizeCell
  obtain ⟨k1, k2, k3⟩ := h.obj.clint_
  have HK := Lib.hid hk
  have HA := Lib.hid ha
  have HC := Lib.hid hC
  clear hC h hk hq ha
  generalize offK ul.length 2 a = D at *
  generalize st.size = sz at *
  generalize C4.sI st.c.s = k1v at *
  generalize st.c.c = k2v at *
  generalize st.c.n = k3v at *
  go_enter Tryz.func56, Tryz.ntmps56
  go_wp2_with fail
  (with_reducible refine (width_any _ _).mono ?_)
  rintro e x1 ⟨rfl, rfl⟩
  rw [HK.out]
  go_wp2_with fail
  (with_reducible refine (in_any a _ _ HA.out (by omega) _).mono ?_)
  rintro e x2 ⟨rfl, rfl⟩
  rw [HI1.out]
  go_wp2_with fail
  (with_reducible refine (in_any a _ _ HA.out (by omega) _).mono ?_)
  rintro e x2 ⟨rfl, rfl⟩
  rw [HI2.out]
  go_wp2_with fail
  (with_reducible refine HC.out.mono ?_)
  rintro e w4 hE
  obtain ⟨rfl, _⟩ := id hE
  have HE := Lib.hid hE
  clear hE
  go_wp2
  go_ret2
  exact HE.out

set_option maxHeartbeats 1000000 in
theorem refRead7_uart {w : World} {b g : Nat} {K : Nat → Nat} {vp : Value} {ul : List Nat} {N : Nat} {st : BS} (h : BusR w b K g vp ul N st) (a n : Int) (ha : In64 a) (hk : M3.okN n = true) (i : Nat) (hq : regK st.size ul.length a = i + 3) (h11 : i + 3 < 11) :
    Calls Tryz.prog 56 #[.pointer (some ⟨b, 0, none⟩), .int .u64 a, .int .i64 n] w (RefBE w b K g vp ul N (.tuple #[.int .u64 (rdR st (offK ul.length (i + 3) a) n (i + 3)).1, .bool (rdR st (offK ul.length (i + 3) a) n (i + 3)).2.1]) (rdR st (offK ul.length (i + 3) a) n (i + 3)).2.2) := by
  have hi := regK_port hq h11
  have hof := offK_is hq h.le h11 ha h.fits.2.1 h.fits.2.2.1
  have HU : Hid (∀ w', BusR w' b K g vp ul N st → Calls Tryz.prog 106 #[.pointer (some ⟨ul.getD i 0, 0, none⟩), .int .u64 (offK ul.length (i + 3) a), .int .i64 n] w' (RefBE w' b K g vp ul N (.tuple #[.int .u64 (U6.rdX (st.us.getD i U6.u0) (U6.plK (st.us.getD i U6.u0) (offK ul.length (i + 3) a) n)), .bool (U6.okK (U6.plK (st.us.getD i U6.u0) (offK ul.length (i + 3) a) n))]) (uartS st i (U6.rdT (st.us.getD i U6.u0) (U6.plK (st.us.getD i U6.u0) (offK ul.length (i + 3) a) n))))) := Lib.hid fun w' h' =>
    (U6.refRead_any w' _ _ _ (h'.uart i hi) _ n hof.2).mono fun e w'' k => h'.uartEnd hi k
  have HD : Hid (∀ w' K', BusR w' b K' g vp ul N (uartS st i (U6.rdT (st.us.getD i U6.u0) (U6.plK (st.us.getD i U6.u0) (offK ul.length (i + 3) a) n))) → Calls Tryz.prog 102 #[.pointer (some ⟨b, 0, none⟩), .int .i64 i] w' (RDriveE w' b K' g vp ul N (driveS (uartS st i (U6.rdT (st.us.getD i U6.u0) (U6.plK (st.us.getD i U6.u0) (offK ul.length (i + 3) a) n))) i))) := Lib.hid fun w' K' h' => refDrive_any h' i hi
  show Calls Tryz.prog 56 #[.pointer (some ⟨b, 0, none⟩), .int .u64 a, .int .i64 n] w (RefBE w b K g vp ul N (.tuple #[.int .u64 (U6.rdX (st.us.getD i U6.u0) (U6.plK (st.us.getD i U6.u0) (offK ul.length (i + 3) a) n)), .bool (U6.okK (U6.plK (st.us.getD i U6.u0) (offK ul.length (i + 3) a) n))]) (driveS (uartS st i (U6.rdT (st.us.getD i U6.u0) (U6.plK (st.us.getD i U6.u0) (offK ul.length (i + 3) a) n))) i))
  have HI1 : Hid (inB a 33554432 65536 = false) := Lib.hid (by rw [inB_clint (a := a) (n := ul.length) h.fits.2.1 h.fits.2.2.1 h.le, hq, decide_eq_false (by omega)])
  have HI2 : Hid (inB a 201326592 4194304 = false) := Lib.hid (by rw [inB_plic (a := a) (n := ul.length) h.fits.2.1 h.fits.2.2.1 h.le, hq, decide_eq_false (by omega)])
  have HI0 : Hid (inB a 2147483648 st.size = false) := Lib.hid (by rw [inB_ram (a := a) (n := ul.length) h.fits.2.1 h.fits.2.2.1 h.le, hq, decide_eq_false (by omega)])
  have HUI : Hid (uaI ul.length a = (i : Int)) := Lib.hid (uaI_reg (size := st.size) h.le hq h11)
  have HUA := Lib.hid (refUart_any h a ha)
  obtain ⟨gp, cap, hvp, hcap, e0⟩ := h.uarts.cells hi
  have c0 := h.obj.ram_
  have cs := h.sizeCell
  have cu := h.obj.uarts_
  rw [hvp] at cu
  have hle := h.le
  have hoff : offK ul.length (i + 3) a = a - (268435456 + 4096 * (i : Int)) := by
    unfold offK regBase
    rw [if_neg (by omega), if_neg (by omega), if_neg (by omega), if_neg (by omega), if_pos (by omega)]
    omega
  have hge : 268435456 ≤ a := by
    have := hof.2; rw [hoff] at this; unfold In64 at this; omega
  obtain ⟨D1, hD1⟩ : ∃ D1, a - 268435456 = D1 := ⟨_, rfl⟩
  have hw1 : IntKind.u64.wrap (a - 268435456) = D1 := by rw [IntKind.wrap_u64, ← hD1]; unfold In64 at ha; omega
  have hw2 : IntKind.u64.wrap (D1 - 4096 * (i : Int)) = offK ul.length (i + 3) a := by
    rw [hoff, IntKind.wrap_u64]; have := hof.2; rw [hoff] at this; unfold In64 at this; omega
  have hwi : IntKind.u64.wrap (i : Int) = i := by rw [IntKind.wrap_u64]; omega
  have hlt : (i : Int) < ul.length := by omega
  have HK := Lib.hid hk
  have HA := Lib.hid ha
  have H := Lib.hid h
  have HCAP := Lib.hid hcap
  clear h hk hq ha hof hoff hD1 hge hvp
  generalize (U6.rdT (st.us.getD i U6.u0) (U6.plK (st.us.getD i U6.u0) (offK ul.length (i + 3) a) n)) = ts at *
  generalize (U6.plK (st.us.getD i U6.u0) (offK ul.length (i + 3) a) n) = pk at *
  generalize U6.rdX (st.us.getD i U6.u0) pk = rx at *
  generalize U6.okK pk = r at *
  generalize offK ul.length (i + 3) a = D at *
  generalize ul.getD i 0 = uv at *
  generalize st.size = sz at *
  generalize driveS (uartS st i ts) i = st2 at *
  generalize uartS st i ts = st1 at *
  go_enter Tryz.func56, Tryz.ntmps56
  go_wp2_with fail
  (with_reducible refine (width_any _ _).mono ?_)
  rintro e x1 ⟨rfl, rfl⟩
  rw [HK.out]
  go_wp2_with fail
  (with_reducible refine (in_any a _ _ HA.out (by omega) _).mono ?_)
  rintro e x2 ⟨rfl, rfl⟩
  rw [HI1.out]
  go_wp2_with fail
  (with_reducible refine (in_any a _ _ HA.out (by omega) _).mono ?_)
  rintro e x2 ⟨rfl, rfl⟩
  rw [HI2.out]
  go_wp2_with fail
  (with_reducible refine (in_any a _ _ HA.out (by omega) _).mono ?_)
  rintro e x2 ⟨rfl, rfl⟩
  rw [HI0.out]
  go_wp2_with fail
  (with_reducible refine HUA.out.mono ?_)
  rintro e x3 ⟨rfl, rfl⟩
  rw [HUI.out]
  go_wp2_with fail
  (with_reducible refine (HU.out _ H.out).mono ?_)
  rintro e w4 ⟨rfl, ho, K1, hg, hp⟩
  have HO4 := Lib.hid ho
  have HG4 := Lib.hid hg
  have HP4 := Lib.hid hp
  clear ho hg hp
  go_wp2_with fail
  (with_reducible refine (HD.out _ K1 HP4.out).mono ?_)
  rintro e w5 hE
  obtain ⟨⟨u5, rfl⟩, _⟩ := id hE
  have HE := Lib.hid hE
  clear hE
  go_wp2
  go_ret2
  exact RDriveE.end HO4.out HG4.out HP4.out HE.out

theorem refRead7_none {w : World} {b g : Nat} {K : Nat → Nat} {vp : Value} {ul : List Nat} {N : Nat} {st : BS} (h : BusR w b K g vp ul N st) (a n : Int) (ha : In64 a) (hf : ¬ (M3.okN n = true ∧ regK st.size ul.length a < 11)) :
    Calls Tryz.prog 56 #[.pointer (some ⟨b, 0, none⟩), .int .u64 a, .int .i64 n] w (RefBE w b K g vp ul N (.tuple #[.int .u64 0, .bool false]) st) := by
  cases hk : M3.okN n with
  | false =>
    have HK := Lib.hid hk
    have H := Lib.hid h
    clear h hk ha hf
    go_enter Tryz.func56, Tryz.ntmps56
    go_wp2_with fail
    (with_reducible refine (width_any _ _).mono ?_)
    rintro e x1 ⟨rfl, rfl⟩
    rw [HK.out]
    go_wp2
    go_ret2
    exact H.out.end_same (Below.refl _ _)
  | true =>
    have hq : regK st.size ul.length a = 11 := by
      have := regK_le (size := st.size) (a := a) h.le
      by_cases c : regK st.size ul.length a < 11
      · exact absurd ⟨hk, c⟩ hf
      · omega
    have HI1 : Hid (inB a 33554432 65536 = false) := Lib.hid (by rw [inB_clint (a := a) (n := ul.length) h.fits.2.1 h.fits.2.2.1 h.le, hq]; rfl)
    have HI2 : Hid (inB a 201326592 4194304 = false) := Lib.hid (by rw [inB_plic (a := a) (n := ul.length) h.fits.2.1 h.fits.2.2.1 h.le, hq]; rfl)
    have HI0 : Hid (inB a 2147483648 st.size = false) := Lib.hid (by rw [inB_ram (a := a) (n := ul.length) h.fits.2.1 h.fits.2.2.1 h.le, hq]; rfl)
    have HUI : Hid (uaI ul.length a = -1) := Lib.hid (uaI_none (size := st.size) h.le h.fits.2.1 h.fits.2.2.1 hq)
    have HUA := Lib.hid (refUart_any h a ha)
    have c0 := h.obj.ram_
    have cs := h.sizeCell
    have HK := Lib.hid hk
    have HA := Lib.hid ha
    have H := Lib.hid h
    clear h hk ha hf hq
    generalize st.size = sz at *
    go_enter Tryz.func56, Tryz.ntmps56
    go_wp2_with fail
    (with_reducible refine (width_any _ _).mono ?_)
    rintro e x1 ⟨rfl, rfl⟩
    rw [HK.out]
    go_wp2_with fail
    (with_reducible refine (in_any a _ _ HA.out (by omega) _).mono ?_)
    rintro e x2 ⟨rfl, rfl⟩
    rw [HI1.out]
    go_wp2_with fail
    (with_reducible refine (in_any a _ _ HA.out (by omega) _).mono ?_)
    rintro e x2 ⟨rfl, rfl⟩
    rw [HI2.out]
    go_wp2_with fail
    (with_reducible refine (in_any a _ _ HA.out (by omega) _).mono ?_)
    rintro e x2 ⟨rfl, rfl⟩
    rw [HI0.out]
    go_wp2_with fail
    (with_reducible refine HUA.out.mono ?_)
    rintro e x3 ⟨rfl, rfl⟩
    rw [HUI.out]
    go_wp2
    go_ret2
    exact H.out.end_same (Below.refl _ _)

set_option maxHeartbeats 1000000 in
theorem refWrite7_ram {w : World} {b g : Nat} {K : Nat → Nat} {vp : Value} {ul : List Nat} {N : Nat} {st : BS} (h : BusR w b K g vp ul N st) (a n v : Int) (ha : In64 a) (hk : M3.okN n = true) (hq : regK st.size ul.length a = 0) (r : Bool) (st' : BS)
    (hC : Calls Tryz.prog 61 #[.pointer (some ⟨g, 0, none⟩), .int .u64 (offK ul.length 0 a), .int .i64 n, .int .u64 v] w (RefBE w b K g vp ul (N + 8) (.bool r) st')) :
    Calls Tryz.prog 55 #[.pointer (some ⟨b, 0, none⟩), .int .u64 a, .int .i64 n, .int .u64 v] w (RefBE w b K g vp ul (N + 8) (.bool r) st') := by
  have HI1 : Hid (inB a 33554432 65536 = false) := Lib.hid (by rw [inB_clint (a := a) (n := ul.length) h.fits.2.1 h.fits.2.2.1 h.le, hq]; rfl)
  have HI2 : Hid (inB a 201326592 4194304 = false) := Lib.hid (by rw [inB_plic (a := a) (n := ul.length) h.fits.2.1 h.fits.2.2.1 h.le, hq]; rfl)
  have HI0 : Hid (inB a 2147483648 st.size = true) := Lib.hid (by rw [inB_ram (a := a) (n := ul.length) h.fits.2.1 h.fits.2.2.1 h.le, hq]; rfl)
  have c0 := h.obj.ram_
  have cs := h.sizeCell
  obtain ⟨k1, k2, k3⟩ := h.obj.clint_
  have HK := Lib.hid hk
  have HA := Lib.hid ha
  have HC := Lib.hid hC
  clear hC h hk hq ha
  rw [show offK ul.length 0 a = a from rfl] at HC
  generalize st.size = sz at *
  generalize C4.sI st.c.s = k1v at *
  generalize st.c.c = k2v at *
  generalize st.c.n = k3v at *
  go_enter Tryz.func55, Tryz.ntmps55
  go_wp2_with fail
  (with_reducible refine (width_any _ _).mono ?_)
  rintro e x1 ⟨rfl, rfl⟩
  rw [HK.out]
  go_wp2_with fail
  (with_reducible refine (in_any a _ _ HA.out (by omega) _).mono ?_)
  rintro e x2 ⟨rfl, rfl⟩
  rw [HI1.out]
  go_wp2_with fail
  (with_reducible refine (in_any a _ _ HA.out (by omega) _).mono ?_)
  rintro e x2 ⟨rfl, rfl⟩
  rw [HI2.out]
  go_wp2_with fail
  (with_reducible refine (in_any a _ _ HA.out (by omega) _).mono ?_)
  rintro e x2 ⟨rfl, rfl⟩
  rw [HI0.out]
  go_wp2_with fail
  (with_reducible refine HC.out.mono ?_)
  rintro e w4 hE
  obtain ⟨rfl, _⟩ := id hE
  have HE := Lib.hid hE
  clear hE
  go_wp2
  go_ret
  exact HE.out

set_option maxHeartbeats 1000000 in
theorem refWrite7_clint {w : World} {b g : Nat} {K : Nat → Nat} {vp : Value} {ul : List Nat} {N : Nat} {st : BS} (h : BusR w b K g vp ul N st) (a n v : Int) (ha : In64 a) (hk : M3.okN n = true) (hq : regK st.size ul.length a = 1) (r : Bool) (st' : BS)
    (hC : Calls Tryz.prog 98 #[.pointer (some ⟨b, 1, none⟩), .int .u64 (offK ul.length 1 a), .int .i64 n, .int .u64 v] w (RefBE w b K g vp ul (N + 8) (.bool r) st')) :
    Calls Tryz.prog 55 #[.pointer (some ⟨b, 0, none⟩), .int .u64 a, .int .i64 n, .int .u64 v] w (RefBE w b K g vp ul (N + 8) (.bool r) st') := by
  have HI1 : Hid (inB a 33554432 65536 = true) := Lib.hid (by rw [inB_clint (a := a) (n := ul.length) h.fits.2.1 h.fits.2.2.1 h.le, hq]; rfl)
  have HI2 : Hid (inB a 201326592 4194304 = false) := Lib.hid (by rw [inB_plic (a := a) (n := ul.length) h.fits.2.1 h.fits.2.2.1 h.le, hq]; rfl)
  have HI0 : Hid (inB a 2147483648 st.size = false) := Lib.hid (by rw [inB_ram (a := a) (n := ul.length) h.fits.2.1 h.fits.2.2.1 h.le, hq]; rfl)
  have hw := (offK_is hq h.le (by omega) ha h.fits.2.1 h.fits.2.2.1).1
  rw [if_neg (by omega), show regBase ul.length 1 = 33554432 from rfl] at hw
  have c0 := h.obj.ram_
  have cs := h.sizeCell
  obtain ⟨k1, k2, k3⟩ := h.obj.clint_
  have HK := Lib.hid hk
  have HA := Lib.hid ha
  have HC := Lib.hid hC
  clear hC h hk hq ha
  generalize offK ul.length 1 a = D at *
  generalize st.size = sz at *
  generalize C4.sI st.c.s = k1v at *
  generalize st.c.c = k2v at *
  generalize st.c.n = k3v at *
  go_enter Tryz.func55, Tryz.ntmps55
  go_wp2_with fail
  (with_reducible refine (width_any _ _).mono ?_)
  rintro e x1 ⟨rfl, rfl⟩
  rw [HK.out]
  go_wp2_with fail
  (with_reducible refine (in_any a _ _ HA.out (by omega) _).mono ?_)
  rintro e x2 ⟨rfl, rfl⟩
  rw [HI1.out]
  go_wp2_with fail
  (with_reducible refine HC.out.mono ?_)
  rintro e w4 hE
  obtain ⟨rfl, _⟩ := id hE
  have HE := Lib.hid hE
  clear hE
  go_wp2
  go_ret
  exact HE.out

set_option maxHeartbeats 1000000 in
theorem refWrite7_plic {w : World} {b g : Nat} {K : Nat → Nat} {vp : Value} {ul : List Nat} {N : Nat} {st : BS} (h : BusR w b K g vp ul N st) (a n v : Int) (ha : In64 a) (hk : M3.okN n = true) (hq : regK st.size ul.length a = 2) (r : Bool) (st' : BS)
    (hC : Calls Tryz.prog 99 #[.pointer (some ⟨b, 4, none⟩), .int .u64 (offK ul.length 2 a), .int .i64 n, .int .u64 v] w (RefBE w b K g vp ul (N + 8) (.bool r) st')) :
    Calls Tryz.prog 55 #[.pointer (some ⟨b, 0, none⟩), .int .u64 a, .int .i64 n, .int .u64 v] w (RefBE w b K g vp ul (N + 8) (.bool r) st') := by
  have HI1 : Hid (inB a 33554432 65536 = false) := Lib.hid (by rw [inB_clint (a := a) (n := ul.length) h.fits.2.1 h.fits.2.2.1 h.le, hq]; rfl)
  have HI2 : Hid (inB a 201326592 4194304 = true) := Lib.hid (by rw [inB_plic (a := a) (n := ul.length) h.fits.2.1 h.fits.2.2.1 h.le, hq]; rfl)
  have HI0 : Hid (inB a 2147483648 st.size = false) := Lib.hid (by rw [inB_ram (a := a) (n := ul.length) h.fits.2.1 h.fits.2.2.1 h.le, hq]; rfl)
  have hw := (offK_is hq h.le (by omega) ha h.fits.2.1 h.fits.2.2.1).1
  rw [if_neg (by omega), show regBase ul.length 2 = 201326592 from rfl] at hw
  have c0 := h.obj.ram_
  have cs := h.sizeCell
  obtain ⟨k1, k2, k3⟩ := h.obj.clint_
  have HK := Lib.hid hk
  have HA := Lib.hid ha
  have HC := Lib.hid hC
  clear hC h hk hq ha
  generalize offK ul.length 2 a = D at *
  generalize st.size = sz at *
  generalize C4.sI st.c.s = k1v at *
  generalize st.c.c = k2v at *
  generalize st.c.n = k3v at *
  go_enter Tryz.func55, Tryz.ntmps55
  go_wp2_with fail
  (with_reducible refine (width_any _ _).mono ?_)
  rintro e x1 ⟨rfl, rfl⟩
  rw [HK.out]
  go_wp2_with fail
  (with_reducible refine (in_any a _ _ HA.out (by omega) _).mono ?_)
  rintro e x2 ⟨rfl, rfl⟩
  rw [HI1.out]
  go_wp2_with fail
  (with_reducible refine (in_any a _ _ HA.out (by omega) _).mono ?_)
  rintro e x2 ⟨rfl, rfl⟩
  rw [HI2.out]
  go_wp2_with fail
  (with_reducible refine HC.out.mono ?_)
  rintro e w4 hE
  obtain ⟨rfl, _⟩ := id hE
  have HE := Lib.hid hE
  clear hE
  go_wp2
  go_ret
  exact HE.out

set_option maxHeartbeats 1000000 in
theorem refWrite7_uart {w : World} {b g : Nat} {K : Nat → Nat} {vp : Value} {ul : List Nat} {N : Nat} {st : BS} (h : BusR w b K g vp ul N st) (a n v : Int) (ha : In64 a) (hv : In64 v) (hk : M3.okN n = true) (i : Nat) (hq : regK st.size ul.length a = i + 3) (h11 : i + 3 < 11) :
    Calls Tryz.prog 55 #[.pointer (some ⟨b, 0, none⟩), .int .u64 a, .int .i64 n, .int .u64 v] w (RefBE w b K g vp ul N (.bool (wrR st (offK ul.length (i + 3) a) n v (i + 3)).1) (wrR st (offK ul.length (i + 3) a) n v (i + 3)).2) := by
  have hi := regK_port hq h11
  have hof := offK_is hq h.le h11 ha h.fits.2.1 h.fits.2.2.1
  have HU : Hid (∀ w', BusR w' b K g vp ul N st → Calls Tryz.prog 101 #[.pointer (some ⟨ul.getD i 0, 0, none⟩), .int .u64 (offK ul.length (i + 3) a), .int .i64 n, .int .u64 v] w' (RefBE w' b K g vp ul N (.bool (U6.okK (U6.plK (st.us.getD i U6.u0) (offK ul.length (i + 3) a) n))) (uartS st i (U6.wrT (st.us.getD i U6.u0) (v % 256) (U6.plK (st.us.getD i U6.u0) (offK ul.length (i + 3) a) n))))) := Lib.hid fun w' h' =>
    (U6.refWrite_any w' _ _ _ (h'.uart i hi) _ n v hof.2 hv).mono fun e w'' k => h'.uartEnd hi k
  have HD : Hid (∀ w' K', BusR w' b K' g vp ul N (uartS st i (U6.wrT (st.us.getD i U6.u0) (v % 256) (U6.plK (st.us.getD i U6.u0) (offK ul.length (i + 3) a) n))) → Calls Tryz.prog 102 #[.pointer (some ⟨b, 0, none⟩), .int .i64 i] w' (RDriveE w' b K' g vp ul N (driveS (uartS st i (U6.wrT (st.us.getD i U6.u0) (v % 256) (U6.plK (st.us.getD i U6.u0) (offK ul.length (i + 3) a) n))) i))) := Lib.hid fun w' K' h' => refDrive_any h' i hi
  show Calls Tryz.prog 55 #[.pointer (some ⟨b, 0, none⟩), .int .u64 a, .int .i64 n, .int .u64 v] w (RefBE w b K g vp ul N (.bool (U6.okK (U6.plK (st.us.getD i U6.u0) (offK ul.length (i + 3) a) n))) (driveS (uartS st i (U6.wrT (st.us.getD i U6.u0) (v % 256) (U6.plK (st.us.getD i U6.u0) (offK ul.length (i + 3) a) n))) i))
  have HI1 : Hid (inB a 33554432 65536 = false) := Lib.hid (by rw [inB_clint (a := a) (n := ul.length) h.fits.2.1 h.fits.2.2.1 h.le, hq, decide_eq_false (by omega)])
  have HI2 : Hid (inB a 201326592 4194304 = false) := Lib.hid (by rw [inB_plic (a := a) (n := ul.length) h.fits.2.1 h.fits.2.2.1 h.le, hq, decide_eq_false (by omega)])
  have HI0 : Hid (inB a 2147483648 st.size = false) := Lib.hid (by rw [inB_ram (a := a) (n := ul.length) h.fits.2.1 h.fits.2.2.1 h.le, hq, decide_eq_false (by omega)])
  have HUI : Hid (uaI ul.length a = (i : Int)) := Lib.hid (uaI_reg (size := st.size) h.le hq h11)
  have HUA := Lib.hid (refUart_any h a ha)
  obtain ⟨gp, cap, hvp, hcap, e0⟩ := h.uarts.cells hi
  have c0 := h.obj.ram_
  have cs := h.sizeCell
  have cu := h.obj.uarts_
  rw [hvp] at cu
  have hle := h.le
  have hoff : offK ul.length (i + 3) a = a - (268435456 + 4096 * (i : Int)) := by
    unfold offK regBase
    rw [if_neg (by omega), if_neg (by omega), if_neg (by omega), if_neg (by omega), if_pos (by omega)]
    omega
  have hge : 268435456 ≤ a := by
    have := hof.2; rw [hoff] at this; unfold In64 at this; omega
  obtain ⟨D1, hD1⟩ : ∃ D1, a - 268435456 = D1 := ⟨_, rfl⟩
  have hw1 : IntKind.u64.wrap (a - 268435456) = D1 := by rw [IntKind.wrap_u64, ← hD1]; unfold In64 at ha; omega
  have hw2 : IntKind.u64.wrap (D1 - 4096 * (i : Int)) = offK ul.length (i + 3) a := by
    rw [hoff, IntKind.wrap_u64]; have := hof.2; rw [hoff] at this; unfold In64 at this; omega
  have hwi : IntKind.u64.wrap (i : Int) = i := by rw [IntKind.wrap_u64]; omega
  have hlt : (i : Int) < ul.length := by omega
  have HK := Lib.hid hk
  have HA := Lib.hid ha
  have H := Lib.hid h
  have HCAP := Lib.hid hcap
  clear h hk hq ha hof hoff hD1 hge hvp
  generalize (U6.wrT (st.us.getD i U6.u0) (v % 256) (U6.plK (st.us.getD i U6.u0) (offK ul.length (i + 3) a) n)) = ts at *
  generalize (U6.plK (st.us.getD i U6.u0) (offK ul.length (i + 3) a) n) = pk at *
  generalize U6.okK pk = r at *
  generalize offK ul.length (i + 3) a = D at *
  generalize ul.getD i 0 = uv at *
  generalize st.size = sz at *
  generalize driveS (uartS st i ts) i = st2 at *
  generalize uartS st i ts = st1 at *
  go_enter Tryz.func55, Tryz.ntmps55
  go_wp2_with fail
  (with_reducible refine (width_any _ _).mono ?_)
  rintro e x1 ⟨rfl, rfl⟩
  rw [HK.out]
  go_wp2_with fail
  (with_reducible refine (in_any a _ _ HA.out (by omega) _).mono ?_)
  rintro e x2 ⟨rfl, rfl⟩
  rw [HI1.out]
  go_wp2_with fail
  (with_reducible refine (in_any a _ _ HA.out (by omega) _).mono ?_)
  rintro e x2 ⟨rfl, rfl⟩
  rw [HI2.out]
  go_wp2_with fail
  (with_reducible refine (in_any a _ _ HA.out (by omega) _).mono ?_)
  rintro e x2 ⟨rfl, rfl⟩
  rw [HI0.out]
  go_wp2_with fail
  (with_reducible refine HUA.out.mono ?_)
  rintro e x3 ⟨rfl, rfl⟩
  rw [HUI.out]
  go_wp2_with fail
  (with_reducible refine (HU.out _ H.out).mono ?_)
  rintro e w4 ⟨rfl, ho, K1, hg, hp⟩
  have HO4 := Lib.hid ho
  have HG4 := Lib.hid hg
  have HP4 := Lib.hid hp
  clear ho hg hp
  go_wp2_with fail
  (with_reducible refine (HD.out _ K1 HP4.out).mono ?_)
  rintro e w5 hE
  obtain ⟨⟨u5, rfl⟩, _⟩ := id hE
  have HE := Lib.hid hE
  clear hE
  go_wp2
  go_ret
  exact RDriveE.end HO4.out HG4.out HP4.out HE.out

theorem refWrite7_none {w : World} {b g : Nat} {K : Nat → Nat} {vp : Value} {ul : List Nat} {N : Nat} {st : BS} (h : BusR w b K g vp ul N st) (a n v : Int) (ha : In64 a) (hf : ¬ (M3.okN n = true ∧ regK st.size ul.length a < 11)) :
    Calls Tryz.prog 55 #[.pointer (some ⟨b, 0, none⟩), .int .u64 a, .int .i64 n, .int .u64 v] w (RefBE w b K g vp ul N (.bool false) st) := by
  cases hk : M3.okN n with
  | false =>
    have HK := Lib.hid hk
    have H := Lib.hid h
    clear h hk ha hf
    go_enter Tryz.func55, Tryz.ntmps55
    go_wp2_with fail
    (with_reducible refine (width_any _ _).mono ?_)
    rintro e x1 ⟨rfl, rfl⟩
    rw [HK.out]
    go_wp2
    go_ret
    exact H.out.end_same (Below.refl _ _)
  | true =>
    have hq : regK st.size ul.length a = 11 := by
      have := regK_le (size := st.size) (a := a) h.le
      by_cases c : regK st.size ul.length a < 11
      · exact absurd ⟨hk, c⟩ hf
      · omega
    have HI1 : Hid (inB a 33554432 65536 = false) := Lib.hid (by rw [inB_clint (a := a) (n := ul.length) h.fits.2.1 h.fits.2.2.1 h.le, hq]; rfl)
    have HI2 : Hid (inB a 201326592 4194304 = false) := Lib.hid (by rw [inB_plic (a := a) (n := ul.length) h.fits.2.1 h.fits.2.2.1 h.le, hq]; rfl)
    have HI0 : Hid (inB a 2147483648 st.size = false) := Lib.hid (by rw [inB_ram (a := a) (n := ul.length) h.fits.2.1 h.fits.2.2.1 h.le, hq]; rfl)
    have HUI : Hid (uaI ul.length a = -1) := Lib.hid (uaI_none (size := st.size) h.le h.fits.2.1 h.fits.2.2.1 hq)
    have HUA := Lib.hid (refUart_any h a ha)
    have c0 := h.obj.ram_
    have cs := h.sizeCell
    have HK := Lib.hid hk
    have HA := Lib.hid ha
    have H := Lib.hid h
    clear h hk ha hf hq
    generalize st.size = sz at *
    go_enter Tryz.func55, Tryz.ntmps55
    go_wp2_with fail
    (with_reducible refine (width_any _ _).mono ?_)
    rintro e x1 ⟨rfl, rfl⟩
    rw [HK.out]
    go_wp2_with fail
    (with_reducible refine (in_any a _ _ HA.out (by omega) _).mono ?_)
    rintro e x2 ⟨rfl, rfl⟩
    rw [HI1.out]
    go_wp2_with fail
    (with_reducible refine (in_any a _ _ HA.out (by omega) _).mono ?_)
    rintro e x2 ⟨rfl, rfl⟩
    rw [HI2.out]
    go_wp2_with fail
    (with_reducible refine (in_any a _ _ HA.out (by omega) _).mono ?_)
    rintro e x2 ⟨rfl, rfl⟩
    rw [HI0.out]
    go_wp2_with fail
    (with_reducible refine HUA.out.mono ?_)
    rintro e x3 ⟨rfl, rfl⟩
    rw [HUI.out]
    go_wp2
    go_ret
    exact H.out.end_same (Below.refl _ _)

theorem refRead7_any {w : World} {b g : Nat} {K : Nat → Nat} {vp : Value} {ul : List Nat} {N : Nat} {st : BS} (h : BusR w b K g vp ul N st) (a n : Int) (ha : In64 a) :
    Calls Tryz.prog 56 #[.pointer (some ⟨b, 0, none⟩), .int .u64 a, .int .i64 n] w (RefBE w b K g vp ul N (.tuple #[.int .u64 (busRd st a n).1, .bool (busRd st a n).2.1]) (busRd st a n).2.2) := by
  unfold busRd
  rw [h.len]
  by_cases hf : M3.okN n = true ∧ regK st.size ul.length a < 11
  · rw [if_pos hf]
    obtain ⟨hk, hq11⟩ := hf
    have hof := (offK_is (size := st.size) (n := ul.length) (a := a) rfl h.le hq11 ha h.fits.2.1 h.fits.2.2.1).2
    generalize hq : regK st.size ul.length a = q at *
    match q with
    | 0 =>
      obtain ⟨hg, gl, hl, hm⟩ := h.mem
      exact refRead7_ram h a n ha hk hq _ _ _ ((M3.mem_read w g gl _ _ N _ _ n hm h.fits hof).mono fun e w'' k => h.ramRd k)
    | 1 => exact refRead7_clint h a n ha hk hq _ _ _ ((C4.refRead_any w st.c _ n h.cok).mono fun e w'' k => h.clRd k)
    | 2 => exact refRead7_plic h a n ha hk hq _ _ _ ((P5.In.refRead_any w b st.p h.obj.plic _ n hof).mono fun e w'' k => h.plicEnd k)
    | i + 3 => exact refRead7_uart h a n ha hk i hq hq11
  · rw [if_neg hf]
    exact refRead7_none h a n ha hf
theorem refWrite7_any {w : World} {b g : Nat} {K : Nat → Nat} {vp : Value} {ul : List Nat} {N : Nat} {st : BS} (h : BusR w b K g vp ul N st) (a n v : Int) (ha : In64 a) (hv : In64 v) (hN : N < 900000) :
    Calls Tryz.prog 55 #[.pointer (some ⟨b, 0, none⟩), .int .u64 a, .int .i64 n, .int .u64 v] w (RefBE w b K g vp ul (N + 8) (.bool (busWr st a n v).1) (busWr st a n v).2) := by
  unfold busWr
  rw [h.len]
  by_cases hf : M3.okN n = true ∧ regK st.size ul.length a < 11
  · rw [if_pos hf]
    obtain ⟨hk, hq11⟩ := hf
    have hof := (offK_is (size := st.size) (n := ul.length) (a := a) rfl h.le hq11 ha h.fits.2.1 h.fits.2.2.1).2
    generalize hq : regK st.size ul.length a = q at *
    match q with
    | 0 =>
      obtain ⟨hg, gl, hl, hm⟩ := h.mem
      exact refWrite7_ram h a n v ha hk hq _ _ ((M3.mem_write w g gl _ _ N _ _ n v hm h.fits hof hv hN).mono fun e w'' k => by
        obtain ⟨he, o0, g', hg', hR⟩ := k
        obtain ⟨g2, hg2, hlt2, hR2⟩ := M3.RefMem.norm hR
        have o : Only (fun i => K i = 2) w w'' := o0.mono fun i hi => .inl (by subst hi; exact hg)
        refine ⟨he, o.mono fun i hi => .inl (by show ¬ K i = 0; have : K i = 2 := hi; omega), _, relabel_grow w K 2 w'', h.part (by omega) o rfl rfl rfl rfl ⟨relabel_old h.lt (by omega) hg, g2, ?_, hR2⟩ fun i hi => ?_⟩
        · rcases hg2 with rfl | rfl
          · rcases hg' with rfl | hg'
            · exact relabel_old h.lt (by omega) hl
            · exact relabel_new (.inr hg') hlt2
          · exact relabel_old h.lt (by omega) hg
        · exact ((h.uart i hi).keeps o fun x hx => by show ¬ K x = 2; have : K x = 3 + i := hx; omega).mono (fun x hx => relabel_old h.lt (by omega) hx) fun x hx => relabel_in h.lt o.size (by omega) hx)
    | 1 => exact refWrite7_clint h a n v ha hk hq _ _ ((C4.In.refWrite_any w b st.c _ n v (h.obj.clint h.cok) hv).mono fun e w'' k => RefBE.more (by omega) (h.clintEnd k))
    | 2 => exact refWrite7_plic h a n v ha hk hq _ _ ((P5.In.refWrite_any w b st.p h.obj.plic _ n v hof hv).mono fun e w'' k => RefBE.more (by omega) (h.plicEnd k))
    | i + 3 => exact (refWrite7_uart h a n v ha hv hk i hq hq11).mono fun e w'' k => RefBE.more (by omega) k
  · rw [if_neg hf]
    exact (refWrite7_none h a n v ha hf).mono fun e w'' k => RefBE.more (by omega) k

end Go.Proofs.YtbcnkhfpogglmaaGreatDoor

namespace Go.Proofs.YtbcnkhfpogglmaaGreatDoor
open Go.RowKit
set_option linter.unusedVariables false
set_option maxRecDepth 100000

section
variable {w : World} {b g : Nat} {K : Nat → Nat} {vp : Value} {ul : List Nat} {N : Nat} {st : BS}
theorem refLevel_none_bus (s : Int) (u : Bool) (w : World) : Calls Tryz.prog 58 #[.pointer none, .int .i64 s, .bool u] w fun e w' => e = .returned (.bool false) ∧ w = w' := by
  go_enter Tryz.func58, Tryz.ntmps58
  go_wp2
  go_ret
  exact ⟨rfl, rfl⟩
theorem refLevel7_any (h : BusR w b K g vp ul N st) (s : Int) (u : Bool) :
    Calls Tryz.prog 58 #[.pointer (some ⟨b, 0, none⟩), .int .i64 s, .bool u] w (RefBE w b K g vp ul N (.bool (busLv st s u).1) (busLv st s u).2) := by
  unfold busLv
  rw [h.len]
  have HL := Lib.hid (P5.In.refLevel_any w b st.p s u h.obj.plic)
  have H := Lib.hid h
  have cu := h.obj.uarts_
  have hle := h.le
  obtain ⟨av, cv, rfl, hcap⟩ := h.uarts.len
  clear h
  cases hc : isU ul.length (s - 10) with
  | true =>
    rw [if_pos rfl]
    have hb : 10 ≤ s ∧ s < 10 + (ul.length : Int) := by unfold isU at hc; rw [decide_eq_true_eq] at hc; omega
    have hb1 := hb.1
    have hb2 := hb.2
    clear hc hb
    generalize hn : ul.length = n at *
    have HN := Lib.hid hn
    clear hn
    go_enter Tryz.func58, Tryz.ntmps58
    go_wp2
    go_ret
    exact H.out.end_same (Below.refl _ _)
  | false =>
    rw [if_neg (by simp)]
    have hb : ¬ (10 ≤ s ∧ s < 10 + (ul.length : Int)) := by unfold isU at hc; rw [decide_eq_false_iff_not] at hc; omega
    clear hc
    generalize hn : ul.length = n at *
    have HN := Lib.hid hn
    clear hn
    by_cases h10 : 10 ≤ s
    · have h11 : ¬ s < 10 + (n : Int) := fun c => hb ⟨h10, c⟩
      clear hb
      go_enter Tryz.func58, Tryz.ntmps58
      go_wp2_with fail
      (with_reducible refine HL.out.mono ?_)
      rintro e w2 hE
      obtain ⟨rfl, _⟩ := id hE
      have HE := Lib.hid (H.out.plicEnd hE)
      clear hE
      go_wp2
      go_ret
      exact HE.out
    · clear hb
      go_enter Tryz.func58, Tryz.ntmps58
      go_wp2_with fail
      (with_reducible refine HL.out.mono ?_)
      rintro e w2 hE
      obtain ⟨rfl, _⟩ := id hE
      have HE := Lib.hid (H.out.plicEnd hE)
      clear hE
      go_wp2
      go_ret
      exact HE.out
theorem refTick_none_bus (n : Int) (w : World) : Calls Tryz.prog 59 #[.pointer none, .int .u64 n] w fun e w' => (∃ u, e = .returned u) ∧ w = w' := by
  go_enter Tryz.func59, Tryz.ntmps59
  go_wp2
  go_end0
  exact ⟨⟨_, rfl⟩, rfl⟩
def RTickE (w : World) (b : Nat) (K : Nat → Nat) (g : Nat) (vp : Value) (ul : List Nat) (N : Nat) (st' : BS) (e : Ending) (w' : World) : Prop := ∃ u, RefBE w b K g vp ul N u st' e w'
theorem refTick7_any (h : BusR w b K g vp ul N st) (n : Int) (hn : In64 n) :
    Calls Tryz.prog 59 #[.pointer (some ⟨b, 0, none⟩), .int .u64 n] w (RTickE w b K g vp ul N (busTk st n)) := by
  have HT := Lib.hid (C4.In.refTick_any w b st.c n (h.obj.clint h.cok) hn)
  have H := Lib.hid h
  clear h hn
  go_enter Tryz.func59, Tryz.ntmps59
  go_wp2_with fail
  (with_reducible refine HT.out.mono ?_)
  rintro e w2 ⟨⟨v, rfl⟩, ho, hp⟩
  have HE : Hid (RefBE w b K g vp ul N (.tuple #[]) (busTk st n) (.returned (.tuple #[])) w2) := Lib.hid ⟨rfl, ho.mono fun i hi => .inl (by subst hi; rw [H.out.kb]; omega), K, Grow.refl _ _, H.out.setClint ho hp⟩
  clear ho hp
  go_wp2
  go_end0
  exact ⟨_, HE.out⟩
theorem refIsRam_none_bus (a n : Int) (w : World) : Calls Tryz.prog 60 #[.pointer none, .int .u64 a, .int .i64 n] w fun e w' => e = .returned (.bool false) ∧ w = w' := by
  go_enter Tryz.func60, Tryz.ntmps60
  go_wp2
  go_ret
  exact ⟨rfl, rfl⟩
theorem refFeed_none_bus (i x : Int) (w : World) : Calls Tryz.prog 57 #[.pointer none, .int .i64 i, .int .u8 x] w fun e w' => e = .returned (.bool false) ∧ w = w' := by
  go_enter Tryz.func57, Tryz.ntmps57
  go_wp2
  go_ret
  exact ⟨rfl, rfl⟩
theorem refFeed7_any (h : BusR w b K g vp ul N st) (i x : Int) (hx : 0 ≤ x ∧ x < 256) :
    Calls Tryz.prog 57 #[.pointer (some ⟨b, 0, none⟩), .int .i64 i, .int .u8 x] w (RefBE w b K g vp ul N (.bool (busFd st i x).1) (busFd st i x).2) := by
  unfold busFd
  rw [h.len]
  have cu := h.obj.uarts_
  have hle := h.le
  cases hc : isU ul.length i with
  | false =>
    rw [if_neg (by simp)]
    have hb : ¬ (0 ≤ i ∧ i < (ul.length : Int)) := by unfold isU at hc; rw [decide_eq_false_iff_not] at hc; omega
    obtain ⟨av, cv, rfl, hcap⟩ := h.uarts.len
    have H := Lib.hid h
    clear hc h hx
    generalize hn : ul.length = n at *
    have HN := Lib.hid hn
    clear hn
    by_cases i0 : i < 0
    · clear hb
      go_enter Tryz.func57, Tryz.ntmps57
      go_wp2
      go_ret
      exact H.out.end_same (Below.refl _ _)
    · have i1 : (n : Int) ≤ i := by omega
      clear hb
      go_enter Tryz.func57, Tryz.ntmps57
      go_wp2
      go_ret
      exact H.out.end_same (Below.refl _ _)
  | true =>
    rw [if_pos rfl]
    obtain ⟨k, rfl, hk⟩ := isU_nat hc
    obtain ⟨gp, cap, hvp, hcap, e0⟩ := h.uarts.cells hk
    have hnk : ¬ (ul.length : Int) ≤ (k : Int) := by omega
    have hk0 : ¬ (k : Int) < 0 := by omega
    have hlt : (k : Int) < ul.length := by omega
    rw [hvp] at cu
    rw [show ((k : Int)).toNat = k from rfl]
    have HU : Hid (∀ w', BusR w' b K g vp ul N st → Calls Tryz.prog 107 #[.pointer (some ⟨ul.getD k 0, 0, none⟩), .int .u8 x] w' (RefBE w' b K g vp ul N (.bool (U6.feedK (st.us.getD k U6.u0))) (uartS st k (U6.feedT (st.us.getD k U6.u0) x)))) := Lib.hid fun w' h' =>
      (U6.refFeed_any w' _ _ _ (h'.uart k hk) x hx).mono fun e w'' q => h'.uartEnd hk q
    have HD : Hid (∀ w' K', BusR w' b K' g vp ul N (uartS st k (U6.feedT (st.us.getD k U6.u0) x)) → Calls Tryz.prog 102 #[.pointer (some ⟨b, 0, none⟩), .int .i64 k] w' (RDriveE w' b K' g vp ul N (driveS (uartS st k (U6.feedT (st.us.getD k U6.u0) x)) k))) := Lib.hid fun w' K' h' => refDrive_any h' k hk
    have H := Lib.hid h
    clear h hx hc hvp
    generalize U6.feedK (st.us.getD k U6.u0) = r at *
    generalize driveS (uartS st k (U6.feedT (st.us.getD k U6.u0) x)) k = st2 at *
    generalize uartS st k (U6.feedT (st.us.getD k U6.u0) x) = st1 at *
    generalize ul.getD k 0 = uv at *
    generalize hn : ul.length = n at *
    clear hn
    go_enter Tryz.func57, Tryz.ntmps57
    go_wp2_with fail
    (with_reducible refine (HU.out _ H.out).mono ?_)
    rintro e w4 ⟨rfl, ho, K1, hg, hp⟩
    have HO4 := Lib.hid ho
    have HG4 := Lib.hid hg
    have HP4 := Lib.hid hp
    clear ho hg hp
    go_wp2_with fail
    (with_reducible refine (HD.out _ K1 HP4.out).mono ?_)
    rintro e w5 hE
    obtain ⟨⟨u5, rfl⟩, _⟩ := id hE
    have HE := Lib.hid hE
    clear hE
    go_wp2
    go_ret
    exact RDriveE.end HO4.out HG4.out HP4.out HE.out
end

end Go.Proofs.YtbcnkhfpogglmaaGreatDoor

namespace Go.Proofs.YtbcnkhfpogglmaaGreatDoor
open Go.RowKit
set_option linter.unusedVariables false
set_option maxRecDepth 100000

def uartPtrs (ul : List Nat) : List Value := ul.map fun u => .pointer (some ⟨u, 0, none⟩)
theorem uartPtrs_snoc (ul : List Nat) (u : Nat) : uartPtrs (ul ++ [u]) = uartPtrs ul ++ [.pointer (some ⟨u, 0, none⟩)] := by
  unfold uartPtrs; rw [List.map_append]; rfl
theorem BusR.plug {w w' : World} {b g : Nat} {K : Nat → Nat} {vp vp' : Value} {ul : List Nat} {N : Nat} {st : BS} (h : BusR w b K g vp ul N st) {u : Nat} {F : Nat → Prop} {t : U6.US} (hu : U6.UR w u F t) (hF : ∀ i, F i → K i = 0)
    (own : ∀ x, vp.ownBlock = some x → K x = 1) (hat : RefAt w' b g st.c st.p vp') (own' : w'.ownsRow (b + 1) 108 1 vp' (ul.length + 1) (uartPtrs ul ++ [.pointer (some ⟨u, 0, none⟩)]))
    (o : Only (fun i => i = b ∨ vp.ownBlock = some i) w w') (hx : ∀ x, vp'.ownBlock = some x → vp.ownBlock = some x ∨ w.heap.size ≤ x) (hn : ul.length < 8) :
    BusR w' b (plugK K F ul.length vp') g vp' (ul ++ [u]) N { st with us := st.us ++ [t] } ∧ (∀ x, vp'.ownBlock = some x → plugK K F ul.length vp' x = 1) ∧ ∀ i, ¬ plugK K F ul.length vp' i = 0 → ¬ K i = 0 ∨ F i ∨ w.heap.size ≤ i := by
  have kb := h.kb
  have hFl := hu.lt
  have hnF : ∀ x, vp'.ownBlock = some x → ¬ F x := fun x e hf => by
    have h0 := hF x hf
    rcases hx x e with h1 | h1
    · have := own x h1; omega
    · have := hFl x hf; omega
  have k1 : ∀ x, vp'.ownBlock = some x → plugK K F ul.length vp' x = 1 := fun x e => by
    unfold plugK; rw [if_neg (hnF x e), if_pos e]
  have kold : ∀ i j, K i = j → 2 ≤ j → plugK K F ul.length vp' i = j := fun i j e hj => by
    unfold plugK
    rw [if_neg (fun hf => by have := hF i hf; omega), if_neg (fun e2 => by
      rcases hx i e2 with h1 | h1
      · have := own i h1; omega
      · have := h.lt i (by omega); omega)]
    exact e
  have hb1 : ¬ vp'.ownBlock = some b := fun e => by have := (own'.lt b e).1; omega
  have klt : ∀ i, ¬ plugK K F ul.length vp' i = 0 → i < w'.heap.size := fun i hi => by
    unfold plugK at hi
    split at hi
    · rename_i hf; exact Nat.lt_of_lt_of_le (hFl i hf) o.size
    · split at hi
      · rename_i e; exact (own'.lt i e).2
      · exact Nat.lt_of_lt_of_le (h.lt i hi) o.size
  have hT : ∀ i, ¬ K i = 1 → ¬ (i = b ∨ vp.ownBlock = some i) := fun i hi e => by
    rcases e with rfl | e
    · omega
    · exact hi (own i e)
  refine ⟨⟨hat, ?_, ?_, h.fits, ?_, ?_, ?_, ?_, klt, h.cok⟩, k1, ?_⟩
  · refine .inr ?_
    obtain ⟨_, h2⟩ := own'
    rcases h2 with ⟨_, h0⟩ | ⟨gp, cap, cur, hv, hg, hh, hnc, _, hc, ht⟩
    · omega
    · refine ⟨gp, cap, by rw [hv, List.length_append]; rfl, by rw [List.length_append]; exact hnc, k1 gp (by rw [hv]; rfl), by omega, cur, _, _, hh, ?_⟩
      show _ = uartPtrs (ul ++ [u])
      rw [uartPtrs_snoc]
      rw [show ((ul ++ [u]).map fun u => Value.pointer (some ⟨u, 0, none⟩)).length = (ul.length + 1) * 1 by simp]
      exact ht
  · obtain ⟨hg, gl, hl, hm⟩ := h.mem
    exact ⟨kold g 2 hg (by omega), gl, kold gl 2 hl (by omega), hm.keeps o (hT g (by omega)) (hT gl (by omega))⟩
  · intro j hj
    by_cases e : j = ul.length
    · subst e
      have e1 : (ul ++ [u]).getD ul.length 0 = u := by rw [List.getD_eq_getElem?_getD, List.getElem?_append_right (Nat.le_refl _)]; simp
      have e2 : (st.us ++ [t]).getD ul.length U6.u0 = t := by rw [List.getD_eq_getElem?_getD, ← h.len, List.getElem?_append_right (Nat.le_refl _)]; simp
      rw [e1, e2]
      refine (hu.keeps o fun i hi => hT i (by have := hF i hi; omega)).mono (fun i hi => ?_) fun i hi => klt i (by have : plugK K F ul.length vp' i = 3 + ul.length := hi; omega)
      unfold plugK; rw [if_pos hi]
    · have hj2 : j < ul.length := by rw [List.length_append] at hj; simp at hj; omega
      have e1 : (ul ++ [u]).getD j 0 = ul.getD j 0 := by rw [List.getD_eq_getElem?_getD, List.getD_eq_getElem?_getD, List.getElem?_append_left hj2]
      have e2 : (st.us ++ [t]).getD j U6.u0 = st.us.getD j U6.u0 := by rw [List.getD_eq_getElem?_getD, List.getD_eq_getElem?_getD, List.getElem?_append_left (by rw [h.len]; exact hj2)]
      rw [e1, e2]
      exact ((h.uart j hj2).keeps o fun i hi => hT i (by have : K i = 3 + j := hi; omega)).mono (fun i hi => kold i _ hi (by omega)) fun i hi => klt i (by have : plugK K F ul.length vp' i = 3 + j := hi; omega)
  · simp [h.len]
  · simp; omega
  · unfold plugK; rw [if_neg (fun hf => by have := hF b hf; omega), if_neg hb1]; exact kb
  · intro i hi
    unfold plugK at hi
    split at hi
    · rename_i hf; exact .inr (.inl hf)
    · split at hi
      · rename_i e
        rcases hx i e with h1 | h1
        · have := own i h1; exact .inl (by omega)
        · exact .inr (.inr h1)
      · exact .inl hi

open Classical in
noncomputable def startR (b g : Nat) : Nat → Nat := fun i => if i = b then 1 else if i = g ∨ i = g + 1 then 2 else 0
/-- A bus in the making. -/
def MakeRR (w0 : World) (b g : Nat) (st : BS) (wr : World) : Prop :=
  ∃ K vp ul, BusR wr b K g vp ul 0 st ∧ (∀ x, vp.ownBlock = some x → K x = 1) ∧ wr.ownsRow (b + 1) 108 1 vp ul.length (uartPtrs ul) ∧ Below w0.heap.size w0 wr ∧ ∀ i, ¬ K i = 0 → w0.heap.size ≤ i
/-- The zero object of the document. -/
theorem built_ref (g : Nat) : Tryz.prog.built 107 [(0, .pointer (some ⟨g, 0, none⟩)), (1, .agg #[.int .u64 0, .int .u64 18446744073709551615, .int .u64 0])] = some (refRow g cl0 P5.p0 (.slice none 0 0)) := by kernel_rfl

end Go.Proofs.YtbcnkhfpogglmaaGreatDoor

namespace Go.Proofs.YtbcnkhfpogglmaaGreatDoor
open Go.RowKit
set_option linter.unusedVariables false
set_option maxRecDepth 100000

set_option maxHeartbeats 1000000 in
theorem refNew7_bad (w : World) (size n : Int) (hs : In64 size) (hn : 0 ≤ n ∧ n ≤ 8) (hbad : M3.newOk 2147483648 size = false) : Calls Tryz.prog 20 #[.int .u64 size, .int .i64 n] w fun e w' => e = .returned (.tuple #[.pointer none, .int .i64 1]) ∧ w = w' := by
  have HN := Lib.hid (M3.refNew_any 2147483648 size (by unfold In64; omega) hs w)
  have HB := Lib.hid hbad
  have n1 := hn.1
  have n2 := hn.2
  clear hbad hs hn
  go_enter Tryz.func20, Tryz.ntmps20
  go_wp2_with fail
  (with_reducible refine HN.out.mono ?_)
  rintro e w1 hor
  obtain ⟨he, hw⟩ : e = .returned (.tuple #[.pointer none, .int .i64 1]) ∧ w = w1 := by
    rcases hor with ⟨_, h1, h2⟩ | ⟨h1, _⟩
    · exact ⟨h1, h2⟩
    · rw [HB.out] at h1; cases h1
  subst he
  subst hw
  clear hor
  go_wp2
  go_ret2
  exact ⟨rfl, rfl⟩
set_option maxHeartbeats 1000000 in
theorem refNew7_n (w : World) (size n : Int) (hn : ¬ (0 ≤ n ∧ n ≤ 8)) : Calls Tryz.prog 20 #[.int .u64 size, .int .i64 n] w fun e w' => e = .returned (.tuple #[.pointer none, .int .i64 1]) ∧ w = w' := by
  by_cases n0 : n < 0
  · clear hn
    go_enter Tryz.func20, Tryz.ntmps20
    go_wp2
    go_ret2
    exact ⟨rfl, rfl⟩
  · have n8 : 8 < n := by omega
    clear hn
    go_enter Tryz.func20, Tryz.ntmps20
    go_wp2
    go_ret2
    exact ⟨rfl, rfl⟩
open Classical in
noncomputable def startR2 (b g gl : Nat) : Nat → Nat := fun i => if i = b then 1 else if i = g ∨ i = gl then 2 else 0
theorem BusR.start {w : World} {b g gl : Nat} {c : C4.Cl} {p : P5.PS} {size : Int} {m : Int → Int} (hat : RefAt w b g c p (.slice none 0 0)) (hm : M3.RefMem w g gl 2147483648 size 0 m) (hl : gl < w.heap.size) (hf : M3.Fits 2147483648 size) (hb1 : ¬ g = b) (hb2 : ¬ gl = b) (hc : c.ok) :
    BusR w b (startR2 b g gl) g (.slice none 0 0) [] 0 ⟨size, m, c, p, []⟩ := by
  refine ⟨hat, .inl ⟨rfl, rfl⟩, ⟨?_, gl, ?_, hm⟩, hf, fun j hj => by simp at hj, rfl, by simp, ?_, fun i hi => ?_, hc⟩
  · unfold startR2; rw [if_neg hb1, if_pos (.inl rfl)]
  · unfold startR2; rw [if_neg hb2, if_pos (.inr rfl)]
  · unfold startR2; rw [if_pos rfl]
  · unfold startR2 at hi
    split at hi
    · rename_i h; subst h; exact hat.lt
    · split at hi
      · rename_i h
        rcases h with rfl | rfl
        · exact hm.lt
        · exact hl
      · exact absurd rfl hi
/-- What one round of New's loop leaves. -/
theorem makeRR_step {w0 wr w1 w2 : World} {b g u : Nat} {K : Nat → Nat} {vp vp' : Value} {ul : List Nat} {st : BS} {t : U6.US} {F : Nat → Prop} (h : BusR wr b K g vp ul 0 st) (own : ∀ x, vp.ownBlock = some x → K x = 1) (hb0 : Below w0.heap.size w0 wr) (hk : ∀ i, ¬ K i = 0 → w0.heap.size ≤ i) (hn : ul.length < 8)
    (hb : Below wr.heap.size wr w1) (hF : ∀ i, F i → wr.heap.size ≤ i) (hu : U6.UR w1 u F t) (hat : RefAt w2 b g st.c st.p vp') (own' : w2.ownsRow (b + 1) 108 1 vp' (ul.length + 1) (uartPtrs ul ++ [.pointer (some ⟨u, 0, none⟩)]))
    (o : Only (fun i => i = b ∨ vp.ownBlock = some i) w1 w2) (hx : ∀ x, vp'.ownBlock = some x → vp.ownBlock = some x ∨ w1.heap.size ≤ x) : MakeRR w0 b g { st with us := st.us ++ [t] } w2 := by
  have h1 : BusR w1 b K g vp ul 0 st := h.below hb
  have s1 := hb.size
  have s0 := hb0.size
  obtain ⟨p1, p2, p3⟩ := BusR.plug h1 hu (fun i hi => by
    have := hF i hi
    by_cases e : K i = 0
    · exact e
    · have := h.lt i e; omega) own hat own' o hx hn
  refine ⟨_, vp', ul ++ [u], p1, p2, ?_, ?_, fun i hi => ?_⟩
  · rw [uartPtrs_snoc, List.length_append]; exact own'
  · have hb1 : w0.heap.size ≤ b := hk b (by rw [h.kb]; omega)
    exact (hb0.trans (hb.mono hb0.size)).trans (o.below (fun i hi => by
      rcases hi with rfl | hi
      · exact hb1
      · exact hk i (by rw [own i hi]; omega)) (by omega))
  · rcases p3 i hi with h2 | h2 | h2
    · exact hk i h2
    · have := hF i h2; omega
    · omega

end Go.Proofs.YtbcnkhfpogglmaaGreatDoor

namespace Go.Proofs.YtbcnkhfpogglmaaGreatDoor
open Go.RowKit
set_option linter.unusedVariables false
set_option maxRecDepth 100000

def BusNewRE (w : World) (size n : Int) (e : Ending) (w' : World) : Prop :=
  Below w.heap.size w w' ∧ ((busOk size n = false ∧ e = .returned (.tuple #[.pointer none, .int .i64 1])) ∨
    (busOk size n = true ∧ ∃ b K g vp ul, e = .returned (.tuple #[.pointer (some ⟨b, 0, none⟩), .int .i64 0]) ∧ (∀ i, ¬ K i = 0 → w.heap.size ≤ i) ∧ BusR w' b K g vp ul 0 (bs0 size n.toNat)))
theorem info_uptr : (Tryz.prog.info? 108).map (fun i => (i.zero, i.size, i.bytes)) = some (some (.pointer none), 1, 8) := by kernel_rfl
theorem refNew_app {w0 wr : World} {b g : Nat} {K : Nat → Nat} {A : Option Addr} {C : Nat} {ul : List Nat} {st : BS} (h : BusR wr b K g (.slice A ul.length C) ul 0 st) (own : ∀ x, (Value.slice A ul.length C).ownBlock = some x → K x = 1) (owr : wr.ownsRow (b + 1) 108 1 (.slice A ul.length C) ul.length (uartPtrs ul)) (hb0 : Below w0.heap.size w0 wr) (hk : ∀ i, ¬ K i = 0 → w0.heap.size ≤ i) (hn : ul.length < 8) (w5 : World) (u : Nat) (F : Nat → Prop) (hb : Below wr.heap.size wr w5) (hF : ∀ i, F i → wr.heap.size ≤ i) (hu : U6.UR w5 u F U6.u0) :
    ∃ A2 m2 C2 w6, (Builtin.append_ #[105, 105] 105 #[.slice A ul.length C, .slice (some ⟨w5.heap.size, 0, none⟩) 1 1]).run Tryz.prog (w5.alloc (.cells #[.pointer (some ⟨u, 0, none⟩)] 108)) = .ok (.slice A2 m2 C2) w6 ∧ w6.cell? ⟨b, 198, none⟩ = some (.slice A ul.length C) ∧ w6.frozen? ⟨b, 198, none⟩ = false ∧
      Hid (MakeRR w0 b g { st with us := st.us ++ [U6.u0] } (w6.setCell ⟨b, 198, none⟩ (.slice A2 m2 C2))) := by
  obtain ⟨i0, hi, hz0, hz1, hz2⟩ := U6.info_parts8 info_uptr
  have B1 : Below w5.heap.size w5 (w5.alloc (.cells #[.pointer (some ⟨u, 0, none⟩)] 108)) := (Below.refl _ _).alloc (Nat.le_refl _) _
  have B2 : Below wr.heap.size wr (w5.alloc (.cells #[.pointer (some ⟨u, 0, none⟩)] 108)) := hb.trans (B1.mono hb.size)
  have hnc : ∀ j x, ([.pointer (some ⟨u, 0, none⟩)] : List Value)[j]? = some x → (w5.alloc (.cells #[.pointer (some ⟨u, 0, none⟩)] 108)).cell? ((⟨w5.heap.size, 0, none⟩ : Addr).add j) = some x := by
    intro j x hj
    rw [add_none, Nat.zero_add]
    have hz : (w5.alloc (.cells #[.pointer (some ⟨u, 0, none⟩)] 108)).heap[w5.heap.size]? = some (.cells #[.pointer (some ⟨u, 0, none⟩)] 108 (0, 0)) := heap_alloc_new w5 _
    rw [cell_of_row _ _ _ _ _ _ hz]
    simpa using hj
  have hbl := h.obj.lt
  obtain ⟨v', w', hr, h2, h3, _, h5⟩ := run_append_own_at (P := Tryz.prog) (w5.alloc (.cells #[.pointer (some ⟨u, 0, none⟩)] 108)) (b + 1) 105 105 108 i0 (.pointer none) 1 8 Tryz.underlying105 hi hz0 hz1 hz2 rfl (by decide) (.slice A ul.length C) ul.length (uartPtrs ul) (owns_below owr B2) ⟨w5.heap.size, 0, none⟩ 1 1 [.pointer (some ⟨u, 0, none⟩)] rfl hnc (by intro x hx; simp at hx; rw [hx]; rfl) (by unfold maxLen; omega) (by omega) (by have := B2.size; omega)
  obtain ⟨A2, m2, C2, hv2⟩ := M3.own_slice h2
  subst hv2
  have hno : ¬ (Value.slice A ul.length C).ownBlock = some b := fun e => by
    have := (owr.lt b e).1; omega
  have hat : RefAt w' b g st.c st.p (.slice A ul.length C) := (h3.block b (Nat.lt_of_lt_of_le hbl B2.size) (fun e => hno e.symm)).trans ((B2.block b hbl).trans h.obj)
  refine ⟨A2, m2, C2, w', hr, hat.uarts_, hat.free 198, Lib.hid (makeRR_step h own hb0 hk hn hb hF hu (hat.setUarts _) (ownsRow_setCell_below h2 (by show b < b + 1; omega) _) (Only.setCell ((Only.of_below _ B1).grown h3 fun k hk => .inl (.inr hk)) (p := ⟨b, 198, none⟩) (.inl (.inl rfl)) _) fun x hx => ?_)⟩
  rcases h5 with h5 | h5
  · exact .inl (h5 ▸ hx)
  · rw [h5] at hx; injection hx with hx; have := B1.size; exact .inr (by omega)
set_option maxHeartbeats 2000000 in
theorem refNew7_ok (w : World) (size : Int) (n : Nat) (hs : In64 size) (hn : n ≤ 8) (hok : M3.newOk 2147483648 size = true) : Calls Tryz.prog 20 #[.int .u64 size, .int .i64 n] w (BusNewRE w size n) := by
  have HN := Lib.hid (M3.refNew_any 2147483648 size (by unfold In64; omega) hs w)
  have HO : Hid (busOk size n = true) := Lib.hid (by unfold busOk; rw [hok, decide_eq_true (by omega)]; rfl)
  have HF := Lib.hid (M3.newOk_fits (base := 2147483648) (by unfold In64; omega) hok)
  have HB := Lib.hid hok
  have n1 : ¬ (n : Int) < 0 := by omega
  have n2 : ¬ (8 : Int) < n := by omega
  clear hok hs
  go_enter Tryz.func20, Tryz.ntmps20
  go_wp2_with fail
  (with_reducible refine HN.out.mono ?_)
  rintro e w1 hor
  obtain ⟨he, hb, hm0⟩ : e = .returned (.tuple #[.pointer (some ⟨w.heap.size, 0, none⟩), .int .i64 0]) ∧ Below w.heap.size w w1 ∧ M3.RefMem w1 w.heap.size (w.heap.size + 1) 2147483648 size 0 fun _ => 0 := by
    rcases hor with ⟨h1, _⟩ | ⟨_, h1, h2, h3⟩
    · rw [HB.out] at h1; cases h1
    · exact ⟨h1, h2, h3⟩
  subst he
  obtain ⟨gl, hgl, hlt, hm⟩ := M3.RefMem.norm hm0
  have hg0 : w.heap.size ≤ w.heap.size := Nat.le_refl _
  have hgl0 : w.heap.size ≤ gl := by omega
  clear hm0 hgl
  generalize hgg : w.heap.size = g at hm HN hor
  have hg0 : w.heap.size ≤ g := by omega
  have HB1 := Lib.hid hb
  have HM := Lib.hid hm
  have HG := Lib.hid hg0
  have HL := Lib.hid hgl0
  have HLT := Lib.hid hlt
  clear hb hor hm hg0 hgl0 hlt HN HB hgg
  go_wp2_with fail
  refine (C4.refNew_any _).mono ?_
  rintro e w2 ⟨rfl, hb2⟩
  have HB2 := Lib.hid (HB1.out.trans (hb2.mono HB1.out.size))
  have HM2 := Lib.hid (HM.out.below hb2)
  have HLT2 := Lib.hid (Nat.lt_of_lt_of_le HLT.out hb2.size)
  clear hb2 HM HLT HB1
  go_wp2_with (refine wpList_build_at rfl 107 #[(0, .tmp 23), (1, .tmp 24)] rfl [(0, .pointer (some ⟨g, 0, none⟩)), (1, .agg #[.int .u64 0, .int .u64 18446744073709551615, .int .u64 0])] (by first | rfl | simp [Act.eval, Act.put, C4.refV, C4.sI]) _ (built_ref g) ?_)
  have hfr : M3.Fits 2147483648 size := HF.out
  have D : RefAt (w2.alloc (.cells (refRow g cl0 P5.p0 (.slice none 0 0)) 107)) w2.heap.size g cl0 P5.p0 (.slice none 0 0) := heap_alloc_new w2 _
  have hb4 : Below w2.heap.size w2 (w2.alloc (.cells (refRow g cl0 P5.p0 (.slice none 0 0)) 107)) := (Below.refl _ _).alloc (Nat.le_refl _) _
  have HMK : Hid (MakeRR w w2.heap.size g ⟨size, fun _ => 0, cl0, P5.p0, []⟩ (w2.alloc (.cells (refRow g cl0 P5.p0 (.slice none 0 0)) 107))) := by
    have s2 := HB2.out.size
    have l1 := HM2.out.lt
    have l2 := HLT2.out
    have l3 := HG.out
    have l4 := HL.out
    refine Lib.hid ⟨startR2 w2.heap.size g gl, .slice none 0 0, [], BusR.start D (HM2.out.below hb4) (Nat.lt_of_lt_of_le l2 hb4.size) hfr (by omega) (by omega) cl0_ok, fun x hx => by simp [Value.ownBlock] at hx, World.ownsRow_nil _ _ _ _, HB2.out.trans (hb4.mono s2), fun i hi => ?_⟩
    unfold startR2 at hi
    split at hi
    · omega
    · split at hi
      · omega
      · exact absurd rfl hi
  clear D hb4 HM2 HB2 hfr HG HL HLT2 HF
  generalize w2.alloc (.cells (refRow g cl0 P5.p0 (.slice none 0 0)) 107) = w4 at *
  generalize w2.heap.size = b at *
  go_loopw [9] (fun i wr => ∃ k : Nat, k ≤ n ∧ i = .int .i64 k ∧ Hid (MakeRR w b g ⟨size, fun _ => 0, cl0, P5.p0, List.replicate k U6.u0⟩ wr)) (fun i wr => (n - (intOf i).toNat))
  case atStart => exact ⟨0, by omega, rfl, HMK⟩
  case round =>
    obtain ⟨k, hk, rfl, HMR⟩ := hrel
    obtain ⟨K, vp, ul, hq, own, owr, hb0, hkk⟩ := HMR.out
    have hl := hq.len
    simp only [List.length_replicate] at hl
    by_cases hlt : k < n
    · obtain ⟨A, m, C, hvp⟩ := M3.own_slice owr
      subst hvp
      have hmn : m = ul.length := by
        rcases Lays.own owr with ⟨h1, h2, _⟩ | ⟨_, _, h1, _, _⟩
        · simp at h1; omega
        · simp at h1; omega
      subst hmn
      have hcell := hq.obj.uarts_
      have hlk : (k : Int) < n := by omega
      have HAPP := Lib.hid (refNew_app hq own owr hb0 hkk (by omega))
      rw [← List.replicate_succ'] at HAPP
      have HC5 : Hid (∀ w', Below wr.heap.size wr w' → w'.cell? ⟨b, 198, none⟩ = some (.slice A ul.length C)) := Lib.hid fun w' h' => (hq.obj.keeps (Only.of_below (fun _ => False) h') id).uarts_
      have HUN : Hid (∀ w', Calls Tryz.prog 54 #[] w' (U6.MadeU U6.cellsR 111 w' U6.u0)) := Lib.hid fun w' => U6.refNew_any w'
      have hbd : Below wr.heap.size wr wr.drew := (Below.refl _ _).drew
      have HBD := Lib.hid hbd
      clear hq own owr hb0 hkk HMR hl HMK hbd
      generalize ul.length = m at *
      go_wp2_with fail
      go_region_law (first
        | (refine M3.step_append_run rfl (.tmp 36) (.tmp 38) 105 rfl (.slice A m C) (.slice (some ⟨w5.heap.size, 0, none⟩) 1 1) (.slice A2 m2 C2) w6 rfl rfl HRUN.out ?_)
        | (go_simp; go_at_call 54; refine (HUN.out _).mono ?_; rintro e w5 ⟨u, F, vi, vo, rfl, hb5, hF5, hu5⟩; have c5 := HC5.out _ (HBD.out.trans hb5); have c5b := Lib.cell?_alloc_some (.cells #[.pointer (some ⟨u, 0, none⟩)] 108) c5; obtain ⟨A2, m2, C2, w6, hrun, hc6, hf6, hE6⟩ := HAPP.out w5 u F (HBD.out.trans hb5) hF5 ⟨vi, vo, hu5⟩; have HRUN := Lib.hid hrun; clear hrun hb5 hF5 hu5))
      all_goals
        go_wp2
        go_roundw
        case rel => exact ⟨k + 1, by omega, by go_num, hE6⟩
        case measure => simp [intOf]; omega
    · obtain rfl : k = n := by omega
      have HFIN : Hid (BusNewRE w size k (.returned (.tuple #[.pointer (some ⟨b, 0, none⟩), .int .i64 0])) wr) := Lib.hid ⟨hb0, .inr ⟨HO.out, b, K, g, vp, ul, rfl, hkk, hq⟩⟩
      clear hq own owr hb0 hkk HMR hl HMK
      go_wp2
      go_ret2
      exact HFIN.out
theorem refNew7_any (w : World) (size n : Int) (hs : In64 size) : Calls Tryz.prog 20 #[.int .u64 size, .int .i64 n] w (BusNewRE w size n) := by
  by_cases hn : 0 ≤ n ∧ n ≤ 8
  · cases hok : M3.newOk 2147483648 size with
    | false =>
      refine (refNew7_bad w size n hs hn hok).mono ?_
      rintro e w' ⟨he, rfl⟩
      exact ⟨Below.refl _ _, .inl ⟨by unfold busOk; rw [hok]; rfl, he⟩⟩
    | true =>
      obtain ⟨k, rfl⟩ : ∃ k : Nat, n = k := ⟨n.toNat, by omega⟩
      exact refNew7_ok w size k hs (by omega) hok
  · refine (refNew7_n w size n hn).mono ?_
    rintro e w' ⟨he, rfl⟩
    exact ⟨Below.refl _ _, .inl ⟨by unfold busOk; rw [decide_eq_false hn, Bool.and_false], he⟩⟩

end Go.Proofs.YtbcnkhfpogglmaaGreatDoor

namespace Go.Proofs.YtbcnkhfpogglmaaGreatDoor
open Go.RowKit
set_option linter.unusedVariables false
set_option maxRecDepth 100000

theorem refLines_none_bus (w : World) : Calls Tryz.prog 22 #[.pointer none] w (LinesE w (.agg #[.bool false, .bool false, .bool false, .bool false, .int .u64 0, .int .u64 0])) := by
  go_enter Tryz.func22, Tryz.ntmps22
  go_wp2
  exact bodyPost_ret (v := .agg #[.bool false, .bool false, .bool false, .bool false, .int .u64 0, .int .u64 0]) (by simp [results, Tryz.results22, go_sem]) rfl ⟨rfl, (Below.refl _ _).alloc (Nat.le_refl _) _⟩
set_option maxHeartbeats 8000000 in
theorem refLines7_any {w : World} {b g : Nat} {K : Nat → Nat} {vp : Value} {ul : List Nat} {N : Nat} {st : BS} (h : BusR w b K g vp ul N st) : Calls Tryz.prog 22 #[.pointer (some ⟨b, 0, none⟩)] w (LinesE w (linesV st)) := by
  have hw1 : Below w.heap.size w (w.alloc (.cells #[.bool false, .bool false, .bool false, .bool false, .int .u64 0, .int .u64 0] 33)) := (Below.refl _ _).alloc (Nat.le_refl _) _
  have H := Lib.hid (h.below hw1)
  have HRES : Hid ((w.alloc (.cells #[.bool false, .bool false, .bool false, .bool false, .int .u64 0, .int .u64 0] 33)).heap[w.heap.size]? = some (.cells #[.bool false, .bool false, .bool false, .bool false, .int .u64 0, .int .u64 0] 33 (0, 0))) := Lib.hid (heap_alloc_new w _)
  have HZ1 : Hid (w.heap.size < (w.alloc (.cells #[.bool false, .bool false, .bool false, .bool false, .int .u64 0, .int .u64 0] 33)).heap.size) := Lib.hid (by rw [World.size_alloc]; omega)
  have HW1 := Lib.hid hw1
  have HSZ : Hid ((Tryz.prog.info? 104).map (·.size) = some (varr 194 (P5.cellR st.p)).size) := Lib.hid (P5.size_refP.trans (by rw [varr_size]))
  have HC1 : Hid (∀ wx, Calls Tryz.prog 62 #[.agg #[.int .u64 (C4.sI st.c.s), .int .u64 st.c.c, .int .u64 st.c.n]] wx fun e w' => e = .returned (.bool st.c.s) ∧ Below wx.heap.size wx w') := Lib.hid fun wx => C4.refMsip_any wx st.c
  have HC2 : Hid (∀ wx, Calls Tryz.prog 63 #[.agg #[.int .u64 (C4.sI st.c.s), .int .u64 st.c.c, .int .u64 st.c.n]] wx fun e w' => e = .returned (.bool (C4.mtC st.c)) ∧ Below wx.heap.size wx w') := Lib.hid fun wx => C4.refMtip_any wx st.c
  have HC3 : Hid (∀ wx, Calls Tryz.prog 64 #[.agg (varr 194 (P5.cellR st.p)), .int .i64 0] wx fun e w' => e = .returned (.bool (P5.lineT st.p 0)) ∧ Below wx.heap.size wx w') := Lib.hid fun wx => P5.refLine_any wx st.p 0
  have HC4 : Hid (∀ wx, Calls Tryz.prog 64 #[.agg (varr 194 (P5.cellR st.p)), .int .i64 1] wx fun e w' => e = .returned (.bool (P5.lineT st.p 1)) ∧ Below wx.heap.size wx w') := Lib.hid fun wx => P5.refLine_any wx st.p 1
  have HUP : Hid (∀ wx, Calls Tryz.prog 65 #[.agg (varr 194 (P5.cellR st.p)), .int .i64 31] wx fun e w' => e = .returned (.bool (P5.upT st.p 31)) ∧ Below wx.heap.size wx w') := Lib.hid fun wx => P5.refUp_any wx st.p 31
  show Calls Tryz.prog 22 #[.pointer (some ⟨b, 0, none⟩)] w (LinesE w (linesW st.c.s (C4.mtC st.c) (P5.lineT st.p 0) (P5.lineT st.p 1) (P5.upT st.p 31) st.c.n))
  clear h hw1
  have HRG : Hid (∀ wx, Below (w.alloc (.cells #[.bool false, .bool false, .bool false, .bool false, .int .u64 0, .int .u64 0] 33)).heap.size (w.alloc (.cells #[.bool false, .bool false, .bool false, .bool false, .int .u64 0, .int .u64 0] 33)) wx → wx.rangeAt b 4 (varr 194 (P5.cellR st.p)).toList) := Lib.hid fun wx hx => (H.out.below hx).obj.range
  have HOB : Hid (∀ wx, Below (w.alloc (.cells #[.bool false, .bool false, .bool false, .bool false, .int .u64 0, .int .u64 0] 33)).heap.size (w.alloc (.cells #[.bool false, .bool false, .bool false, .bool false, .int .u64 0, .int .u64 0] 33)) wx → RefAt wx b g st.c st.p vp) := Lib.hid fun wx hx => (H.out.below hx).obj
  generalize hrow : varr 194 (P5.cellR st.p) = row at *
  generalize P5.lineT st.p 0 = l0 at *
  generalize P5.lineT st.p 1 = l1 at *
  generalize P5.upT st.p 31 = up at *
  generalize C4.mtC st.c = mt at *
  generalize hss : C4.sI st.c.s = ss at *
  generalize hcs : st.c.s = cs at *
  generalize hcc : st.c.c = cc at *
  generalize hcn : st.c.n = cn at *
  clear hrow
  have HOC : Hid (∀ wx, Below (w.alloc (.cells #[.bool false, .bool false, .bool false, .bool false, .int .u64 0, .int .u64 0] 33)).heap.size (w.alloc (.cells #[.bool false, .bool false, .bool false, .bool false, .int .u64 0, .int .u64 0] 33)) wx → wx.cell? ⟨b, 1, none⟩ = some (.int .u64 ss) ∧ wx.cell? ⟨b, 2, none⟩ = some (.int .u64 cc) ∧ wx.cell? ⟨b, 3, none⟩ = some (.int .u64 cn)) := Lib.hid fun wx hx => by
    have := (HOB.out wx hx).clint_
    rwa [hcs, hss, hcc, hcn] at this
  clear hss hcs hcc hcn HOB H
  go_enter Tryz.func22, Tryz.ntmps22
  go_wp2_with fail
  generalize w.alloc (.cells #[.bool false, .bool false, .bool false, .bool false, .int .u64 0, .int .u64 0] 33) = w1 at *
  refine wp_region_held_drew (S := fun wx => Below w1.heap.size w1 wx) (by kernel_rfl) ((Below.refl _ _).drew) (fun hHeld0 => ?_)
  have HS := Lib.hid hHeld0
  clear hHeld0
  generalize w1.drew = wd at *
  refine takeD (i := 0) (some 7) (v := ?_) rfl rfl (by kernel_rfl) (by kernel_rfl) (by kernel_rfl) (fun _ _ _ h => h) (by rfl) HS.out ?_ ?_
  rotate_left
  · intro wx hSx
    clear hSx
    go_simp
    try (with_reducible rfl)
  simp only [Act.put, List.setIfInBounds_toArray, List.set_cons_zero, List.set_cons_succ]
  refine takeD (i := 1) (some 8) (v := ?_) rfl rfl (by kernel_rfl) (by kernel_rfl) (by kernel_rfl) (fun _ _ _ h => h) (by rfl) HS.out ?_ ?_
  rotate_left
  · intro wx hSx
    clear hSx
    go_simp
    try (with_reducible rfl)
  simp only [Act.put, List.setIfInBounds_toArray, List.set_cons_zero, List.set_cons_succ]
  refine takeD (i := 2) (some 9) (v := ?_) rfl rfl (by kernel_rfl) (by kernel_rfl) (by kernel_rfl) (fun _ _ _ h => h) (by rfl) HS.out ?_ ?_
  rotate_left
  · intro wx hSx
    clear hSx
    go_simp
    try (with_reducible rfl)
  simp only [Act.put, List.setIfInBounds_toArray, List.set_cons_zero, List.set_cons_succ]
  refine takeD (i := 3) (some 10) (v := ?_) rfl rfl (by kernel_rfl) (by kernel_rfl) (by kernel_rfl) (fun _ _ _ h => h) (by rfl) HS.out ?_ ?_
  rotate_left
  · intro wx hSx
    obtain ⟨k1, k2, k3⟩ := HOC.out wx hSx
    skip
    clear hSx
    go_simp
    try (with_reducible rfl)
  simp only [Act.put, List.setIfInBounds_toArray, List.set_cons_zero, List.set_cons_succ]
  refine takeD (i := 5) (some 12) (v := ?_) rfl rfl (by kernel_rfl) (by kernel_rfl) (by kernel_rfl) (fun _ _ _ h => h) (by rfl) HS.out ?_ ?_
  rotate_left
  · intro wx hSx
    clear hSx
    go_simp
    try (with_reducible rfl)
  simp only [Act.put, List.setIfInBounds_toArray, List.set_cons_zero, List.set_cons_succ]
  refine takeD (i := 6) (some 13) (v := ?_) rfl rfl (by kernel_rfl) (by kernel_rfl) (by kernel_rfl) (fun _ _ _ h => h) (by rfl) HS.out ?_ ?_
  rotate_left
  · intro wx hSx
    clear hSx
    go_simp
    try (with_reducible rfl)
  simp only [Act.put, List.setIfInBounds_toArray, List.set_cons_zero, List.set_cons_succ]
  refine takeD (i := 7) (some 14) (v := ?_) rfl rfl (by kernel_rfl) (by kernel_rfl) (by kernel_rfl) (fun _ _ _ h => h) (by rfl) HS.out ?_ ?_
  rotate_left
  · intro wx hSx
    clear hSx
    go_simp
    try (with_reducible rfl)
  simp only [Act.put, List.setIfInBounds_toArray, List.set_cons_zero, List.set_cons_succ]
  refine takeD (i := 8) (some 15) (v := ?_) rfl rfl (by kernel_rfl) (by kernel_rfl) (by kernel_rfl) (fun _ _ _ h => h) (by rfl) HS.out ?_ ?_
  rotate_left
  · intro wx hSx
    obtain ⟨k1, k2, k3⟩ := HOC.out wx hSx
    skip
    clear hSx
    go_simp
    try (with_reducible rfl)
  simp only [Act.put, List.setIfInBounds_toArray, List.set_cons_zero, List.set_cons_succ]
  refine takeD (i := 10) (some 17) (v := ?_) rfl rfl (by kernel_rfl) (by kernel_rfl) (by kernel_rfl) (fun _ _ _ h => h) (by rfl) HS.out ?_ ?_
  rotate_left
  · intro wx hSx
    clear hSx
    go_simp
    try (with_reducible rfl)
  simp only [Act.put, List.setIfInBounds_toArray, List.set_cons_zero, List.set_cons_succ]
  refine takeD (i := 11) (some 18) (v := ?_) rfl rfl (by kernel_rfl) (by kernel_rfl) (by kernel_rfl) (fun _ _ _ h => h) (by rfl) HS.out ?_ ?_
  rotate_left
  · intro wx hSx
    clear hSx
    go_simp
    try (with_reducible rfl)
  simp only [Act.put, List.setIfInBounds_toArray, List.set_cons_zero, List.set_cons_succ]
  refine takeD (i := 12) (some 19) (v := ?_) rfl rfl (by kernel_rfl) (by kernel_rfl) (by kernel_rfl) (fun _ _ _ h => h) (by rfl) HS.out ?_ ?_
  rotate_left
  · intro wx hSx
    clear hSx
    go_simp
    try (with_reducible rfl)
  simp only [Act.put, List.setIfInBounds_toArray, List.set_cons_zero, List.set_cons_succ]
  refine takeD (i := 13) (some 20) (v := ?_) rfl rfl (by kernel_rfl) (by kernel_rfl) (by kernel_rfl) (fun _ _ _ h => h) (by rfl) HS.out ?_ ?_
  rotate_left
  · intro wx hSx
    exact (by refine yield_fr _ (.tmp 19) ?_ b 4 ?_ (run_load_fr wx b 4 104 row _ (HRG.out wx hSx) Tryz.underlying104 rfl HSZ.out) <;> rfl)
  simp only [Act.put, List.setIfInBounds_toArray, List.set_cons_zero, List.set_cons_succ]
  refine takeD (i := 15) (some 22) (v := ?_) rfl rfl (by kernel_rfl) (by kernel_rfl) (by kernel_rfl) (fun _ _ _ h => h) (by rfl) HS.out ?_ ?_
  rotate_left
  · intro wx hSx
    clear hSx
    go_simp
    try (with_reducible rfl)
  simp only [Act.put, List.setIfInBounds_toArray, List.set_cons_zero, List.set_cons_succ]
  refine takeD (i := 16) (some 23) (v := ?_) rfl rfl (by kernel_rfl) (by kernel_rfl) (by kernel_rfl) (fun _ _ _ h => h) (by rfl) HS.out ?_ ?_
  rotate_left
  · intro wx hSx
    clear hSx
    go_simp
    try (with_reducible rfl)
  simp only [Act.put, List.setIfInBounds_toArray, List.set_cons_zero, List.set_cons_succ]
  refine takeD (i := 17) (some 24) (v := ?_) rfl rfl (by kernel_rfl) (by kernel_rfl) (by kernel_rfl) (fun _ _ _ h => h) (by rfl) HS.out ?_ ?_
  rotate_left
  · intro wx hSx
    clear hSx
    go_simp
    try (with_reducible rfl)
  simp only [Act.put, List.setIfInBounds_toArray, List.set_cons_zero, List.set_cons_succ]
  refine takeD (i := 18) (some 25) (v := ?_) rfl rfl (by kernel_rfl) (by kernel_rfl) (by kernel_rfl) (fun _ _ _ h => h) (by rfl) HS.out ?_ ?_
  rotate_left
  · intro wx hSx
    exact (by refine yield_fr _ (.tmp 24) ?_ b 4 ?_ (run_load_fr wx b 4 104 row _ (HRG.out wx hSx) Tryz.underlying104 rfl HSZ.out) <;> rfl)
  simp only [Act.put, List.setIfInBounds_toArray, List.set_cons_zero, List.set_cons_succ]
  refine takeD (i := 20) (some 27) (v := ?_) rfl rfl (by kernel_rfl) (by kernel_rfl) (by kernel_rfl) (fun _ _ _ h => h) (by rfl) HS.out ?_ ?_
  rotate_left
  · intro wx hSx
    clear hSx
    go_simp
    try (with_reducible rfl)
  simp only [Act.put, List.setIfInBounds_toArray, List.set_cons_zero, List.set_cons_succ]
  refine takeD (i := 21) (some 28) (v := ?_) rfl rfl (by kernel_rfl) (by kernel_rfl) (by kernel_rfl) (fun _ _ _ h => h) (by rfl) HS.out ?_ ?_
  rotate_left
  · intro wx hSx
    clear hSx
    go_simp
    try (with_reducible rfl)
  simp only [Act.put, List.setIfInBounds_toArray, List.set_cons_zero, List.set_cons_succ]
  refine takeD (i := 22) (some 29) (v := ?_) rfl rfl (by kernel_rfl) (by kernel_rfl) (by kernel_rfl) (fun _ _ _ h => h) (by rfl) HS.out ?_ ?_
  rotate_left
  · intro wx hSx
    clear hSx
    go_simp
    try (with_reducible rfl)
  simp only [Act.put, List.setIfInBounds_toArray, List.set_cons_zero, List.set_cons_succ]
  refine takeD (i := 23) (some 30) (v := ?_) rfl rfl (by kernel_rfl) (by kernel_rfl) (by kernel_rfl) (fun _ _ _ h => h) (by rfl) HS.out ?_ ?_
  rotate_left
  · intro wx hSx
    clear hSx
    go_simp
    try (with_reducible rfl)
  simp only [Act.put, List.setIfInBounds_toArray, List.set_cons_zero, List.set_cons_succ]
  refine takeD (i := 24) (some 31) (v := ?_) rfl rfl (by kernel_rfl) (by kernel_rfl) (by kernel_rfl) (fun _ _ _ h => h) (by rfl) HS.out ?_ ?_
  rotate_left
  · intro wx hSx
    obtain ⟨k1, k2, k3⟩ := HOC.out wx hSx
    skip
    clear hSx
    go_simp
    try (with_reducible rfl)
  simp only [Act.put, List.setIfInBounds_toArray, List.set_cons_zero, List.set_cons_succ]
  refine wpAnyH_ready (rs := [4, 26]) (by kernel_rfl) (by simp) ?_
  refine AllReadyH.cons rfl (fun K hK => ?_) (AllReadyH.cons rfl (fun K hK => ?_) AllReadyH.nil)
  · go_simp
    (with_reducible refine (HC1.out _).mono ?_)
    rintro e wc1 ⟨rfl, hb⟩
    have HSn : Hid (Below w1.heap.size w1 wc1) := Lib.hid (HS.out.trans (hb.mono HS.out.size))
    clear hb
    go_simp
    refine hK.out _ _ ?_ (fun hHeld => ?_)
    · exact HSn.out
    clear hHeld hK K
    try simp only [Act.put, List.setIfInBounds_toArray, List.set_cons_zero, List.set_cons_succ]
    replace HS := HSn
    clear HSn
    refine wpAnyH_ready (rs := [9, 26]) (by kernel_rfl) (by simp) ?_
    refine AllReadyH.cons rfl (fun K hK => ?_) (AllReadyH.cons rfl (fun K hK => ?_) AllReadyH.nil)
    · go_simp
      (with_reducible refine (HC2.out _).mono ?_)
      rintro e wc2 ⟨rfl, hb⟩
      have HSn : Hid (Below w1.heap.size w1 wc2) := Lib.hid (HS.out.trans (hb.mono HS.out.size))
      clear hb
      go_simp
      refine hK.out _ _ ?_ (fun hHeld => ?_)
      · exact HSn.out
      clear hHeld hK K
      try simp only [Act.put, List.setIfInBounds_toArray, List.set_cons_zero, List.set_cons_succ]
      replace HS := HSn
      clear HSn
      refine wpAnyH_ready (rs := [14, 26]) (by kernel_rfl) (by simp) ?_
      refine AllReadyH.cons rfl (fun K hK => ?_) (AllReadyH.cons rfl (fun K hK => ?_) AllReadyH.nil)
      · go_simp
        (with_reducible refine (HC3.out _).mono ?_)
        rintro e wc3 ⟨rfl, hb⟩
        have HSn : Hid (Below w1.heap.size w1 wc3) := Lib.hid (HS.out.trans (hb.mono HS.out.size))
        clear hb
        go_simp
        refine hK.out _ _ ?_ (fun hHeld => ?_)
        · exact HSn.out
        clear hHeld hK K
        try simp only [Act.put, List.setIfInBounds_toArray, List.set_cons_zero, List.set_cons_succ]
        replace HS := HSn
        clear HSn
        refine wpAnyH_ready (rs := [19, 26]) (by kernel_rfl) (by simp) ?_
        refine AllReadyH.cons rfl (fun K hK => ?_) (AllReadyH.cons rfl (fun K hK => ?_) AllReadyH.nil)
        · go_simp
          (with_reducible refine (HC4.out _).mono ?_)
          rintro e wc4 ⟨rfl, hb⟩
          have HSn : Hid (Below w1.heap.size w1 wc4) := Lib.hid (HS.out.trans (hb.mono HS.out.size))
          clear hb
          go_simp
          refine hK.out _ _ ?_ (fun hHeld => ?_)
          · exact HSn.out
          clear hHeld hK K
          try simp only [Act.put, List.setIfInBounds_toArray, List.set_cons_zero, List.set_cons_succ]
          replace HS := HSn
          clear HSn
          refine takeD (i := 25) (some 32) (v := ?_) rfl rfl (by kernel_rfl) (by kernel_rfl) (by kernel_rfl) (fun _ _ _ h => h) (by rfl) HS.out ?_ ?_
          rotate_left
          · intro wx hSx
            exact (by refine yield_build 33 #[(0, .tmp 11), (1, .tmp 16), (2, .tmp 21), (3, .tmp 26), (5, .tmp 31)] ?_ [(0, .bool cs), (1, .bool mt), (2, .bool l0), (3, .bool l1), (5, .int .u64 cn)] ?_ (built_lines cs mt l0 l1 cn) <;> first | rfl | simp [Act.eval, Act.put])
          simp only [Act.put, List.setIfInBounds_toArray, List.set_cons_zero, List.set_cons_succ]
          refine wpAnyH_ready (rs := [26]) (by kernel_rfl) (by simp) ?_
          refine AllReadyH.cons rfl (fun K hK => ?_) AllReadyH.nil
          go_simp
          refine hK.out _ _ ?_ (fun hHeld => ?_)
          · exact HS.out.alloc HS.out.size _
          clear hHeld hK K
          try simp only [Act.put, List.setIfInBounds_toArray, List.set_cons_zero, List.set_cons_succ]
          have HX : Hid (w1.heap.size ≤ wc4.heap.size) := Lib.hid HS.out.size
          have HSn : Hid (Below w1.heap.size w1 (wc4.alloc (.cells #[.bool false, .bool false, .bool false, .bool false, .int .u64 0, .int .u64 0] 33))) := Lib.hid (HS.out.alloc HS.out.size _)
          have HDA : Hid ((wc4.alloc (.cells #[.bool false, .bool false, .bool false, .bool false, .int .u64 0, .int .u64 0] 33)).heap[wc4.heap.size]? = some (.cells #[.bool false, .bool false, .bool false, .bool false, .int .u64 0, .int .u64 0] 33 (0, 0))) := Lib.hid (heap_alloc_new wc4 _)
          have HZA : Hid (wc4.heap.size < (wc4.alloc (.cells #[.bool false, .bool false, .bool false, .bool false, .int .u64 0, .int .u64 0] 33)).heap.size) := Lib.hid (by rw [World.size_alloc]; omega)
          replace HS := HSn
          clear HSn
          generalize wc4.alloc (.cells #[.bool false, .bool false, .bool false, .bool false, .int .u64 0, .int .u64 0] 33) = wa at *
          generalize wc4.heap.size = x at *
          have HA : Hid (Below wa.heap.size wa wa) := Lib.hid (Below.refl _ _)
          refine wpAnyH_ready (rs := [27]) (by kernel_rfl) (by simp) ?_
          refine AllReadyH.cons rfl (fun K hK => ?_) AllReadyH.nil
          rw [if_pos (by rfl)]
          have hD : wa.heap[x]? = some (.cells #[.bool false, .bool false, .bool false, .bool false, .int .u64 0, .int .u64 0] 33 (0, 0)) := (HA.out.block x HZA.out).trans HDA.out
          refine wp_store_row 33 (.tmp 3) (.tmp 32) rfl x #[.bool cs, .bool mt, .bool l0, .bool l1, .int .u64 0, .int .u64 cn] rfl rfl 33 #[.bool false, .bool false, .bool false, .bool false, .int .u64 0, .int .u64 0] hD info_lines rfl (by simp [Value.oneCell']) ?_
          have HSn : Hid (Below w1.heap.size w1 (wa.setRow x #[.bool cs, .bool mt, .bool l0, .bool l1, .int .u64 0, .int .u64 cn])) := Lib.hid (below_setRow HS.out HX.out _)
          have HXR : Hid ((wa.setRow x #[.bool cs, .bool mt, .bool l0, .bool l1, .int .u64 0, .int .u64 cn]).heap[x]? = some (.cells #[.bool cs, .bool mt, .bool l0, .bool l1, .int .u64 0, .int .u64 cn] 33 (0, 0))) := Lib.hid (setRow_heap wa x _ _ _ _ hD)
          refine hK.out _ _ ?_ (fun hHeld => ?_)
          · exact HSn.out
          clear hHeld hK K hD
          try simp only [Act.put, List.setIfInBounds_toArray, List.set_cons_zero, List.set_cons_succ]
          replace HS := HSn
          clear HSn HA HZA HDA
          refine wpAnyH_done (by kernel_rfl) ?_ _
          generalize (wa.setRow x #[.bool cs, .bool mt, .bool l0, .bool l1, .int .u64 0, .int .u64 cn]) = wz at *
          have HRZ := Lib.hid (HRG.out wz HS.out)
          have hxz : x < wz.heap.size := (Array.getElem?_eq_some_iff.1 HXR.out).1
          go_wp2_with (refine wpList_load_fr rfl _ _ rfl b 4 rfl _ _ HRZ.out Tryz.underlying104 rfl ?_ ?_; · exact HSZ.out)
          (with_reducible refine (HUP.out _).mono ?_)
          rintro e wu ⟨rfl, hb⟩
          have hxw : wu.heap[x]? = some (.cells #[.bool cs, .bool mt, .bool l0, .bool l1, .int .u64 0, .int .u64 cn] 33 (0, 0)) := (hb.block x hxz).trans HXR.out
          have HBW : Hid (Below w1.heap.size w1 wu) := Lib.hid (HS.out.trans (hb.mono HS.out.size))
          have hrw : wu.heap[w.heap.size]? = some (.cells #[.bool false, .bool false, .bool false, .bool false, .int .u64 0, .int .u64 0] 33 (0, 0)) := (HBW.out.block _ HZ1.out).trans HRES.out
          have hne : ¬ w.heap.size = x := by have := HX.out; have := HZ1.out; omega
          have fx : wu.frozen? ⟨x, 4, none⟩ = false := frozen_of_row wu x 4 _ _ hxw
          have cx : wu.cell? ⟨x, 4, none⟩ = some (.int .u64 0) := by rw [cell_of_row wu x 4 _ _ _ hxw]; rfl
          have hx2 : (wu.setCell ⟨x, 4, none⟩ (.int .u64 2)).heap[x]? = some (.cells #[.bool cs, .bool mt, .bool l0, .bool l1, .int .u64 2, .int .u64 cn] 33 (0, 0)) := by rw [heap_setCell_same wu x 4 _ _ _ hxw]; rfl
          have hr2 : (wu.setCell ⟨x, 4, none⟩ (.int .u64 2)).heap[w.heap.size]? = some (.cells #[.bool false, .bool false, .bool false, .bool false, .int .u64 0, .int .u64 0] 33 (0, 0)) := by rw [heap_setCell_other wu ⟨x, 4, none⟩ w.heap.size _ hne]; exact hrw
          have HX1 := Lib.hid hxw
          have HR1 := Lib.hid hrw
          have HX2 := Lib.hid hx2
          have HR2 := Lib.hid hr2
          have HB2 : Hid (Below w1.heap.size w1 (wu.setCell ⟨x, 4, none⟩ (.int .u64 2))) := Lib.hid (HBW.out.setCell HX.out _)
          have HW1B := Lib.hid HW1.out.size
          clear hb hxw hrw hx2 hr2 hxz hne HRZ HUP HRG HOC HSZ HS HXR HC1 HC2 HC3 HC4
          cases up with
          | false =>
            go_wp2_with (first | (refine wpList_load_row rfl _ _ rfl x rfl 33 _ _ _ HX1.out Tryz.underlying33 rfl ?_ ?_; · exact info_lines) | (refine wpList_store_row rfl 33 (.tmp 2) (.tmp 39) rfl w.heap.size #[.bool cs, .bool mt, .bool l0, .bool l1, .int .u64 0, .int .u64 cn] rfl rfl 33 #[.bool false, .bool false, .bool false, .bool false, .int .u64 0, .int .u64 0] HR1.out info_lines rfl (by simp [Value.oneCell']) ?_))
            exact bodyPost_ret (v := linesW cs mt l0 l1 false cn) (results_cell_row (show Tryz.f22.results = #[.cell 2 33] by kernel_rfl) _ _ w.heap.size 33 _ _ _ rfl (setRow_heap _ _ _ _ _ _ HR1.out) Tryz.underlying33 rfl info_lines) rfl ⟨rfl, below_setRow (HW1.out.trans (HBW.out.mono HW1B.out)) (Nat.le_refl _) _⟩
          | true =>
            go_wp2_with (first | (refine wpList_load_row rfl _ _ rfl x rfl 33 _ _ _ HX2.out Tryz.underlying33 rfl ?_ ?_; · exact info_lines) | (refine wpList_store_row rfl 33 (.tmp 2) (.tmp 39) rfl w.heap.size #[.bool cs, .bool mt, .bool l0, .bool l1, .int .u64 2, .int .u64 cn] rfl rfl 33 #[.bool false, .bool false, .bool false, .bool false, .int .u64 0, .int .u64 0] HR2.out info_lines rfl (by simp [Value.oneCell']) ?_))
            exact bodyPost_ret (v := linesW cs mt l0 l1 true cn) (results_cell_row (show Tryz.f22.results = #[.cell 2 33] by kernel_rfl) _ _ w.heap.size 33 _ _ _ rfl (setRow_heap _ _ _ _ _ _ HR2.out) Tryz.underlying33 rfl info_lines) rfl ⟨rfl, below_setRow (HW1.out.trans (HB2.out.mono HW1B.out)) (Nat.le_refl _) _⟩
        · go_simp
          refine hK.out _ _ ?_ (fun hHeld => ?_)
          · exact HS.out.alloc HS.out.size _
          clear hHeld hK K
          try simp only [Act.put, List.setIfInBounds_toArray, List.set_cons_zero, List.set_cons_succ]
          have HX : Hid (w1.heap.size ≤ wc3.heap.size) := Lib.hid HS.out.size
          have HSn : Hid (Below w1.heap.size w1 (wc3.alloc (.cells #[.bool false, .bool false, .bool false, .bool false, .int .u64 0, .int .u64 0] 33))) := Lib.hid (HS.out.alloc HS.out.size _)
          have HDA : Hid ((wc3.alloc (.cells #[.bool false, .bool false, .bool false, .bool false, .int .u64 0, .int .u64 0] 33)).heap[wc3.heap.size]? = some (.cells #[.bool false, .bool false, .bool false, .bool false, .int .u64 0, .int .u64 0] 33 (0, 0))) := Lib.hid (heap_alloc_new wc3 _)
          have HZA : Hid (wc3.heap.size < (wc3.alloc (.cells #[.bool false, .bool false, .bool false, .bool false, .int .u64 0, .int .u64 0] 33)).heap.size) := Lib.hid (by rw [World.size_alloc]; omega)
          replace HS := HSn
          clear HSn
          generalize wc3.alloc (.cells #[.bool false, .bool false, .bool false, .bool false, .int .u64 0, .int .u64 0] 33) = wa at *
          generalize wc3.heap.size = x at *
          have HA : Hid (Below wa.heap.size wa wa) := Lib.hid (Below.refl _ _)
          refine wpAnyH_ready (rs := [19]) (by kernel_rfl) (by simp) ?_
          refine AllReadyH.cons rfl (fun K hK => ?_) AllReadyH.nil
          go_simp
          (with_reducible refine (HC4.out _).mono ?_)
          rintro e wc5 ⟨rfl, hb⟩
          have HSn : Hid (Below w1.heap.size w1 wc5) := Lib.hid (HS.out.trans (hb.mono HS.out.size))
          have HAn : Hid (Below wa.heap.size wa wc5) := Lib.hid (HA.out.trans (hb.mono HA.out.size))
          clear hb
          go_simp
          refine hK.out _ _ ?_ (fun hHeld => ?_)
          · exact HSn.out
          clear hHeld hK K
          try simp only [Act.put, List.setIfInBounds_toArray, List.set_cons_zero, List.set_cons_succ]
          replace HS := HSn
          clear HSn
          replace HA := HAn
          clear HAn
          refine takeD (i := 25) (some 32) (v := ?_) rfl rfl (by kernel_rfl) (by kernel_rfl) (by kernel_rfl) (fun _ _ _ h => h) (by rfl) HS.out ?_ ?_
          rotate_left
          · intro wx hSx
            exact (by refine yield_build 33 #[(0, .tmp 11), (1, .tmp 16), (2, .tmp 21), (3, .tmp 26), (5, .tmp 31)] ?_ [(0, .bool cs), (1, .bool mt), (2, .bool l0), (3, .bool l1), (5, .int .u64 cn)] ?_ (built_lines cs mt l0 l1 cn) <;> first | rfl | simp [Act.eval, Act.put])
          simp only [Act.put, List.setIfInBounds_toArray, List.set_cons_zero, List.set_cons_succ]
          refine wpAnyH_ready (rs := [27]) (by kernel_rfl) (by simp) ?_
          refine AllReadyH.cons rfl (fun K hK => ?_) AllReadyH.nil
          rw [if_pos (by rfl)]
          have hD : wc5.heap[x]? = some (.cells #[.bool false, .bool false, .bool false, .bool false, .int .u64 0, .int .u64 0] 33 (0, 0)) := (HA.out.block x HZA.out).trans HDA.out
          refine wp_store_row 33 (.tmp 3) (.tmp 32) rfl x #[.bool cs, .bool mt, .bool l0, .bool l1, .int .u64 0, .int .u64 cn] rfl rfl 33 #[.bool false, .bool false, .bool false, .bool false, .int .u64 0, .int .u64 0] hD info_lines rfl (by simp [Value.oneCell']) ?_
          have HSn : Hid (Below w1.heap.size w1 (wc5.setRow x #[.bool cs, .bool mt, .bool l0, .bool l1, .int .u64 0, .int .u64 cn])) := Lib.hid (below_setRow HS.out HX.out _)
          have HXR : Hid ((wc5.setRow x #[.bool cs, .bool mt, .bool l0, .bool l1, .int .u64 0, .int .u64 cn]).heap[x]? = some (.cells #[.bool cs, .bool mt, .bool l0, .bool l1, .int .u64 0, .int .u64 cn] 33 (0, 0))) := Lib.hid (setRow_heap wc5 x _ _ _ _ hD)
          refine hK.out _ _ ?_ (fun hHeld => ?_)
          · exact HSn.out
          clear hHeld hK K hD
          try simp only [Act.put, List.setIfInBounds_toArray, List.set_cons_zero, List.set_cons_succ]
          replace HS := HSn
          clear HSn HA HZA HDA
          refine wpAnyH_done (by kernel_rfl) ?_ _
          generalize (wc5.setRow x #[.bool cs, .bool mt, .bool l0, .bool l1, .int .u64 0, .int .u64 cn]) = wz at *
          have HRZ := Lib.hid (HRG.out wz HS.out)
          have hxz : x < wz.heap.size := (Array.getElem?_eq_some_iff.1 HXR.out).1
          go_wp2_with (refine wpList_load_fr rfl _ _ rfl b 4 rfl _ _ HRZ.out Tryz.underlying104 rfl ?_ ?_; · exact HSZ.out)
          (with_reducible refine (HUP.out _).mono ?_)
          rintro e wu ⟨rfl, hb⟩
          have hxw : wu.heap[x]? = some (.cells #[.bool cs, .bool mt, .bool l0, .bool l1, .int .u64 0, .int .u64 cn] 33 (0, 0)) := (hb.block x hxz).trans HXR.out
          have HBW : Hid (Below w1.heap.size w1 wu) := Lib.hid (HS.out.trans (hb.mono HS.out.size))
          have hrw : wu.heap[w.heap.size]? = some (.cells #[.bool false, .bool false, .bool false, .bool false, .int .u64 0, .int .u64 0] 33 (0, 0)) := (HBW.out.block _ HZ1.out).trans HRES.out
          have hne : ¬ w.heap.size = x := by have := HX.out; have := HZ1.out; omega
          have fx : wu.frozen? ⟨x, 4, none⟩ = false := frozen_of_row wu x 4 _ _ hxw
          have cx : wu.cell? ⟨x, 4, none⟩ = some (.int .u64 0) := by rw [cell_of_row wu x 4 _ _ _ hxw]; rfl
          have hx2 : (wu.setCell ⟨x, 4, none⟩ (.int .u64 2)).heap[x]? = some (.cells #[.bool cs, .bool mt, .bool l0, .bool l1, .int .u64 2, .int .u64 cn] 33 (0, 0)) := by rw [heap_setCell_same wu x 4 _ _ _ hxw]; rfl
          have hr2 : (wu.setCell ⟨x, 4, none⟩ (.int .u64 2)).heap[w.heap.size]? = some (.cells #[.bool false, .bool false, .bool false, .bool false, .int .u64 0, .int .u64 0] 33 (0, 0)) := by rw [heap_setCell_other wu ⟨x, 4, none⟩ w.heap.size _ hne]; exact hrw
          have HX1 := Lib.hid hxw
          have HR1 := Lib.hid hrw
          have HX2 := Lib.hid hx2
          have HR2 := Lib.hid hr2
          have HB2 : Hid (Below w1.heap.size w1 (wu.setCell ⟨x, 4, none⟩ (.int .u64 2))) := Lib.hid (HBW.out.setCell HX.out _)
          have HW1B := Lib.hid HW1.out.size
          clear hb hxw hrw hx2 hr2 hxz hne HRZ HUP HRG HOC HSZ HS HXR HC1 HC2 HC3 HC4
          cases up with
          | false =>
            go_wp2_with (first | (refine wpList_load_row rfl _ _ rfl x rfl 33 _ _ _ HX1.out Tryz.underlying33 rfl ?_ ?_; · exact info_lines) | (refine wpList_store_row rfl 33 (.tmp 2) (.tmp 39) rfl w.heap.size #[.bool cs, .bool mt, .bool l0, .bool l1, .int .u64 0, .int .u64 cn] rfl rfl 33 #[.bool false, .bool false, .bool false, .bool false, .int .u64 0, .int .u64 0] HR1.out info_lines rfl (by simp [Value.oneCell']) ?_))
            exact bodyPost_ret (v := linesW cs mt l0 l1 false cn) (results_cell_row (show Tryz.f22.results = #[.cell 2 33] by kernel_rfl) _ _ w.heap.size 33 _ _ _ rfl (setRow_heap _ _ _ _ _ _ HR1.out) Tryz.underlying33 rfl info_lines) rfl ⟨rfl, below_setRow (HW1.out.trans (HBW.out.mono HW1B.out)) (Nat.le_refl _) _⟩
          | true =>
            go_wp2_with (first | (refine wpList_load_row rfl _ _ rfl x rfl 33 _ _ _ HX2.out Tryz.underlying33 rfl ?_ ?_; · exact info_lines) | (refine wpList_store_row rfl 33 (.tmp 2) (.tmp 39) rfl w.heap.size #[.bool cs, .bool mt, .bool l0, .bool l1, .int .u64 2, .int .u64 cn] rfl rfl 33 #[.bool false, .bool false, .bool false, .bool false, .int .u64 0, .int .u64 0] HR2.out info_lines rfl (by simp [Value.oneCell']) ?_))
            exact bodyPost_ret (v := linesW cs mt l0 l1 true cn) (results_cell_row (show Tryz.f22.results = #[.cell 2 33] by kernel_rfl) _ _ w.heap.size 33 _ _ _ rfl (setRow_heap _ _ _ _ _ _ HR2.out) Tryz.underlying33 rfl info_lines) rfl ⟨rfl, below_setRow (HW1.out.trans (HB2.out.mono HW1B.out)) (Nat.le_refl _) _⟩
      · go_simp
        refine hK.out _ _ ?_ (fun hHeld => ?_)
        · exact HS.out.alloc HS.out.size _
        clear hHeld hK K
        try simp only [Act.put, List.setIfInBounds_toArray, List.set_cons_zero, List.set_cons_succ]
        have HX : Hid (w1.heap.size ≤ wc2.heap.size) := Lib.hid HS.out.size
        have HSn : Hid (Below w1.heap.size w1 (wc2.alloc (.cells #[.bool false, .bool false, .bool false, .bool false, .int .u64 0, .int .u64 0] 33))) := Lib.hid (HS.out.alloc HS.out.size _)
        have HDA : Hid ((wc2.alloc (.cells #[.bool false, .bool false, .bool false, .bool false, .int .u64 0, .int .u64 0] 33)).heap[wc2.heap.size]? = some (.cells #[.bool false, .bool false, .bool false, .bool false, .int .u64 0, .int .u64 0] 33 (0, 0))) := Lib.hid (heap_alloc_new wc2 _)
        have HZA : Hid (wc2.heap.size < (wc2.alloc (.cells #[.bool false, .bool false, .bool false, .bool false, .int .u64 0, .int .u64 0] 33)).heap.size) := Lib.hid (by rw [World.size_alloc]; omega)
        replace HS := HSn
        clear HSn
        generalize wc2.alloc (.cells #[.bool false, .bool false, .bool false, .bool false, .int .u64 0, .int .u64 0] 33) = wa at *
        generalize wc2.heap.size = x at *
        have HA : Hid (Below wa.heap.size wa wa) := Lib.hid (Below.refl _ _)
        refine wpAnyH_ready (rs := [14]) (by kernel_rfl) (by simp) ?_
        refine AllReadyH.cons rfl (fun K hK => ?_) AllReadyH.nil
        go_simp
        (with_reducible refine (HC3.out _).mono ?_)
        rintro e wc6 ⟨rfl, hb⟩
        have HSn : Hid (Below w1.heap.size w1 wc6) := Lib.hid (HS.out.trans (hb.mono HS.out.size))
        have HAn : Hid (Below wa.heap.size wa wc6) := Lib.hid (HA.out.trans (hb.mono HA.out.size))
        clear hb
        go_simp
        refine hK.out _ _ ?_ (fun hHeld => ?_)
        · exact HSn.out
        clear hHeld hK K
        try simp only [Act.put, List.setIfInBounds_toArray, List.set_cons_zero, List.set_cons_succ]
        replace HS := HSn
        clear HSn
        replace HA := HAn
        clear HAn
        refine wpAnyH_ready (rs := [19]) (by kernel_rfl) (by simp) ?_
        refine AllReadyH.cons rfl (fun K hK => ?_) AllReadyH.nil
        go_simp
        (with_reducible refine (HC4.out _).mono ?_)
        rintro e wc7 ⟨rfl, hb⟩
        have HSn : Hid (Below w1.heap.size w1 wc7) := Lib.hid (HS.out.trans (hb.mono HS.out.size))
        have HAn : Hid (Below wa.heap.size wa wc7) := Lib.hid (HA.out.trans (hb.mono HA.out.size))
        clear hb
        go_simp
        refine hK.out _ _ ?_ (fun hHeld => ?_)
        · exact HSn.out
        clear hHeld hK K
        try simp only [Act.put, List.setIfInBounds_toArray, List.set_cons_zero, List.set_cons_succ]
        replace HS := HSn
        clear HSn
        replace HA := HAn
        clear HAn
        refine takeD (i := 25) (some 32) (v := ?_) rfl rfl (by kernel_rfl) (by kernel_rfl) (by kernel_rfl) (fun _ _ _ h => h) (by rfl) HS.out ?_ ?_
        rotate_left
        · intro wx hSx
          exact (by refine yield_build 33 #[(0, .tmp 11), (1, .tmp 16), (2, .tmp 21), (3, .tmp 26), (5, .tmp 31)] ?_ [(0, .bool cs), (1, .bool mt), (2, .bool l0), (3, .bool l1), (5, .int .u64 cn)] ?_ (built_lines cs mt l0 l1 cn) <;> first | rfl | simp [Act.eval, Act.put])
        simp only [Act.put, List.setIfInBounds_toArray, List.set_cons_zero, List.set_cons_succ]
        refine wpAnyH_ready (rs := [27]) (by kernel_rfl) (by simp) ?_
        refine AllReadyH.cons rfl (fun K hK => ?_) AllReadyH.nil
        rw [if_pos (by rfl)]
        have hD : wc7.heap[x]? = some (.cells #[.bool false, .bool false, .bool false, .bool false, .int .u64 0, .int .u64 0] 33 (0, 0)) := (HA.out.block x HZA.out).trans HDA.out
        refine wp_store_row 33 (.tmp 3) (.tmp 32) rfl x #[.bool cs, .bool mt, .bool l0, .bool l1, .int .u64 0, .int .u64 cn] rfl rfl 33 #[.bool false, .bool false, .bool false, .bool false, .int .u64 0, .int .u64 0] hD info_lines rfl (by simp [Value.oneCell']) ?_
        have HSn : Hid (Below w1.heap.size w1 (wc7.setRow x #[.bool cs, .bool mt, .bool l0, .bool l1, .int .u64 0, .int .u64 cn])) := Lib.hid (below_setRow HS.out HX.out _)
        have HXR : Hid ((wc7.setRow x #[.bool cs, .bool mt, .bool l0, .bool l1, .int .u64 0, .int .u64 cn]).heap[x]? = some (.cells #[.bool cs, .bool mt, .bool l0, .bool l1, .int .u64 0, .int .u64 cn] 33 (0, 0))) := Lib.hid (setRow_heap wc7 x _ _ _ _ hD)
        refine hK.out _ _ ?_ (fun hHeld => ?_)
        · exact HSn.out
        clear hHeld hK K hD
        try simp only [Act.put, List.setIfInBounds_toArray, List.set_cons_zero, List.set_cons_succ]
        replace HS := HSn
        clear HSn HA HZA HDA
        refine wpAnyH_done (by kernel_rfl) ?_ _
        generalize (wc7.setRow x #[.bool cs, .bool mt, .bool l0, .bool l1, .int .u64 0, .int .u64 cn]) = wz at *
        have HRZ := Lib.hid (HRG.out wz HS.out)
        have hxz : x < wz.heap.size := (Array.getElem?_eq_some_iff.1 HXR.out).1
        go_wp2_with (refine wpList_load_fr rfl _ _ rfl b 4 rfl _ _ HRZ.out Tryz.underlying104 rfl ?_ ?_; · exact HSZ.out)
        (with_reducible refine (HUP.out _).mono ?_)
        rintro e wu ⟨rfl, hb⟩
        have hxw : wu.heap[x]? = some (.cells #[.bool cs, .bool mt, .bool l0, .bool l1, .int .u64 0, .int .u64 cn] 33 (0, 0)) := (hb.block x hxz).trans HXR.out
        have HBW : Hid (Below w1.heap.size w1 wu) := Lib.hid (HS.out.trans (hb.mono HS.out.size))
        have hrw : wu.heap[w.heap.size]? = some (.cells #[.bool false, .bool false, .bool false, .bool false, .int .u64 0, .int .u64 0] 33 (0, 0)) := (HBW.out.block _ HZ1.out).trans HRES.out
        have hne : ¬ w.heap.size = x := by have := HX.out; have := HZ1.out; omega
        have fx : wu.frozen? ⟨x, 4, none⟩ = false := frozen_of_row wu x 4 _ _ hxw
        have cx : wu.cell? ⟨x, 4, none⟩ = some (.int .u64 0) := by rw [cell_of_row wu x 4 _ _ _ hxw]; rfl
        have hx2 : (wu.setCell ⟨x, 4, none⟩ (.int .u64 2)).heap[x]? = some (.cells #[.bool cs, .bool mt, .bool l0, .bool l1, .int .u64 2, .int .u64 cn] 33 (0, 0)) := by rw [heap_setCell_same wu x 4 _ _ _ hxw]; rfl
        have hr2 : (wu.setCell ⟨x, 4, none⟩ (.int .u64 2)).heap[w.heap.size]? = some (.cells #[.bool false, .bool false, .bool false, .bool false, .int .u64 0, .int .u64 0] 33 (0, 0)) := by rw [heap_setCell_other wu ⟨x, 4, none⟩ w.heap.size _ hne]; exact hrw
        have HX1 := Lib.hid hxw
        have HR1 := Lib.hid hrw
        have HX2 := Lib.hid hx2
        have HR2 := Lib.hid hr2
        have HB2 : Hid (Below w1.heap.size w1 (wu.setCell ⟨x, 4, none⟩ (.int .u64 2))) := Lib.hid (HBW.out.setCell HX.out _)
        have HW1B := Lib.hid HW1.out.size
        clear hb hxw hrw hx2 hr2 hxz hne HRZ HUP HRG HOC HSZ HS HXR HC1 HC2 HC3 HC4
        cases up with
        | false =>
          go_wp2_with (first | (refine wpList_load_row rfl _ _ rfl x rfl 33 _ _ _ HX1.out Tryz.underlying33 rfl ?_ ?_; · exact info_lines) | (refine wpList_store_row rfl 33 (.tmp 2) (.tmp 39) rfl w.heap.size #[.bool cs, .bool mt, .bool l0, .bool l1, .int .u64 0, .int .u64 cn] rfl rfl 33 #[.bool false, .bool false, .bool false, .bool false, .int .u64 0, .int .u64 0] HR1.out info_lines rfl (by simp [Value.oneCell']) ?_))
          exact bodyPost_ret (v := linesW cs mt l0 l1 false cn) (results_cell_row (show Tryz.f22.results = #[.cell 2 33] by kernel_rfl) _ _ w.heap.size 33 _ _ _ rfl (setRow_heap _ _ _ _ _ _ HR1.out) Tryz.underlying33 rfl info_lines) rfl ⟨rfl, below_setRow (HW1.out.trans (HBW.out.mono HW1B.out)) (Nat.le_refl _) _⟩
        | true =>
          go_wp2_with (first | (refine wpList_load_row rfl _ _ rfl x rfl 33 _ _ _ HX2.out Tryz.underlying33 rfl ?_ ?_; · exact info_lines) | (refine wpList_store_row rfl 33 (.tmp 2) (.tmp 39) rfl w.heap.size #[.bool cs, .bool mt, .bool l0, .bool l1, .int .u64 2, .int .u64 cn] rfl rfl 33 #[.bool false, .bool false, .bool false, .bool false, .int .u64 0, .int .u64 0] HR2.out info_lines rfl (by simp [Value.oneCell']) ?_))
          exact bodyPost_ret (v := linesW cs mt l0 l1 true cn) (results_cell_row (show Tryz.f22.results = #[.cell 2 33] by kernel_rfl) _ _ w.heap.size 33 _ _ _ rfl (setRow_heap _ _ _ _ _ _ HR2.out) Tryz.underlying33 rfl info_lines) rfl ⟨rfl, below_setRow (HW1.out.trans (HB2.out.mono HW1B.out)) (Nat.le_refl _) _⟩
    · go_simp
      refine hK.out _ _ ?_ (fun hHeld => ?_)
      · exact HS.out.alloc HS.out.size _
      clear hHeld hK K
      try simp only [Act.put, List.setIfInBounds_toArray, List.set_cons_zero, List.set_cons_succ]
      have HX : Hid (w1.heap.size ≤ wc1.heap.size) := Lib.hid HS.out.size
      have HSn : Hid (Below w1.heap.size w1 (wc1.alloc (.cells #[.bool false, .bool false, .bool false, .bool false, .int .u64 0, .int .u64 0] 33))) := Lib.hid (HS.out.alloc HS.out.size _)
      have HDA : Hid ((wc1.alloc (.cells #[.bool false, .bool false, .bool false, .bool false, .int .u64 0, .int .u64 0] 33)).heap[wc1.heap.size]? = some (.cells #[.bool false, .bool false, .bool false, .bool false, .int .u64 0, .int .u64 0] 33 (0, 0))) := Lib.hid (heap_alloc_new wc1 _)
      have HZA : Hid (wc1.heap.size < (wc1.alloc (.cells #[.bool false, .bool false, .bool false, .bool false, .int .u64 0, .int .u64 0] 33)).heap.size) := Lib.hid (by rw [World.size_alloc]; omega)
      replace HS := HSn
      clear HSn
      generalize wc1.alloc (.cells #[.bool false, .bool false, .bool false, .bool false, .int .u64 0, .int .u64 0] 33) = wa at *
      generalize wc1.heap.size = x at *
      have HA : Hid (Below wa.heap.size wa wa) := Lib.hid (Below.refl _ _)
      refine wpAnyH_ready (rs := [9]) (by kernel_rfl) (by simp) ?_
      refine AllReadyH.cons rfl (fun K hK => ?_) AllReadyH.nil
      go_simp
      (with_reducible refine (HC2.out _).mono ?_)
      rintro e wc8 ⟨rfl, hb⟩
      have HSn : Hid (Below w1.heap.size w1 wc8) := Lib.hid (HS.out.trans (hb.mono HS.out.size))
      have HAn : Hid (Below wa.heap.size wa wc8) := Lib.hid (HA.out.trans (hb.mono HA.out.size))
      clear hb
      go_simp
      refine hK.out _ _ ?_ (fun hHeld => ?_)
      · exact HSn.out
      clear hHeld hK K
      try simp only [Act.put, List.setIfInBounds_toArray, List.set_cons_zero, List.set_cons_succ]
      replace HS := HSn
      clear HSn
      replace HA := HAn
      clear HAn
      refine wpAnyH_ready (rs := [14]) (by kernel_rfl) (by simp) ?_
      refine AllReadyH.cons rfl (fun K hK => ?_) AllReadyH.nil
      go_simp
      (with_reducible refine (HC3.out _).mono ?_)
      rintro e wc9 ⟨rfl, hb⟩
      have HSn : Hid (Below w1.heap.size w1 wc9) := Lib.hid (HS.out.trans (hb.mono HS.out.size))
      have HAn : Hid (Below wa.heap.size wa wc9) := Lib.hid (HA.out.trans (hb.mono HA.out.size))
      clear hb
      go_simp
      refine hK.out _ _ ?_ (fun hHeld => ?_)
      · exact HSn.out
      clear hHeld hK K
      try simp only [Act.put, List.setIfInBounds_toArray, List.set_cons_zero, List.set_cons_succ]
      replace HS := HSn
      clear HSn
      replace HA := HAn
      clear HAn
      refine wpAnyH_ready (rs := [19]) (by kernel_rfl) (by simp) ?_
      refine AllReadyH.cons rfl (fun K hK => ?_) AllReadyH.nil
      go_simp
      (with_reducible refine (HC4.out _).mono ?_)
      rintro e wc10 ⟨rfl, hb⟩
      have HSn : Hid (Below w1.heap.size w1 wc10) := Lib.hid (HS.out.trans (hb.mono HS.out.size))
      have HAn : Hid (Below wa.heap.size wa wc10) := Lib.hid (HA.out.trans (hb.mono HA.out.size))
      clear hb
      go_simp
      refine hK.out _ _ ?_ (fun hHeld => ?_)
      · exact HSn.out
      clear hHeld hK K
      try simp only [Act.put, List.setIfInBounds_toArray, List.set_cons_zero, List.set_cons_succ]
      replace HS := HSn
      clear HSn
      replace HA := HAn
      clear HAn
      refine takeD (i := 25) (some 32) (v := ?_) rfl rfl (by kernel_rfl) (by kernel_rfl) (by kernel_rfl) (fun _ _ _ h => h) (by rfl) HS.out ?_ ?_
      rotate_left
      · intro wx hSx
        exact (by refine yield_build 33 #[(0, .tmp 11), (1, .tmp 16), (2, .tmp 21), (3, .tmp 26), (5, .tmp 31)] ?_ [(0, .bool cs), (1, .bool mt), (2, .bool l0), (3, .bool l1), (5, .int .u64 cn)] ?_ (built_lines cs mt l0 l1 cn) <;> first | rfl | simp [Act.eval, Act.put])
      simp only [Act.put, List.setIfInBounds_toArray, List.set_cons_zero, List.set_cons_succ]
      refine wpAnyH_ready (rs := [27]) (by kernel_rfl) (by simp) ?_
      refine AllReadyH.cons rfl (fun K hK => ?_) AllReadyH.nil
      rw [if_pos (by rfl)]
      have hD : wc10.heap[x]? = some (.cells #[.bool false, .bool false, .bool false, .bool false, .int .u64 0, .int .u64 0] 33 (0, 0)) := (HA.out.block x HZA.out).trans HDA.out
      refine wp_store_row 33 (.tmp 3) (.tmp 32) rfl x #[.bool cs, .bool mt, .bool l0, .bool l1, .int .u64 0, .int .u64 cn] rfl rfl 33 #[.bool false, .bool false, .bool false, .bool false, .int .u64 0, .int .u64 0] hD info_lines rfl (by simp [Value.oneCell']) ?_
      have HSn : Hid (Below w1.heap.size w1 (wc10.setRow x #[.bool cs, .bool mt, .bool l0, .bool l1, .int .u64 0, .int .u64 cn])) := Lib.hid (below_setRow HS.out HX.out _)
      have HXR : Hid ((wc10.setRow x #[.bool cs, .bool mt, .bool l0, .bool l1, .int .u64 0, .int .u64 cn]).heap[x]? = some (.cells #[.bool cs, .bool mt, .bool l0, .bool l1, .int .u64 0, .int .u64 cn] 33 (0, 0))) := Lib.hid (setRow_heap wc10 x _ _ _ _ hD)
      refine hK.out _ _ ?_ (fun hHeld => ?_)
      · exact HSn.out
      clear hHeld hK K hD
      try simp only [Act.put, List.setIfInBounds_toArray, List.set_cons_zero, List.set_cons_succ]
      replace HS := HSn
      clear HSn HA HZA HDA
      refine wpAnyH_done (by kernel_rfl) ?_ _
      generalize (wc10.setRow x #[.bool cs, .bool mt, .bool l0, .bool l1, .int .u64 0, .int .u64 cn]) = wz at *
      have HRZ := Lib.hid (HRG.out wz HS.out)
      have hxz : x < wz.heap.size := (Array.getElem?_eq_some_iff.1 HXR.out).1
      go_wp2_with (refine wpList_load_fr rfl _ _ rfl b 4 rfl _ _ HRZ.out Tryz.underlying104 rfl ?_ ?_; · exact HSZ.out)
      (with_reducible refine (HUP.out _).mono ?_)
      rintro e wu ⟨rfl, hb⟩
      have hxw : wu.heap[x]? = some (.cells #[.bool cs, .bool mt, .bool l0, .bool l1, .int .u64 0, .int .u64 cn] 33 (0, 0)) := (hb.block x hxz).trans HXR.out
      have HBW : Hid (Below w1.heap.size w1 wu) := Lib.hid (HS.out.trans (hb.mono HS.out.size))
      have hrw : wu.heap[w.heap.size]? = some (.cells #[.bool false, .bool false, .bool false, .bool false, .int .u64 0, .int .u64 0] 33 (0, 0)) := (HBW.out.block _ HZ1.out).trans HRES.out
      have hne : ¬ w.heap.size = x := by have := HX.out; have := HZ1.out; omega
      have fx : wu.frozen? ⟨x, 4, none⟩ = false := frozen_of_row wu x 4 _ _ hxw
      have cx : wu.cell? ⟨x, 4, none⟩ = some (.int .u64 0) := by rw [cell_of_row wu x 4 _ _ _ hxw]; rfl
      have hx2 : (wu.setCell ⟨x, 4, none⟩ (.int .u64 2)).heap[x]? = some (.cells #[.bool cs, .bool mt, .bool l0, .bool l1, .int .u64 2, .int .u64 cn] 33 (0, 0)) := by rw [heap_setCell_same wu x 4 _ _ _ hxw]; rfl
      have hr2 : (wu.setCell ⟨x, 4, none⟩ (.int .u64 2)).heap[w.heap.size]? = some (.cells #[.bool false, .bool false, .bool false, .bool false, .int .u64 0, .int .u64 0] 33 (0, 0)) := by rw [heap_setCell_other wu ⟨x, 4, none⟩ w.heap.size _ hne]; exact hrw
      have HX1 := Lib.hid hxw
      have HR1 := Lib.hid hrw
      have HX2 := Lib.hid hx2
      have HR2 := Lib.hid hr2
      have HB2 : Hid (Below w1.heap.size w1 (wu.setCell ⟨x, 4, none⟩ (.int .u64 2))) := Lib.hid (HBW.out.setCell HX.out _)
      have HW1B := Lib.hid HW1.out.size
      clear hb hxw hrw hx2 hr2 hxz hne HRZ HUP HRG HOC HSZ HS HXR HC1 HC2 HC3 HC4
      cases up with
      | false =>
        go_wp2_with (first | (refine wpList_load_row rfl _ _ rfl x rfl 33 _ _ _ HX1.out Tryz.underlying33 rfl ?_ ?_; · exact info_lines) | (refine wpList_store_row rfl 33 (.tmp 2) (.tmp 39) rfl w.heap.size #[.bool cs, .bool mt, .bool l0, .bool l1, .int .u64 0, .int .u64 cn] rfl rfl 33 #[.bool false, .bool false, .bool false, .bool false, .int .u64 0, .int .u64 0] HR1.out info_lines rfl (by simp [Value.oneCell']) ?_))
        exact bodyPost_ret (v := linesW cs mt l0 l1 false cn) (results_cell_row (show Tryz.f22.results = #[.cell 2 33] by kernel_rfl) _ _ w.heap.size 33 _ _ _ rfl (setRow_heap _ _ _ _ _ _ HR1.out) Tryz.underlying33 rfl info_lines) rfl ⟨rfl, below_setRow (HW1.out.trans (HBW.out.mono HW1B.out)) (Nat.le_refl _) _⟩
      | true =>
        go_wp2_with (first | (refine wpList_load_row rfl _ _ rfl x rfl 33 _ _ _ HX2.out Tryz.underlying33 rfl ?_ ?_; · exact info_lines) | (refine wpList_store_row rfl 33 (.tmp 2) (.tmp 39) rfl w.heap.size #[.bool cs, .bool mt, .bool l0, .bool l1, .int .u64 2, .int .u64 cn] rfl rfl 33 #[.bool false, .bool false, .bool false, .bool false, .int .u64 0, .int .u64 0] HR2.out info_lines rfl (by simp [Value.oneCell']) ?_))
        exact bodyPost_ret (v := linesW cs mt l0 l1 true cn) (results_cell_row (show Tryz.f22.results = #[.cell 2 33] by kernel_rfl) _ _ w.heap.size 33 _ _ _ rfl (setRow_heap _ _ _ _ _ _ HR2.out) Tryz.underlying33 rfl info_lines) rfl ⟨rfl, below_setRow (HW1.out.trans (HB2.out.mono HW1B.out)) (Nat.le_refl _) _⟩
  · go_simp
    refine hK.out _ _ ?_ (fun hHeld => ?_)
    · exact HS.out.alloc HS.out.size _
    clear hHeld hK K
    try simp only [Act.put, List.setIfInBounds_toArray, List.set_cons_zero, List.set_cons_succ]
    have HX : Hid (w1.heap.size ≤ wd.heap.size) := Lib.hid HS.out.size
    have HSn : Hid (Below w1.heap.size w1 (wd.alloc (.cells #[.bool false, .bool false, .bool false, .bool false, .int .u64 0, .int .u64 0] 33))) := Lib.hid (HS.out.alloc HS.out.size _)
    have HDA : Hid ((wd.alloc (.cells #[.bool false, .bool false, .bool false, .bool false, .int .u64 0, .int .u64 0] 33)).heap[wd.heap.size]? = some (.cells #[.bool false, .bool false, .bool false, .bool false, .int .u64 0, .int .u64 0] 33 (0, 0))) := Lib.hid (heap_alloc_new wd _)
    have HZA : Hid (wd.heap.size < (wd.alloc (.cells #[.bool false, .bool false, .bool false, .bool false, .int .u64 0, .int .u64 0] 33)).heap.size) := Lib.hid (by rw [World.size_alloc]; omega)
    replace HS := HSn
    clear HSn
    generalize wd.alloc (.cells #[.bool false, .bool false, .bool false, .bool false, .int .u64 0, .int .u64 0] 33) = wa at *
    generalize wd.heap.size = x at *
    have HA : Hid (Below wa.heap.size wa wa) := Lib.hid (Below.refl _ _)
    refine wpAnyH_ready (rs := [4]) (by kernel_rfl) (by simp) ?_
    refine AllReadyH.cons rfl (fun K hK => ?_) AllReadyH.nil
    go_simp
    (with_reducible refine (HC1.out _).mono ?_)
    rintro e wc11 ⟨rfl, hb⟩
    have HSn : Hid (Below w1.heap.size w1 wc11) := Lib.hid (HS.out.trans (hb.mono HS.out.size))
    have HAn : Hid (Below wa.heap.size wa wc11) := Lib.hid (HA.out.trans (hb.mono HA.out.size))
    clear hb
    go_simp
    refine hK.out _ _ ?_ (fun hHeld => ?_)
    · exact HSn.out
    clear hHeld hK K
    try simp only [Act.put, List.setIfInBounds_toArray, List.set_cons_zero, List.set_cons_succ]
    replace HS := HSn
    clear HSn
    replace HA := HAn
    clear HAn
    refine wpAnyH_ready (rs := [9]) (by kernel_rfl) (by simp) ?_
    refine AllReadyH.cons rfl (fun K hK => ?_) AllReadyH.nil
    go_simp
    (with_reducible refine (HC2.out _).mono ?_)
    rintro e wc12 ⟨rfl, hb⟩
    have HSn : Hid (Below w1.heap.size w1 wc12) := Lib.hid (HS.out.trans (hb.mono HS.out.size))
    have HAn : Hid (Below wa.heap.size wa wc12) := Lib.hid (HA.out.trans (hb.mono HA.out.size))
    clear hb
    go_simp
    refine hK.out _ _ ?_ (fun hHeld => ?_)
    · exact HSn.out
    clear hHeld hK K
    try simp only [Act.put, List.setIfInBounds_toArray, List.set_cons_zero, List.set_cons_succ]
    replace HS := HSn
    clear HSn
    replace HA := HAn
    clear HAn
    refine wpAnyH_ready (rs := [14]) (by kernel_rfl) (by simp) ?_
    refine AllReadyH.cons rfl (fun K hK => ?_) AllReadyH.nil
    go_simp
    (with_reducible refine (HC3.out _).mono ?_)
    rintro e wc13 ⟨rfl, hb⟩
    have HSn : Hid (Below w1.heap.size w1 wc13) := Lib.hid (HS.out.trans (hb.mono HS.out.size))
    have HAn : Hid (Below wa.heap.size wa wc13) := Lib.hid (HA.out.trans (hb.mono HA.out.size))
    clear hb
    go_simp
    refine hK.out _ _ ?_ (fun hHeld => ?_)
    · exact HSn.out
    clear hHeld hK K
    try simp only [Act.put, List.setIfInBounds_toArray, List.set_cons_zero, List.set_cons_succ]
    replace HS := HSn
    clear HSn
    replace HA := HAn
    clear HAn
    refine wpAnyH_ready (rs := [19]) (by kernel_rfl) (by simp) ?_
    refine AllReadyH.cons rfl (fun K hK => ?_) AllReadyH.nil
    go_simp
    (with_reducible refine (HC4.out _).mono ?_)
    rintro e wc14 ⟨rfl, hb⟩
    have HSn : Hid (Below w1.heap.size w1 wc14) := Lib.hid (HS.out.trans (hb.mono HS.out.size))
    have HAn : Hid (Below wa.heap.size wa wc14) := Lib.hid (HA.out.trans (hb.mono HA.out.size))
    clear hb
    go_simp
    refine hK.out _ _ ?_ (fun hHeld => ?_)
    · exact HSn.out
    clear hHeld hK K
    try simp only [Act.put, List.setIfInBounds_toArray, List.set_cons_zero, List.set_cons_succ]
    replace HS := HSn
    clear HSn
    replace HA := HAn
    clear HAn
    refine takeD (i := 25) (some 32) (v := ?_) rfl rfl (by kernel_rfl) (by kernel_rfl) (by kernel_rfl) (fun _ _ _ h => h) (by rfl) HS.out ?_ ?_
    rotate_left
    · intro wx hSx
      exact (by refine yield_build 33 #[(0, .tmp 11), (1, .tmp 16), (2, .tmp 21), (3, .tmp 26), (5, .tmp 31)] ?_ [(0, .bool cs), (1, .bool mt), (2, .bool l0), (3, .bool l1), (5, .int .u64 cn)] ?_ (built_lines cs mt l0 l1 cn) <;> first | rfl | simp [Act.eval, Act.put])
    simp only [Act.put, List.setIfInBounds_toArray, List.set_cons_zero, List.set_cons_succ]
    refine wpAnyH_ready (rs := [27]) (by kernel_rfl) (by simp) ?_
    refine AllReadyH.cons rfl (fun K hK => ?_) AllReadyH.nil
    rw [if_pos (by rfl)]
    have hD : wc14.heap[x]? = some (.cells #[.bool false, .bool false, .bool false, .bool false, .int .u64 0, .int .u64 0] 33 (0, 0)) := (HA.out.block x HZA.out).trans HDA.out
    refine wp_store_row 33 (.tmp 3) (.tmp 32) rfl x #[.bool cs, .bool mt, .bool l0, .bool l1, .int .u64 0, .int .u64 cn] rfl rfl 33 #[.bool false, .bool false, .bool false, .bool false, .int .u64 0, .int .u64 0] hD info_lines rfl (by simp [Value.oneCell']) ?_
    have HSn : Hid (Below w1.heap.size w1 (wc14.setRow x #[.bool cs, .bool mt, .bool l0, .bool l1, .int .u64 0, .int .u64 cn])) := Lib.hid (below_setRow HS.out HX.out _)
    have HXR : Hid ((wc14.setRow x #[.bool cs, .bool mt, .bool l0, .bool l1, .int .u64 0, .int .u64 cn]).heap[x]? = some (.cells #[.bool cs, .bool mt, .bool l0, .bool l1, .int .u64 0, .int .u64 cn] 33 (0, 0))) := Lib.hid (setRow_heap wc14 x _ _ _ _ hD)
    refine hK.out _ _ ?_ (fun hHeld => ?_)
    · exact HSn.out
    clear hHeld hK K hD
    try simp only [Act.put, List.setIfInBounds_toArray, List.set_cons_zero, List.set_cons_succ]
    replace HS := HSn
    clear HSn HA HZA HDA
    refine wpAnyH_done (by kernel_rfl) ?_ _
    generalize (wc14.setRow x #[.bool cs, .bool mt, .bool l0, .bool l1, .int .u64 0, .int .u64 cn]) = wz at *
    have HRZ := Lib.hid (HRG.out wz HS.out)
    have hxz : x < wz.heap.size := (Array.getElem?_eq_some_iff.1 HXR.out).1
    go_wp2_with (refine wpList_load_fr rfl _ _ rfl b 4 rfl _ _ HRZ.out Tryz.underlying104 rfl ?_ ?_; · exact HSZ.out)
    (with_reducible refine (HUP.out _).mono ?_)
    rintro e wu ⟨rfl, hb⟩
    have hxw : wu.heap[x]? = some (.cells #[.bool cs, .bool mt, .bool l0, .bool l1, .int .u64 0, .int .u64 cn] 33 (0, 0)) := (hb.block x hxz).trans HXR.out
    have HBW : Hid (Below w1.heap.size w1 wu) := Lib.hid (HS.out.trans (hb.mono HS.out.size))
    have hrw : wu.heap[w.heap.size]? = some (.cells #[.bool false, .bool false, .bool false, .bool false, .int .u64 0, .int .u64 0] 33 (0, 0)) := (HBW.out.block _ HZ1.out).trans HRES.out
    have hne : ¬ w.heap.size = x := by have := HX.out; have := HZ1.out; omega
    have fx : wu.frozen? ⟨x, 4, none⟩ = false := frozen_of_row wu x 4 _ _ hxw
    have cx : wu.cell? ⟨x, 4, none⟩ = some (.int .u64 0) := by rw [cell_of_row wu x 4 _ _ _ hxw]; rfl
    have hx2 : (wu.setCell ⟨x, 4, none⟩ (.int .u64 2)).heap[x]? = some (.cells #[.bool cs, .bool mt, .bool l0, .bool l1, .int .u64 2, .int .u64 cn] 33 (0, 0)) := by rw [heap_setCell_same wu x 4 _ _ _ hxw]; rfl
    have hr2 : (wu.setCell ⟨x, 4, none⟩ (.int .u64 2)).heap[w.heap.size]? = some (.cells #[.bool false, .bool false, .bool false, .bool false, .int .u64 0, .int .u64 0] 33 (0, 0)) := by rw [heap_setCell_other wu ⟨x, 4, none⟩ w.heap.size _ hne]; exact hrw
    have HX1 := Lib.hid hxw
    have HR1 := Lib.hid hrw
    have HX2 := Lib.hid hx2
    have HR2 := Lib.hid hr2
    have HB2 : Hid (Below w1.heap.size w1 (wu.setCell ⟨x, 4, none⟩ (.int .u64 2))) := Lib.hid (HBW.out.setCell HX.out _)
    have HW1B := Lib.hid HW1.out.size
    clear hb hxw hrw hx2 hr2 hxz hne HRZ HUP HRG HOC HSZ HS HXR HC1 HC2 HC3 HC4
    cases up with
    | false =>
      go_wp2_with (first | (refine wpList_load_row rfl _ _ rfl x rfl 33 _ _ _ HX1.out Tryz.underlying33 rfl ?_ ?_; · exact info_lines) | (refine wpList_store_row rfl 33 (.tmp 2) (.tmp 39) rfl w.heap.size #[.bool cs, .bool mt, .bool l0, .bool l1, .int .u64 0, .int .u64 cn] rfl rfl 33 #[.bool false, .bool false, .bool false, .bool false, .int .u64 0, .int .u64 0] HR1.out info_lines rfl (by simp [Value.oneCell']) ?_))
      exact bodyPost_ret (v := linesW cs mt l0 l1 false cn) (results_cell_row (show Tryz.f22.results = #[.cell 2 33] by kernel_rfl) _ _ w.heap.size 33 _ _ _ rfl (setRow_heap _ _ _ _ _ _ HR1.out) Tryz.underlying33 rfl info_lines) rfl ⟨rfl, below_setRow (HW1.out.trans (HBW.out.mono HW1B.out)) (Nat.le_refl _) _⟩
    | true =>
      go_wp2_with (first | (refine wpList_load_row rfl _ _ rfl x rfl 33 _ _ _ HX2.out Tryz.underlying33 rfl ?_ ?_; · exact info_lines) | (refine wpList_store_row rfl 33 (.tmp 2) (.tmp 39) rfl w.heap.size #[.bool cs, .bool mt, .bool l0, .bool l1, .int .u64 2, .int .u64 cn] rfl rfl 33 #[.bool false, .bool false, .bool false, .bool false, .int .u64 0, .int .u64 0] HR2.out info_lines rfl (by simp [Value.oneCell']) ?_))
      exact bodyPost_ret (v := linesW cs mt l0 l1 true cn) (results_cell_row (show Tryz.f22.results = #[.cell 2 33] by kernel_rfl) _ _ w.heap.size 33 _ _ _ rfl (setRow_heap _ _ _ _ _ _ HR2.out) Tryz.underlying33 rfl info_lines) rfl ⟨rfl, below_setRow (HW1.out.trans (HB2.out.mono HW1B.out)) (Nat.le_refl _) _⟩

end Go.Proofs.YtbcnkhfpogglmaaGreatDoor

namespace Go.Proofs.YtbcnkhfpogglmaaGreatDoor
open Go.RowKit
set_option linter.unusedVariables false
set_option maxRecDepth 100000

section
variable {w : World} {b g : Nat} {K : Nat → Nat} {vp : Value} {ul : List Nat} {N : Nat} {st : BS}
theorem refIsRam7_any (h : BusR w b K g vp ul N st) (a n : Int) (ha : In64 a) : Calls Tryz.prog 60 #[.pointer (some ⟨b, 0, none⟩), .int .u64 a, .int .i64 n] w (IsRamE w (M3.okN n && M3.hasZ 2147483648 st.size a n)) := by
  have HWd := Lib.hid (width_any n w)
  cases hk : M3.okN n with
  | false =>
    have HK := Lib.hid hk
    clear hk h ha
    go_enter Tryz.func60, Tryz.ntmps60
    go_wp2_with fail
    (with_reducible refine HWd.out.mono ?_)
    rintro e w2 ⟨rfl, rfl⟩
    rw [HK.out]
    go_wp2
    go_ret
    exact ⟨rfl, Below.refl _ _⟩
  | true =>
    have HK := Lib.hid hk
    obtain ⟨hg, gl, hl, hm⟩ := h.mem
    have HH := Lib.hid (M3.mem_has w g gl 2147483648 st.size N st.m a n hm h.fits ha)
    have cr := h.obj.ram_
    clear hk h ha hg hl hm
    rw [Bool.true_and]
    generalize M3.hasZ 2147483648 st.size a n = r at *
    go_enter Tryz.func60, Tryz.ntmps60
    go_wp2_with fail
    (with_reducible refine HWd.out.mono ?_)
    rintro e w2 ⟨rfl, rfl⟩
    rw [HK.out]
    go_wp2_with fail
    (with_reducible refine HH.out.mono ?_)
    rintro e w2 ⟨rfl, hw⟩
    have HW := Lib.hid hw
    clear hw
    go_wp2
    go_ret
    exact ⟨rfl, HW.out⟩

theorem refOut_none_bus (i : Int) (w : World) : Calls Tryz.prog 23 #[.pointer none, .int .i64 i] w (OutE w []) := by
  go_enter Tryz.func23, Tryz.ntmps23
  go_wp2
  go_ret
  exact ⟨none, 0, rfl, Below.refl _ _, U6.RowB.nil _⟩
theorem refOut7_any (h : BusR w b K g vp ul N st) (i : Int) :
    Calls Tryz.prog 23 #[.pointer (some ⟨b, 0, none⟩), .int .i64 i] w (OutE w (busOt st.us i)) := by
  unfold busOt
  rw [h.len]
  cases hc : isU ul.length i with
  | false =>
    rw [if_neg (by simp)]
    obtain ⟨av, cv, rfl, hcap⟩ := h.uarts.len
    have cu := h.obj.uarts_
    have hb : ¬ (0 ≤ i ∧ i < (ul.length : Int)) := by unfold isU at hc; rw [decide_eq_false_iff_not] at hc; omega
    clear hc h
    generalize ul.length = n at *
    by_cases h10 : i < 0
    · clear hb
      go_enter Tryz.func23, Tryz.ntmps23
      go_wp2
      go_ret
      exact ⟨none, 0, rfl, Below.refl _ _, U6.RowB.nil _⟩
    · have h11 : (n : Int) ≤ i := by omega
      have h12 : 0 ≤ i := by omega
      clear hb h10
      go_enter Tryz.func23, Tryz.ntmps23
      go_wp2
      go_ret
      exact ⟨none, 0, rfl, Below.refl _ _, U6.RowB.nil _⟩
  | true =>
    rw [if_pos rfl]
    obtain ⟨k, rfl, hk⟩ := isU_nat hc
    obtain ⟨gp, cap, rfl, hcap, c0⟩ := h.uarts.cells hk
    have cu := h.obj.uarts_
    have hle := h.le
    have hnk : ¬ (ul.length : Int) ≤ (k : Int) := by omega
    have hk0 : ¬ (k : Int) < 0 := by omega
    have hlt : (k : Int) < ul.length := by omega
    rw [show ((k : Int)).toNat = k from rfl]
    obtain ⟨vi, vo, hu⟩ := h.uart k hk
    obtain ⟨_, c1, _⟩ := U6.Holds.rcells hu
    have hl : (st.us.getD k U6.u0).out.length ≤ 70000 := by have := hu.ok.lo; omega
    have hro := hu.ro
    generalize (st.us.getD k U6.u0).out = xs at *
    generalize ul.getD k 0 = uv at *
    generalize hn : ul.length = n at *
    clear hc h hn hu
    obtain ⟨a, c, hv3, _, _, hr⟩ := hro.reads hl
    obtain ⟨a2, c2, w', hrun, hE⟩ : ∃ a2 c2 w', (Builtin.append_ #[40, 40] 40 #[.slice (some ⟨w.heap.size, 0, none⟩) 0 0, .slice a xs.length c]).run Tryz.prog (w.alloc (.cells #[] 5)) = .ok (.slice a2 xs.length c2) w' ∧ OutE w xs (.returned (.slice a2 xs.length c2)) w' := by
      have hown : (w.alloc (.cells #[] 5)).ownsRow w.heap.size 5 1 (.slice (some ⟨w.heap.size, 0, none⟩) 0 0) 0 [] := World.ownsRow_made w #[] 0 (Nat.le_refl _) (Nat.zero_le _) rfl
      rcases hr with ⟨rfl, rfl, rfl⟩ | ⟨gv, off, rfl, hg, hcs⟩
      · obtain ⟨i0, hi, hz0, hz1, hz2⟩ := U6.info_parts8 U6.info_u8
        refine ⟨_, _, _, run_append_owned_none (P := Tryz.prog) _ w.heap.size 40 40 5 i0 1 Tryz.underlying40 hi _ 0 [] hown, ?_⟩
        exact ⟨_, _, rfl, U6.below_alloc w _, ⟨hro.byt, .inl (U6.own_base hown (Nat.zero_le _))⟩⟩
      · subst hv3
        have h2 := hro.below (U6.below_alloc w (.cells #[] 5))
        obtain ⟨v', w', hrun, hO, hR, hOn, hv⟩ := U6.run_pour (w.alloc (.cells #[] 5)) _ xs h2 hl (by simp) w.heap.size (.slice (some ⟨w.heap.size, 0, none⟩) 0 0) hown (by rw [World.size_alloc]; omega) 40
        obtain ⟨a2, c2, hv2, _, _, _⟩ := hR.reads hl
        subst hv2
        exact ⟨a2, c2, w', hrun, a2, c2, rfl, (U6.below_alloc w (.cells #[] 5)).trans (hOn.below (fun k hk => by simp [Value.ownBlock] at hk; omega) (by rw [World.size_alloc]; omega)), hR⟩
    subst hv3
    have cu' := Lib.cell?_alloc_some (.cells #[] 5) cu
    have c0' := Lib.cell?_alloc_some (.cells #[] 5) c0
    have c1' := Lib.cell?_alloc_some (.cells #[] 5) c1
    have HRUN := Lib.hid hrun
    have HE := Lib.hid hE
    clear hrun hE hr hl hro
    generalize xs.length = m at *
    go_enter Tryz.func23, Tryz.ntmps23
    go_wp2_with ((at_builtin; refine wpList_append_run rfl _ _ _ rfl (.slice (some ⟨w.heap.size, 0, none⟩) 0 0) (.slice a m c) (.slice a2 m c2) w' rfl rfl HRUN.out ?_))
    go_ret
    exact HE.out
end

end Go.Proofs.YtbcnkhfpogglmaaGreatDoor

namespace Go.Proofs.YtbcnkhfpogglmaaGreatDoor
open Go.RowKit
set_option linter.unusedVariables false
set_option maxRecDepth 100000

/-- The program's bus b says st, the document's d says su, apart, in blocks of F. -/
def Two (w : World) (F : Nat → Prop) (b d : Nat) (N : Nat) (st su : BS) : Prop :=
  ∃ g K vp ul h L vq um, BusP w b K g vp ul st ∧ BusR w d L h vq um N su ∧ (∀ i, ¬ K i = 0 → L i = 0) ∧ (∀ i, TabB i → ¬ F i) ∧ (∀ i, (¬ K i = 0 ∨ ¬ L i = 0) → F i) ∧ (∀ i, F i → i < w.heap.size)
def NewF (w w' : World) (F F' : Nat → Prop) : Prop := Only F w w' ∧ ∀ i, F' i → F i ∨ w.heap.size ≤ i
theorem NewF.same {w w' : World} (F : Nat → Prop) (h : Below w.heap.size w w') : NewF w w' F F := ⟨Only.of_below F h, fun _ => .inl⟩
theorem NewF.refl (w : World) (F : Nat → Prop) : NewF w w F F := ⟨Only.refl F w, fun _ => .inl⟩
theorem NewF.trans {w w1 w2 : World} {F F1 F2 : Nat → Prop} (h : NewF w w1 F F1) (k : NewF w1 w2 F1 F2) : NewF w w2 F F2 :=
  ⟨h.1.step k.1 h.2, fun i hi => by
    rcases k.2 i hi with a | a
    · exact h.2 i a
    · right; have := h.1.size; omega⟩
/-- What a call tells, and leaves of both. -/
def TellT (w : World) (F : Nat → Prop) (b d : Nat) (N : Nat) (r : Value) (st su : BS) (e : Ending) (w' : World) : Prop := e = .returned r ∧ ∃ F', NewF w w' F F' ∧ Two w' F' b d N st su
section
variable {w w' : World} {F : Nat → Prop} {b d N : Nat} {st su : BS}
theorem Two.below (h : Two w F b d N st su) (o : Below w.heap.size w w') : Two w' F b d N st su := by
  obtain ⟨g, K, vp, ul, h, L, vq, um, P, R, ap, tb, cov, lt⟩ := h
  exact ⟨g, K, vp, ul, h, L, vq, um, P.below o, R.below o, ap, tb, cov, fun i hi => Nat.lt_of_lt_of_le (lt i hi) o.size⟩
theorem Two.keeps {G : Nat → Prop} (h : Two w F b d N st su) (o : Only G w w') (hG : ∀ i, F i ∨ TabB i → ¬ G i) : Two w' F b d N st su := by
  obtain ⟨g, K, vp, ul, h, L, vq, um, P, R, ap, tb, cov, lt⟩ := h
  refine ⟨g, K, vp, ul, h, L, vq, um, P.keeps o fun i hi => hG i ?_, R.keeps o fun i hi => hG i (.inl (cov i (.inr hi))), ap, tb, cov, fun i hi => Nat.lt_of_lt_of_le (lt i hi) o.size⟩
  rcases hi with a | a
  · exact .inl (cov i (.inl a))
  · exact .inr a
theorem Two.lt (h : Two w F b d N st su) : ∀ i, F i → i < w.heap.size := by
  obtain ⟨g, K, vp, ul, h, L, vq, um, P, R, ap, tb, cov, lt⟩ := h
  exact lt
theorem Two.tab (h : Two w F b d N st su) : ∀ i, TabB i → ¬ F i := by
  obtain ⟨g, K, vp, ul, h, L, vq, um, P, R, ap, tb, cov, lt⟩ := h
  exact tb
theorem Two.tabs (h : Two w F b d N st su) : Tabs w := by
  obtain ⟨g, K, vp, ul, h, L, vq, um, P, R, ap, tb, cov, lt⟩ := h
  exact P.tabs
theorem Two.more {N' : Nat} (h : Two w F b d N st su) (hN : N ≤ N') : Two w F b d N' st su := by
  obtain ⟨g, K, vp, ul, h, L, vq, um, P, R, ap, tb, cov, lt⟩ := h
  exact ⟨g, K, vp, ul, h, L, vq, um, P, R.more hN, ap, tb, cov, lt⟩
theorem two_ofProg (H : Two w F b d N st su) {r : Value} {st' : BS} {e : Ending} (hc : ∀ g K vp ul, BusP w b K g vp ul st → BusEnd w b K g vp ul r st' e w') : TellT w F b d N r st' su e w' := by
  obtain ⟨g, K, vp, ul, h, L, vq, um, P, R, ap, tb, cov, lt⟩ := H
  obtain ⟨he, ho, K', hg, hp⟩ := hc g K vp ul P
  refine ⟨he, fun i => F i ∨ ¬ K' i = 0, ⟨ho.mono fun i hi => .inl (cov i (.inl hi)), fun i hi => ?_⟩, g, K', vp, ul, h, L, vq, um, hp, R.keeps ho fun i hl hk => hl (ap i hk), fun i hi => ?_, fun i hi hx => ?_, fun i hi => ?_, fun i hi => ?_⟩
  · rcases hi with a | a
    · exact .inl a
    · by_cases c : i < w.heap.size
      · rw [hg i c] at a; exact .inl (cov i (.inl a))
      · right; omega
  · by_cases c : i < w.heap.size
    · rw [hg i c] at hi; exact ap i hi
    · by_cases z : L i = 0
      · exact z
      · exact absurd (R.lt i z) c
  · rcases hx with a | a
    · exact tb i hi a
    · exact a (hp.kt i hi)
  · rcases hi with a | a
    · exact .inr a
    · exact .inl (cov i (.inr a))
  · rcases hi with a | a
    · exact Nat.lt_of_lt_of_le (lt i a) ho.size
    · exact hp.lt i a
theorem two_prog (H : Two w F b d N st su) {r : Value} {st' : BS} {f : FuncId} {args : Array Value} (hc : ∀ g K vp ul, BusP w b K g vp ul st → Calls Tryz.prog f args w (BusEnd w b K g vp ul r st')) : Calls Tryz.prog f args w (TellT w F b d N r st' su) := by
  have H' := H
  obtain ⟨g, K, vp, ul, h, L, vq, um, P, R, ap, tb, cov, lt⟩ := H
  refine (hc g K vp ul P).mono fun e w' k => ?_
  obtain ⟨he, ho, K', hg, hp⟩ := k
  refine ⟨he, fun i => F i ∨ ¬ K' i = 0, ⟨ho.mono fun i hi => .inl (cov i (.inl hi)), fun i hi => ?_⟩, g, K', vp, ul, h, L, vq, um, hp, R.keeps ho fun i hl hk => hl (ap i hk), fun i hi => ?_, fun i hi hx => ?_, fun i hi => ?_, fun i hi => ?_⟩
  · rcases hi with a | a
    · exact .inl a
    · by_cases c : i < w.heap.size
      · rw [hg i c] at a; exact .inl (cov i (.inl a))
      · right; omega
  · by_cases c : i < w.heap.size
    · rw [hg i c] at hi; exact ap i hi
    · by_cases z : L i = 0
      · exact z
      · exact absurd (R.lt i z) c
  · rcases hx with a | a
    · exact tb i hi a
    · exact a (hp.kt i hi)
  · rcases hi with a | a
    · exact .inr a
    · exact .inl (cov i (.inr a))
  · rcases hi with a | a
    · exact Nat.lt_of_lt_of_le (lt i a) ho.size
    · exact hp.lt i a
theorem two_ref {N' : Nat} (H : Two w F b d N st su) {r : Value} {su' : BS} {f : FuncId} {args : Array Value} (hc : ∀ h L vq um, BusR w d L h vq um N su → Calls Tryz.prog f args w (RefBE w d L h vq um N' r su')) : Calls Tryz.prog f args w (TellT w F b d N' r st su') := by
  obtain ⟨g, K, vp, ul, h, L, vq, um, P, R, ap, tb, cov, lt⟩ := H
  refine (hc h L vq um R).mono fun e w' k => ?_
  obtain ⟨he, ho, L', hg, hp⟩ := k
  refine ⟨he, fun i => F i ∨ ¬ L' i = 0, ⟨ho.mono fun i hi => .inl (cov i (.inr hi)), fun i hi => ?_⟩, g, K, vp, ul, h, L', vq, um, P.keeps ho fun i hi hl => ?_, hp, fun i hi => ?_, fun i hi hx => ?_, fun i hi => ?_, fun i hi => ?_⟩
  · rcases hi with a | a
    · exact .inl a
    · by_cases c : i < w.heap.size
      · rw [hg i c] at a; exact .inl (cov i (.inr a))
      · right; omega
  · rcases hi with a | a
    · exact hl (ap i a)
    · exact tb i a (cov i (.inr hl))
  · have c := P.lt i hi
    rw [hg i c]; exact ap i hi
  · rcases hx with a | a
    · exact tb i hi a
    · have c : i < w.heap.size := P.tabs.lt hi
      rw [hg i c] at a; exact tb i hi (cov i (.inr a))
  · rcases hi with a | a
    · exact .inl (cov i (.inl a))
    · exact .inr a
  · rcases hi with a | a
    · exact Nat.lt_of_lt_of_le (lt i a) ho.size
    · exact hp.lt i a

theorem two_ofRef {N' : Nat} (H : Two w F b d N st su) {r : Value} {su' : BS} {e : Ending} {g h : Nat} {K L : Nat → Nat} {vp vq : Value} {ul um : List Nat} (X : BusP w b K g vp ul st ∧ BusR w d L h vq um N su ∧ (∀ i, ¬ K i = 0 → L i = 0) ∧ (∀ i, (¬ K i = 0 ∨ ¬ L i = 0) → F i)) (k : RefBE w d L h vq um N' r su' e w') : TellT w F b d N' r st su' e w' := by
  have tb := H.tab
  have lt := H.lt
  obtain ⟨P, R, ap, cov⟩ := X
  obtain ⟨he, ho, L', hg, hp⟩ := k
  refine ⟨he, fun i => F i ∨ ¬ L' i = 0, ⟨ho.mono fun i hi => .inl (cov i (.inr hi)), fun i hi => ?_⟩, g, K, vp, ul, h, L', vq, um, P.keeps ho fun i hi hl => ?_, hp, fun i hi => ?_, fun i hi hx => ?_, fun i hi => ?_, fun i hi => ?_⟩
  · rcases hi with a | a
    · exact .inl a
    · by_cases c : i < w.heap.size
      · rw [hg i c] at a; exact .inl (cov i (.inr a))
      · right; omega
  · rcases hi with a | a
    · exact hl (ap i a)
    · exact tb i a (cov i (.inr hl))
  · have c := P.lt i hi
    rw [hg i c]; exact ap i hi
  · rcases hx with a | a
    · exact tb i hi a
    · have c : i < w.heap.size := P.tabs.lt hi
      rw [hg i c] at a; exact tb i hi (cov i (.inr a))
  · rcases hi with a | a
    · exact .inl (cov i (.inl a))
    · exact .inr a
  · rcases hi with a | a
    · exact Nat.lt_of_lt_of_le (lt i a) ho.size
    · exact hp.lt i a
theorem only_cell7 {S : Nat → Prop} {w w' : World} (k : Only S w w') {b o : Nat} (hn : ¬ S b) {v : Value} (h : w.cell? ⟨b, o, none⟩ = some v) : w'.cell? ⟨b, o, none⟩ = some v := by
  have hl : b < w.heap.size := World.block_lt_of_cell? _ _ h
  have e := k.block b hl hn
  unfold World.cell? at *
  simp only [e] at *
  exact h

/-! ### the calls -/
theorem tWrite (H : Two w F b d N st su) (a n v : Int) (ha : In64 a) (hv : In64 v) : Calls Tryz.prog 9 #[.pointer (some ⟨b, 0, none⟩), .int .u64 a, .int .i64 n, .int .u64 v] w (TellT w F b d N (.bool (busWr st a n v).1) (busWr st a n v).2 su) :=
  two_prog H fun g K vp ul P => busWrite_any P a n v ha hv
theorem tRead (H : Two w F b d N st su) (a n : Int) (ha : In64 a) : Calls Tryz.prog 8 #[.pointer (some ⟨b, 0, none⟩), .int .u64 a, .int .i64 n] w (TellT w F b d N (.tuple #[.int .u64 (busRd st a n).1, .bool (busRd st a n).2.1]) (busRd st a n).2.2 su) :=
  two_prog H fun g K vp ul P => busRead_any P a n ha
theorem tFeed (H : Two w F b d N st su) (i x : Int) (hx : 0 ≤ x ∧ x < 256) : Calls Tryz.prog 13 #[.pointer (some ⟨b, 0, none⟩), .int .i64 i, .int .u8 x] w (TellT w F b d N (.bool (busFd st i x).1) (busFd st i x).2 su) :=
  two_prog H fun g K vp ul P => busFeed_any P i x hx
theorem tLevel (H : Two w F b d N st su) (s : Int) (u : Bool) (hs : In63 s) : Calls Tryz.prog 14 #[.pointer (some ⟨b, 0, none⟩), .int .i64 s, .bool u] w (TellT w F b d N (.bool (busLv st s u).1) (busLv st s u).2 su) :=
  two_prog H fun g K vp ul P => busLevel_any P s u hs
def TellU (w : World) (F : Nat → Prop) (b d : Nat) (N : Nat) (st su : BS) (e : Ending) (w' : World) : Prop := ∃ r, TellT w F b d N r st su e w'
theorem tTick (H : Two w F b d N st su) (n : Int) (hn : In64 n) : Calls Tryz.prog 11 #[.pointer (some ⟨b, 0, none⟩), .int .u64 n] w (TellU w F b d N (busTk st n) su) := by
  have H' := H
  obtain ⟨g, K, vp, ul, h, L, vq, um, P, R, ap, tb, cov, lt⟩ := H
  refine (busTick_any P n hn).mono fun e w' k => ?_
  obtain ⟨u, he, ho, K', hg, hp⟩ := k
  refine ⟨u, he, fun i => F i ∨ ¬ K' i = 0, ⟨ho.mono fun i hi => .inl (cov i (.inl hi)), fun i hi => ?_⟩, g, K', vp, ul, h, L, vq, um, hp, R.keeps ho fun i hl hk => hl (ap i hk), fun i hi => ?_, fun i hi hx => ?_, fun i hi => ?_, fun i hi => ?_⟩
  · rcases hi with a | a
    · exact .inl a
    · by_cases c : i < w.heap.size
      · rw [hg i c] at a; exact .inl (cov i (.inl a))
      · right; omega
  · by_cases c : i < w.heap.size
    · rw [hg i c] at hi; exact ap i hi
    · by_cases z : L i = 0
      · exact z
      · exact absurd (R.lt i z) c
  · rcases hx with a | a
    · exact tb i hi a
    · exact a (hp.kt i hi)
  · rcases hi with a | a
    · exact .inr a
    · exact .inl (cov i (.inr a))
  · rcases hi with a | a
    · exact Nat.lt_of_lt_of_le (lt i a) ho.size
    · exact hp.lt i a
theorem tIsRam (H : Two w F b d N st su) (a n : Int) (ha : In64 a) : Calls Tryz.prog 10 #[.pointer (some ⟨b, 0, none⟩), .int .u64 a, .int .i64 n] w (IsRamE w (M3.okN n && M3.hasZ 2147483648 st.size a n)) := by
  obtain ⟨g, K, vp, ul, h, L, vq, um, P, R, ap, tb, cov, lt⟩ := H
  exact busIsRam_any P a n ha
theorem tOut (H : Two w F b d N st su) (i : Int) : Calls Tryz.prog 17 #[.pointer (some ⟨b, 0, none⟩), .int .i64 i] w (OutE w (busOt st.us i)) := by
  obtain ⟨g, K, vp, ul, h, L, vq, um, P, R, ap, tb, cov, lt⟩ := H
  exact busOut_any P i
theorem tLines (H : Two w F b d N st su) : Calls Tryz.prog 12 #[.pointer (some ⟨b, 0, none⟩)] w (LinesE w (linesV st)) := by
  obtain ⟨g, K, vp, ul, h, L, vq, um, P, R, ap, tb, cov, lt⟩ := H
  exact busLines_any P
theorem rWrite (H : Two w F b d N st su) (a n v : Int) (ha : In64 a) (hv : In64 v) (hN : N < 900000) : Calls Tryz.prog 55 #[.pointer (some ⟨d, 0, none⟩), .int .u64 a, .int .i64 n, .int .u64 v] w (TellT w F b d (N + 8) (.bool (busWr su a n v).1) st (busWr su a n v).2) :=
  two_ref H fun h L vq um R => refWrite7_any R a n v ha hv hN
theorem rRead (H : Two w F b d N st su) (a n : Int) (ha : In64 a) : Calls Tryz.prog 56 #[.pointer (some ⟨d, 0, none⟩), .int .u64 a, .int .i64 n] w (TellT w F b d N (.tuple #[.int .u64 (busRd su a n).1, .bool (busRd su a n).2.1]) st (busRd su a n).2.2) :=
  two_ref H fun h L vq um R => refRead7_any R a n ha
theorem rFeed (H : Two w F b d N st su) (i x : Int) (hx : 0 ≤ x ∧ x < 256) : Calls Tryz.prog 57 #[.pointer (some ⟨d, 0, none⟩), .int .i64 i, .int .u8 x] w (TellT w F b d N (.bool (busFd su i x).1) st (busFd su i x).2) :=
  two_ref H fun h L vq um R => refFeed7_any R i x hx
theorem rLevel (H : Two w F b d N st su) (s : Int) (u : Bool) : Calls Tryz.prog 58 #[.pointer (some ⟨d, 0, none⟩), .int .i64 s, .bool u] w (TellT w F b d N (.bool (busLv su s u).1) st (busLv su s u).2) :=
  two_ref H fun h L vq um R => refLevel7_any R s u
theorem rTick (H : Two w F b d N st su) (n : Int) (hn : In64 n) : Calls Tryz.prog 59 #[.pointer (some ⟨d, 0, none⟩), .int .u64 n] w (TellU w F b d N st (busTk su n)) := by
  obtain ⟨g, K, vp, ul, h, L, vq, um, P, R, ap, tb, cov, lt⟩ := H
  refine (refTick7_any R n hn).mono fun e w' k => ?_
  obtain ⟨u, he, ho, L', hg, hp⟩ := k
  refine ⟨u, he, fun i => F i ∨ ¬ L' i = 0, ⟨ho.mono fun i hi => .inl (cov i (.inr hi)), fun i hi => ?_⟩, g, K, vp, ul, h, L', vq, um, P.keeps ho fun i hi hl => ?_, hp, fun i hi => ?_, fun i hi hx => ?_, fun i hi => ?_, fun i hi => ?_⟩
  · rcases hi with a | a
    · exact .inl a
    · by_cases c : i < w.heap.size
      · rw [hg i c] at a; exact .inl (cov i (.inr a))
      · right; omega
  · rcases hi with a | a
    · exact hl (ap i a)
    · exact tb i a (cov i (.inr hl))
  · have c := P.lt i hi
    rw [hg i c]; exact ap i hi
  · rcases hx with a | a
    · exact tb i hi a
    · have c : i < w.heap.size := P.tabs.lt hi
      rw [hg i c] at a; exact tb i hi (cov i (.inr a))
  · rcases hi with a | a
    · exact .inl (cov i (.inl a))
    · exact .inr a
  · rcases hi with a | a
    · exact Nat.lt_of_lt_of_le (lt i a) ho.size
    · exact hp.lt i a
theorem rIsRam (H : Two w F b d N st su) (a n : Int) (ha : In64 a) : Calls Tryz.prog 60 #[.pointer (some ⟨d, 0, none⟩), .int .u64 a, .int .i64 n] w (IsRamE w (M3.okN n && M3.hasZ 2147483648 su.size a n)) := by
  obtain ⟨g, K, vp, ul, h, L, vq, um, P, R, ap, tb, cov, lt⟩ := H
  exact refIsRam7_any R a n ha
theorem rOut (H : Two w F b d N st su) (i : Int) : Calls Tryz.prog 23 #[.pointer (some ⟨d, 0, none⟩), .int .i64 i] w (OutE w (busOt su.us i)) := by
  obtain ⟨g, K, vp, ul, h, L, vq, um, P, R, ap, tb, cov, lt⟩ := H
  exact refOut7_any R i
theorem rLines (H : Two w F b d N st su) : Calls Tryz.prog 22 #[.pointer (some ⟨d, 0, none⟩)] w (LinesE w (linesV su)) := by
  obtain ⟨g, K, vp, ul, h, L, vq, um, P, R, ap, tb, cov, lt⟩ := H
  exact refLines7_any R
/-- The memories themselves: where they lie, and a write into them. -/
def memS (st : BS) (a n v : Int) : BS := { st with m := M3.writeM 2147483648 st.size st.m a n v }
theorem tRam (H : Two w F b d N st su) : ∃ g, Calls Tryz.prog 16 #[.pointer (some ⟨b, 0, none⟩)] w (fun e w' => e = .returned (.pointer (some ⟨g, 0, none⟩)) ∧ w = w') ∧
    ∀ a n v, In64 a → In63 n → In64 v → Calls Tryz.prog 26 #[.pointer (some ⟨g, 0, none⟩), .int .u64 a, .int .i64 n, .int .u64 v] w (TellT w F b d N (.bool (M3.okN n && M3.hasZ 2147483648 st.size a n)) (memS st a n v) su) := by
  have H' := H
  obtain ⟨g, K, vp, ul, h, L, vq, um, P, R, ap, tb, cov, lt⟩ := H
  refine ⟨g, busRam_any P, fun a n v ha hn hv => (M3.progWrite_any a n v P.mem P.fits ha hn hv).mono fun e w' k => ?_⟩
  have e1 := P.memEnd k
  obtain ⟨he, ho, K', hg, hp⟩ := e1
  refine ⟨he, fun i => F i ∨ ¬ K' i = 0, ⟨ho.mono fun i hi => .inl (cov i (.inl hi)), fun i hi => ?_⟩, g, K', vp, ul, h, L, vq, um, hp, R.keeps ho fun i hl hk => hl (ap i hk), fun i hi => ?_, fun i hi hx => ?_, fun i hi => ?_, fun i hi => ?_⟩
  · rcases hi with a | a
    · exact .inl a
    · by_cases c : i < w.heap.size
      · rw [hg i c] at a; exact .inl (cov i (.inl a))
      · right; omega
  · by_cases c : i < w.heap.size
    · rw [hg i c] at hi; exact ap i hi
    · by_cases z : L i = 0
      · exact z
      · exact absurd (R.lt i z) c
  · rcases hx with a | a
    · exact tb i hi a
    · exact a (hp.kt i hi)
  · rcases hi with a | a
    · exact .inr a
    · exact .inl (cov i (.inr a))
  · rcases hi with a | a
    · exact Nat.lt_of_lt_of_le (lt i a) ho.size
    · exact hp.lt i a
theorem rRam (H : Two w F b d N st su) (hN : N < 900000) : ∃ h, w.cell? ⟨d, 0, none⟩ = some (.pointer (some ⟨h, 0, none⟩)) ∧
    ∀ a n v, In64 a → In64 v → Calls Tryz.prog 61 #[.pointer (some ⟨h, 0, none⟩), .int .u64 a, .int .i64 n, .int .u64 v] w (fun e w' => TellT w F b d (N + 8) (.bool (M3.okN n && M3.hasZ 2147483648 su.size a n)) st (memS su a n v) e w' ∧ w'.cell? ⟨d, 0, none⟩ = some (.pointer (some ⟨h, 0, none⟩))) := by
  have H' := H
  obtain ⟨g, K, vp, ul, h, L, vq, um, P, R, ap, tb, cov, lt⟩ := H
  refine ⟨h, R.obj.ram_, fun a n v ha hv => ?_⟩
  obtain ⟨hg, gl, hl, hm⟩ := R.mem
  refine (M3.mem_write w h gl _ _ N _ _ n v hm R.fits ha hv hN).mono fun e w'' k => ?_
  refine ⟨two_ofRef H' (h := h) (L := L) (vq := vq) (um := um) ⟨P, R, ap, cov⟩ ?_, ?_⟩
  rotate_left
  · obtain ⟨he, o0, _⟩ := k
    have hd1 := R.kb
    have hne : ¬ d = h := fun e => by rw [e, hg] at hd1; omega
    exact only_cell7 o0 hne R.obj.ram_
  obtain ⟨he, o0, g', hg', hR⟩ := k
  obtain ⟨g2, hg2, hlt2, hR⟩ := M3.RefMem.norm hR
  have o : Only (fun i => L i = 2) w w'' := o0.mono fun i hi => .inl (by subst hi; exact hg)
  refine ⟨he, o.mono fun i hi => .inl (by show ¬ L i = 0; have : L i = 2 := hi; omega), _, relabel_grow w L 2 w'', R.part (by omega) o rfl rfl rfl rfl ⟨relabel_old R.lt (by omega) hg, g2, ?_, hR⟩ fun i hi => ?_⟩
  · rcases hg2 with rfl | rfl
    · rcases hg' with rfl | hg'
      · exact relabel_old R.lt (by omega) hl
      · exact relabel_new (.inr hg') hlt2
    · exact relabel_old R.lt (by omega) hg
  · exact ((R.uart i hi).keeps o fun x hx => by show ¬ L x = 2; have : L x = 3 + i := hx; omega).mono (fun x hx => relabel_old R.lt (by omega) hx) fun x hx => relabel_in R.lt o.size (by omega) hx
end
end Go.Proofs.YtbcnkhfpogglmaaGreatDoor

namespace Go.Proofs.YtbcnkhfpogglmaaGreatDoor
open Go.RowKit Go.ChangeShapes Go.WideShapes Go.Deep
set_option linter.unusedVariables false
set_option maxRecDepth 100000

section
variable {H : Type} {enc : TypeId × Value → H} {P : Program} {w : World} {base : Nat} {spare : Nat → Bool} {held : Bool}
/-- The cells of a struct whose fields are one cell each, and each field's reading. -/
theorem fields_of {t : TypeId} {fs : Array Field} {n : Nat} {cs : List Value} {x : DataW H × List MemPlace} (hs : P.underlying t = some (.struct fs)) (hone : oneCellFields P fs = true) (hC : P.cellsOf t = fs.size)
    (h : DataW.trod enc P w base spare held n t cs = some x) : cs.length = fs.size ∧ ∀ (j : Nat) (f : Field), fs[j]? = some f → ∃ v y k, cs[j]? = some v ∧ DataW.trod enc P w base spare held k f.type [v] = some y := by
  obtain ⟨xs, k, _, _, hl, hlen, hf⟩ := DataW.trod_struct hs h
  refine ⟨hl.trans hC, fun j f hj => ?_⟩
  obtain ⟨ho, hc⟩ := hone_of hone j f hj
  have hjs : j < fs.size := (Array.getElem?_eq_some_iff.1 hj).1
  have hjl : j < cs.length := by omega
  have hjx : j < xs.length := by omega
  have h1 := hf j f hj
  rw [ho, hc, List.drop_eq_getElem_cons hjl, List.take_succ_cons, List.take_zero, List.getElem?_eq_getElem hjx] at h1
  exact ⟨_, _, k, List.getElem?_eq_getElem hjl, h1⟩
end
theorem block_lt {w : World} {p : Addr} {v : Value} (h : w.cell? p = some v) : p.block < w.heap.size := by
  by_cases hb : p.block < w.heap.size
  · exact hb
  · have hn : w.heap[p.block]? = none := by simp; omega
    simp [World.cell?, hn] at h

/-- An act, as the program's data tell it. -/
structure ActV where
  d : Int
  a : Int
  n : Int
  v : Int
  i : Int
/-- The act that stands in cells from an address on. -/
def ActAt (w : World) (ad : Addr) (x : ActV) : Prop :=
  w.cell? (ad.add 0) = some (.int .i64 x.d) ∧ w.cell? (ad.add 1) = some (.int .u64 x.a) ∧ w.cell? (ad.add 2) = some (.int .i64 x.n) ∧ w.cell? (ad.add 3) = some (.int .u64 x.v) ∧ w.cell? (ad.add 4) = some (.int .i64 x.i) ∧ In63 x.d ∧ In64 x.a ∧ In63 x.n ∧ In64 x.v ∧ In63 x.i
/-- The acts that stand there, in a block below B. -/
def ActsIn (B : Nat) (w : World) (v : Value) (xs : List ActV) : Prop :=
  ∃ a c, v = .slice a xs.length c ∧ xs.length ≤ maxLen ∧ (xs = [] ∨ ∃ b off, a = some ⟨b, off, none⟩ ∧ b < B ∧ ∀ i (h : i < xs.length), ActAt w ⟨b, off + i * 5, none⟩ xs[i])
theorem ActAt.below {B : Nat} {w w' : World} {b off : Nat} {x : ActV} (h : ActAt w ⟨b, off, none⟩ x) (k : Below B w w') (hb : b < B) : ActAt w' ⟨b, off, none⟩ x := by
  unfold ActAt at *
  simp only [add_none] at *
  obtain ⟨h0, h1, h2, h3, h4, hr⟩ := h
  exact ⟨(k.cell (p := ⟨b, off + 0, none⟩) hb).trans h0, (k.cell (p := ⟨b, off + 1, none⟩) hb).trans h1, (k.cell (p := ⟨b, off + 2, none⟩) hb).trans h2, (k.cell (p := ⟨b, off + 3, none⟩) hb).trans h3, (k.cell (p := ⟨b, off + 4, none⟩) hb).trans h4, hr⟩
theorem ActsIn.below {B : Nat} {w w' : World} {v : Value} {xs : List ActV} (h : ActsIn B w v xs) (k : Below B w w') : ActsIn B w' v xs := by
  obtain ⟨a, c, hv, hm, h⟩ := h
  refine ⟨a, c, hv, hm, ?_⟩
  rcases h with h | ⟨b, off, ha, hb, hc⟩
  · exact .inl h
  · exact .inr ⟨b, off, ha, hb, fun i hi => (hc i hi).below k hb⟩
/-- The cells of the k-th act, and its ranges. -/
theorem act_at {w : World} {b off : Nat} {x : ActV} (h : ActAt w ⟨b, off, none⟩ x) : w.cell? ⟨b, off, none⟩ = some (.int .i64 x.d) ∧ w.cell? ⟨b, off + 1, none⟩ = some (.int .u64 x.a) ∧ w.cell? ⟨b, off + 2, none⟩ = some (.int .i64 x.n) ∧ w.cell? ⟨b, off + 3, none⟩ = some (.int .u64 x.v) ∧ w.cell? ⟨b, off + 4, none⟩ = some (.int .i64 x.i) ∧ In63 x.d ∧ In64 x.a ∧ In63 x.n ∧ In64 x.v ∧ In63 x.i := by
  unfold ActAt at h
  simp only [add_none, Nat.add_zero] at h
  exact h

theorem open_acts {H : Type} {enc : TypeId × Value → H} {w : World} {spare : Nat → Bool} {held : Bool} {d : DataW H} {p : List MemPlace} {a : Option Addr} {len cap : Nat}
    (h : DataW.Trod enc Tryz.prog w 0 spare held 44 (.slice a len cap) d p) : ∃ xs, ActsIn w.heap.size w (.slice a len cap) xs := by
  obtain ⟨fuel, hf⟩ := h
  rcases open_slice Tryz.underlying44 hf with ⟨hcs, _⟩ | ⟨x, l, c, m, n, D, Pl, hcs, _, hl, hm, hmm, hD, hi⟩
  · simp [Value.cells] at hcs
    obtain ⟨rfl, rfl, rfl⟩ := hcs
    exact ⟨[], _, _, rfl, Nat.zero_le _, .inl rfl⟩
  · simp [Value.cells] at hcs
    obtain ⟨rfl, rfl, rfl⟩ := hcs
    have hlm : len ≤ m := by rw [hmm]; split <;> omega
    have hC : Tryz.prog.cellsOf 50 = 5 := by kernel_rfl
    rw [hC] at hi
    by_cases h0 : len = 0
    · subst h0; exact ⟨[], _, _, rfl, Nat.zero_le _, .inl rfl⟩
    have hplain : ∃ b off, x = ⟨b, off, none⟩ := by
      obtain ⟨cs', hc, htr⟩ := hi 0 (by omega)
      obtain ⟨_, hcl, hat⟩ := World.cells?_some hc
      obtain ⟨v0, y0, k0, hv0, _⟩ := (fields_of Tryz.underlying50 (by kernel_rfl) (by kernel_rfl) htr).2 0 _ rfl
      obtain ⟨b, off, spot⟩ := x
      have h1 := (hat 0 (by omega)).trans hv0
      have hspot : spot = none := by simpa [Addr.add] using World.cell?_spot h1
      subst hspot
      exact ⟨b, off, rfl⟩
    obtain ⟨b, off, rfl⟩ := hplain
    have each : ∀ i, i < len → ∃ xa : ActV, ActAt w ⟨b, off + i * 5, none⟩ xa := by
      intro i hil
      obtain ⟨cs', hc, htr⟩ := hi i (by omega)
      obtain ⟨_, hcl, hat⟩ := World.cells?_some hc
      obtain ⟨_, hfs⟩ := fields_of Tryz.underlying50 (by kernel_rfl) (by kernel_rfl) htr
      obtain ⟨v0, y0, k0, hv0, t0⟩ := hfs 0 _ rfl
      obtain ⟨v1, y1, k1, hv1, t1⟩ := hfs 1 _ rfl
      obtain ⟨v2, y2, k2, hv2, t2⟩ := hfs 2 _ rfl
      obtain ⟨v3, y3, k3, hv3, t3⟩ := hfs 3 _ rfl
      obtain ⟨v4, y4, k4, hv4, t4⟩ := hfs 4 _ rfl
      obtain ⟨n0, e0, _, w0⟩ := DataW.trod_int Tryz.underlying3 t0
      obtain ⟨n1, e1, _, w1⟩ := DataW.trod_int Tryz.underlying26 t1
      obtain ⟨n2, e2, _, w2⟩ := DataW.trod_int Tryz.underlying3 t2
      obtain ⟨n3, e3, _, w3⟩ := DataW.trod_int Tryz.underlying26 t3
      obtain ⟨n4, e4, _, w4⟩ := DataW.trod_int Tryz.underlying3 t4
      simp at e0 e1 e2 e3 e4
      subst e0 e1 e2 e3 e4
      have ha : (⟨b, off, none⟩ : Addr).add (i * 5) = ⟨b, off + i * 5, none⟩ := add_none b off (i * 5)
      rw [ha] at hat
      exact ⟨⟨n0, n1, n2, n3, n4⟩, (hat 0 (by omega)).trans hv0, (hat 1 (by omega)).trans hv1, (hat 2 (by omega)).trans hv2, (hat 3 (by omega)).trans hv3, (hat 4 (by omega)).trans hv4, of_wf63 w0, of_wf w1, of_wf63 w2, of_wf w3, of_wf63 w4⟩
    have hb : b < w.heap.size := by
      obtain ⟨xa, h1, _⟩ := each 0 (by omega)
      have := block_lt h1
      simpa [add_none] using this
    refine ⟨(List.range len).map fun i => if h : i < len then Classical.choose (each i h) else ⟨0, 0, 0, 0, 0⟩, _, cap, by simp, by simp; omega, .inr ⟨b, off, rfl, hb, fun i hil => ?_⟩⟩
    have hil2 : i < len := by simpa using hil
    have hs := Classical.choose_spec (each i hil2)
    simpa [hil2] using hs

end Go.Proofs.YtbcnkhfpogglmaaGreatDoor
