/- Joined: PlN PlP PlQ PlR TakeD Drive PlS PlT PlU PlV PlS7 Ints Ua Ub Uc -/
import Derived.Test.YtbcnkhfpogglmaaGreatDoorKS1
import Derived.StillTailTactics
import Derived.Deep.RegionLaw
import Derived.Deep.RegionWith
import Derived.Deep.LoopGhost
import Derived.Deep.RegionHeld3
import Derived.Lib.Hide
import Derived.Laws.Rows
import Derived.WalkKit
import Derived.ProofKit
import Derived.WalkSmall
import Derived.OpenShut
import Derived.Test.YtbcnkhfpogglmaaGreatDoorRows
import Derived.Maps.AppendAt
import Derived.ArgAppend
import Derived.Laws.BytesArg
import Derived.WalkLawsBesides
import Derived.BigQuiet
import Derived.Deep.QuietTactic
namespace Go.Proofs.YtbcnkhfpogglmaaGreatDoor.P5
open Go.RowKit
set_option linter.unusedVariables false
set_option maxRecDepth 100000

def prioT (t : PS) (s : Nat) (v : Int) : PS := { t with prio := upd t.prio s v }
def floorT (t : PS) (c : Nat) (v : Int) : PS := { t with floor := upd t.floor c v }
def onT (t : PS) (c : Nat) (f : Nat → Bool) : PS := { t with on := fun s c' => if c' = c then f s else t.on s c' }
def idleP (t : PS) (x : Nat) : PS := { t with busy := upd t.busy x false }
def mayB (t : PS) (c x : Nat) : Bool := decide (1 ≤ x) && decide (x ≤ 31) && t.on x c && t.busy x
/-- What a completion leaves. -/
def doneT (t : PS) (c x : Nat) : PS := if mayB t c x = true then lookP (idleP t x) x else t
/-- What the loop over the enabled ones has done. -/
def onK (t : PS) (c : Nat) (v : Int) (k : Nat) : PS := { t with on := fun s c' => if c' = c ∧ s < k then onBits v s else t.on s c' }
theorem RefP.congr {w : World} {b : Nat} {t t' : PS} (h : RefP w b t) (hs : ∀ s j, s < 32 → j < 6 → srcCell t s j = srcCell t' s j) (hf : ∀ c, c < 2 → t.floor c = t'.floor c) : RefP w b t' := by
  unfold RefP at *
  have e : varr 194 (cellR t) = varr 194 (cellR t') := varr_congr fun i hi => by
    unfold cellR
    by_cases h1 : i < 192
    · rw [if_pos h1, if_pos h1]; exact hs _ _ (by omega) (by omega)
    · rw [if_neg h1, if_neg h1, hf _ (by omega)]
  rw [← e]; exact h
theorem RefP.prioS {w : World} {b : Nat} {t : PS} (h : RefP w b t) {s : Nat} (v : Int) (hs : s < 32) : RefP (w.setCell ⟨b, s * 6, none⟩ (.int .u64 v)) b (prioT t s v) :=
  h.set (s := s) (j := 0) _ hs (by omega) (fun s' j' _ _ => by
    by_cases c : s' = s ∧ j' = 0
    · obtain ⟨rfl, rfl⟩ := c; rw [if_pos ⟨rfl, rfl⟩]; simp [srcCell, prioT, upd_same]
    · rw [if_neg c]; match j' with
      | 0 => simp [srcCell, prioT, upd_other _ _ (fun e : s' = s => c ⟨e, rfl⟩)]
      | 1 => rfl
      | 2 => rfl
      | 3 => rfl
      | 4 => rfl
      | _ + 5 => rfl) rfl
theorem RefP.idleS {w : World} {b : Nat} {t : PS} (h : RefP w b t) {s : Nat} (hs : s < 32) : RefP (w.setCell ⟨b, s * 6 + 3, none⟩ (.bool false)) b (idleP t s) :=
  h.set (s := s) (j := 3) _ hs (by omega) (fun s' j' _ _ => by
    by_cases c : s' = s ∧ j' = 3
    · obtain ⟨rfl, rfl⟩ := c; rw [if_pos ⟨rfl, rfl⟩]; simp [srcCell, idleP, upd_same]
    · rw [if_neg c]; match j' with
      | 0 => rfl
      | 1 => rfl
      | 2 => rfl
      | 3 => simp [srcCell, idleP, upd_other _ _ (fun e : s' = s => c ⟨e, rfl⟩)]
      | 4 => rfl
      | _ + 5 => rfl) rfl
theorem floorT_at (t : PS) (c : Nat) (v : Int) (i : Nat) : (floorT t c v).floor i = if i = c then v else t.floor i := rfl
theorem RefP.floorS {w : World} {b : Nat} {t : PS} (h : RefP w b t) {c : Nat} (v : Int) (hc : c < 2) : RefP (w.setCell ⟨b, 192 + c, none⟩ (.int .u64 v)) b (floorT t c v) := by
  unfold RefP
  rw [heap_setCell_same w b _ _ _ _ h, varr_set]
  have e : (varr 194 fun i => if i = 192 + c then .int .u64 v else cellR t i) = varr 194 (cellR (floorT t c v)) := varr_congr fun i hi => by
    unfold cellR
    by_cases h1 : i < 192
    · rw [if_neg (by omega), if_pos h1, if_pos h1]; rfl
    · rw [if_neg h1, if_neg h1]
      by_cases e : i = 192 + c
      · rw [if_pos e, floorT_at, if_pos (by omega)]
      · rw [if_neg e, floorT_at, if_neg (by omega)]
  rw [e]
theorem RefP.on0S {w : World} {b : Nat} {t : PS} {v : Int} {k : Nat} (h : RefP w b (onK t 0 v k)) (hk : k < 32) : RefP (w.setCell ⟨b, k * 6 + 4, none⟩ (.bool (onBits v k))) b (onK t 0 v (k + 1)) :=
  h.set (s := k) (j := 4) _ hk (by omega) (fun s' j' _ _ => by
    by_cases c : s' = k ∧ j' = 4
    · obtain ⟨rfl, rfl⟩ := c; rw [if_pos ⟨rfl, rfl⟩]; simp [srcCell, onK]
    · rw [if_neg c]; match j' with
      | 0 => rfl
      | 1 => rfl
      | 2 => rfl
      | 3 => rfl
      | 4 => (have n : ¬ s' = k := fun e => c ⟨e, rfl⟩); simp only [srcCell, onK, true_and]; congr 1; by_cases e : s' < k; rw [if_pos e, if_pos (by omega)]; rw [if_neg e, if_neg (by omega)]
      | _ + 5 => simp [srcCell, onK]) rfl
theorem RefP.on1S {w : World} {b : Nat} {t : PS} {v : Int} {k : Nat} (h : RefP w b (onK t 1 v k)) (hk : k < 32) : RefP (w.setCell ⟨b, k * 6 + 5, none⟩ (.bool (onBits v k))) b (onK t 1 v (k + 1)) :=
  h.set (s := k) (j := 5) _ hk (by omega) (fun s' j' _ hj => by
    by_cases c : s' = k ∧ j' = 5
    · obtain ⟨rfl, rfl⟩ := c; rw [if_pos ⟨rfl, rfl⟩]; simp [srcCell, onK]
    · rw [if_neg c]; match j' with
      | 0 => rfl
      | 1 => rfl
      | 2 => rfl
      | 3 => rfl
      | 4 => simp [srcCell, onK]
      | 5 => (have n : ¬ s' = k := fun e => c ⟨e, rfl⟩); simp only [srcCell, onK, true_and]; congr 1; by_cases e : s' < k; rw [if_pos e, if_pos (by omega)]; rw [if_neg e, if_neg (by omega)]
      | _ + 6 => omega) rfl
theorem RefP.onAll {w : World} {b : Nat} {t : PS} {c : Nat} {v : Int} (h : RefP w b (onK t c v 32)) : RefP w b (onT t c (onBits v)) :=
  h.congr (fun s j hs _ => by
    match j with
    | 0 => rfl
    | 1 => rfl
    | 2 => rfl
    | 3 => rfl
    | 4 => simp [srcCell, onK, onT, hs]
    | _ + 5 => simp [srcCell, onK, onT, hs]) (fun _ _ => rfl)
theorem RefP.onNone {w : World} {b : Nat} {t : PS} (c : Nat) (v : Int) (h : RefP w b t) : RefP w b (onK t c v 0) :=
  h.congr (fun s j hs _ => by
    match j with
    | 0 => rfl
    | 1 => rfl
    | 2 => rfl
    | 3 => rfl
    | 4 => simp [srcCell, onK]
    | _ + 5 => simp [srcCell, onK]) (fun _ _ => rfl)

theorem refWrite_len (w : World) (b : Nat) (off n v : Int) (hn : ¬ n = 4) : Calls Tryz.prog 99 #[.pointer (some ⟨b, 0, none⟩), .int .u64 off, .int .i64 n, .int .u64 v] w fun e w' => e = .returned (.bool false) ∧ w = w' := by
  have e4 : (n != 4) = true := by simpa using hn
  clear hn
  go_enter Tryz.func99, Tryz.ntmps99
  go_wp2
  go_ret
  exact ⟨rfl, rfl⟩
theorem refWrite_pend (w : World) (b : Nat) (v : Int) : Calls Tryz.prog 99 #[.pointer (some ⟨b, 0, none⟩), .int .u64 4096, .int .i64 4, .int .u64 v] w fun e w' => e = .returned (.bool true) ∧ w = w' := by
  go_enter Tryz.func99, Tryz.ntmps99
  go_wp2
  go_ret
  exact ⟨rfl, rfl⟩
theorem refWrite_prio0 (w : World) (b : Nat) (v : Int) : Calls Tryz.prog 99 #[.pointer (some ⟨b, 0, none⟩), .int .u64 0, .int .i64 4, .int .u64 v] w fun e w' => e = .returned (.bool true) ∧ w = w' := by
  go_enter Tryz.func99, Tryz.ntmps99
  go_wp2
  go_ret
  exact ⟨rfl, rfl⟩
theorem refWrite_prio (w : World) (b : Nat) (t : PS) (h : RefP w b t) (k : Nat) (hk0 : 1 ≤ k) (hk : k < 32) (off v : Int) (ho : off = 4 * (k : Int)) (hv : 0 ≤ v) :
    Calls Tryz.prog 99 #[.pointer (some ⟨b, 0, none⟩), .int .u64 off, .int .i64 4, .int .u64 v] w (RefPEnd w b (.bool true) (prioT t k (v % 8))) := by
  have c0 : w.cell? ⟨b, k * 6, none⟩ = some (.int .u64 (t.prio k)) := h.src (s := k) (j := 0) hk (by omega)
  have f0 := h.free (k * 6)
  have H := Lib.hid (h.prioS (v % 8) hk)
  have h0 : 0 ≤ off := by omega
  have h00 : 0 < off := by omega
  have h1 : off < 128 := by omega
  have h2 : (off % 4 == 0) = true := by rw [beq_iff_eq]; omega
  have h4 : IntKind.u64.wrap (off.tdiv 4) = (k : Int) := by rw [Int.tdiv_eq_ediv_of_nonneg h0, IntKind.wrap_u64]; omega
  have i1 : (k : Int) < 32 := by omega
  clear ho h
  go_enter Tryz.func99, Tryz.ntmps99
  go_wp2
  go_ret
  exact ⟨rfl, (Only.refl (fun i => i = b) w).setCell (p := ⟨b, k * 6, none⟩) (.inl rfl) _, H.out⟩

set_option maxRecDepth 100000 in
set_option maxHeartbeats 1000000 in
theorem refWrite_floor0 (w : World) (b : Nat) (t : PS) (h : RefP w b t) (v : Int) (hv : 0 ≤ v) :
    Calls Tryz.prog 99 #[.pointer (some ⟨b, 0, none⟩), .int .u64 2097152, .int .i64 4, .int .u64 v] w (RefPEnd w b (.bool true) (floorT t 0 (v % 8))) := by
  have c0 : w.cell? ⟨b, 192, none⟩ = some (.int .u64 (t.floor 0)) := h.floor_ (c := 0) (by omega)
  have f0 := h.free 192
  have H := Lib.hid (h.floorS (c := 0) (v % 8) (by omega))
  clear h
  go_enter Tryz.func99, Tryz.ntmps99
  go_wp2
  go_loop [9] (fun i => i = .int .i64 0) (fun _ => 0)
  case atStart => exact rfl
  case round =>
    obtain rfl := hrel
    go_wp2
    go_ret
    exact ⟨rfl, (Only.refl (fun i => i = b) w).setCell (p := ⟨b, 192, none⟩) (.inl rfl) _, H.out⟩

set_option maxRecDepth 100000 in
set_option maxHeartbeats 1000000 in
theorem refWrite_floor1 (w : World) (b : Nat) (t : PS) (h : RefP w b t) (v : Int) (hv : 0 ≤ v) :
    Calls Tryz.prog 99 #[.pointer (some ⟨b, 0, none⟩), .int .u64 2101248, .int .i64 4, .int .u64 v] w (RefPEnd w b (.bool true) (floorT t 1 (v % 8))) := by
  have c0 : w.cell? ⟨b, 193, none⟩ = some (.int .u64 (t.floor 1)) := h.floor_ (c := 1) (by omega)
  have f0 := h.free 193
  have H := Lib.hid (h.floorS (c := 1) (v % 8) (by omega))
  clear h
  go_enter Tryz.func99, Tryz.ntmps99
  go_wp2
  go_loop [9] (fun i => i = .int .i64 0 ∨ i = .int .i64 1) (fun i => (1 - intOf i).toNat)
  case atStart => exact .inl rfl
  case round =>
    rcases hrel with rfl | rfl
    · go_wp2
      exact ⟨.inr rfl, by simp [intOf]⟩
    go_wp2
    go_ret
    exact ⟨rfl, (Only.refl (fun i => i = b) w).setCell (p := ⟨b, 193, none⟩) (.inl rfl) _, H.out⟩

set_option maxRecDepth 100000 in
set_option maxHeartbeats 4000000 in
theorem refWrite_on0 (w : World) (b : Nat) (t : PS) (h : RefP w b t) (v : Int) (hv : In64 v) :
    Calls Tryz.prog 99 #[.pointer (some ⟨b, 0, none⟩), .int .u64 8192, .int .i64 4, .int .u64 v] w (RefPEnd w b (.bool true) (onT t 0 (onBits v))) := by
  have H := Lib.hid h
  have HV := Lib.hid hv
  clear h hv
  go_enter Tryz.func99, Tryz.ntmps99
  go_wp2
  go_loop [9] (fun i => i = .int .i64 0) (fun _ => 0)
  case atStart => exact rfl
  case round =>
    obtain rfl := hrel
    go_wp2
    obtain ⟨wo, hwo⟩ : ∃ wo : World, wo = w := ⟨_, rfl⟩
    have HWO := Lib.hid hwo
    clear hwo
    go_loopw [11, 12] (fun x i wr => ∃ (k : Nat) (y : Int), k ≤ 32 ∧ i = .int .i64 k ∧ x = .int .u64 y ∧ Hid (y = v / 2 ^ k) ∧ RefP wr b (onK t 0 v k) ∧ Only (fun i => i = b) w wr) (fun _ i _ => (32 - intOf i).toNat)
    case atStart => exact ⟨0, v, by omega, rfl, rfl, Lib.hid (by simp), H.out.onNone 0 v, Only.refl _ _⟩
    case round =>
      obtain ⟨k, y, hk, rfl, rfl, HY, hR, hO⟩ := hrel
      have HO := Lib.hid hO
      have HR := Lib.hid hR
      by_cases hk1 : k < 32
      · have ck : wr.cell? ⟨b, k * 6 + 4, none⟩ = some (.bool ((onK t 0 v k).on k 0)) := hR.src (s := k) (j := 4) hk1 (by omega)
        have fk := hR.free (k * 6 + 4)
        have i1 : (k : Int) < 32 := by omega
        have hn0 : 0 ≤ y := by rw [HY.out]; exact Int.ediv_nonneg HV.out.1 (Int.le_of_lt (Int.pow_pos (by decide)))
        have HWD : Hid (IntKind.u64.wrap (y.tdiv 2) = y / 2) := by
          refine Lib.hid ?_
          have h1 : y ≤ v := by rw [HY.out]; exact Int.ediv_le_self _ HV.out.1
          have h2 := HV.out.2
          rw [Int.tdiv_eq_ediv_of_nonneg hn0, IntKind.wrap_u64]; omega
        have HD : Hid (y / 2 = v / 2 ^ (k + 1)) := by
          refine Lib.hid ?_
          rw [HY.out, Int.pow_succ, Int.ediv_ediv_of_nonneg (Int.le_of_lt (Int.pow_pos (by decide)))]
        have HN := Lib.hid (hR.on0S hk1)
        have HO2 : Hid (∀ u, Only (fun i => i = b) w (wr.setCell ⟨b, k * 6 + 4, none⟩ u)) := Lib.hid fun u => hO.setCell (p := ⟨b, k * 6 + 4, none⟩) (.inl rfl) u
        by_cases hk0 : k = 0
        · have HB : Hid (onBits v k = false) := Lib.hid (by unfold onBits; rw [decide_eq_false (by omega), Bool.false_and])
          subst hk0
          rw [HB.out] at HN
          clear hR hO
          go_wp2
          go_roundw
          case rel => exact ⟨1, y / 2, by omega, rfl, by rw [HWD.out], HD, HN.out, HO2.out _⟩
          case measure => simp [intOf]
        · have HB : Hid (onBits v k = (y % 2 == 1)) := Lib.hid (by unfold onBits vbit; rw [decide_eq_true (by omega), Bool.true_and, HY.out])
          rw [HB.out] at HN
          have hk2 : (0 : Int) < (k : Int) := by omega
          have hk3 : 0 < k := by omega
          clear hR hO
          go_wp2
          go_roundw
          case rel => exact ⟨k + 1, y / 2, by omega, by go_num, by rw [HWD.out], HD, HN.out, HO2.out _⟩
          case measure => simp [intOf]; omega
      · obtain rfl : k = 32 := by omega
        have HF := Lib.hid hR.onAll
        clear hR hO
        go_wp2
        go_ret
        exact ⟨rfl, HO.out, HF.out⟩

set_option maxRecDepth 100000 in
set_option maxHeartbeats 4000000 in
theorem refWrite_on1 (w : World) (b : Nat) (t : PS) (h : RefP w b t) (v : Int) (hv : In64 v) :
    Calls Tryz.prog 99 #[.pointer (some ⟨b, 0, none⟩), .int .u64 8320, .int .i64 4, .int .u64 v] w (RefPEnd w b (.bool true) (onT t 1 (onBits v))) := by
  have H := Lib.hid h
  have HV := Lib.hid hv
  clear h hv
  go_enter Tryz.func99, Tryz.ntmps99
  go_wp2
  go_loop [9] (fun i => i = .int .i64 0 ∨ i = .int .i64 1) (fun i => (1 - intOf i).toNat)
  case atStart => exact .inl rfl
  case round =>
    rcases hrel with rfl | rfl
    · go_wp2
      exact ⟨.inr rfl, by simp [intOf]⟩
    go_wp2
    obtain ⟨wo, hwo⟩ : ∃ wo : World, wo = w := ⟨_, rfl⟩
    have HWO := Lib.hid hwo
    clear hwo
    go_loopw [11, 12] (fun x i wr => ∃ (k : Nat) (y : Int), k ≤ 32 ∧ i = .int .i64 k ∧ x = .int .u64 y ∧ Hid (y = v / 2 ^ k) ∧ RefP wr b (onK t 1 v k) ∧ Only (fun i => i = b) w wr) (fun _ i _ => (32 - intOf i).toNat)
    case atStart => exact ⟨0, v, by omega, rfl, rfl, Lib.hid (by simp), H.out.onNone 1 v, Only.refl _ _⟩
    case round =>
      obtain ⟨k, y, hk, rfl, rfl, HY, hR, hO⟩ := hrel
      have HO := Lib.hid hO
      have HR := Lib.hid hR
      by_cases hk1 : k < 32
      · have ck : wr.cell? ⟨b, k * 6 + 4 + 1, none⟩ = some (.bool ((onK t 1 v k).on k 1)) := hR.src (s := k) (j := 5) hk1 (by omega)
        have fk := hR.free (k * 6 + 4 + 1)
        have i1 : (k : Int) < 32 := by omega
        have hn0 : 0 ≤ y := by rw [HY.out]; exact Int.ediv_nonneg HV.out.1 (Int.le_of_lt (Int.pow_pos (by decide)))
        have HWD : Hid (IntKind.u64.wrap (y.tdiv 2) = y / 2) := by
          refine Lib.hid ?_
          have h1 : y ≤ v := by rw [HY.out]; exact Int.ediv_le_self _ HV.out.1
          have h2 := HV.out.2
          rw [Int.tdiv_eq_ediv_of_nonneg hn0, IntKind.wrap_u64]; omega
        have HD : Hid (y / 2 = v / 2 ^ (k + 1)) := by
          refine Lib.hid ?_
          rw [HY.out, Int.pow_succ, Int.ediv_ediv_of_nonneg (Int.le_of_lt (Int.pow_pos (by decide)))]
        have HN := Lib.hid (hR.on1S hk1)
        have HO2 : Hid (∀ u, Only (fun i => i = b) w (wr.setCell ⟨b, k * 6 + 4 + 1, none⟩ u)) := Lib.hid fun u => hO.setCell (p := ⟨b, k * 6 + 4 + 1, none⟩) (.inl rfl) u
        by_cases hk0 : k = 0
        · have HB : Hid (onBits v k = false) := Lib.hid (by unfold onBits; rw [decide_eq_false (by omega), Bool.false_and])
          subst hk0
          rw [HB.out] at HN
          clear hR hO
          go_wp2
          go_roundw
          case rel => exact ⟨1, y / 2, by omega, rfl, by rw [HWD.out], HD, HN.out, HO2.out _⟩
          case measure => simp [intOf]
        · have HB : Hid (onBits v k = (y % 2 == 1)) := Lib.hid (by unfold onBits vbit; rw [decide_eq_true (by omega), Bool.true_and, HY.out])
          rw [HB.out] at HN
          have hk2 : (0 : Int) < (k : Int) := by omega
          have hk3 : 0 < k := by omega
          clear hR hO
          go_wp2
          go_roundw
          case rel => exact ⟨k + 1, y / 2, by omega, by go_num, by rw [HWD.out], HD, HN.out, HO2.out _⟩
          case measure => simp [intOf]; omega
      · obtain rfl : k = 32 := by omega
        have HF := Lib.hid hR.onAll
        clear hR hO
        go_wp2
        go_ret
        exact ⟨rfl, HO.out, HF.out⟩

set_option maxRecDepth 100000 in
set_option maxHeartbeats 4000000 in
theorem refWrite_done0 (w : World) (b : Nat) (t : PS) (h : RefP w b t) (v : Int) (x : Nat) (hv : 0 ≤ v) (hx0 : v % 4294967296 = (x : Int)) :
    Calls Tryz.prog 99 #[.pointer (some ⟨b, 0, none⟩), .int .u64 2097156, .int .i64 4, .int .u64 v] w (RefPEnd w b (.bool true) (doneT t 0 x)) := by
  have H := Lib.hid h
  clear h
  have HX := Lib.hid hx0
  clear hx0
  go_enter Tryz.func99, Tryz.ntmps99
  go_wp2
  go_loop [9] (fun i => i = .int .i64 0) (fun _ => 0)
  case atStart => exact rfl
  case round =>
    obtain rfl := hrel
    have hxe := HX.out
    by_cases hx1 : 1 ≤ x
    · have d1 : decide ((1 : Int) ≤ (x : Int)) = true := by rw [decide_eq_true_eq]; omega
      by_cases hx2 : x ≤ 31
      · have d2 : decide ((x : Int) ≤ 31) = true := by rw [decide_eq_true_eq]; omega
        have con : w.cell? ⟨b, x * 6 + 4, none⟩ = some (.bool (t.on x 0)) := H.out.src (s := x) (j := 4) (by omega) (by omega)
        have cbu : w.cell? ⟨b, x * 6 + 3, none⟩ = some (.bool (t.busy x)) := H.out.src (s := x) (j := 3) (by omega) (by omega)
        have i1 : (x : Int) < 32 := by omega
        have hw1 : IntKind.i64.wrap (x : Int) = x := IntWalk.i64_in _ (by omega)
        have HM : Hid (mayB t 0 x = (t.on x 0 && t.busy x)) := Lib.hid (by unfold mayB; rw [decide_eq_true hx1, decide_eq_true hx2]; rfl)
        have f3 := H.out.free (x * 6 + 3)
        obtain ⟨p, hp⟩ : ∃ p, t.on x 0 = p := ⟨_, rfl⟩
        obtain ⟨q, hq⟩ : ∃ q, t.busy x = q := ⟨_, rfl⟩
        rw [hp] at con
        rw [hq] at cbu
        rw [hp, hq] at HM
        clear hp hq
        cases p with
        | false =>
          have HE : Hid (RefP w b (doneT t 0 x)) := Lib.hid (by unfold doneT; rw [HM.out, if_neg (by simp)]; exact H.out)
          go_wp2
          go_ret
          exact ⟨rfl, Only.refl _ _, HE.out⟩
        | true =>
        cases q with
        | false =>
          have HE : Hid (RefP w b (doneT t 0 x)) := Lib.hid (by unfold doneT; rw [HM.out, if_neg (by simp)]; exact H.out)
          go_wp2
          go_ret
          exact ⟨rfl, Only.refl _ _, HE.out⟩
        | true =>
          have HE : Hid (doneT t 0 x = lookP (idleP t x) x) := Lib.hid (by unfold doneT; rw [HM.out, if_pos (by rfl)])
          have h2 : Hid (RefP (w.setCell ⟨b, x * 6 + 3, none⟩ (.bool false)) b (idleP t x)) := Lib.hid (RefP.idleS (w := w) H.out (by omega))
          have ho : Hid (Only (fun i => i = b) w (w.setCell ⟨b, x * 6 + 3, none⟩ (.bool false))) := Lib.hid ((Only.refl (fun i => i = b) w).setCell (p := ⟨b, x * 6 + 3, none⟩) (.inl rfl) _)
          rw [HE.out]
          go_wp2_with fail
          refine (refLook_any _ b _ x h2.out (by omega)).mono ?_
          rintro e w' ⟨hu, ho2, hp⟩
          obtain ⟨u, rfl⟩ := hu
          have HO3 := Lib.hid (ho.out.trans ho2)
          have HP := Lib.hid hp
          clear ho2 hp
          go_wp2
          go_ret
          exact ⟨rfl, HO3.out, HP.out⟩
      · have d2 : decide ((x : Int) ≤ 31) = false := by rw [decide_eq_false_iff_not]; omega
        have HE : Hid (RefP w b (doneT t 0 x)) := Lib.hid (by unfold doneT mayB; rw [decide_eq_false hx2, if_neg (by simp)]; exact H.out)
        go_wp2
        go_ret
        exact ⟨rfl, Only.refl _ _, HE.out⟩
    · have d1 : decide ((1 : Int) ≤ (x : Int)) = false := by rw [decide_eq_false_iff_not]; omega
      have HE : Hid (RefP w b (doneT t 0 x)) := Lib.hid (by unfold doneT mayB; rw [decide_eq_false hx1, if_neg (by simp)]; exact H.out)
      go_wp2
      go_ret
      exact ⟨rfl, Only.refl _ _, HE.out⟩

set_option maxRecDepth 100000 in
set_option maxHeartbeats 4000000 in
theorem refWrite_done1 (w : World) (b : Nat) (t : PS) (h : RefP w b t) (v : Int) (x : Nat) (hv : 0 ≤ v) (hx0 : v % 4294967296 = (x : Int)) :
    Calls Tryz.prog 99 #[.pointer (some ⟨b, 0, none⟩), .int .u64 2101252, .int .i64 4, .int .u64 v] w (RefPEnd w b (.bool true) (doneT t 1 x)) := by
  have H := Lib.hid h
  clear h
  have HX := Lib.hid hx0
  clear hx0
  go_enter Tryz.func99, Tryz.ntmps99
  go_wp2
  go_loop [9] (fun i => i = .int .i64 0 ∨ i = .int .i64 1) (fun i => (1 - intOf i).toNat)
  case atStart => exact .inl rfl
  case round =>
    rcases hrel with rfl | rfl
    · go_wp2
      exact ⟨.inr rfl, by simp [intOf]⟩
    have hxe := HX.out
    by_cases hx1 : 1 ≤ x
    · have d1 : decide ((1 : Int) ≤ (x : Int)) = true := by rw [decide_eq_true_eq]; omega
      by_cases hx2 : x ≤ 31
      · have d2 : decide ((x : Int) ≤ 31) = true := by rw [decide_eq_true_eq]; omega
        have con : w.cell? ⟨b, x * 6 + 4 + 1, none⟩ = some (.bool (t.on x 1)) := H.out.src (s := x) (j := 5) (by omega) (by omega)
        have cbu : w.cell? ⟨b, x * 6 + 3, none⟩ = some (.bool (t.busy x)) := H.out.src (s := x) (j := 3) (by omega) (by omega)
        have i1 : (x : Int) < 32 := by omega
        have hw1 : IntKind.i64.wrap (x : Int) = x := IntWalk.i64_in _ (by omega)
        have HM : Hid (mayB t 1 x = (t.on x 1 && t.busy x)) := Lib.hid (by unfold mayB; rw [decide_eq_true hx1, decide_eq_true hx2]; rfl)
        have f3 := H.out.free (x * 6 + 3)
        obtain ⟨p, hp⟩ : ∃ p, t.on x 1 = p := ⟨_, rfl⟩
        obtain ⟨q, hq⟩ : ∃ q, t.busy x = q := ⟨_, rfl⟩
        rw [hp] at con
        rw [hq] at cbu
        rw [hp, hq] at HM
        clear hp hq
        cases p with
        | false =>
          have HE : Hid (RefP w b (doneT t 1 x)) := Lib.hid (by unfold doneT; rw [HM.out, if_neg (by simp)]; exact H.out)
          go_wp2
          go_ret
          exact ⟨rfl, Only.refl _ _, HE.out⟩
        | true =>
        cases q with
        | false =>
          have HE : Hid (RefP w b (doneT t 1 x)) := Lib.hid (by unfold doneT; rw [HM.out, if_neg (by simp)]; exact H.out)
          go_wp2
          go_ret
          exact ⟨rfl, Only.refl _ _, HE.out⟩
        | true =>
          have HE : Hid (doneT t 1 x = lookP (idleP t x) x) := Lib.hid (by unfold doneT; rw [HM.out, if_pos (by rfl)])
          have h2 : Hid (RefP (w.setCell ⟨b, x * 6 + 3, none⟩ (.bool false)) b (idleP t x)) := Lib.hid (RefP.idleS (w := w) H.out (by omega))
          have ho : Hid (Only (fun i => i = b) w (w.setCell ⟨b, x * 6 + 3, none⟩ (.bool false))) := Lib.hid ((Only.refl (fun i => i = b) w).setCell (p := ⟨b, x * 6 + 3, none⟩) (.inl rfl) _)
          rw [HE.out]
          go_wp2_with fail
          refine (refLook_any _ b _ x h2.out (by omega)).mono ?_
          rintro e w' ⟨hu, ho2, hp⟩
          obtain ⟨u, rfl⟩ := hu
          have HO3 := Lib.hid (ho.out.trans ho2)
          have HP := Lib.hid hp
          clear ho2 hp
          go_wp2
          go_ret
          exact ⟨rfl, HO3.out, HP.out⟩
      · have d2 : decide ((x : Int) ≤ 31) = false := by rw [decide_eq_false_iff_not]; omega
        have HE : Hid (RefP w b (doneT t 1 x)) := Lib.hid (by unfold doneT mayB; rw [decide_eq_false hx2, if_neg (by simp)]; exact H.out)
        go_wp2
        go_ret
        exact ⟨rfl, Only.refl _ _, HE.out⟩
    · have d1 : decide ((1 : Int) ≤ (x : Int)) = false := by rw [decide_eq_false_iff_not]; omega
      have HE : Hid (RefP w b (doneT t 1 x)) := Lib.hid (by unfold doneT mayB; rw [decide_eq_false hx1, if_neg (by simp)]; exact H.out)
      go_wp2
      go_ret
      exact ⟨rfl, Only.refl _ _, HE.out⟩

set_option maxRecDepth 100000 in
set_option maxHeartbeats 2000000 in
theorem refWrite_no (w : World) (b : Nat) (off v : Int) (hn : NoPlic off) (h0 : 0 ≤ off) :
    Calls Tryz.prog 99 #[.pointer (some ⟨b, 0, none⟩), .int .u64 off, .int .i64 4, .int .u64 v] w fun e w' => e = .returned (.bool false) ∧ w = w' := by
  have hp := hn.prio
  have e1 := neB hn.pend
  have e2 := neB hn.on0
  have e3 := neB hn.on1
  have e4 := neB hn.fl0
  have e5 := neB hn.fl1
  have e6 := neB hn.cl0
  have e7 := neB hn.cl1
  clear hn
  by_cases h1 : off < 128
  · have h2 : (off % 4 == 0) = false := by simp; omega
    clear hp
    go_enter Tryz.func99, Tryz.ntmps99
    go_wp2
    go_loop [9] (fun i => i = .int .i64 0 ∨ i = .int .i64 1 ∨ i = .int .i64 2) (fun i => (2 - intOf i).toNat)
    case atStart => exact .inl rfl
    case round =>
      rcases hrel with rfl | rfl | rfl
      · go_wp2
        exact ⟨.inr (.inl rfl), by simp [intOf]⟩
      · go_wp2
        exact ⟨.inr (.inr rfl), by simp [intOf]⟩
      · go_wp2
        go_ret
        exact ⟨rfl, rfl⟩
  · have h2 : decide (off < 128) = false := decide_eq_false h1
    clear hp
    go_enter Tryz.func99, Tryz.ntmps99
    go_wp2
    go_loop [9] (fun i => i = .int .i64 0 ∨ i = .int .i64 1 ∨ i = .int .i64 2) (fun i => (2 - intOf i).toNat)
    case atStart => exact .inl rfl
    case round =>
      rcases hrel with rfl | rfl | rfl
      · go_wp2
        exact ⟨.inr (.inl rfl), by simp [intOf]⟩
      · go_wp2
        exact ⟨.inr (.inr rfl), by simp [intOf]⟩
      · go_wp2
        go_ret
        exact ⟨rfl, rfl⟩

end Go.Proofs.YtbcnkhfpogglmaaGreatDoor.P5

namespace Go.Proofs.YtbcnkhfpogglmaaGreatDoor.P5
open Go.RowKit
set_option linter.unusedVariables false
set_option maxRecDepth 100000

/-- What is always so of a plic. -/
structure PS.ok (t : PS) : Prop where
  prio0 : t.prio 0 = 0
  on0 : ∀ c, t.on 0 c = false
  pend0 : t.pend 0 = false
  up0 : t.up 0 = false
  pr : ∀ s, 0 ≤ t.prio s ∧ t.prio s < 8
  fl : ∀ c, 0 ≤ t.floor c ∧ t.floor c < 8
def cellQ (t : PS) (i : Nat) : Value :=
  if i = 0 then .int .u32 (bits32 t.up) else if i = 1 then .int .u32 (bits32 t.pend) else if i = 2 then .int .u32 (bits32 t.busy)
  else if i < 35 then .int .u8 (t.prio (i - 3)) else if i < 37 then .int .u32 (bits32 fun s => t.on s (i - 35)) else .int .u8 (t.floor (i - 37))
/-- The program's plic t stands in block b. -/
def ProgP (w : World) (b : Nat) (t : PS) : Prop := w.heap[b]? = some (.cells (varr 39 (cellQ t)) 69 (0, 0)) ∧ t.ok
theorem ProgP.lt {w : World} {b : Nat} {t : PS} (h : ProgP w b t) : b < w.heap.size := (Array.getElem?_eq_some_iff.1 h.1).1
theorem ProgP.below {w w' : World} {b : Nat} {t : PS} (h : ProgP w b t) (o : Below w.heap.size w w') : ProgP w' b t := ⟨(o.block b h.lt).trans h.1, h.2⟩
theorem ProgP.keeps {w w' : World} {b : Nat} {t : PS} {T : Nat → Prop} (h : ProgP w b t) (o : Only T w w') (hb : ¬ T b) : ProgP w' b t := ⟨o.keeps hb h.1, h.2⟩
theorem ProgP.free {w : World} {b : Nat} {t : PS} (h : ProgP w b t) (k : Nat) : w.frozen? ⟨b, k, none⟩ = false := frozen_of_row w b k _ _ h.1
theorem ProgP.cell {w : World} {b : Nat} {t : PS} (h : ProgP w b t) {i : Nat} (hi : i < 39) {v : Value} (hv : cellQ t i = v) : w.cell? ⟨b, i, none⟩ = some v := by
  rw [cell_of_row w b _ _ _ _ h.1, varr_get _ _ _ hi, hv]
theorem cellQ_prio (t : PS) {s : Nat} (hs : s < 32) : cellQ t (3 + s) = .int .u8 (t.prio s) := by
  unfold cellQ
  rw [if_neg (by omega), if_neg (by omega), if_neg (by omega), if_pos (by omega), show 3 + s - 3 = s by omega]
theorem cellQ_on (t : PS) {c : Nat} (hc : c < 2) : cellQ t (35 + c) = .int .u32 (bits32 fun s => t.on s c) := by
  unfold cellQ
  rw [if_neg (by omega), if_neg (by omega), if_neg (by omega), if_neg (by omega), if_pos (by omega), show 35 + c - 35 = c by omega]
theorem cellQ_floor (t : PS) {c : Nat} (hc : c < 2) : cellQ t (37 + c) = .int .u8 (t.floor c) := by
  unfold cellQ
  rw [if_neg (by omega), if_neg (by omega), if_neg (by omega), if_neg (by omega), if_neg (by omega), show 37 + c - 37 = c by omega]
theorem ProgP.up_ {w : World} {b : Nat} {t : PS} (h : ProgP w b t) : w.cell? ⟨b, 0, none⟩ = some (.int .u32 (bits32 t.up)) := h.cell (by omega) rfl
theorem ProgP.pend_ {w : World} {b : Nat} {t : PS} (h : ProgP w b t) : w.cell? ⟨b, 1, none⟩ = some (.int .u32 (bits32 t.pend)) := h.cell (by omega) rfl
theorem ProgP.busy_ {w : World} {b : Nat} {t : PS} (h : ProgP w b t) : w.cell? ⟨b, 2, none⟩ = some (.int .u32 (bits32 t.busy)) := h.cell (by omega) rfl
theorem ProgP.prio_ {w : World} {b : Nat} {t : PS} (h : ProgP w b t) {s : Nat} (hs : s < 32) : w.cell? ⟨b, 3 + s, none⟩ = some (.int .u8 (t.prio s)) := h.cell (by omega) (cellQ_prio t hs)
theorem ProgP.on_ {w : World} {b : Nat} {t : PS} (h : ProgP w b t) {c : Nat} (hc : c < 2) : w.cell? ⟨b, 35 + c, none⟩ = some (.int .u32 (bits32 fun s => t.on s c)) := h.cell (by omega) (cellQ_on t hc)
theorem ProgP.floor_ {w : World} {b : Nat} {t : PS} (h : ProgP w b t) {c : Nat} (hc : c < 2) : w.cell? ⟨b, 37 + c, none⟩ = some (.int .u8 (t.floor c)) := h.cell (by omega) (cellQ_floor t hc)
/-- One cell turned. -/
theorem ProgP.set {w : World} {b : Nat} {t t' : PS} (h : ProgP w b t) {k : Nat} (v : Value) (ok : t'.ok) (he : ∀ i, i < 39 → cellQ t' i = if i = k then v else cellQ t i) : ProgP (w.setCell ⟨b, k, none⟩ v) b t' := by
  refine ⟨?_, ok⟩
  rw [heap_setCell_same w b _ _ _ _ h.1, varr_set]
  rw [show (varr 39 fun i => if i = k then v else cellQ t i) = varr 39 (cellQ t') from varr_congr fun i hi => (he i hi).symm]
theorem cells_eq {t t' : PS} {k : Nat} {v : Value} (h0 : Value.int .u32 (bits32 t'.up) = if 0 = k then v else .int .u32 (bits32 t.up)) (h1 : Value.int .u32 (bits32 t'.pend) = if 1 = k then v else .int .u32 (bits32 t.pend))
    (h2 : Value.int .u32 (bits32 t'.busy) = if 2 = k then v else .int .u32 (bits32 t.busy)) (hp : ∀ s, s < 32 → Value.int .u8 (t'.prio s) = if 3 + s = k then v else .int .u8 (t.prio s))
    (ho : ∀ c, c < 2 → Value.int .u32 (bits32 fun s => t'.on s c) = if 35 + c = k then v else .int .u32 (bits32 fun s => t.on s c)) (hf : ∀ c, c < 2 → Value.int .u8 (t'.floor c) = if 37 + c = k then v else .int .u8 (t.floor c)) :
    ∀ i, i < 39 → cellQ t' i = if i = k then v else cellQ t i := by
  intro i hi
  have hc : i = 0 ∨ i = 1 ∨ i = 2 ∨ (∃ s, s < 32 ∧ i = 3 + s) ∨ (∃ c, c < 2 ∧ i = 35 + c) ∨ ∃ c, c < 2 ∧ i = 37 + c := by
    by_cases i0 : i < 3
    · omega
    · by_cases i1 : i < 35
      · exact .inr (.inr (.inr (.inl ⟨i - 3, by omega, by omega⟩)))
      · by_cases i2 : i < 37
        · exact .inr (.inr (.inr (.inr (.inl ⟨i - 35, by omega, by omega⟩))))
        · exact .inr (.inr (.inr (.inr (.inr ⟨i - 37, by omega, by omega⟩))))
  rcases hc with rfl | rfl | rfl | ⟨s, hs, rfl⟩ | ⟨c, hc, rfl⟩ | ⟨c, hc, rfl⟩
  · exact h0
  · exact h1
  · exact h2
  · rw [cellQ_prio t' hs, cellQ_prio t hs]; exact hp s hs
  · rw [cellQ_on t' hc, cellQ_on t hc]; exact ho c hc
  · rw [cellQ_floor t' hc, cellQ_floor t hc]; exact hf c hc
theorem ProgP.setUp {w : World} {b : Nat} {t : PS} (h : ProgP w b t) {s : Nat} (hs : 1 ≤ s) (u : Bool) : ProgP (w.setCell ⟨b, 0, none⟩ (.int .u32 (bits32 (upd t.up s u)))) b (upP t s u) :=
  h.set _ ⟨h.2.prio0, h.2.on0, h.2.pend0, (upd_other t.up u (show ¬ 0 = s by omega)).trans h.2.up0, h.2.pr, h.2.fl⟩ (cells_eq rfl rfl rfl (fun s _ => (if_neg (by omega)).symm) (fun c _ => (if_neg (by omega)).symm) (fun c _ => (if_neg (by omega)).symm))
theorem ProgP.setPend {w : World} {b : Nat} {t : PS} (h : ProgP w b t) (f : Nat → Bool) (h0 : f 0 = false) : ProgP (w.setCell ⟨b, 1, none⟩ (.int .u32 (bits32 f))) b { t with pend := f } :=
  h.set _ ⟨h.2.prio0, h.2.on0, h0, h.2.up0, h.2.pr, h.2.fl⟩ (cells_eq rfl rfl rfl (fun s _ => (if_neg (by omega)).symm) (fun c _ => (if_neg (by omega)).symm) (fun c _ => (if_neg (by omega)).symm))
theorem ProgP.setBusy {w : World} {b : Nat} {t : PS} (h : ProgP w b t) (f : Nat → Bool) : ProgP (w.setCell ⟨b, 2, none⟩ (.int .u32 (bits32 f))) b { t with busy := f } :=
  h.set _ ⟨h.2.prio0, h.2.on0, h.2.pend0, h.2.up0, h.2.pr, h.2.fl⟩ (cells_eq rfl rfl rfl (fun s _ => (if_neg (by omega)).symm) (fun c _ => (if_neg (by omega)).symm) (fun c _ => (if_neg (by omega)).symm))
theorem ok_prio {t : PS} (h : t.ok) {s : Nat} (hs : 1 ≤ s) {v : Int} (h0 : 0 ≤ v) (h8 : v < 8) : (prioT t s v).ok :=
  ⟨(upd_other t.prio v (show ¬ 0 = s by omega)).trans h.prio0, h.on0, h.pend0, h.up0, fun i => by
    show 0 ≤ upd t.prio s v i ∧ upd t.prio s v i < 8
    unfold upd; split
    · exact ⟨h0, h8⟩
    · exact h.pr i, h.fl⟩
theorem ok_floor {t : PS} (h : t.ok) (c : Nat) {v : Int} (h0 : 0 ≤ v) (h8 : v < 8) : (floorT t c v).ok :=
  ⟨h.prio0, h.on0, h.pend0, h.up0, h.pr, fun i => by
    rw [floorT_at]; split
    · exact ⟨h0, h8⟩
    · exact h.fl i⟩
theorem ok_on {t : PS} (h : t.ok) (c : Nat) {f : Nat → Bool} (h0 : f 0 = false) : (onT t c f).ok :=
  ⟨h.prio0, fun i => by show (if i = c then f 0 else t.on 0 i) = false; split; exact h0; exact h.on0 i, h.pend0, h.up0, h.pr, h.fl⟩
theorem ProgP.setPrio {w : World} {b : Nat} {t : PS} (h : ProgP w b t) {s : Nat} (hs : 1 ≤ s) (hs2 : s < 32) {v : Int} (h0 : 0 ≤ v) (h8 : v < 8) : ProgP (w.setCell ⟨b, 3 + s, none⟩ (.int .u8 v)) b (prioT t s v) :=
  h.set _ (ok_prio h.2 hs h0 h8) (cells_eq (if_neg (by omega)).symm (if_neg (by omega)).symm (if_neg (by omega)).symm (fun i _ => by
    show Value.int .u8 (upd t.prio s v i) = _
    unfold upd
    by_cases e : i = s
    · rw [if_pos e, if_pos (by omega)]
    · rw [if_neg e, if_neg (by omega)]) (fun c _ => (if_neg (by omega)).symm) (fun c _ => (if_neg (by omega)).symm))
theorem ProgP.setFloor {w : World} {b : Nat} {t : PS} (h : ProgP w b t) {c : Nat} (hc : c < 2) {v : Int} (h0 : 0 ≤ v) (h8 : v < 8) : ProgP (w.setCell ⟨b, 37 + c, none⟩ (.int .u8 v)) b (floorT t c v) :=
  h.set _ (ok_floor h.2 c h0 h8) (cells_eq (if_neg (by omega)).symm (if_neg (by omega)).symm (if_neg (by omega)).symm (fun i _ => (if_neg (by omega)).symm) (fun i _ => (if_neg (by omega)).symm) (fun i _ => by
    rw [floorT_at]
    by_cases e : i = c
    · rw [if_pos e, if_pos (by omega)]
    · rw [if_neg e, if_neg (by omega)]))
theorem ProgP.setOn {w : World} {b : Nat} {t : PS} (h : ProgP w b t) {c : Nat} (hc : c < 2) (f : Nat → Bool) (h0 : f 0 = false) : ProgP (w.setCell ⟨b, 35 + c, none⟩ (.int .u32 (bits32 f))) b (onT t c f) :=
  h.set _ (ok_on h.2 c h0) (cells_eq (if_neg (by omega)).symm (if_neg (by omega)).symm (if_neg (by omega)).symm (fun i _ => (if_neg (by omega)).symm) (fun i _ => by
    show Value.int .u32 (bits32 fun s => if i = c then f s else t.on s i) = _
    by_cases e : i = c
    · rw [if_pos (show 35 + i = 35 + c by omega)]; congr 1; exact bits32_congr fun s _ => if_pos e
    · rw [if_neg (by omega)]; congr 1; exact bits32_congr fun s _ => if_neg e) (fun i _ => (if_neg (by omega)).symm))

/-! ### small calls -/
theorem isSource_any (s : Int) (w : World) : Calls Tryz.prog 90 #[.int .i64 s] w fun e w' => e = .returned (.bool (isS s)) ∧ w = w' := by
  by_cases h1 : 1 ≤ s
  · by_cases h2 : s < 32
    · have HE : Hid (true = isS s) := Lib.hid (by unfold isS; rw [decide_eq_true ⟨h1, by omega⟩])
      go_enter Tryz.func90, Tryz.ntmps90
      go_wp2
      go_ret
      exact ⟨by rw [← HE.out]; rfl, rfl⟩
    · have HE : Hid (false = isS s) := Lib.hid (by unfold isS; symm; rw [decide_eq_false_iff_not]; omega)
      go_enter Tryz.func90, Tryz.ntmps90
      go_wp2
      go_ret
      exact ⟨by rw [← HE.out]; rfl, rfl⟩
  · have HE : Hid (false = isS s) := Lib.hid (by unfold isS; symm; rw [decide_eq_false_iff_not]; omega)
    go_enter Tryz.func90, Tryz.ntmps90
    go_wp2
    go_ret
    exact ⟨by rw [← HE.out]; rfl, rfl⟩
def isC (c : Int) : Bool := decide (c = 0 ∨ c = 1)
theorem isContext_any (c : Int) (w : World) : Calls Tryz.prog 85 #[.int .i64 c] w fun e w' => e = .returned (.bool (isC c)) ∧ w = w' := by
  by_cases h1 : 0 ≤ c
  · by_cases h2 : c < 2
    · have HE : Hid (true = isC c) := Lib.hid (by unfold isC; rw [decide_eq_true (by omega)])
      go_enter Tryz.func85, Tryz.ntmps85
      go_wp2
      go_ret
      exact ⟨by rw [← HE.out]; rfl, rfl⟩
    · have HE : Hid (false = isC c) := Lib.hid (by unfold isC; symm; rw [decide_eq_false_iff_not]; omega)
      go_enter Tryz.func85, Tryz.ntmps85
      go_wp2
      go_ret
      exact ⟨by rw [← HE.out]; rfl, rfl⟩
  · have HE : Hid (false = isC c) := Lib.hid (by unfold isC; symm; rw [decide_eq_false_iff_not]; omega)
    go_enter Tryz.func85, Tryz.ntmps85
    go_wp2
    go_ret
    exact ⟨by rw [← HE.out]; rfl, rfl⟩
theorem bitQ (f : Nat → Bool) (s : Nat) (hs : s < 32) (u : Bool) (hu : f s = u) (w : World) : Calls Tryz.prog 87 #[.int .u32 (bits32 f), .int .i64 s] w fun e w' => e = .returned (.bool u) ∧ w = w' := by
  subst hu
  have h := bit32_any (bits32 f) (s : Int) (bits32_bd f).1 (bits32_bd f).2 w
  rw [bit32_is f hs] at h
  exact h
theorem bitQ_out (f : Nat → Bool) (i : Int) (hi : ¬ (0 ≤ i ∧ i < 32)) (w : World) : Calls Tryz.prog 87 #[.int .u32 (bits32 f), .int .i64 i] w fun e w' => e = .returned (.bool false) ∧ w = w' := by
  have h := bit32_any (bits32 f) i (bits32_bd f).1 (bits32_bd f).2 w
  rw [bit32_out f hi] at h
  exact h
theorem one_shl {k : Nat} (hk : k < 32) : IntKind.u32.wrap (2 ^ k) = 2 ^ k := by
  have h1 := two_pow_le (show k ≤ 31 by omega)
  have h2 : (0 : Int) < 2 ^ k := Int.pow_pos (by decide)
  rw [IntKind.wrap_u32]; omega
def SetQ (w : World) (b : Nat) (t' : PS) (e : Ending) (w' : World) : Prop := (∃ u, e = .returned u) ∧ Only (fun i => i = b) w w' ∧ ProgP w' b t'

end Go.Proofs.YtbcnkhfpogglmaaGreatDoor.P5

namespace Go.Proofs.YtbcnkhfpogglmaaGreatDoor.P5
open Go.RowKit
set_option linter.unusedVariables false
set_option maxRecDepth 100000

theorem below_drewN {B : Nat} {a w : World} (h : Below B a w) (n : Nat) : Below B a (w.drewN n) := ⟨h.os, h.tape, h.output, h.size, h.block⟩
theorem upd0 {f : Nat → Bool} {s : Nat} (h0 : f 0 = false) (hs : 1 ≤ s) (u : Bool) : upd f s u 0 = false := (upd_other f u (show ¬ 0 = s by omega)).trans h0
set_option maxHeartbeats 1000000 in
theorem look_any (w : World) (b : Nat) (t : PS) (h : ProgP w b t) (s : Nat) (h1 : 1 ≤ s) (hs : s < 32) :
    Calls Tryz.prog 91 #[.pointer (some ⟨b, 0, none⟩), .int .i64 s] w (SetQ w b (lookP t s)) := by
  have c0 := h.up_
  have c1 := h.pend_
  have c2 := h.busy_
  have f1 := h.free 1
  have H := Lib.hid h
  have HN : Hid (ProgP (w.drew.setCell ⟨b, 1, none⟩ (.int .u32 (bits32 (upd t.pend s true)))) b { t with pend := upd t.pend s true }) := Lib.hid (ProgP.setPend (w := w.drew) ⟨h.1, h.2⟩ _ (upd0 h.2.pend0 h1 true))
  have HO : Hid (Only (fun i => i = b) w (w.drew.setCell ⟨b, 1, none⟩ (.int .u32 (bits32 (upd t.pend s true))))) := Lib.hid (Only.setCell ((Only.refl (fun i => i = b) w).drewN 1) (p := ⟨b, 1, none⟩) (.inl rfl) _)
  have H1 := Lib.hid (one_shl hs)
  have H2 := Lib.hid (set32 t.pend hs)
  clear h
  generalize hu : t.up s = u at *
  generalize hb : t.busy s = v at *
  have HU := Lib.hid hu
  have HB := Lib.hid hb
  have HL : Hid (lookP t s = if u && !v then { t with pend := upd t.pend s true } else t) := Lib.hid (by unfold lookP; rw [hu, hb])
  clear hu hb
  cases u with
  | false =>
    have HE : Hid (lookP t s = t) := Lib.hid (by rw [HL.out]; rfl)
    rw [HE.out]
    go_enter Tryz.func91, Tryz.ntmps91
    go_wp2_with fail
    (with_reducible refine (bitQ t.up s hs _ HU.out _).mono ?_)
    rintro e w' ⟨rfl, rfl⟩
    go_wp2
    go_end0
    exact ⟨⟨_, rfl⟩, Only.refl _ _, H.out⟩
  | true =>
  cases v with
  | true =>
    have HE : Hid (lookP t s = t) := Lib.hid (by rw [HL.out]; rfl)
    rw [HE.out]
    go_enter Tryz.func91, Tryz.ntmps91
    go_wp2_with fail
    (with_reducible refine (bitQ t.up s hs _ HU.out _).mono ?_)
    rintro e w' ⟨rfl, rfl⟩
    go_wp2_with fail
    (with_reducible refine (bitQ t.busy s hs _ HB.out _).mono ?_)
    rintro e w' ⟨rfl, rfl⟩
    go_wp2
    go_end0
    exact ⟨⟨_, rfl⟩, Only.refl _ _, H.out⟩
  | false =>
    have HE : Hid (lookP t s = { t with pend := upd t.pend s true }) := Lib.hid (by rw [HL.out]; rfl)
    rw [HE.out]
    go_enter Tryz.func91, Tryz.ntmps91
    go_wp2_with fail
    (with_reducible refine (bitQ t.up s hs _ HU.out _).mono ?_)
    rintro e w' ⟨rfl, rfl⟩
    go_wp2_with fail
    (with_reducible refine (bitQ t.busy s hs _ HB.out _).mono ?_)
    rintro e w' ⟨rfl, rfl⟩
    go_wp2_with fail
    go_still_tail 9, (by kernel_rfl)
    change wpList _ _ _ _ _ w.drew
    have d1 : w.drew.frozen? ⟨b, 1, none⟩ = false := f1
    have e1 := H1.out
    have e2 := H2.out
    go_wp2
    go_end0
    exact ⟨⟨_, rfl⟩, HO.out, HN.out⟩

/-- Its value. -/
def progPV (t : PS) : Value := .agg (varr 39 (cellQ t))
theorem progP_boxed (w : World) {t : PS} (ok : t.ok) : ProgP (w.alloc (.cells (varr 39 (cellQ t)) 69)) w.heap.size t := ⟨heap_alloc_new w _, ok⟩
def ProgEnd (w : World) (b : Nat) (r : Value) (t' : PS) (e : Ending) (w' : World) : Prop := e = .returned r ∧ Only (fun i => i = b) w w' ∧ ProgP w' b t'
set_option maxHeartbeats 1000000 in
theorem level_any (w : World) (b : Nat) (t : PS) (s : Int) (u : Bool) (h : ProgP w b t) :
    Calls Tryz.prog 45 #[.pointer (some ⟨b, 0, none⟩), .int .i64 s, .bool u] w (ProgEnd w b (.bool (isS s)) (levelP t s u)) := by
  cases hs : isS s with
  | false =>
    have HE : Hid (ProgEnd w b (.bool false) (levelP t s u) (.returned (.bool false)) w) := by
      refine Lib.hid ⟨rfl, Only.refl _ _, ?_⟩
      unfold levelP; rw [hs, if_neg (by simp)]; exact h
    have HS := Lib.hid hs
    clear h hs
    go_enter Tryz.func45, Tryz.ntmps45
    go_wp2_with fail
    (with_reducible refine (isSource_any _ _).mono ?_)
    rintro e w' ⟨rfl, rfl⟩
    rw [HS.out]
    go_wp2
    go_ret
    exact HE.out
  | true =>
    obtain ⟨k, rfl, hk1, hk2⟩ := isS_nat hs
    have HS := Lib.hid hs
    have HL : Hid (levelP t (k : Int) u = lookP (upP t k u) k) := by
      refine Lib.hid ?_
      unfold levelP; rw [hs, if_pos rfl]; rfl
    have c0 := h.up_
    have f0 := h.free 0
    have HN : Hid (ProgP (w.drew.setCell ⟨b, 0, none⟩ (.int .u32 (bits32 (upd t.up k u)))) b (upP t k u)) := Lib.hid (ProgP.setUp (w := w.drew) ⟨h.1, h.2⟩ hk1 u)
    have HO : Hid (Only (fun i => i = b) w (w.drew.setCell ⟨b, 0, none⟩ (.int .u32 (bits32 (upd t.up k u))))) := Lib.hid (Only.setCell ((Only.refl (fun i => i = b) w).drewN 1) (p := ⟨b, 0, none⟩) (.inl rfl) _)
    have H1 := Lib.hid (one_shl hk2)
    have H2 := Lib.hid (set32 t.up hk2)
    have H3 := Lib.hid (clr32 t.up hk2)
    clear h hs
    rw [HL.out]
    cases u <;>
    · go_enter Tryz.func45, Tryz.ntmps45
      go_wp2_with fail
      (with_reducible refine (isSource_any _ _).mono ?_)
      rintro e w' ⟨rfl, rfl⟩
      rw [HS.out]
      go_wp2_with fail
      go_still_tail 9, (by kernel_rfl)
      change wpList _ _ _ _ _ w.drew
      have d1 : w.drew.frozen? ⟨b, 0, none⟩ = false := f0
      have d0 : w.drew.cell? ⟨b, 0, none⟩ = some (.int .u32 (bits32 t.up)) := c0
      generalize w.drew = wd at *
      have e1 := H1.out
      have e2 := H2.out
      have e3 := H3.out
      go_wp2_with fail
      clear e1 e2 e3
      (with_reducible refine (look_any _ b _ HN.out k hk1 hk2).mono ?_)
      rintro e w' ⟨hu, ho, hp⟩
      obtain ⟨v, rfl⟩ := hu
      have HO2 := Lib.hid (HO.out.trans ho)
      have HP := Lib.hid hp
      clear ho hp
      go_wp2
      go_ret
      exact ⟨rfl, HO2.out, HP.out⟩

theorem setPriority_no (w : World) (b : Nat) (i v : Int) (hi : isS i = false) : Calls Tryz.prog 126 #[.pointer (some ⟨b, 0, none⟩), .int .i64 i, .int .u64 v] w fun e w' => (∃ u, e = .returned u) ∧ w = w' := by
  have HI := Lib.hid hi
  clear hi
  go_enter Tryz.func126, Tryz.ntmps126
  go_wp2_with fail
  (with_reducible refine (isSource_any _ _).mono ?_)
  rintro e w' ⟨rfl, rfl⟩
  rw [HI.out]
  go_wp2
  go_end0
  exact ⟨⟨_, rfl⟩, rfl⟩
theorem wrap_u8 {x : Int} (h0 : 0 ≤ x) (h1 : x < 8) : IntKind.u8.wrap x = x := by rw [IntKind.wrap_u8]; omega
set_option maxHeartbeats 1000000 in
theorem setPriority_yes (w : World) (b : Nat) (t : PS) (h : ProgP w b t) (k : Nat) (h1 : 1 ≤ k) (h2 : k < 32) (v : Int) (hv : In64 v) :
    Calls Tryz.prog 126 #[.pointer (some ⟨b, 0, none⟩), .int .i64 k, .int .u64 v] w (SetQ w b (prioT t k (v % 8))) := by
  have HI : Hid (isS (k : Int) = true) := Lib.hid (by unfold isS; rw [decide_eq_true (by omega)])
  have HV := Lib.hid hv
  have h8 := low3 hv
  have hr1 := Int.emod_nonneg v (show (8 : Int) ≠ 0 by decide)
  have hr2 := Int.emod_lt_of_pos v (show (0 : Int) < 8 by decide)
  have HN : Hid (∀ n, ProgP ((w.drewN n).setCell ⟨b, 3 + k, none⟩ (.int .u8 (v % 8))) b (prioT t k (v % 8))) := Lib.hid fun n => ProgP.setPrio (w := w.drewN n) ⟨h.1, h.2⟩ h1 h2 hr1 hr2
  have HO : Hid (∀ n, Only (fun i => i = b) w ((w.drewN n).setCell ⟨b, 3 + k, none⟩ (.int .u8 (v % 8)))) := Lib.hid fun n => Only.setCell ((Only.refl (fun i => i = b) w).drewN n) (p := ⟨b, 3 + k, none⟩) (.inl rfl) _
  have H8 := Lib.hid (wrap_u8 hr1 hr2)
  have ff := h.free (3 + k)
  have cc := h.prio_ h2
  have i1 : (k : Int) < 32 := by omega
  have HL := Lib.hid h8
  clear h hv h8 hr1 hr2
  go_enter Tryz.func126, Tryz.ntmps126
  go_wp2_with fail
  (with_reducible refine (isSource_any _ _).mono ?_)
  rintro e w' ⟨rfl, rfl⟩
  rw [HI.out]
  go_wp2_with fail
  go_region_with (go_at_call 117; refine (field_any _ _ _ HV.out _).mono ?_; rintro e w' ⟨rfl, q, rfl⟩; rw [HL.out]; have e8 := H8.out; have f8 : (w.drew.drewN q).frozen? ⟨b, 3 + k, none⟩ = false := ff; have g8 : (w.drew.drewN q).cell? ⟨b, 3 + k, none⟩ = some (.int .u8 (t.prio k)) := cc)
  go_end0
  exact ⟨⟨_, rfl⟩, HO.out _, HN.out _⟩

set_option maxHeartbeats 1000000 in
theorem complete_any (w : World) (b : Nat) (t : PS) (h : ProgP w b t) (c : Nat) (hc : c < 2) (x : Nat) :
    Calls Tryz.prog 127 #[.pointer (some ⟨b, 0, none⟩), .int .i64 c, .int .i64 x] w (SetQ w b (doneT t c x)) := by
  have con := h.on_ hc
  have cbu := h.busy_
  have fbu := h.free 2
  have H := Lib.hid h
  have i1 : (c : Int) < 2 := by omega
  have hand := both32 (fun s => t.on s c) t.busy
  by_cases hx : x < 32
  · obtain ⟨u, hu⟩ : ∃ u, (t.on x c && t.busy x) = u := ⟨_, rfl⟩
    have HU := Lib.hid hu
    cases u with
    | false =>
      have HE : Hid (doneT t c x = t) := Lib.hid (by
        unfold doneT mayB
        rw [if_neg]
        rw [Bool.and_assoc, hu]; simp)
      rw [HE.out]
      clear hu h
      go_enter Tryz.func127, Tryz.ntmps127
      go_wp2_with fail
      go_quiet ((go_at_call 87; exact Calls.quiet_of_same ((bitQ (fun s => t.on s c && t.busy s) x hx false HU.out _).mono fun e w' h => ⟨h.1, h.2.symm⟩)))
      go_wp2
      go_end0
      exact ⟨⟨_, rfl⟩, (Only.refl _ _).drewN _, H.out⟩
    | true =>
      have hx1 : 1 ≤ x := by
        rcases Nat.eq_zero_or_pos x with rfl | h0
        · rw [h.2.on0] at hu; cases hu
        · exact h0
      have HE : Hid (doneT t c x = lookP (idleP t x) x) := Lib.hid (by
        unfold doneT mayB
        rw [Bool.and_assoc, hu, if_pos]
        simp; omega)
      rw [HE.out]
      have H1 := Lib.hid (one_shl hx)
      have H2 := Lib.hid (clr32 t.busy hx)
      clear hu h
      go_enter Tryz.func127, Tryz.ntmps127
      go_wp2_with fail
      go_quiet ((go_at_call 87; exact Calls.quiet_of_same ((bitQ (fun s => t.on s c && t.busy s) x hx true HU.out _).mono fun e w' h => ⟨h.1, h.2.symm⟩)))
      have dbu : (w.drewN nq).cell? ⟨b, 2, none⟩ = some (.int .u32 (bits32 t.busy)) := cbu
      have dfu : (w.drewN nq).frozen? ⟨b, 2, none⟩ = false := fbu
      have HQ : Hid (ProgP (w.drewN nq) b t) := Lib.hid H.out
      have HW : Hid (Only (fun i => i = b) w (w.drewN nq)) := Lib.hid ((Only.refl _ _).drewN nq)
      generalize w.drewN nq = wq at *
      go_wp2_with fail
      go_still_tail 9, (by kernel_rfl)
      have HN : Hid (ProgP (wq.drew.setCell ⟨b, 2, none⟩ (.int .u32 (bits32 (upd t.busy x false)))) b (idleP t x)) := Lib.hid (ProgP.setBusy (w := wq.drew) HQ.out _)
      have HO : Hid (Only (fun i => i = b) w (wq.drew.setCell ⟨b, 2, none⟩ (.int .u32 (bits32 (upd t.busy x false))))) := Lib.hid (Only.setCell (HW.out.drewN 1) (p := ⟨b, 2, none⟩) (.inl rfl) _)
      change wpList _ _ _ _ _ wq.drew
      have d1 : wq.drew.frozen? ⟨b, 2, none⟩ = false := dfu
      have d0 : wq.drew.cell? ⟨b, 2, none⟩ = some (.int .u32 (bits32 t.busy)) := dbu
      generalize wq.drew = wd at *
      have e1 := H1.out
      have e2 := H2.out
      clear hand
      go_wp2_with fail
      clear e1 e2
      (with_reducible refine (look_any _ b _ HN.out x hx1 hx).mono ?_)
      rintro e w' ⟨hu, ho, hp⟩
      obtain ⟨v, rfl⟩ := hu
      have HO2 := Lib.hid (HO.out.trans ho)
      have HP := Lib.hid hp
      clear ho hp
      go_wp2
      go_end0
      exact ⟨⟨_, rfl⟩, HO2.out, HP.out⟩
  · have HE : Hid (doneT t c x = t) := Lib.hid (by
      unfold doneT mayB
      rw [decide_eq_false (show ¬ x ≤ 31 by omega), if_neg (by simp)])
    rw [HE.out]
    have HX : Hid (¬ (0 ≤ (x : Int) ∧ (x : Int) < 32)) := Lib.hid (by omega)
    clear h
    go_enter Tryz.func127, Tryz.ntmps127
    go_wp2_with fail
    go_quiet ((go_at_call 87; exact Calls.quiet_of_same ((bitQ_out (fun s => t.on s c && t.busy s) x HX.out _).mono fun e w' h => ⟨h.1, h.2.symm⟩)))
    go_wp2
    go_end0
    exact ⟨⟨_, rfl⟩, (Only.refl _ _).drewN _, H.out⟩

end Go.Proofs.YtbcnkhfpogglmaaGreatDoor.P5

namespace Go.Proofs.YtbcnkhfpogglmaaGreatDoor.P5
open Go.RowKit
set_option linter.unusedVariables false
set_option maxRecDepth 100000

theorem pair_0 (x y : Value) (w : World) : (Instr.index 66 (.agg #[x, y]) (.int .i64 0)).run Tryz.prog w = .ok x w := by kernel_rfl
theorem pair_1 (x y : Value) (w : World) : (Instr.index 66 (.agg #[x, y]) (.int .i64 1)).run Tryz.prog w = .ok y w := by kernel_rfl

set_option maxRecDepth 100000 in
set_option maxHeartbeats 4000000 in
theorem best_0 (w : World) (t : PS) (ok : t.ok) : Calls Tryz.prog 86 #[progPV t, .int .i64 0] w fun e w' => e = .returned (.int .i64 (bestUp t 0 31)) ∧ Below w.heap.size w w' := by
  have HP := Lib.hid (progP_boxed w ok)
  have HB := Lib.hid ((Below.refl w.heap.size w).alloc (Nat.le_refl _) (.cells (varr 39 (cellQ t)) 69))
  have HC : Hid (isC 0 = true) := Lib.hid (by decide)
  show Calls Tryz.prog 86 #[.agg (varr 39 (cellQ t)), .int .i64 0] w _
  generalize varr 39 (cellQ t) = row at *
  go_enter Tryz.func86, Tryz.ntmps86
  go_wp2
  go_step3
  go_wp2_with fail
  (with_reducible refine (isContext_any _ _).mono ?_)
  rintro e w' ⟨rfl, rfl⟩
  rw [HC.out]
  go_wp2
  go_step3
  go_wp2
  generalize w.alloc (.cells row 69) = w1 at *
  go_loopg [5, 6] 31 (fun g bb ii wr => ∃ j b : Nat, j + g = 31 ∧ ii = .int .i64 ((j : Int) + 1) ∧ bb = .int .i64 b ∧ b ≤ 31 ∧ Hid (b = bestUp t 0 j) ∧ ProgP wr w.heap.size t ∧ Below w.heap.size w wr)
  case atStart => exact ⟨0, 0, by omega, rfl, rfl, by omega, Lib.hid rfl, HP.out, HB.out⟩
  case round =>
    obtain ⟨j, b, hj, rfl, rfl, hb31, HBE, hR, hbr⟩ := hrel
    have HR := Lib.hid hR
    have HBR := Lib.hid hbr
    clear hbr
    cases gk with
    | zero =>
      obtain rfl : j = 31 := by omega
      have HE := Lib.hid HBE.out
      clear hR
      go_wp2
      try rw [Exit.noGoto_ret]
      go_ret
      exact ⟨by rw [HE.out]; rfl, HBR.out⟩
    | succ g =>
      have hj2 : j + 1 < 32 := by omega
      have i1 : (j : Int) + 1 < 32 := by omega
      have i0 : (0 : Int) ≤ (j : Int) + 1 := by omega
      have ib : (b : Int) < 32 := by omega
      have hwj : IntKind.i64.wrap ((j : Int) + 1 + 1) = (j : Int) + 1 + 1 := IntWalk.i64_in _ (by omega)
      have kp : wr.cell? ⟨w.heap.size, 1, none⟩ = some (.int .u32 (bits32 t.pend)) := hR.pend_
      have ko : wr.cell? ⟨w.heap.size, 35, none⟩ = some (.int .u32 (bits32 fun s => t.on s 0)) := hR.on_ (c := 0) (by omega)
      have HN := Lib.hid (bestUp_step t HBE.out)
      have END : Hid (∀ (b2 : Nat) (w2 : World), Below wr.heap.size wr w2 → bestUp t 0 (j + 1) = b2 → b2 ≤ 31 → ∃ i b : Nat, i + g = 31 ∧ Value.int .i64 ((j : Int) + 1 + 1) = .int .i64 ((i : Int) + 1) ∧ Value.int .i64 (b2 : Int) = .int .i64 b ∧ b ≤ 31 ∧ Hid (b = bestUp t 0 i) ∧ ProgP w2 w.heap.size t ∧ Below w.heap.size w w2) :=
        Lib.hid fun b2 w2 hb2 h1 h2 => ⟨j + 1, b2, by omega, by go_num, rfl, h2, Lib.hid h1.symm, HR.out.below hb2, HBR.out.trans (hb2.mono HBR.out.size)⟩
      obtain ⟨p, hp⟩ : ∃ p, t.pend (j + 1) = p := ⟨_, rfl⟩
      obtain ⟨q, hq⟩ : ∃ q, t.on (j + 1) 0 = q := ⟨_, rfl⟩
      have HN2 := HN.out
      rw [hp, hq] at HN2
      replace HN := Lib.hid HN2
      have HB0 : Hid (∀ w, Calls Tryz.prog 87 #[.int .u32 (bits32 t.pend), .int .i64 ((j : Int) + 1)] w fun e w' => e = .returned (.bool p) ∧ w = w') := Lib.hid fun w => by
        have h := bitQ t.pend (j + 1) hj2 p hp w
        rw [show ((j + 1 : Nat) : Int) = (j : Int) + 1 by omega] at h
        exact h
      have HB1 : Hid (∀ w, Calls Tryz.prog 87 #[.int .u32 (bits32 fun s => t.on s 0), .int .i64 ((j : Int) + 1)] w fun e w' => e = .returned (.bool q) ∧ w = w') := Lib.hid fun w => by
        have h := bitQ (fun s => t.on s 0) (j + 1) hj2 q hq w
        rw [show ((j + 1 : Nat) : Int) = (j : Int) + 1 by omega] at h
        exact h
      clear hp hq HN2 hR
      go_wp2_with fail
      go_quiet (fail)
      have HW : Hid (Below wr.heap.size wr (wr.drewN nq)) := Lib.hid (below_drewN (Below.refl _ _) nq)
      generalize wr.drewN nq = wq at *
      clear kp ko
      go_wp2
      go_loopg [23] 2 (fun g2 i wy => ∃ k : Nat, k + g2 = 2 ∧ i = .int .i64 k ∧ Hid ((1 ≤ k → p = true) ∧ (2 ≤ k → q = true)) ∧ wq = wy)
      case atStart => exact ⟨0, by omega, rfl, Lib.hid ⟨fun h => by omega, fun h => by omega⟩, rfl⟩
      case round =>
        obtain ⟨k, hk, rfl, HK, rfl⟩ := hrel
        have hkk : k = 0 ∨ k = 1 ∨ k = 2 := by omega
        rcases hkk with rfl | rfl | rfl
        · have P0 := pair_0
          obtain ⟨gk, rfl⟩ : ∃ x, gk = x + 1 := ⟨1, by omega⟩
          cases p with
          | false =>
            have HNE : Hid (bestUp t 0 (j + 1) = b) := Lib.hid (by rw [HN.out]; simp)
            clear HK
            go_wp2_with fail
            clear P0
            (with_reducible refine (HB0.out _).mono ?_)
            rintro e w' ⟨rfl, rfl⟩
            go_wp2
            go_roundg g
            case measure => omega
            case rel => exact END.out b _ HW.out HNE.out hb31
          | true =>
            clear HK
            go_wp2_with fail
            clear P0
            (with_reducible refine (HB0.out _).mono ?_)
            rintro e w' ⟨rfl, rfl⟩
            go_wp2
            go_roundg gk
            case measure => omega
            case rel => exact ⟨1, by omega, rfl, Lib.hid ⟨fun _ => by simp, fun h => by omega⟩, rfl⟩
        · have P1 := pair_1
          obtain ⟨gk, rfl⟩ : ∃ x, gk = x + 1 := ⟨0, by omega⟩
          obtain rfl : p = true := HK.out.1 (by omega)
          cases q with
          | false =>
            have HNE : Hid (bestUp t 0 (j + 1) = b) := Lib.hid (by rw [HN.out]; simp)
            clear HK
            go_wp2_with fail
            clear P1
            (with_reducible refine (HB1.out _).mono ?_)
            rintro e w' ⟨rfl, rfl⟩
            go_wp2
            go_roundg g
            case measure => omega
            case rel => exact END.out b _ HW.out HNE.out hb31
          | true =>
            clear HK
            go_wp2_with fail
            clear P1
            (with_reducible refine (HB1.out _).mono ?_)
            rintro e w' ⟨rfl, rfl⟩
            go_wp2
            go_roundg gk
            case measure => omega
            case rel => exact ⟨2, by omega, rfl, Lib.hid ⟨fun _ => by simp, fun _ => by simp⟩, rfl⟩
        · obtain rfl : p = true := HK.out.1 (by omega)
          obtain rfl : q = true := HK.out.2 (by omega)
          obtain rfl : gk = 0 := by omega
          have hR2 := HR.out.below HW.out
          have k1 : wq.cell? ⟨w.heap.size, 3 + (j + 1), none⟩ = some (.int .u8 (t.prio (j + 1))) := hR2.prio_ (by omega)
          have kb : wq.cell? ⟨w.heap.size, 3 + b, none⟩ = some (.int .u8 (t.prio b)) := hR2.prio_ (by omega)
          have HW2 : Hid (∀ n, Below wr.heap.size wr (wq.drewN n)) := Lib.hid fun n => below_drewN HW.out n
          obtain ⟨x, hx⟩ : ∃ x, t.prio (j + 1) = x := ⟨_, rfl⟩
          obtain ⟨y, hy⟩ : ∃ y, t.prio b = y := ⟨_, rfl⟩
          have HN2 := HN.out
          rw [hx, hy] at HN2
          replace HN := Lib.hid HN2
          rw [hx] at k1
          rw [hy] at kb
          clear hx hy HN2 HK hR2
          by_cases hyx : y < x
          · have HNE : Hid (bestUp t 0 (j + 1) = j + 1) := Lib.hid (by rw [HN.out, decide_eq_true hyx]; simp)
            go_wp2_with fail
            go_quiet (fail)
            go_wp2
            go_roundg g
            case measure => omega
            case rel => exact END.out (j + 1) _ (HW2.out _) HNE.out (by omega)
          · have hyd : decide (y < x) = false := decide_eq_false hyx
            have HNE : Hid (bestUp t 0 (j + 1) = b) := Lib.hid (by rw [HN.out, hyd]; simp)
            clear hyx
            go_wp2_with fail
            go_quiet (fail)
            go_wp2
            go_roundg g
            case measure => omega
            case rel => exact END.out b _ (HW2.out _) HNE.out hb31

set_option maxRecDepth 100000 in
set_option maxHeartbeats 4000000 in
theorem best_1 (w : World) (t : PS) (ok : t.ok) : Calls Tryz.prog 86 #[progPV t, .int .i64 1] w fun e w' => e = .returned (.int .i64 (bestUp t 1 31)) ∧ Below w.heap.size w w' := by
  have HP := Lib.hid (progP_boxed w ok)
  have HB := Lib.hid ((Below.refl w.heap.size w).alloc (Nat.le_refl _) (.cells (varr 39 (cellQ t)) 69))
  have HC : Hid (isC 1 = true) := Lib.hid (by decide)
  show Calls Tryz.prog 86 #[.agg (varr 39 (cellQ t)), .int .i64 1] w _
  generalize varr 39 (cellQ t) = row at *
  go_enter Tryz.func86, Tryz.ntmps86
  go_wp2
  go_step3
  go_wp2_with fail
  (with_reducible refine (isContext_any _ _).mono ?_)
  rintro e w' ⟨rfl, rfl⟩
  rw [HC.out]
  go_wp2
  go_step3
  go_wp2
  generalize w.alloc (.cells row 69) = w1 at *
  go_loopg [5, 6] 31 (fun g bb ii wr => ∃ j b : Nat, j + g = 31 ∧ ii = .int .i64 ((j : Int) + 1) ∧ bb = .int .i64 b ∧ b ≤ 31 ∧ Hid (b = bestUp t 1 j) ∧ ProgP wr w.heap.size t ∧ Below w.heap.size w wr)
  case atStart => exact ⟨0, 0, by omega, rfl, rfl, by omega, Lib.hid rfl, HP.out, HB.out⟩
  case round =>
    obtain ⟨j, b, hj, rfl, rfl, hb31, HBE, hR, hbr⟩ := hrel
    have HR := Lib.hid hR
    have HBR := Lib.hid hbr
    clear hbr
    cases gk with
    | zero =>
      obtain rfl : j = 31 := by omega
      have HE := Lib.hid HBE.out
      clear hR
      go_wp2
      try rw [Exit.noGoto_ret]
      go_ret
      exact ⟨by rw [HE.out]; rfl, HBR.out⟩
    | succ g =>
      have hj2 : j + 1 < 32 := by omega
      have i1 : (j : Int) + 1 < 32 := by omega
      have i0 : (0 : Int) ≤ (j : Int) + 1 := by omega
      have ib : (b : Int) < 32 := by omega
      have hwj : IntKind.i64.wrap ((j : Int) + 1 + 1) = (j : Int) + 1 + 1 := IntWalk.i64_in _ (by omega)
      have kp : wr.cell? ⟨w.heap.size, 1, none⟩ = some (.int .u32 (bits32 t.pend)) := hR.pend_
      have ko : wr.cell? ⟨w.heap.size, 35 + 1, none⟩ = some (.int .u32 (bits32 fun s => t.on s 1)) := hR.on_ (c := 1) (by omega)
      have HN := Lib.hid (bestUp_step t HBE.out)
      have END : Hid (∀ (b2 : Nat) (w2 : World), Below wr.heap.size wr w2 → bestUp t 1 (j + 1) = b2 → b2 ≤ 31 → ∃ i b : Nat, i + g = 31 ∧ Value.int .i64 ((j : Int) + 1 + 1) = .int .i64 ((i : Int) + 1) ∧ Value.int .i64 (b2 : Int) = .int .i64 b ∧ b ≤ 31 ∧ Hid (b = bestUp t 1 i) ∧ ProgP w2 w.heap.size t ∧ Below w.heap.size w w2) :=
        Lib.hid fun b2 w2 hb2 h1 h2 => ⟨j + 1, b2, by omega, by go_num, rfl, h2, Lib.hid h1.symm, HR.out.below hb2, HBR.out.trans (hb2.mono HBR.out.size)⟩
      obtain ⟨p, hp⟩ : ∃ p, t.pend (j + 1) = p := ⟨_, rfl⟩
      obtain ⟨q, hq⟩ : ∃ q, t.on (j + 1) 1 = q := ⟨_, rfl⟩
      have HN2 := HN.out
      rw [hp, hq] at HN2
      replace HN := Lib.hid HN2
      have HB0 : Hid (∀ w, Calls Tryz.prog 87 #[.int .u32 (bits32 t.pend), .int .i64 ((j : Int) + 1)] w fun e w' => e = .returned (.bool p) ∧ w = w') := Lib.hid fun w => by
        have h := bitQ t.pend (j + 1) hj2 p hp w
        rw [show ((j + 1 : Nat) : Int) = (j : Int) + 1 by omega] at h
        exact h
      have HB1 : Hid (∀ w, Calls Tryz.prog 87 #[.int .u32 (bits32 fun s => t.on s 1), .int .i64 ((j : Int) + 1)] w fun e w' => e = .returned (.bool q) ∧ w = w') := Lib.hid fun w => by
        have h := bitQ (fun s => t.on s 1) (j + 1) hj2 q hq w
        rw [show ((j + 1 : Nat) : Int) = (j : Int) + 1 by omega] at h
        exact h
      clear hp hq HN2 hR
      go_wp2_with fail
      go_quiet (fail)
      have HW : Hid (Below wr.heap.size wr (wr.drewN nq)) := Lib.hid (below_drewN (Below.refl _ _) nq)
      generalize wr.drewN nq = wq at *
      clear kp ko
      go_wp2
      go_loopg [23] 2 (fun g2 i wy => ∃ k : Nat, k + g2 = 2 ∧ i = .int .i64 k ∧ Hid ((1 ≤ k → p = true) ∧ (2 ≤ k → q = true)) ∧ wq = wy)
      case atStart => exact ⟨0, by omega, rfl, Lib.hid ⟨fun h => by omega, fun h => by omega⟩, rfl⟩
      case round =>
        obtain ⟨k, hk, rfl, HK, rfl⟩ := hrel
        have hkk : k = 0 ∨ k = 1 ∨ k = 2 := by omega
        rcases hkk with rfl | rfl | rfl
        · have P0 := pair_0
          obtain ⟨gk, rfl⟩ : ∃ x, gk = x + 1 := ⟨1, by omega⟩
          cases p with
          | false =>
            have HNE : Hid (bestUp t 1 (j + 1) = b) := Lib.hid (by rw [HN.out]; simp)
            clear HK
            go_wp2_with fail
            clear P0
            (with_reducible refine (HB0.out _).mono ?_)
            rintro e w' ⟨rfl, rfl⟩
            go_wp2
            go_roundg g
            case measure => omega
            case rel => exact END.out b _ HW.out HNE.out hb31
          | true =>
            clear HK
            go_wp2_with fail
            clear P0
            (with_reducible refine (HB0.out _).mono ?_)
            rintro e w' ⟨rfl, rfl⟩
            go_wp2
            go_roundg gk
            case measure => omega
            case rel => exact ⟨1, by omega, rfl, Lib.hid ⟨fun _ => by simp, fun h => by omega⟩, rfl⟩
        · have P1 := pair_1
          obtain ⟨gk, rfl⟩ : ∃ x, gk = x + 1 := ⟨0, by omega⟩
          obtain rfl : p = true := HK.out.1 (by omega)
          cases q with
          | false =>
            have HNE : Hid (bestUp t 1 (j + 1) = b) := Lib.hid (by rw [HN.out]; simp)
            clear HK
            go_wp2_with fail
            clear P1
            (with_reducible refine (HB1.out _).mono ?_)
            rintro e w' ⟨rfl, rfl⟩
            go_wp2
            go_roundg g
            case measure => omega
            case rel => exact END.out b _ HW.out HNE.out hb31
          | true =>
            clear HK
            go_wp2_with fail
            clear P1
            (with_reducible refine (HB1.out _).mono ?_)
            rintro e w' ⟨rfl, rfl⟩
            go_wp2
            go_roundg gk
            case measure => omega
            case rel => exact ⟨2, by omega, rfl, Lib.hid ⟨fun _ => by simp, fun _ => by simp⟩, rfl⟩
        · obtain rfl : p = true := HK.out.1 (by omega)
          obtain rfl : q = true := HK.out.2 (by omega)
          obtain rfl : gk = 0 := by omega
          have hR2 := HR.out.below HW.out
          have k1 : wq.cell? ⟨w.heap.size, 3 + (j + 1), none⟩ = some (.int .u8 (t.prio (j + 1))) := hR2.prio_ (by omega)
          have kb : wq.cell? ⟨w.heap.size, 3 + b, none⟩ = some (.int .u8 (t.prio b)) := hR2.prio_ (by omega)
          have HW2 : Hid (∀ n, Below wr.heap.size wr (wq.drewN n)) := Lib.hid fun n => below_drewN HW.out n
          obtain ⟨x, hx⟩ : ∃ x, t.prio (j + 1) = x := ⟨_, rfl⟩
          obtain ⟨y, hy⟩ : ∃ y, t.prio b = y := ⟨_, rfl⟩
          have HN2 := HN.out
          rw [hx, hy] at HN2
          replace HN := Lib.hid HN2
          rw [hx] at k1
          rw [hy] at kb
          clear hx hy HN2 HK hR2
          by_cases hyx : y < x
          · have HNE : Hid (bestUp t 1 (j + 1) = j + 1) := Lib.hid (by rw [HN.out, decide_eq_true hyx]; simp)
            go_wp2_with fail
            go_quiet (fail)
            go_wp2
            go_roundg g
            case measure => omega
            case rel => exact END.out (j + 1) _ (HW2.out _) HNE.out (by omega)
          · have hyd : decide (y < x) = false := decide_eq_false hyx
            have HNE : Hid (bestUp t 1 (j + 1) = b) := Lib.hid (by rw [HN.out, hyd]; simp)
            clear hyx
            go_wp2_with fail
            go_quiet (fail)
            go_wp2
            go_roundg g
            case measure => omega
            case rel => exact END.out b _ (HW2.out _) HNE.out hb31

end Go.Proofs.YtbcnkhfpogglmaaGreatDoor.P5

namespace Go.Proofs.YtbcnkhfpogglmaaGreatDoor
section
variable {P : Program} {ops : Array Oper} {md : Region.Mode} {Q : Exit → Act → World → Prop} {S : World → Prop}
/-- 'wpAnyH_take' where the operation runs: its temporary d is written out, so that the state can be laid out behind it. -/
theorem takeD {i : Nat} {oi : Oper} (d : Option Tmp) {v : Value} {fuel : Nat} {listed : Array Bool} {a : Act} {w : World} (hi : ops[i]? = some oi) (hd : oi.dst = d)
    (hs : Region.noSelect ops = true) (hf : Region.free md ops listed i = true) (hr : (Region.ready md ops listed).contains i = true)
    (hQ : ∀ c a w, Q (.panic c) (a.put d v) w → Q (.panic c) a w) (hw : Region.wanted oi (yielded ops a.tmps) = true) (hS : S w) (hy : ∀ w, S w → (execOp a.eval oi).run P w = .ok (.value v) w)
    (h : wpAnyH P md ops Q S fuel (listed.setIfInBounds i true) (a.put d v) w) : wpAnyH P md ops Q S (fuel + 1) listed a w := by
  subst hd; exact wpAnyH_take hi hs hf hr hQ (.inl ⟨hw, hy⟩) hS h
/-- The same where its guard is false: it is not wanted, and yields nothing. -/
theorem skipD {i : Nat} {oi : Oper} (d : Option Tmp) {fuel : Nat} {listed : Array Bool} {a : Act} {w : World} (hi : ops[i]? = some oi) (hd : oi.dst = d)
    (hs : Region.noSelect ops = true) (hf : Region.free md ops listed i = true) (hr : (Region.ready md ops listed).contains i = true)
    (hQ : ∀ c a w, Q (.panic c) (a.put d undef) w → Q (.panic c) a w) (hw : Region.wanted oi (yielded ops a.tmps) = false) (hS : S w)
    (h : wpAnyH P md ops Q S fuel (listed.setIfInBounds i true) (a.put d undef) w) : wpAnyH P md ops Q S (fuel + 1) listed a w := by
  subst hd; exact wpAnyH_take hi hs hf hr hQ (.inr ⟨hw, rfl⟩) hS h
end

end Go.Proofs.YtbcnkhfpogglmaaGreatDoor

namespace Go.Proofs.YtbcnkhfpogglmaaGreatDoor
section
variable {P : Program} {ops : Array Oper} {md : Region.Mode} {Q : Exit → Act → World → Prop}
/-- From here on more is shown behind each operation. -/
theorem wpAnyH_more {S T : World → Prop} (h : ∀ w, T w → S w) : ∀ (fuel : Nat) (listed : Array Bool) (a : Act) (w : World), wpAnyH P md ops Q T fuel listed a w → wpAnyH P md ops Q S fuel listed a w
  | 0, _, _, _, k => k
  | fuel + 1, _, _, _, k => ⟨k.1, fun i hi => wpOp_mono (fun a' w' k' => ⟨h _ k'.1, wpAnyH_more h fuel _ a' w' k'.2⟩) (k.2 i hi)⟩
theorem yield_row {op : Oper} {a : Act} {w : World} {row : Array Value} (ty : TypeId) (x : Operand) (ho : op.op = .load ty x) (b : Nat) (hx : a.eval x = .pointer (some ⟨b, 0, none⟩)) (hrun : (loadVar ty ⟨b, 0, none⟩).run P w = .ok (.agg row) w) :
    (execOp a.eval op).run P w = .ok (.value (.agg row)) w := by
  unfold execOp
  simp only [ho, hx, Instr.loadAt, Instr.sureAddr, Sem.run_bind, Sem.run_pure, Result.andThen_ok, hrun]
end

end Go.Proofs.YtbcnkhfpogglmaaGreatDoor

namespace Go.Proofs.YtbcnkhfpogglmaaGreatDoor.P5
open Go.RowKit
set_option linter.unusedVariables false
set_option maxRecDepth 100000

theorem isC_no {c : Int} (h0 : ¬ c = 0) (h1 : ¬ c = 1) : isC c = false := by unfold isC; rw [decide_eq_false_iff_not]; omega
theorem best_none (w : World) (t : PS) (c : Int) (hc : isC c = false) : Calls Tryz.prog 86 #[progPV t, .int .i64 c] w fun e w' => e = .returned (.int .i64 0) ∧ Below w.heap.size w w' := by
  have HC := Lib.hid hc
  clear hc
  show Calls Tryz.prog 86 #[.agg (varr 39 (cellQ t)), .int .i64 c] w _
  generalize varr 39 (cellQ t) = row at *
  go_enter Tryz.func86, Tryz.ntmps86
  go_wp2
  go_step3
  go_wp2_with fail
  (with_reducible refine (isContext_any _ _).mono ?_)
  rintro e w' ⟨rfl, rfl⟩
  rw [HC.out]
  go_wp2
  try rw [Exit.noGoto_ret]
  go_ret
  exact ⟨rfl, (Below.refl _ _).alloc (Nat.le_refl _) _⟩
theorem best_any (w : World) (t : PS) (ok : t.ok) (c : Int) : Calls Tryz.prog 86 #[progPV t, .int .i64 c] w fun e w' => e = .returned (.int .i64 (bestC t c)) ∧ Below w.heap.size w w' := by
  by_cases h0 : c = 0
  · subst h0
    have h := best_0 w t ok
    rw [bestUp_is t 0 ok.prio0] at h; exact h
  by_cases h1 : c = 1
  · subst h1
    have h := best_1 w t ok
    rw [bestUp_is t 1 ok.prio0] at h; exact h
  have e : bestC t c = 0 := by unfold bestC; rw [if_neg (by omega)]
  rw [e]; exact best_none w t c (isC_no h0 h1)
theorem size_progP : (Tryz.prog.info? 69).map (·.size) = some 39 := by kernel_rfl
/-- Whether a context's line is up. -/
def lineT (t : PS) (c : Int) : Bool := isC c && lineC t c
theorem line_no (w : World) (t : PS) (c : Int) (hc : isC c = false) : Calls Tryz.prog 40 #[progPV t, .int .i64 c] w fun e w' => e = .returned (.bool (lineT t c)) ∧ Below w.heap.size w w' := by
  have HC := Lib.hid hc
  have HE : Hid (lineT t c = false) := Lib.hid (by unfold lineT; rw [hc]; rfl)
  clear hc
  rw [HE.out]
  show Calls Tryz.prog 40 #[.agg (varr 39 (cellQ t)), .int .i64 c] w _
  generalize varr 39 (cellQ t) = row at *
  go_enter Tryz.func40, Tryz.ntmps40
  go_wp2_with fail
  have HB := Lib.hid ((Below.refl w.heap.size w).alloc (Nat.le_refl _) (.cells row 69))
  generalize w.alloc (.cells row 69) = w1 at *
  go_quiet ((go_at_call 85; exact Calls.quiet_of_same ((isContext_any _ _).mono fun e w' h => ⟨h.1.trans (by rw [HC.out]), h.2.symm⟩)))
  go_wp2
  go_ret
  exact ⟨rfl, below_drewN HB.out _⟩
theorem run_progRow {w : World} {b : Nat} {row : Array Value} (h : w.heap[b]? = some (.cells row 69 (0, 0))) (hs : row.size = 39) : (loadVar 69 ⟨b, 0, none⟩).run Tryz.prog w = .ok (.agg row) w :=
  run_loadVar_row w b 69 69 row (0, 0) _ h Tryz.underlying69 rfl (size_progP.trans (by rw [hs]))
theorem bestC_0 (t : PS) (c : Nat) (hc : c < 2) (h0 : t.prio 0 = 0) : lineC t c = decide (t.floor c < t.prio (bestC t c)) ∨ ¬ (0 ≤ t.floor c) := by
  by_cases hf : 0 ≤ t.floor c
  · left
    unfold lineC
    by_cases hb : bestC t c = 0
    · rw [hb, h0, decide_eq_false (by omega), Bool.false_and, decide_eq_false (by omega)]
    · rw [decide_eq_true (by omega), Bool.true_and]; rfl
  · exact .inr hf
set_option maxHeartbeats 2000000 in
theorem line_0 (w : World) (t : PS) (ok : t.ok) : Calls Tryz.prog 40 #[progPV t, .int .i64 0] w fun e w' => e = .returned (.bool (lineT t 0)) ∧ Below w.heap.size w w' := by
  have HC : Hid (isC 0 = true) := Lib.hid (by decide)
  have HE : Hid (lineT t 0 = decide (t.floor 0 < t.prio (bestC t 0))) := Lib.hid (by
    unfold lineT; rw [HC.out, Bool.true_and]; rcases bestC_0 t 0 (by omega) ok.prio0 with h | h; exact h; exact absurd (ok.fl 0).1 h)
  rw [HE.out]
  have hle := bestC_le t 0
  have hbest := fun w' => best_any w' t ok 0
  have HP := Lib.hid (progP_boxed w ok)
  have HB := Lib.hid ((Below.refl w.heap.size w).alloc (Nat.le_refl _) (.cells (varr 39 (cellQ t)) 69))
  have hrow : (w.alloc (.cells (varr 39 (cellQ t)) 69)).heap[w.heap.size]? = some (.cells (varr 39 (cellQ t)) 69 (0, 0)) := heap_alloc_new w _
  have hsz : (varr 39 (cellQ t)).size = 39 := varr_size _ _
  unfold progPV at hbest
  show Calls Tryz.prog 40 #[.agg (varr 39 (cellQ t)), .int .i64 0] w _
  have HROW := Lib.hid hrow
  have HSZ := Lib.hid hsz
  clear hrow hsz
  generalize varr 39 (cellQ t) = row at *
  generalize bestC t 0 = k at *
  have HBEST := Lib.hid hbest
  have ik : (k : Int) < 32 := by omega
  clear hbest
  go_enter Tryz.func40, Tryz.ntmps40
  go_wp2_with fail
  have hw1 : w.heap.size < (w.alloc (.cells row 69)).heap.size := by rw [World.size_alloc]; omega
  generalize w.alloc (.cells row 69) = w1 at *
  have HF : Hid (∀ wx, Below w1.heap.size w1 wx → wx.cell? ⟨w.heap.size, 37, none⟩ = some (.int .u8 (t.floor 0))) := Lib.hid fun wx hx => (HP.out.below hx).floor_ (c := 0) (by omega)
  have HK : Hid (∀ wx, Below w1.heap.size w1 wx → wx.cell? ⟨w.heap.size, 3 + k, none⟩ = some (.int .u8 (t.prio k))) := Lib.hid fun wx hx => (HP.out.below hx).prio_ (by omega)
  refine wp_region_held_drew (S := fun wx => Below w1.heap.size w1 wx) (by kernel_rfl) (Below.refl _ _).drew (fun hHeld0 => ?_)
  have HS := Lib.hid hHeld0
  clear hHeld0
  refine takeD (i := 0) (some 5) (v := ?_) rfl rfl (by kernel_rfl) (by kernel_rfl) (by kernel_rfl) (fun _ _ _ h => h) (by rfl) HS.out ?_ ?_
  rotate_left
  · intro wx hSx
    clear hSx
    go_simp
    try (with_reducible rfl)
  simp only [Act.put, List.setIfInBounds_toArray, List.set_cons_zero, List.set_cons_succ]
  refine wpAnyH_ready (rs := [1]) (by kernel_rfl) (by simp) ?_
  refine AllReadyH.cons rfl (fun K hK => ?_) AllReadyH.nil
  go_simp
  (with_reducible refine (isContext_any _ _).mono ?_)
  rintro e w' ⟨rfl, rfl⟩
  rw [HC.out]
  go_simp
  refine hK.out _ _ ?_ (fun hHeld => ?_)
  · exact HS.out
  clear hHeld hK K
  try simp only [Act.put, List.setIfInBounds_toArray, List.set_cons_zero, List.set_cons_succ]
  refine takeD (i := 2) (some 7) (v := ?_) rfl rfl (by kernel_rfl) (by kernel_rfl) (by kernel_rfl) (fun _ _ _ h => h) (by rfl) HS.out ?_ ?_
  rotate_left
  · intro wx hSx
    clear hSx
    go_simp
    try (with_reducible rfl)
  simp only [Act.put, List.setIfInBounds_toArray, List.set_cons_zero, List.set_cons_succ]
  refine takeD (i := 3) (some 8) (v := ?_) rfl rfl (by kernel_rfl) (by kernel_rfl) (by kernel_rfl) (fun _ _ _ h => h) (by rfl) HS.out ?_ ?_
  rotate_left
  · intro wx hSx
    exact (by refine yield_row _ (.tmp 2) ?_ w.heap.size ?_ (run_progRow ((hSx.block _ hw1).trans HROW.out) HSZ.out) <;> rfl)
  simp only [Act.put, List.setIfInBounds_toArray, List.set_cons_zero, List.set_cons_succ]
  refine takeD (i := 4) (some 9) (v := ?_) rfl rfl (by kernel_rfl) (by kernel_rfl) (by kernel_rfl) (fun _ _ _ h => h) (by rfl) HS.out ?_ ?_
  rotate_left
  · intro wx hSx
    clear hSx
    go_simp
    try (with_reducible rfl)
  simp only [Act.put, List.setIfInBounds_toArray, List.set_cons_zero, List.set_cons_succ]
  refine takeD (i := 6) (some 11) (v := ?_) rfl rfl (by kernel_rfl) (by kernel_rfl) (by kernel_rfl) (fun _ _ _ h => h) (by rfl) HS.out ?_ ?_
  rotate_left
  · intro wx hSx
    clear hSx
    go_simp
    try (with_reducible rfl)
  simp only [Act.put, List.setIfInBounds_toArray, List.set_cons_zero, List.set_cons_succ]
  refine takeD (i := 9) (some 14) (v := ?_) rfl rfl (by kernel_rfl) (by kernel_rfl) (by kernel_rfl) (fun _ _ _ h => h) (by rfl) HS.out ?_ ?_
  rotate_left
  · intro wx hSx
    clear hSx
    go_simp
    try (with_reducible rfl)
  simp only [Act.put, List.setIfInBounds_toArray, List.set_cons_zero, List.set_cons_succ]
  refine takeD (i := 10) (some 15) (v := ?_) rfl rfl (by kernel_rfl) (by kernel_rfl) (by kernel_rfl) (fun _ _ _ h => h) (by rfl) HS.out ?_ ?_
  rotate_left
  · intro wx hSx
    clear hSx
    go_simp
    try (with_reducible rfl)
  simp only [Act.put, List.setIfInBounds_toArray, List.set_cons_zero, List.set_cons_succ]
  refine takeD (i := 11) (some 16) (v := ?_) rfl rfl (by kernel_rfl) (by kernel_rfl) (by kernel_rfl) (fun _ _ _ h => h) (by rfl) HS.out ?_ ?_
  rotate_left
  · intro wx hSx
    clear hSx
    go_simp
    try (with_reducible rfl)
  simp only [Act.put, List.setIfInBounds_toArray, List.set_cons_zero, List.set_cons_succ]
  refine takeD (i := 12) (some 17) (v := ?_) rfl rfl (by kernel_rfl) (by kernel_rfl) (by kernel_rfl) (fun _ _ _ h => h) (by rfl) HS.out ?_ ?_
  rotate_left
  · intro wx hSx
    have g1 := HF.out wx hSx
    clear hSx
    go_simp
    try (with_reducible rfl)
  simp only [Act.put, List.setIfInBounds_toArray, List.set_cons_zero, List.set_cons_succ]
  refine wpAnyH_ready (rs := [5]) (by kernel_rfl) (by simp) ?_
  refine AllReadyH.cons rfl (fun K hK => ?_) AllReadyH.nil
  go_simp
  (with_reducible refine (HBEST.out _).mono ?_)
  rintro e w4 ⟨rfl, hb⟩
  have HS4 : Hid (Below w1.heap.size w1 w4) := Lib.hid (HS.out.trans (hb.mono HS.out.size))
  clear hb
  go_simp
  refine hK.out _ _ ?_ (fun hHeld => ?_)
  · exact HS4.out
  clear hHeld hK K
  try simp only [Act.put, List.setIfInBounds_toArray, List.set_cons_zero, List.set_cons_succ]
  replace HS := HS4
  refine takeD (i := 7) (some 12) (v := ?_) rfl rfl (by kernel_rfl) (by kernel_rfl) (by kernel_rfl) (fun _ _ _ h => h) (by rfl) HS.out ?_ ?_
  rotate_left
  · intro wx hSx
    clear hSx
    go_simp
    try (with_reducible rfl)
  simp only [Act.put, List.setIfInBounds_toArray, List.set_cons_zero, List.set_cons_succ]
  refine takeD (i := 8) (some 13) (v := ?_) rfl rfl (by kernel_rfl) (by kernel_rfl) (by kernel_rfl) (fun _ _ _ h => h) (by rfl) HS.out ?_ ?_
  rotate_left
  · intro wx hSx
    have g1 := HK.out wx hSx
    clear hSx
    go_simp
    try (with_reducible rfl)
  simp only [Act.put, List.setIfInBounds_toArray, List.set_cons_zero, List.set_cons_succ]
  refine takeD (i := 13) (some 18) (v := ?_) rfl rfl (by kernel_rfl) (by kernel_rfl) (by kernel_rfl) (fun _ _ _ h => h) (by rfl) HS.out ?_ ?_
  rotate_left
  · intro wx hSx
    clear hSx
    go_simp
    try (with_reducible rfl)
  simp only [Act.put, List.setIfInBounds_toArray, List.set_cons_zero, List.set_cons_succ]
  refine takeD (i := 14) (some 19) (v := ?_) rfl rfl (by kernel_rfl) (by kernel_rfl) (by kernel_rfl) (fun _ _ _ h => h) (by rfl) HS.out ?_ ?_
  rotate_left
  · intro wx hSx
    clear hSx
    go_simp
    try (with_reducible rfl)
  simp only [Act.put, List.setIfInBounds_toArray, List.set_cons_zero, List.set_cons_succ]
  refine takeD (i := 15) (some 4) (v := ?_) rfl rfl (by kernel_rfl) (by kernel_rfl) (by kernel_rfl) (fun _ _ _ h => h) (by rfl) HS.out ?_ ?_
  rotate_left
  · intro wx hSx
    clear hSx
    go_simp
    try (with_reducible rfl)
  simp only [Act.put, List.setIfInBounds_toArray, List.set_cons_zero, List.set_cons_succ]
  refine wpAnyH_done (by kernel_rfl) ?_ _
  go_wp2
  go_ret
  exact ⟨rfl, HB.out.trans (HS.out.mono HB.out.size)⟩

set_option maxHeartbeats 2000000 in
theorem line_1 (w : World) (t : PS) (ok : t.ok) : Calls Tryz.prog 40 #[progPV t, .int .i64 1] w fun e w' => e = .returned (.bool (lineT t 1)) ∧ Below w.heap.size w w' := by
  have HC : Hid (isC 1 = true) := Lib.hid (by decide)
  have HE : Hid (lineT t 1 = decide (t.floor 1 < t.prio (bestC t 1))) := Lib.hid (by
    unfold lineT; rw [HC.out, Bool.true_and]; rcases bestC_0 t 1 (by omega) ok.prio0 with h | h; exact h; exact absurd (ok.fl 1).1 h)
  rw [HE.out]
  have hle := bestC_le t 1
  have hbest := fun w' => best_any w' t ok 1
  have HP := Lib.hid (progP_boxed w ok)
  have HB := Lib.hid ((Below.refl w.heap.size w).alloc (Nat.le_refl _) (.cells (varr 39 (cellQ t)) 69))
  have hrow : (w.alloc (.cells (varr 39 (cellQ t)) 69)).heap[w.heap.size]? = some (.cells (varr 39 (cellQ t)) 69 (0, 0)) := heap_alloc_new w _
  have hsz : (varr 39 (cellQ t)).size = 39 := varr_size _ _
  unfold progPV at hbest
  show Calls Tryz.prog 40 #[.agg (varr 39 (cellQ t)), .int .i64 1] w _
  have HROW := Lib.hid hrow
  have HSZ := Lib.hid hsz
  clear hrow hsz
  generalize varr 39 (cellQ t) = row at *
  generalize bestC t 1 = k at *
  have HBEST := Lib.hid hbest
  have ik : (k : Int) < 32 := by omega
  clear hbest
  go_enter Tryz.func40, Tryz.ntmps40
  go_wp2_with fail
  have hw1 : w.heap.size < (w.alloc (.cells row 69)).heap.size := by rw [World.size_alloc]; omega
  generalize w.alloc (.cells row 69) = w1 at *
  have HF : Hid (∀ wx, Below w1.heap.size w1 wx → wx.cell? ⟨w.heap.size, 37 + 1, none⟩ = some (.int .u8 (t.floor 1))) := Lib.hid fun wx hx => (HP.out.below hx).floor_ (c := 1) (by omega)
  have HK : Hid (∀ wx, Below w1.heap.size w1 wx → wx.cell? ⟨w.heap.size, 3 + k, none⟩ = some (.int .u8 (t.prio k))) := Lib.hid fun wx hx => (HP.out.below hx).prio_ (by omega)
  refine wp_region_held_drew (S := fun wx => Below w1.heap.size w1 wx) (by kernel_rfl) (Below.refl _ _).drew (fun hHeld0 => ?_)
  have HS := Lib.hid hHeld0
  clear hHeld0
  refine takeD (i := 0) (some 5) (v := ?_) rfl rfl (by kernel_rfl) (by kernel_rfl) (by kernel_rfl) (fun _ _ _ h => h) (by rfl) HS.out ?_ ?_
  rotate_left
  · intro wx hSx
    clear hSx
    go_simp
    try (with_reducible rfl)
  simp only [Act.put, List.setIfInBounds_toArray, List.set_cons_zero, List.set_cons_succ]
  refine wpAnyH_ready (rs := [1]) (by kernel_rfl) (by simp) ?_
  refine AllReadyH.cons rfl (fun K hK => ?_) AllReadyH.nil
  go_simp
  (with_reducible refine (isContext_any _ _).mono ?_)
  rintro e w' ⟨rfl, rfl⟩
  rw [HC.out]
  go_simp
  refine hK.out _ _ ?_ (fun hHeld => ?_)
  · exact HS.out
  clear hHeld hK K
  try simp only [Act.put, List.setIfInBounds_toArray, List.set_cons_zero, List.set_cons_succ]
  refine takeD (i := 2) (some 7) (v := ?_) rfl rfl (by kernel_rfl) (by kernel_rfl) (by kernel_rfl) (fun _ _ _ h => h) (by rfl) HS.out ?_ ?_
  rotate_left
  · intro wx hSx
    clear hSx
    go_simp
    try (with_reducible rfl)
  simp only [Act.put, List.setIfInBounds_toArray, List.set_cons_zero, List.set_cons_succ]
  refine takeD (i := 3) (some 8) (v := ?_) rfl rfl (by kernel_rfl) (by kernel_rfl) (by kernel_rfl) (fun _ _ _ h => h) (by rfl) HS.out ?_ ?_
  rotate_left
  · intro wx hSx
    exact (by refine yield_row _ (.tmp 2) ?_ w.heap.size ?_ (run_progRow ((hSx.block _ hw1).trans HROW.out) HSZ.out) <;> rfl)
  simp only [Act.put, List.setIfInBounds_toArray, List.set_cons_zero, List.set_cons_succ]
  refine takeD (i := 4) (some 9) (v := ?_) rfl rfl (by kernel_rfl) (by kernel_rfl) (by kernel_rfl) (fun _ _ _ h => h) (by rfl) HS.out ?_ ?_
  rotate_left
  · intro wx hSx
    clear hSx
    go_simp
    try (with_reducible rfl)
  simp only [Act.put, List.setIfInBounds_toArray, List.set_cons_zero, List.set_cons_succ]
  refine takeD (i := 6) (some 11) (v := ?_) rfl rfl (by kernel_rfl) (by kernel_rfl) (by kernel_rfl) (fun _ _ _ h => h) (by rfl) HS.out ?_ ?_
  rotate_left
  · intro wx hSx
    clear hSx
    go_simp
    try (with_reducible rfl)
  simp only [Act.put, List.setIfInBounds_toArray, List.set_cons_zero, List.set_cons_succ]
  refine takeD (i := 9) (some 14) (v := ?_) rfl rfl (by kernel_rfl) (by kernel_rfl) (by kernel_rfl) (fun _ _ _ h => h) (by rfl) HS.out ?_ ?_
  rotate_left
  · intro wx hSx
    clear hSx
    go_simp
    try (with_reducible rfl)
  simp only [Act.put, List.setIfInBounds_toArray, List.set_cons_zero, List.set_cons_succ]
  refine takeD (i := 10) (some 15) (v := ?_) rfl rfl (by kernel_rfl) (by kernel_rfl) (by kernel_rfl) (fun _ _ _ h => h) (by rfl) HS.out ?_ ?_
  rotate_left
  · intro wx hSx
    clear hSx
    go_simp
    try (with_reducible rfl)
  simp only [Act.put, List.setIfInBounds_toArray, List.set_cons_zero, List.set_cons_succ]
  refine takeD (i := 11) (some 16) (v := ?_) rfl rfl (by kernel_rfl) (by kernel_rfl) (by kernel_rfl) (fun _ _ _ h => h) (by rfl) HS.out ?_ ?_
  rotate_left
  · intro wx hSx
    clear hSx
    go_simp
    try (with_reducible rfl)
  simp only [Act.put, List.setIfInBounds_toArray, List.set_cons_zero, List.set_cons_succ]
  refine takeD (i := 12) (some 17) (v := ?_) rfl rfl (by kernel_rfl) (by kernel_rfl) (by kernel_rfl) (fun _ _ _ h => h) (by rfl) HS.out ?_ ?_
  rotate_left
  · intro wx hSx
    have g1 := HF.out wx hSx
    clear hSx
    go_simp
    try (with_reducible rfl)
  simp only [Act.put, List.setIfInBounds_toArray, List.set_cons_zero, List.set_cons_succ]
  refine wpAnyH_ready (rs := [5]) (by kernel_rfl) (by simp) ?_
  refine AllReadyH.cons rfl (fun K hK => ?_) AllReadyH.nil
  go_simp
  (with_reducible refine (HBEST.out _).mono ?_)
  rintro e w4 ⟨rfl, hb⟩
  have HS4 : Hid (Below w1.heap.size w1 w4) := Lib.hid (HS.out.trans (hb.mono HS.out.size))
  clear hb
  go_simp
  refine hK.out _ _ ?_ (fun hHeld => ?_)
  · exact HS4.out
  clear hHeld hK K
  try simp only [Act.put, List.setIfInBounds_toArray, List.set_cons_zero, List.set_cons_succ]
  replace HS := HS4
  refine takeD (i := 7) (some 12) (v := ?_) rfl rfl (by kernel_rfl) (by kernel_rfl) (by kernel_rfl) (fun _ _ _ h => h) (by rfl) HS.out ?_ ?_
  rotate_left
  · intro wx hSx
    clear hSx
    go_simp
    try (with_reducible rfl)
  simp only [Act.put, List.setIfInBounds_toArray, List.set_cons_zero, List.set_cons_succ]
  refine takeD (i := 8) (some 13) (v := ?_) rfl rfl (by kernel_rfl) (by kernel_rfl) (by kernel_rfl) (fun _ _ _ h => h) (by rfl) HS.out ?_ ?_
  rotate_left
  · intro wx hSx
    have g1 := HK.out wx hSx
    clear hSx
    go_simp
    try (with_reducible rfl)
  simp only [Act.put, List.setIfInBounds_toArray, List.set_cons_zero, List.set_cons_succ]
  refine takeD (i := 13) (some 18) (v := ?_) rfl rfl (by kernel_rfl) (by kernel_rfl) (by kernel_rfl) (fun _ _ _ h => h) (by rfl) HS.out ?_ ?_
  rotate_left
  · intro wx hSx
    clear hSx
    go_simp
    try (with_reducible rfl)
  simp only [Act.put, List.setIfInBounds_toArray, List.set_cons_zero, List.set_cons_succ]
  refine takeD (i := 14) (some 19) (v := ?_) rfl rfl (by kernel_rfl) (by kernel_rfl) (by kernel_rfl) (fun _ _ _ h => h) (by rfl) HS.out ?_ ?_
  rotate_left
  · intro wx hSx
    clear hSx
    go_simp
    try (with_reducible rfl)
  simp only [Act.put, List.setIfInBounds_toArray, List.set_cons_zero, List.set_cons_succ]
  refine takeD (i := 15) (some 4) (v := ?_) rfl rfl (by kernel_rfl) (by kernel_rfl) (by kernel_rfl) (fun _ _ _ h => h) (by rfl) HS.out ?_ ?_
  rotate_left
  · intro wx hSx
    clear hSx
    go_simp
    try (with_reducible rfl)
  simp only [Act.put, List.setIfInBounds_toArray, List.set_cons_zero, List.set_cons_succ]
  refine wpAnyH_done (by kernel_rfl) ?_ _
  go_wp2
  go_ret
  exact ⟨rfl, HB.out.trans (HS.out.mono HB.out.size)⟩

theorem line_any (w : World) (t : PS) (ok : t.ok) (c : Int) : Calls Tryz.prog 40 #[progPV t, .int .i64 c] w fun e w' => e = .returned (.bool (lineT t c)) ∧ Below w.heap.size w w' := by
  by_cases h0 : c = 0
  · subst h0; exact line_0 w t ok
  by_cases h1 : c = 1
  · subst h1; exact line_1 w t ok
  exact line_no w t c (isC_no h0 h1)

end Go.Proofs.YtbcnkhfpogglmaaGreatDoor.P5

namespace Go.Proofs.YtbcnkhfpogglmaaGreatDoor.P5
open Go.RowKit
set_option linter.unusedVariables false
set_option maxRecDepth 100000

/-- A plic at first. -/
def p0 : PS := ⟨fun _ => 0, fun _ => false, fun _ => false, fun _ => false, fun _ _ => false, fun _ => 0⟩
theorem p0_ok : p0.ok := ⟨rfl, fun _ => rfl, rfl, rfl, fun _ => by show (0 : Int) ≤ 0 ∧ (0 : Int) < 8; omega, fun _ => by show (0 : Int) ≤ 0 ∧ (0 : Int) < 8; omega⟩
def zerosQ : Array Value := #[.int .u32 0, .int .u32 0, .int .u32 0, .int .u8 0, .int .u8 0, .int .u8 0, .int .u8 0, .int .u8 0, .int .u8 0, .int .u8 0, .int .u8 0, .int .u8 0, .int .u8 0, .int .u8 0, .int .u8 0, .int .u8 0, .int .u8 0, .int .u8 0, .int .u8 0, .int .u8 0, .int .u8 0, .int .u8 0, .int .u8 0, .int .u8 0, .int .u8 0, .int .u8 0, .int .u8 0, .int .u8 0, .int .u8 0, .int .u8 0, .int .u8 0, .int .u8 0, .int .u8 0, .int .u8 0, .int .u8 0, .int .u32 0, .int .u32 0, .int .u8 0, .int .u8 0]
theorem zerosQ_def : (#[.int .u32 0, .int .u32 0, .int .u32 0, .int .u8 0, .int .u8 0, .int .u8 0, .int .u8 0, .int .u8 0, .int .u8 0, .int .u8 0, .int .u8 0, .int .u8 0, .int .u8 0, .int .u8 0, .int .u8 0, .int .u8 0, .int .u8 0, .int .u8 0, .int .u8 0, .int .u8 0, .int .u8 0, .int .u8 0, .int .u8 0, .int .u8 0, .int .u8 0, .int .u8 0, .int .u8 0, .int .u8 0, .int .u8 0, .int .u8 0, .int .u8 0, .int .u8 0, .int .u8 0, .int .u8 0, .int .u8 0, .int .u32 0, .int .u32 0, .int .u8 0, .int .u8 0] : Array Value) = zerosQ := rfl
theorem zerosQ_one : zerosQ.all (·.oneCell') = true := by unfold zerosQ; simp [Value.oneCell']
theorem varr_p0 : varr 39 (cellQ p0) = zerosQ := by kernel_rfl
set_option maxRecDepth 100000 in
theorem new_any (w : World) : Calls Tryz.prog 30 #[] w fun e w' => e = .returned (progPV p0) ∧ Below w.heap.size w w' := by
  unfold progPV
  rw [varr_p0]
  go_enter Tryz.func30, Tryz.ntmps30
  go_wp2_with (refine wpList_store_row rfl _ _ _ rfl w.heap.size _ rfl rfl 69 _ (heap_alloc_new w _) size_progP rfl zerosQ_one ?_)
  simp only [zerosQ_def]
  have h1 := setRow_heap (w.alloc (.cells zerosQ 69)) w.heap.size _ zerosQ 69 (0, 0) (heap_alloc_new w _)
  have hb : Below w.heap.size w ((w.alloc (.cells zerosQ 69)).setRow w.heap.size zerosQ) := below_setRow ((Below.refl _ _).alloc (Nat.le_refl _) _) (Nat.le_refl _) _
  refine bodyPost_ret (v := .agg zerosQ) (results_cell_row (show Tryz.f30.results = #[.cell 0 69] by kernel_rfl) _ _ w.heap.size 69 _ _ _ rfl h1 Tryz.underlying69 rfl size_progP) rfl ⟨rfl, hb⟩
set_option maxHeartbeats 2000000 in
theorem claim_any (w : World) (b : Nat) (t : PS) (h : ProgP w b t) (c : Int) (k : Nat) (hk : bestC t c = k) :
    Calls Tryz.prog 125 #[.pointer (some ⟨b, 0, none⟩), .int .i64 c] w (ProgEnd w b (.int .i64 k) (claimed t k)) := by
  have hle := bestC_le t c
  have hbest := fun w' => best_any w' t h.2 c
  rw [hk] at hbest
  unfold progPV at hbest
  have HBEST := Lib.hid hbest
  have HROW : Hid (w.heap[b]? = some (.cells (varr 39 (cellQ t)) 69 (0, 0))) := Lib.hid h.1
  have HSZ : Hid ((varr 39 (cellQ t)).size = 39) := Lib.hid (varr_size _ _)
  have H := Lib.hid h
  rw [hk] at hle
  clear h hk hbest
  generalize varr 39 (cellQ t) = row at *
  go_enter Tryz.func125, Tryz.ntmps125
  go_wp2_with (refine wpList_load_row rfl _ _ rfl b rfl 69 _ _ _ HROW.out Tryz.underlying69 rfl ?_ ?_; · exact size_progP.trans (by rw [HSZ.out]))
  refine (HBEST.out _).mono ?_
  rintro e w2 ⟨rfl, hb⟩
  have HB2 := Lib.hid hb
  have HP := Lib.hid (H.out.below hb)
  clear hb HROW HSZ HBEST H
  by_cases k0 : k = 0
  · subst k0
    have HC : Hid (claimed t 0 = t) := Lib.hid (by unfold claimed; rw [if_pos rfl])
    rw [HC.out]
    go_wp2
    go_ret
    exact ⟨rfl, Only.of_below _ HB2.out, HP.out⟩
  · have hk : (0 : Int) < (k : Int) := by omega
    have hk1 : 1 ≤ k := by omega
    have hk32 : k < 32 := by omega
    have HC : Hid (claimed t k = claimP t k) := Lib.hid (by unfold claimed; rw [if_neg k0])
    rw [HC.out]
    have c1 := HP.out.pend_
    have f1 := HP.out.free 1
    have H1 := Lib.hid (one_shl hk32)
    have H2 := Lib.hid (clr32 t.pend hk32)
    have H3 := Lib.hid (set32 t.busy hk32)
    clear k0
    go_wp2_with fail
    go_still_tail 9, (by kernel_rfl)
    change wpList _ _ _ _ _ w2.drew
    have HPD : Hid (ProgP w2.drew b t) := Lib.hid HP.out
    have HBD : Hid (Below w.heap.size w w2.drew) := Lib.hid HB2.out.drew
    have d0 : w2.drew.cell? ⟨b, 1, none⟩ = some (.int .u32 (bits32 t.pend)) := c1
    have d1 : w2.drew.frozen? ⟨b, 1, none⟩ = false := f1
    clear c1 f1
    generalize w2.drew = w3 at *
    have HN : Hid (ProgP (w3.setCell ⟨b, 1, none⟩ (.int .u32 (bits32 (upd t.pend k false)))) b (unpendP t k)) := Lib.hid (HPD.out.setPend _ (upd0 HPD.out.2.pend0 hk1 false))
    have HO : Hid (Only (fun i => i = b) w (w3.setCell ⟨b, 1, none⟩ (.int .u32 (bits32 (upd t.pend k false))))) := Lib.hid ((Only.of_below (fun i => i = b) HBD.out).setCell (p := ⟨b, 1, none⟩) (.inl rfl) _)
    have e1 := H1.out
    have e2 := H2.out
    go_wp2_with fail
    clear e1 e2 d0 d1
    generalize w3.setCell ⟨b, 1, none⟩ (.int .u32 (bits32 (upd t.pend k false))) = w4 at *
    have d2 : w4.cell? ⟨b, 2, none⟩ = some (.int .u32 (bits32 t.busy)) := HN.out.busy_
    have f2 := HN.out.free 2
    go_still_tail 9, (by kernel_rfl)
    change wpList _ _ _ _ _ w4.drew
    have HND : Hid (ProgP w4.drew b (unpendP t k)) := Lib.hid HN.out
    have HOD : Hid (Only (fun i => i = b) w w4.drew) := Lib.hid (HO.out.drewN 1)
    have g2 : w4.drew.cell? ⟨b, 2, none⟩ = some (.int .u32 (bits32 t.busy)) := d2
    have g3 : w4.drew.frozen? ⟨b, 2, none⟩ = false := f2
    clear d2 f2
    generalize w4.drew = w5 at *
    have HN2 : Hid (ProgP (w5.setCell ⟨b, 2, none⟩ (.int .u32 (bits32 (upd t.busy k true)))) b (claimP t k)) := Lib.hid (HND.out.setBusy (upd t.busy k true))
    have HO2 : Hid (Only (fun i => i = b) w (w5.setCell ⟨b, 2, none⟩ (.int .u32 (bits32 (upd t.busy k true))))) := Lib.hid (HOD.out.setCell (p := ⟨b, 2, none⟩) (.inl rfl) _)
    have e1 := H1.out
    have e3 := H3.out
    go_wp2
    go_ret
    exact ⟨rfl, HO2.out, by first | exact HN2.out | (rw [HC.out]; exact HN2.out)⟩

end Go.Proofs.YtbcnkhfpogglmaaGreatDoor.P5

namespace Go.Proofs.YtbcnkhfpogglmaaGreatDoor.P5
open Go.RowKit
set_option linter.unusedVariables false
set_option maxRecDepth 100000

def tabQ : Array Value := #[.int .i64 0, .int .u64 0, .int .u64 4, .int .u64 32, .int .i64 1, .int .u64 4096, .int .u64 4, .int .u64 1, .int .i64 2, .int .u64 8192, .int .u64 128, .int .u64 2, .int .i64 3, .int .u64 2097152, .int .u64 4096, .int .u64 2, .int .i64 4, .int .u64 2097156, .int .u64 4096, .int .u64 2]
/-- The program's table stands in memory. -/
def Tab (w : World) : Prop := ∃ t fr, w.heap[0]? = some (.cells tabQ t fr)
theorem Tab.lt {w : World} (h : Tab w) : 0 < w.heap.size := by obtain ⟨t, fr, h⟩ := h; exact (Array.getElem?_eq_some_iff.1 h).1
theorem Tab.below {w w' : World} (h : Tab w) (o : Below w.heap.size w w') : Tab w' := by
  have hl := h.lt
  obtain ⟨t, fr, h⟩ := h; exact ⟨t, fr, (o.block _ hl).trans h⟩
theorem Tab.keeps {w w' : World} {T : Nat → Prop} (h : Tab w) (o : Only T w w') (hT : ¬ T 0) : Tab w' := by obtain ⟨t, fr, h⟩ := h; exact ⟨t, fr, o.keeps hT h⟩
theorem size_tab : (Tryz.prog.info? 181).map (·.size) = some tabQ.size := by kernel_rfl
theorem tab_0 (w : World) : (Instr.index 181 (.agg tabQ) (.int .i64 0)).run Tryz.prog w = .ok (.agg #[.int .i64 0, .int .u64 0, .int .u64 4, .int .u64 32]) w := by kernel_rfl
theorem tab_1 (w : World) : (Instr.index 181 (.agg tabQ) (.int .i64 1)).run Tryz.prog w = .ok (.agg #[.int .i64 1, .int .u64 4096, .int .u64 4, .int .u64 1]) w := by kernel_rfl
theorem tab_2 (w : World) : (Instr.index 181 (.agg tabQ) (.int .i64 2)).run Tryz.prog w = .ok (.agg #[.int .i64 2, .int .u64 8192, .int .u64 128, .int .u64 2]) w := by kernel_rfl
theorem tab_3 (w : World) : (Instr.index 181 (.agg tabQ) (.int .i64 3)).run Tryz.prog w = .ok (.agg #[.int .i64 3, .int .u64 2097152, .int .u64 4096, .int .u64 2]) w := by kernel_rfl
theorem tab_4 (w : World) : (Instr.index 181 (.agg tabQ) (.int .i64 4)).run Tryz.prog w = .ok (.agg #[.int .i64 4, .int .u64 2097156, .int .u64 4096, .int .u64 2]) w := by kernel_rfl
/-- What find answers. -/
def FindP (w : World) (r : Int × Int × Bool) (e : Ending) (w' : World) : Prop := e = .returned (.tuple #[.int .i64 r.1, .int .i64 r.2.1, .bool r.2.2]) ∧ Below w.heap.size w w'
theorem find_len (w : World) (off n : Int) (hn : ¬ n = 4) : Calls Tryz.prog 124 #[.int .u64 off, .int .i64 n] w (FindP w (0, 0, false)) := by
  have e4 : (n != 4) = true := by simpa using hn
  clear hn
  go_enter Tryz.func124, Tryz.ntmps124
  go_wp2
  go_ret3
  exact ⟨rfl, Below.refl _ _⟩
def dvQ (off A : Int) : Int := (off - A) % 18446744073709551616
def hitQ (off A S C : Int) : Bool := (dvQ off A % S == 0) && decide (dvQ off A / S < C)
def findQ (off : Int) : Int × Int × Bool :=
  if hitQ off 0 4 32 = true then (0, dvQ off 0 / 4, true) else if hitQ off 4096 4 1 = true then (1, dvQ off 4096 / 4, true) else if hitQ off 8192 128 2 = true then (2, dvQ off 8192 / 128, true)
  else if hitQ off 2097152 4096 2 = true then (3, dvQ off 2097152 / 4096, true) else if hitQ off 2097156 4096 2 = true then (4, dvQ off 2097156 / 4096, true) else (0, 0, false)
def missTo (off : Int) (k : Nat) : Prop :=
  (1 ≤ k → hitQ off 0 4 32 = false) ∧ (2 ≤ k → hitQ off 4096 4 1 = false) ∧ (3 ≤ k → hitQ off 8192 128 2 = false) ∧ (4 ≤ k → hitQ off 2097152 4096 2 = false) ∧ (5 ≤ k → hitQ off 2097156 4096 2 = false)
theorem dv_in (off A : Int) : 0 ≤ dvQ off A ∧ dvQ off A < 18446744073709551616 := by unfold dvQ; omega
theorem dv_wrap (off A : Int) : IntKind.u64.wrap (off - A) = dvQ off A := by rw [IntKind.wrap_u64]; rfl
theorem dv_wrap0 (off : Int) : IntKind.u64.wrap off = dvQ off 0 := by rw [IntKind.wrap_u64]; unfold dvQ; rw [Int.sub_zero]
theorem div_wrap {d S : Int} (h0 : 0 ≤ d) (h1 : d < 18446744073709551616) (hS : 1 ≤ S) : IntKind.u64.wrap (d.tdiv S) = d / S := by
  have k0 : 0 ≤ d / S := Int.ediv_nonneg h0 (by omega)
  have k1 : d / S ≤ d := Int.ediv_le_self _ h0
  rw [Int.tdiv_eq_ediv_of_nonneg h0, IntKind.wrap_u64]; omega
set_option maxRecDepth 100000 in
set_option maxHeartbeats 8000000 in
theorem find_any (w : World) (off : Int) (ht : Tab w) : Calls Tryz.prog 124 #[.int .u64 off, .int .i64 4] w (FindP w (findQ off)) := by
  obtain ⟨tt, fr, hrow⟩ := ht
  have HROW := Lib.hid hrow
  clear hrow
  go_enter Tryz.func124, Tryz.ntmps124
  go_wp2_with (refine wpList_load_row rfl _ _ rfl 0 rfl _ _ _ _ HROW.out Tryz.underlying181 rfl size_tab ?_)
  go_loopw [13] (fun i wr => ∃ k : Nat, k ≤ 5 ∧ i = .int .i64 k ∧ Hid (missTo off k) ∧ Below w.heap.size w wr) (fun i wr => (5 - intOf i).toNat)
  case atStart => exact ⟨0, by omega, rfl, Lib.hid ⟨fun h => by omega, fun h => by omega, fun h => by omega, fun h => by omega, fun h => by omega⟩, Below.refl _ _⟩
  case round =>
    obtain ⟨k, hk, rfl, HM, hbr⟩ := hrel
    have HBR := Lib.hid hbr
    clear hbr
    have hkk : k = 0 ∨ k = 1 ∨ k = 2 ∨ k = 3 ∨ k = 4 ∨ k = 5 := by omega
    rcases hkk with rfl | rfl | rfl | rfl | rfl | rfl

    · have P := tab_0
      go_wp2_with fail
      clear P
      have hd := dv_in off 0
      rw [dv_wrap0]
      obtain ⟨d, hdd⟩ : ∃ d, dvQ off 0 = d := ⟨_, rfl⟩
      rw [hdd] at hd ⊢
      have HDV := Lib.hid hdd
      clear hdd
      have hd0 := hd.1
      have hm : d.tmod 4 = d % 4 := Int.tmod_eq_emod_of_nonneg hd0
      have hq : IntKind.u64.wrap (d.tdiv 4) = d / 4 := div_wrap hd0 hd.2 (by omega)
      have H0 := heap_alloc_new wr (.cells #[.int .i64 0, .int .u64 0, .int .u64 4, .int .u64 32] 180)
      have HB2 := Lib.hid (HBR.out.alloc HBR.out.size (.cells #[.int .i64 0, .int .u64 0, .int .u64 4, .int .u64 32] 180))
      generalize wr.alloc (.cells #[.int .i64 0, .int .u64 0, .int .u64 4, .int .u64 32] 180) = wa at *
      have c0 : wa.cell? ⟨wr.heap.size, 0, none⟩ = some (.int .i64 0) := by rw [cell_of_row wa _ _ _ _ _ H0]; rfl
      have c1 : wa.cell? ⟨wr.heap.size, 2, none⟩ = some (.int .u64 4) := by rw [cell_of_row wa _ _ _ _ _ H0]; rfl
      have c2 : wa.cell? ⟨wr.heap.size, 3, none⟩ = some (.int .u64 32) := by rw [cell_of_row wa _ _ _ _ _ H0]; rfl
      clear H0 hd
      by_cases h1 : d % 4 = 0
      · have e1 : (d % 4 == 0) = true := by rw [beq_iff_eq]; exact h1
        by_cases h2 : d / 4 < 32
        · have e2 : decide (d / 4 < 32) = true := decide_eq_true h2
          have hn0 : 0 ≤ d / 4 := Int.ediv_nonneg hd0 (by omega)
          have hw : IntKind.i64.wrap (d / 4) = d / 4 := IntWalk.i64_in _ (by omega)
          have HR : Hid (findQ off = (0, d / 4, true)) := Lib.hid (by
            unfold findQ; rw [if_pos (by unfold hitQ; rw [HDV.out, e1, e2]; rfl), HDV.out])
          clear h1 h2
          go_quiet (fail)
          go_wp2_with fail
          go_quiet (fail)
          go_wp2
          go_ret3
          exact ⟨by rw [HR.out]; rfl, HB2.out.os, HB2.out.tape, HB2.out.output, HB2.out.size, HB2.out.block⟩
        · have e2 : decide (d / 4 < 32) = false := decide_eq_false h2
          have HH : Hid (hitQ off 0 4 32 = false) := Lib.hid (by unfold hitQ; rw [HDV.out, e2, Bool.and_false])
          clear h1 h2
          go_quiet (fail)
          go_wp2
          exact ⟨⟨1, by omega, rfl, Lib.hid ⟨fun _ => HH.out, fun h => by omega, fun h => by omega, fun h => by omega, fun h => by omega⟩, HB2.out.os, HB2.out.tape, HB2.out.output, HB2.out.size, HB2.out.block⟩, by simp [intOf]⟩
      · have e1 : (d % 4 == 0) = false := by rw [beq_eq_false_iff_ne]; exact h1
        have HH : Hid (hitQ off 0 4 32 = false) := Lib.hid (by unfold hitQ; rw [HDV.out, e1, Bool.false_and])
        clear h1
        go_quiet (fail)
        go_wp2
        exact ⟨⟨1, by omega, rfl, Lib.hid ⟨fun _ => HH.out, fun h => by omega, fun h => by omega, fun h => by omega, fun h => by omega⟩, HB2.out.os, HB2.out.tape, HB2.out.output, HB2.out.size, HB2.out.block⟩, by simp [intOf]⟩

    · have P := tab_1
      go_wp2_with fail
      clear P
      have hd := dv_in off 4096
      rw [dv_wrap]
      obtain ⟨d, hdd⟩ : ∃ d, dvQ off 4096 = d := ⟨_, rfl⟩
      rw [hdd] at hd ⊢
      have HDV := Lib.hid hdd
      clear hdd
      have hd0 := hd.1
      have hm : d.tmod 4 = d % 4 := Int.tmod_eq_emod_of_nonneg hd0
      have hq : IntKind.u64.wrap (d.tdiv 4) = d / 4 := div_wrap hd0 hd.2 (by omega)
      have H0 := heap_alloc_new wr (.cells #[.int .i64 1, .int .u64 4096, .int .u64 4, .int .u64 1] 180)
      have HB2 := Lib.hid (HBR.out.alloc HBR.out.size (.cells #[.int .i64 1, .int .u64 4096, .int .u64 4, .int .u64 1] 180))
      generalize wr.alloc (.cells #[.int .i64 1, .int .u64 4096, .int .u64 4, .int .u64 1] 180) = wa at *
      have c0 : wa.cell? ⟨wr.heap.size, 0, none⟩ = some (.int .i64 1) := by rw [cell_of_row wa _ _ _ _ _ H0]; rfl
      have c1 : wa.cell? ⟨wr.heap.size, 2, none⟩ = some (.int .u64 4) := by rw [cell_of_row wa _ _ _ _ _ H0]; rfl
      have c2 : wa.cell? ⟨wr.heap.size, 3, none⟩ = some (.int .u64 1) := by rw [cell_of_row wa _ _ _ _ _ H0]; rfl
      clear H0 hd
      by_cases h1 : d % 4 = 0
      · have e1 : (d % 4 == 0) = true := by rw [beq_iff_eq]; exact h1
        by_cases h2 : d / 4 < 1
        · have e2 : decide (d / 4 < 1) = true := decide_eq_true h2
          have hn0 : 0 ≤ d / 4 := Int.ediv_nonneg hd0 (by omega)
          have hw : IntKind.i64.wrap (d / 4) = d / 4 := IntWalk.i64_in _ (by omega)
          have HR : Hid (findQ off = (1, d / 4, true)) := Lib.hid (by
            unfold findQ; rw [if_neg (by rw [HM.out.1 (by omega)]; simp)]; rw [if_pos (by unfold hitQ; rw [HDV.out, e1, e2]; rfl), HDV.out])
          clear h1 h2
          go_quiet (fail)
          go_wp2_with fail
          go_quiet (fail)
          go_wp2
          go_ret3
          exact ⟨by rw [HR.out]; rfl, HB2.out.os, HB2.out.tape, HB2.out.output, HB2.out.size, HB2.out.block⟩
        · have e2 : decide (d / 4 < 1) = false := decide_eq_false h2
          have HH : Hid (hitQ off 4096 4 1 = false) := Lib.hid (by unfold hitQ; rw [HDV.out, e2, Bool.and_false])
          clear h1 h2
          go_quiet (fail)
          go_wp2
          exact ⟨⟨2, by omega, rfl, Lib.hid ⟨fun _ => HM.out.1 (by omega), fun _ => HH.out, fun h => by omega, fun h => by omega, fun h => by omega⟩, HB2.out.os, HB2.out.tape, HB2.out.output, HB2.out.size, HB2.out.block⟩, by simp [intOf]⟩
      · have e1 : (d % 4 == 0) = false := by rw [beq_eq_false_iff_ne]; exact h1
        have HH : Hid (hitQ off 4096 4 1 = false) := Lib.hid (by unfold hitQ; rw [HDV.out, e1, Bool.false_and])
        clear h1
        go_quiet (fail)
        go_wp2
        exact ⟨⟨2, by omega, rfl, Lib.hid ⟨fun _ => HM.out.1 (by omega), fun _ => HH.out, fun h => by omega, fun h => by omega, fun h => by omega⟩, HB2.out.os, HB2.out.tape, HB2.out.output, HB2.out.size, HB2.out.block⟩, by simp [intOf]⟩

    · have P := tab_2
      go_wp2_with fail
      clear P
      have hd := dv_in off 8192
      rw [dv_wrap]
      obtain ⟨d, hdd⟩ : ∃ d, dvQ off 8192 = d := ⟨_, rfl⟩
      rw [hdd] at hd ⊢
      have HDV := Lib.hid hdd
      clear hdd
      have hd0 := hd.1
      have hm : d.tmod 128 = d % 128 := Int.tmod_eq_emod_of_nonneg hd0
      have hq : IntKind.u64.wrap (d.tdiv 128) = d / 128 := div_wrap hd0 hd.2 (by omega)
      have H0 := heap_alloc_new wr (.cells #[.int .i64 2, .int .u64 8192, .int .u64 128, .int .u64 2] 180)
      have HB2 := Lib.hid (HBR.out.alloc HBR.out.size (.cells #[.int .i64 2, .int .u64 8192, .int .u64 128, .int .u64 2] 180))
      generalize wr.alloc (.cells #[.int .i64 2, .int .u64 8192, .int .u64 128, .int .u64 2] 180) = wa at *
      have c0 : wa.cell? ⟨wr.heap.size, 0, none⟩ = some (.int .i64 2) := by rw [cell_of_row wa _ _ _ _ _ H0]; rfl
      have c1 : wa.cell? ⟨wr.heap.size, 2, none⟩ = some (.int .u64 128) := by rw [cell_of_row wa _ _ _ _ _ H0]; rfl
      have c2 : wa.cell? ⟨wr.heap.size, 3, none⟩ = some (.int .u64 2) := by rw [cell_of_row wa _ _ _ _ _ H0]; rfl
      clear H0 hd
      by_cases h1 : d % 128 = 0
      · have e1 : (d % 128 == 0) = true := by rw [beq_iff_eq]; exact h1
        by_cases h2 : d / 128 < 2
        · have e2 : decide (d / 128 < 2) = true := decide_eq_true h2
          have hn0 : 0 ≤ d / 128 := Int.ediv_nonneg hd0 (by omega)
          have hw : IntKind.i64.wrap (d / 128) = d / 128 := IntWalk.i64_in _ (by omega)
          have HR : Hid (findQ off = (2, d / 128, true)) := Lib.hid (by
            unfold findQ; rw [if_neg (by rw [HM.out.1 (by omega)]; simp)]; rw [if_neg (by rw [HM.out.2.1 (by omega)]; simp)]; rw [if_pos (by unfold hitQ; rw [HDV.out, e1, e2]; rfl), HDV.out])
          clear h1 h2
          go_quiet (fail)
          go_wp2_with fail
          go_quiet (fail)
          go_wp2
          go_ret3
          exact ⟨by rw [HR.out]; rfl, HB2.out.os, HB2.out.tape, HB2.out.output, HB2.out.size, HB2.out.block⟩
        · have e2 : decide (d / 128 < 2) = false := decide_eq_false h2
          have HH : Hid (hitQ off 8192 128 2 = false) := Lib.hid (by unfold hitQ; rw [HDV.out, e2, Bool.and_false])
          clear h1 h2
          go_quiet (fail)
          go_wp2
          exact ⟨⟨3, by omega, rfl, Lib.hid ⟨fun _ => HM.out.1 (by omega), fun _ => HM.out.2.1 (by omega), fun _ => HH.out, fun h => by omega, fun h => by omega⟩, HB2.out.os, HB2.out.tape, HB2.out.output, HB2.out.size, HB2.out.block⟩, by simp [intOf]⟩
      · have e1 : (d % 128 == 0) = false := by rw [beq_eq_false_iff_ne]; exact h1
        have HH : Hid (hitQ off 8192 128 2 = false) := Lib.hid (by unfold hitQ; rw [HDV.out, e1, Bool.false_and])
        clear h1
        go_quiet (fail)
        go_wp2
        exact ⟨⟨3, by omega, rfl, Lib.hid ⟨fun _ => HM.out.1 (by omega), fun _ => HM.out.2.1 (by omega), fun _ => HH.out, fun h => by omega, fun h => by omega⟩, HB2.out.os, HB2.out.tape, HB2.out.output, HB2.out.size, HB2.out.block⟩, by simp [intOf]⟩

    · have P := tab_3
      go_wp2_with fail
      clear P
      have hd := dv_in off 2097152
      rw [dv_wrap]
      obtain ⟨d, hdd⟩ : ∃ d, dvQ off 2097152 = d := ⟨_, rfl⟩
      rw [hdd] at hd ⊢
      have HDV := Lib.hid hdd
      clear hdd
      have hd0 := hd.1
      have hm : d.tmod 4096 = d % 4096 := Int.tmod_eq_emod_of_nonneg hd0
      have hq : IntKind.u64.wrap (d.tdiv 4096) = d / 4096 := div_wrap hd0 hd.2 (by omega)
      have H0 := heap_alloc_new wr (.cells #[.int .i64 3, .int .u64 2097152, .int .u64 4096, .int .u64 2] 180)
      have HB2 := Lib.hid (HBR.out.alloc HBR.out.size (.cells #[.int .i64 3, .int .u64 2097152, .int .u64 4096, .int .u64 2] 180))
      generalize wr.alloc (.cells #[.int .i64 3, .int .u64 2097152, .int .u64 4096, .int .u64 2] 180) = wa at *
      have c0 : wa.cell? ⟨wr.heap.size, 0, none⟩ = some (.int .i64 3) := by rw [cell_of_row wa _ _ _ _ _ H0]; rfl
      have c1 : wa.cell? ⟨wr.heap.size, 2, none⟩ = some (.int .u64 4096) := by rw [cell_of_row wa _ _ _ _ _ H0]; rfl
      have c2 : wa.cell? ⟨wr.heap.size, 3, none⟩ = some (.int .u64 2) := by rw [cell_of_row wa _ _ _ _ _ H0]; rfl
      clear H0 hd
      by_cases h1 : d % 4096 = 0
      · have e1 : (d % 4096 == 0) = true := by rw [beq_iff_eq]; exact h1
        by_cases h2 : d / 4096 < 2
        · have e2 : decide (d / 4096 < 2) = true := decide_eq_true h2
          have hn0 : 0 ≤ d / 4096 := Int.ediv_nonneg hd0 (by omega)
          have hw : IntKind.i64.wrap (d / 4096) = d / 4096 := IntWalk.i64_in _ (by omega)
          have HR : Hid (findQ off = (3, d / 4096, true)) := Lib.hid (by
            unfold findQ; rw [if_neg (by rw [HM.out.1 (by omega)]; simp)]; rw [if_neg (by rw [HM.out.2.1 (by omega)]; simp)]; rw [if_neg (by rw [HM.out.2.2.1 (by omega)]; simp)]; rw [if_pos (by unfold hitQ; rw [HDV.out, e1, e2]; rfl), HDV.out])
          clear h1 h2
          go_quiet (fail)
          go_wp2_with fail
          go_quiet (fail)
          go_wp2
          go_ret3
          exact ⟨by rw [HR.out]; rfl, HB2.out.os, HB2.out.tape, HB2.out.output, HB2.out.size, HB2.out.block⟩
        · have e2 : decide (d / 4096 < 2) = false := decide_eq_false h2
          have HH : Hid (hitQ off 2097152 4096 2 = false) := Lib.hid (by unfold hitQ; rw [HDV.out, e2, Bool.and_false])
          clear h1 h2
          go_quiet (fail)
          go_wp2
          exact ⟨⟨4, by omega, rfl, Lib.hid ⟨fun _ => HM.out.1 (by omega), fun _ => HM.out.2.1 (by omega), fun _ => HM.out.2.2.1 (by omega), fun _ => HH.out, fun h => by omega⟩, HB2.out.os, HB2.out.tape, HB2.out.output, HB2.out.size, HB2.out.block⟩, by simp [intOf]⟩
      · have e1 : (d % 4096 == 0) = false := by rw [beq_eq_false_iff_ne]; exact h1
        have HH : Hid (hitQ off 2097152 4096 2 = false) := Lib.hid (by unfold hitQ; rw [HDV.out, e1, Bool.false_and])
        clear h1
        go_quiet (fail)
        go_wp2
        exact ⟨⟨4, by omega, rfl, Lib.hid ⟨fun _ => HM.out.1 (by omega), fun _ => HM.out.2.1 (by omega), fun _ => HM.out.2.2.1 (by omega), fun _ => HH.out, fun h => by omega⟩, HB2.out.os, HB2.out.tape, HB2.out.output, HB2.out.size, HB2.out.block⟩, by simp [intOf]⟩

    · have P := tab_4
      go_wp2_with fail
      clear P
      have hd := dv_in off 2097156
      rw [dv_wrap]
      obtain ⟨d, hdd⟩ : ∃ d, dvQ off 2097156 = d := ⟨_, rfl⟩
      rw [hdd] at hd ⊢
      have HDV := Lib.hid hdd
      clear hdd
      have hd0 := hd.1
      have hm : d.tmod 4096 = d % 4096 := Int.tmod_eq_emod_of_nonneg hd0
      have hq : IntKind.u64.wrap (d.tdiv 4096) = d / 4096 := div_wrap hd0 hd.2 (by omega)
      have H0 := heap_alloc_new wr (.cells #[.int .i64 4, .int .u64 2097156, .int .u64 4096, .int .u64 2] 180)
      have HB2 := Lib.hid (HBR.out.alloc HBR.out.size (.cells #[.int .i64 4, .int .u64 2097156, .int .u64 4096, .int .u64 2] 180))
      generalize wr.alloc (.cells #[.int .i64 4, .int .u64 2097156, .int .u64 4096, .int .u64 2] 180) = wa at *
      have c0 : wa.cell? ⟨wr.heap.size, 0, none⟩ = some (.int .i64 4) := by rw [cell_of_row wa _ _ _ _ _ H0]; rfl
      have c1 : wa.cell? ⟨wr.heap.size, 2, none⟩ = some (.int .u64 4096) := by rw [cell_of_row wa _ _ _ _ _ H0]; rfl
      have c2 : wa.cell? ⟨wr.heap.size, 3, none⟩ = some (.int .u64 2) := by rw [cell_of_row wa _ _ _ _ _ H0]; rfl
      clear H0 hd
      by_cases h1 : d % 4096 = 0
      · have e1 : (d % 4096 == 0) = true := by rw [beq_iff_eq]; exact h1
        by_cases h2 : d / 4096 < 2
        · have e2 : decide (d / 4096 < 2) = true := decide_eq_true h2
          have hn0 : 0 ≤ d / 4096 := Int.ediv_nonneg hd0 (by omega)
          have hw : IntKind.i64.wrap (d / 4096) = d / 4096 := IntWalk.i64_in _ (by omega)
          have HR : Hid (findQ off = (4, d / 4096, true)) := Lib.hid (by
            unfold findQ; rw [if_neg (by rw [HM.out.1 (by omega)]; simp)]; rw [if_neg (by rw [HM.out.2.1 (by omega)]; simp)]; rw [if_neg (by rw [HM.out.2.2.1 (by omega)]; simp)]; rw [if_neg (by rw [HM.out.2.2.2.1 (by omega)]; simp)]; rw [if_pos (by unfold hitQ; rw [HDV.out, e1, e2]; rfl), HDV.out])
          clear h1 h2
          go_quiet (fail)
          go_wp2_with fail
          go_quiet (fail)
          go_wp2
          go_ret3
          exact ⟨by rw [HR.out]; rfl, HB2.out.os, HB2.out.tape, HB2.out.output, HB2.out.size, HB2.out.block⟩
        · have e2 : decide (d / 4096 < 2) = false := decide_eq_false h2
          have HH : Hid (hitQ off 2097156 4096 2 = false) := Lib.hid (by unfold hitQ; rw [HDV.out, e2, Bool.and_false])
          clear h1 h2
          go_quiet (fail)
          go_wp2
          exact ⟨⟨5, by omega, rfl, Lib.hid ⟨fun _ => HM.out.1 (by omega), fun _ => HM.out.2.1 (by omega), fun _ => HM.out.2.2.1 (by omega), fun _ => HM.out.2.2.2.1 (by omega), fun _ => HH.out⟩, HB2.out.os, HB2.out.tape, HB2.out.output, HB2.out.size, HB2.out.block⟩, by simp [intOf]⟩
      · have e1 : (d % 4096 == 0) = false := by rw [beq_eq_false_iff_ne]; exact h1
        have HH : Hid (hitQ off 2097156 4096 2 = false) := Lib.hid (by unfold hitQ; rw [HDV.out, e1, Bool.false_and])
        clear h1
        go_quiet (fail)
        go_wp2
        exact ⟨⟨5, by omega, rfl, Lib.hid ⟨fun _ => HM.out.1 (by omega), fun _ => HM.out.2.1 (by omega), fun _ => HM.out.2.2.1 (by omega), fun _ => HM.out.2.2.2.1 (by omega), fun _ => HH.out⟩, HB2.out.os, HB2.out.tape, HB2.out.output, HB2.out.size, HB2.out.block⟩, by simp [intOf]⟩

    · have HR : Hid (findQ off = (0, 0, false)) := Lib.hid (by
        unfold findQ
        rw [HM.out.1 (by omega), HM.out.2.1 (by omega), HM.out.2.2.1 (by omega), HM.out.2.2.2.1 (by omega), HM.out.2.2.2.2 (by omega)]; rfl)
      go_wp2
      go_ret3
      exact ⟨by rw [HR.out]; rfl, HBR.out⟩

end Go.Proofs.YtbcnkhfpogglmaaGreatDoor.P5

namespace Go.Proofs.YtbcnkhfpogglmaaGreatDoor.P5
open Go.RowKit
set_option linter.unusedVariables false
set_option maxRecDepth 100000

/-- What stands at an offset (0 a priority, 1 what is pending, 2 enabled, 3 a threshold, 4 claims, 5 nothing), and of which number. -/
def plcK (off n : Int) : Nat × Nat :=
  if n = 4 then (if off < 128 ∧ off % 4 = 0 then (0, (off / 4).toNat) else if off = 4096 then (1, 0) else if off = 8192 then (2, 0) else if off = 8320 then (2, 1) else if off = 2097152 then (3, 0) else if off = 2101248 then (3, 1)
    else if off = 2097156 then (4, 0) else if off = 2101252 then (4, 1) else (5, 0)) else (5, 0)
theorem plc_cases (off n : Int) (h0 : 0 ≤ off) :
    (n = 4 ∧ ∃ k : Nat, k < 32 ∧ off = 4 * (k : Int) ∧ plcK off n = (0, k)) ∨ (n = 4 ∧ off = 4096 ∧ plcK off n = (1, 0)) ∨ (n = 4 ∧ off = 8192 ∧ plcK off n = (2, 0)) ∨ (n = 4 ∧ off = 8320 ∧ plcK off n = (2, 1)) ∨
    (n = 4 ∧ off = 2097152 ∧ plcK off n = (3, 0)) ∨ (n = 4 ∧ off = 2101248 ∧ plcK off n = (3, 1)) ∨ (n = 4 ∧ off = 2097156 ∧ plcK off n = (4, 0)) ∨ (n = 4 ∧ off = 2101252 ∧ plcK off n = (4, 1)) ∨
    (n = 4 ∧ NoPlic off ∧ plcK off n = (5, 0)) ∨ (¬ n = 4 ∧ plcK off n = (5, 0)) := by
  by_cases hn : n = 4
  · subst hn
    by_cases h1 : off < 128 ∧ off % 4 = 0
    · refine .inl ⟨rfl, (off / 4).toNat, by omega, by omega, ?_⟩
      unfold plcK; rw [if_pos rfl, if_pos h1]
    by_cases h2 : off = 4096
    · subst h2; exact .inr (.inl ⟨rfl, rfl, by decide⟩)
    by_cases h3 : off = 8192
    · subst h3; exact .inr (.inr (.inl ⟨rfl, rfl, by decide⟩))
    by_cases h4 : off = 8320
    · subst h4; exact .inr (.inr (.inr (.inl ⟨rfl, rfl, by decide⟩)))
    by_cases h5 : off = 2097152
    · subst h5; exact .inr (.inr (.inr (.inr (.inl ⟨rfl, rfl, by decide⟩))))
    by_cases h6 : off = 2101248
    · subst h6; exact .inr (.inr (.inr (.inr (.inr (.inl ⟨rfl, rfl, by decide⟩)))))
    by_cases h7 : off = 2097156
    · subst h7; exact .inr (.inr (.inr (.inr (.inr (.inr (.inl ⟨rfl, rfl, by decide⟩))))))
    by_cases h8 : off = 2101252
    · subst h8; exact .inr (.inr (.inr (.inr (.inr (.inr (.inr (.inl ⟨rfl, rfl, by decide⟩)))))))
    refine .inr (.inr (.inr (.inr (.inr (.inr (.inr (.inr (.inl ⟨rfl, ⟨h1, h2, h3, h4, h5, h6, h7, h8⟩, ?_⟩))))))))
    unfold plcK
    rw [if_pos rfl, if_neg h1, if_neg h2, if_neg h3, if_neg h4, if_neg h5, if_neg h6, if_neg h7, if_neg h8]
  · refine .inr (.inr (.inr (.inr (.inr (.inr (.inr (.inr (.inr ⟨hn, ?_⟩))))))))
    unfold plcK; rw [if_neg hn]
theorem findQ_prio {k : Nat} (hk : k < 32) : findQ (4 * (k : Int)) = (0, (k : Int), true) := by
  have hd : dvQ (4 * (k : Int)) 0 = 4 * (k : Int) := by unfold dvQ; omega
  unfold findQ
  rw [if_pos (by unfold hitQ; rw [hd, show (4 * (k : Int) % 4 == 0) = true by rw [beq_iff_eq]; omega, decide_eq_true (by omega)]; rfl), hd, show 4 * (k : Int) / 4 = (k : Int) by omega]
theorem hit_no {off A S C : Int} (h : ¬ (dvQ off A % S = 0 ∧ dvQ off A / S < C)) : hitQ off A S C = false := by
  unfold hitQ
  by_cases h1 : dvQ off A % S = 0
  · rw [decide_eq_false (fun h2 => h ⟨h1, h2⟩), Bool.and_false]
  · rw [show (dvQ off A % S == 0) = false by rw [beq_eq_false_iff_ne]; exact h1, Bool.false_and]
theorem findQ_no {off : Int} (hn : NoPlic off) (ho : In64 off) : findQ off = (0, 0, false) := by
  obtain ⟨h1, h2, h3, h4, h5, h6, h7, h8⟩ := hn
  unfold In64 at ho
  unfold findQ
  rw [hit_no (S := 4) (C := 32) (by unfold dvQ; omega), hit_no (A := 4096) (by unfold dvQ; omega), hit_no (A := 8192) (by unfold dvQ; omega), hit_no (A := 2097152) (by unfold dvQ; omega), hit_no (A := 2097156) (by unfold dvQ; omega)]
  rfl
/-- What a reading tells, what it leaves; what a writing leaves. -/
def rdX (t : PS) (p : Nat × Nat) : Int := match p.1 with
  | 0 => t.prio p.2
  | 1 => bits32 t.pend
  | 2 => bits32 fun s => t.on s p.2
  | 3 => t.floor p.2
  | 4 => bestC t p.2
  | _ => 0
def rdT (t : PS) (p : Nat × Nat) : PS := match p.1 with
  | 4 => claimed t (bestC t p.2)
  | _ => t
def okP (p : Nat × Nat) : Bool := decide (p.1 < 5)
def wrT (t : PS) (p : Nat × Nat) (v : Int) : PS := match p.1 with
  | 0 => if p.2 = 0 then t else prioT t p.2 (v % 8)
  | 2 => onT t p.2 (onBits v)
  | 3 => floorT t p.2 (v % 8)
  | 4 => doneT t p.2 (v % 4294967296).toNat
  | _ => t
theorem find_is (w : World) (off : Int) (ht : Tab w) (a i : Int) (ok : Bool) (h : findQ off = (a, i, ok)) : Calls Tryz.prog 124 #[.int .u64 off, .int .i64 4] w fun e w' => e = .returned (.tuple #[.int .i64 a, .int .i64 i, .bool ok]) ∧ Below w.heap.size w w' := by
  have k := find_any w off ht
  rw [h] at k; exact k
theorem read_len (w : World) (b : Nat) (t : PS) (h : ProgP w b t) (off n : Int) (hn : ¬ n = 4) : Calls Tryz.prog 80 #[.pointer (some ⟨b, 0, none⟩), .int .u64 off, .int .i64 n] w (ProgEnd w b (.tuple #[.int .u64 0, .bool false]) t) := by
  have HN := Lib.hid hn
  have H := Lib.hid h
  clear hn h
  go_enter Tryz.func80, Tryz.ntmps80
  go_wp2_with fail
  refine (find_len _ off n HN.out).mono ?_
  rintro e w2 ⟨rfl, hb⟩
  have HB := Lib.hid hb
  clear hb
  go_wp2
  go_ret2
  exact ⟨rfl, Only.of_below _ HB.out, H.out.below HB.out⟩
theorem read_no (w : World) (b : Nat) (t : PS) (h : ProgP w b t) (ht : Tab w) (off : Int) (hn : NoPlic off) (ho : In64 off) : Calls Tryz.prog 80 #[.pointer (some ⟨b, 0, none⟩), .int .u64 off, .int .i64 4] w (ProgEnd w b (.tuple #[.int .u64 0, .bool false]) t) := by
  have HF := Lib.hid (find_is w off ht _ _ _ (findQ_no hn ho))
  have H := Lib.hid h
  clear hn h ho ht
  go_enter Tryz.func80, Tryz.ntmps80
  go_wp2_with fail
  (with_reducible refine (HF.out).mono ?_)
  rintro e w2 ⟨rfl, hb⟩
  have HB := Lib.hid hb
  clear hb
  go_wp2
  go_ret2
  exact ⟨rfl, Only.of_below _ HB.out, H.out.below HB.out⟩
theorem wrap_u64s {x : Int} (h0 : 0 ≤ x) (h1 : x < 4294967296) : IntKind.u64.wrap x = x := by rw [IntKind.wrap_u64]; omega
theorem read_prio (w : World) (b : Nat) (t : PS) (h : ProgP w b t) (ht : Tab w) (k : Nat) (hk : k < 32) (off : Int) (ho : off = 4 * (k : Int)) : Calls Tryz.prog 80 #[.pointer (some ⟨b, 0, none⟩), .int .u64 off, .int .i64 4] w (ProgEnd w b (.tuple #[.int .u64 (t.prio k), .bool true]) t) := by
  have HF := Lib.hid (find_is w off ht 0 (k : Int) true (by rw [ho]; exact findQ_prio hk))
  have H := Lib.hid h
  have hw := wrap_u64s (h.2.pr k).1 (by have := (h.2.pr k).2; omega)
  have i1 : (k : Int) < 32 := by omega
  clear h ht ho
  go_enter Tryz.func80, Tryz.ntmps80
  go_wp2_with fail
  (with_reducible refine (HF.out).mono ?_)
  rintro e w2 ⟨rfl, hb⟩
  have HB := Lib.hid hb
  have c0 := (H.out.below hb).prio_ hk
  clear hb
  go_wp2
  go_ret2
  exact ⟨rfl, Only.of_below _ HB.out, H.out.below HB.out⟩
theorem read_pend (w : World) (b : Nat) (t : PS) (h : ProgP w b t) (ht : Tab w) : Calls Tryz.prog 80 #[.pointer (some ⟨b, 0, none⟩), .int .u64 4096, .int .i64 4] w (ProgEnd w b (.tuple #[.int .u64 (bits32 t.pend), .bool true]) t) := by
  have HF := Lib.hid (find_is w 4096 ht 1 0 true (by decide))
  have H := Lib.hid h
  have hw := wrap_u64s (bits32_bd t.pend).1 (bits32_bd t.pend).2
  clear h ht
  go_enter Tryz.func80, Tryz.ntmps80
  go_wp2_with fail
  (with_reducible refine (HF.out).mono ?_)
  rintro e w2 ⟨rfl, hb⟩
  have HB := Lib.hid hb
  have c0 := (H.out.below hb).pend_
  clear hb
  go_wp2
  go_ret2
  exact ⟨rfl, Only.of_below _ HB.out, H.out.below HB.out⟩
theorem read_on (w : World) (b : Nat) (t : PS) (h : ProgP w b t) (ht : Tab w) (c : Nat) (hc : c < 2) (off : Int) (hf : findQ off = (2, (c : Int), true)) : Calls Tryz.prog 80 #[.pointer (some ⟨b, 0, none⟩), .int .u64 off, .int .i64 4] w (ProgEnd w b (.tuple #[.int .u64 (bits32 fun s => t.on s c), .bool true]) t) := by
  have HF := Lib.hid (find_is w off ht _ _ _ hf)
  have H := Lib.hid h
  have hw := wrap_u64s (bits32_bd fun s => t.on s c).1 (bits32_bd fun s => t.on s c).2
  have i1 : (c : Int) < 2 := by omega
  clear h ht hf
  go_enter Tryz.func80, Tryz.ntmps80
  go_wp2_with fail
  (with_reducible refine (HF.out).mono ?_)
  rintro e w2 ⟨rfl, hb⟩
  have HB := Lib.hid hb
  have c0 := (H.out.below hb).on_ hc
  clear hb
  go_wp2
  go_ret2
  exact ⟨rfl, Only.of_below _ HB.out, H.out.below HB.out⟩
theorem read_floor (w : World) (b : Nat) (t : PS) (h : ProgP w b t) (ht : Tab w) (c : Nat) (hc : c < 2) (off : Int) (hf : findQ off = (3, (c : Int), true)) : Calls Tryz.prog 80 #[.pointer (some ⟨b, 0, none⟩), .int .u64 off, .int .i64 4] w (ProgEnd w b (.tuple #[.int .u64 (t.floor c), .bool true]) t) := by
  have HF := Lib.hid (find_is w off ht _ _ _ hf)
  have H := Lib.hid h
  have hw := wrap_u64s (h.2.fl c).1 (by have := (h.2.fl c).2; omega)
  have i1 : (c : Int) < 2 := by omega
  clear h ht hf
  go_enter Tryz.func80, Tryz.ntmps80
  go_wp2_with fail
  (with_reducible refine (HF.out).mono ?_)
  rintro e w2 ⟨rfl, hb⟩
  have HB := Lib.hid hb
  have c0 := (H.out.below hb).floor_ hc
  clear hb
  go_wp2
  go_ret2
  exact ⟨rfl, Only.of_below _ HB.out, H.out.below HB.out⟩
theorem read_claim (w : World) (b : Nat) (t : PS) (h : ProgP w b t) (ht : Tab w) (c : Nat) (hc : c < 2) (off : Int) (hf : findQ off = (4, (c : Int), true)) : Calls Tryz.prog 80 #[.pointer (some ⟨b, 0, none⟩), .int .u64 off, .int .i64 4] w (ProgEnd w b (.tuple #[.int .u64 (bestC t c), .bool true]) (claimed t (bestC t c))) := by
  have HF := Lib.hid (find_is w off ht _ _ _ hf)
  have H := Lib.hid h
  have hle := bestC_le t c
  have HCL : Hid (∀ w2, ProgP w2 b t → Calls Tryz.prog 125 #[.pointer (some ⟨b, 0, none⟩), .int .i64 c] w2 (ProgEnd w2 b (.int .i64 (bestC t c)) (claimed t (bestC t c)))) := Lib.hid fun w2 h2 => claim_any w2 b t h2 c _ rfl
  generalize bestC t (c : Int) = k at *
  have hw : IntKind.u64.wrap (k : Int) = k := wrap_u64s (by omega) (by omega)
  clear h ht hf
  go_enter Tryz.func80, Tryz.ntmps80
  go_wp2_with fail
  (with_reducible refine (HF.out).mono ?_)
  rintro e w2 ⟨rfl, hb⟩
  have HB := Lib.hid hb
  clear hb
  go_wp2_with fail
  (with_reducible refine (HCL.out _ (H.out.below HB.out)).mono ?_)
  rintro e w3 ⟨rfl, ho, hp⟩
  have HO := Lib.hid ((Only.of_below _ HB.out).trans ho)
  have HP := Lib.hid hp
  clear ho hp
  go_wp2
  go_ret2
  exact ⟨rfl, HO.out, HP.out⟩
theorem read_any (w : World) (b : Nat) (t : PS) (h : ProgP w b t) (ht : Tab w) (off n : Int) (ho : In64 off) :
    Calls Tryz.prog 80 #[.pointer (some ⟨b, 0, none⟩), .int .u64 off, .int .i64 n] w (ProgEnd w b (.tuple #[.int .u64 (rdX t (plcK off n)), .bool (okP (plcK off n))]) (rdT t (plcK off n))) := by
  rcases plc_cases off n ho.1 with ⟨rfl, k, hk, hk4, hp⟩ | ⟨rfl, rfl, hp⟩ | ⟨rfl, rfl, hp⟩ | ⟨rfl, rfl, hp⟩ | ⟨rfl, rfl, hp⟩ | ⟨rfl, rfl, hp⟩ | ⟨rfl, rfl, hp⟩ | ⟨rfl, rfl, hp⟩ | ⟨rfl, hn, hp⟩ | ⟨hn, hp⟩
  all_goals rw [hp]
  · exact read_prio w b t h ht k hk off hk4
  · exact read_pend w b t h ht
  · exact read_on w b t h ht 0 (by omega) _ (by decide)
  · exact read_on w b t h ht 1 (by omega) _ (by decide)
  · exact read_floor w b t h ht 0 (by omega) _ (by decide)
  · exact read_floor w b t h ht 1 (by omega) _ (by decide)
  · exact read_claim w b t h ht 0 (by omega) _ (by decide)
  · exact read_claim w b t h ht 1 (by omega) _ (by decide)
  · exact read_no w b t h ht off hn ho
  · exact read_len w b t h off n hn

end Go.Proofs.YtbcnkhfpogglmaaGreatDoor.P5

namespace Go.Proofs.YtbcnkhfpogglmaaGreatDoor.P5.In
open Go.RowKit
set_option linter.unusedVariables false
set_option maxRecDepth 100000
variable {fr : Fr 4}

/-- The program's plic t stands four cells behind the beginning of block b. -/
def ProgP (fr : Fr 4) (w : World) (b : Nat) (t : PS) : Prop := w.heap[b]? = some (.cells (fr.all (varr 39 (cellQ t))) fr.ty (0, 0)) ∧ t.ok
theorem ProgP.lt {w : World} {b : Nat} {t : PS} (h : ProgP fr w b t) : b < w.heap.size := (Array.getElem?_eq_some_iff.1 h.1).1
theorem ProgP.below {w w' : World} {b : Nat} {t : PS} (h : ProgP fr w b t) (o : Below w.heap.size w w') : ProgP fr w' b t := ⟨(o.block b h.lt).trans h.1, h.2⟩
theorem ProgP.keeps {w w' : World} {b : Nat} {t : PS} {T : Nat → Prop} (h : ProgP fr w b t) (o : Only T w w') (hb : ¬ T b) : ProgP fr w' b t := ⟨o.keeps hb h.1, h.2⟩
theorem ProgP.free {w : World} {b : Nat} {t : PS} (h : ProgP fr w b t) (k : Nat) : w.frozen? ⟨b, k, none⟩ = false := frozen_of_row w b k _ _ h.1
theorem ProgP.cell {w : World} {b : Nat} {t : PS} (h : ProgP fr w b t) {i a : Nat} (hi : i < 39) (ha : a = 4 + i) {v : Value} (hv : cellQ t i = v) : w.cell? ⟨b, a, none⟩ = some v := by
  subst ha
  rw [cell_of_row w b _ _ _ _ h.1, fr.get _ _ (by rw [varr_size]; exact hi), varr_get _ _ _ hi, hv]
theorem ProgP.up_ {w : World} {b : Nat} {t : PS} (h : ProgP fr w b t) : w.cell? ⟨b, 4, none⟩ = some (.int .u32 (bits32 t.up)) := h.cell (i := 0) (by omega) (by omega) rfl
theorem ProgP.pend_ {w : World} {b : Nat} {t : PS} (h : ProgP fr w b t) : w.cell? ⟨b, 5, none⟩ = some (.int .u32 (bits32 t.pend)) := h.cell (i := 1) (by omega) (by omega) rfl
theorem ProgP.busy_ {w : World} {b : Nat} {t : PS} (h : ProgP fr w b t) : w.cell? ⟨b, 6, none⟩ = some (.int .u32 (bits32 t.busy)) := h.cell (i := 2) (by omega) (by omega) rfl
theorem ProgP.prio_ {w : World} {b : Nat} {t : PS} (h : ProgP fr w b t) {s : Nat} (hs : s < 32) : w.cell? ⟨b, 7 + s, none⟩ = some (.int .u8 (t.prio s)) := h.cell (i := 3 + s) (by omega) (by omega) (cellQ_prio t hs)
theorem ProgP.on_ {w : World} {b : Nat} {t : PS} (h : ProgP fr w b t) {c : Nat} (hc : c < 2) : w.cell? ⟨b, 39 + c, none⟩ = some (.int .u32 (bits32 fun s => t.on s c)) := h.cell (i := 35 + c) (by omega) (by omega) (cellQ_on t hc)
theorem ProgP.floor_ {w : World} {b : Nat} {t : PS} (h : ProgP fr w b t) {c : Nat} (hc : c < 2) : w.cell? ⟨b, 41 + c, none⟩ = some (.int .u8 (t.floor c)) := h.cell (i := 37 + c) (by omega) (by omega) (cellQ_floor t hc)
theorem ProgP.set {w : World} {b : Nat} {t t' : PS} (h : ProgP fr w b t) {k : Nat} (a : Nat) (ha : a = 4 + k) (hk : k < 39) (v : Value) (ok : t'.ok) (he : ∀ i, i < 39 → cellQ t' i = if i = k then v else cellQ t i) : ProgP fr (w.setCell ⟨b, a, none⟩ v) b t' := by
  refine ⟨?_, ok⟩
  subst ha
  rw [heap_setCell_same w b _ _ _ _ h.1, fr.set _ _ _ (by rw [varr_size]; exact hk), varr_set]
  rw [show (varr 39 fun i => if i = k then v else cellQ t i) = varr 39 (cellQ t') from varr_congr fun i hi => (he i hi).symm]
theorem ProgP.setUp {w : World} {b : Nat} {t : PS} (h : ProgP fr w b t) {s : Nat} (hs : 1 ≤ s) (u : Bool) : ProgP fr (w.setCell ⟨b, 4, none⟩ (.int .u32 (bits32 (upd t.up s u)))) b (upP t s u) :=
  h.set (k := 0) 4 (by omega) (by omega) _ ⟨h.2.prio0, h.2.on0, h.2.pend0, (upd_other t.up u (show ¬ 0 = s by omega)).trans h.2.up0, h.2.pr, h.2.fl⟩ (cells_eq rfl rfl rfl (fun s _ => (if_neg (by omega)).symm) (fun c _ => (if_neg (by omega)).symm) (fun c _ => (if_neg (by omega)).symm))
theorem ProgP.setPend {w : World} {b : Nat} {t : PS} (h : ProgP fr w b t) (f : Nat → Bool) (h0 : f 0 = false) : ProgP fr (w.setCell ⟨b, 5, none⟩ (.int .u32 (bits32 f))) b { t with pend := f } :=
  h.set (k := 1) 5 (by omega) (by omega) _ ⟨h.2.prio0, h.2.on0, h0, h.2.up0, h.2.pr, h.2.fl⟩ (cells_eq rfl rfl rfl (fun s _ => (if_neg (by omega)).symm) (fun c _ => (if_neg (by omega)).symm) (fun c _ => (if_neg (by omega)).symm))
theorem ProgP.setBusy {w : World} {b : Nat} {t : PS} (h : ProgP fr w b t) (f : Nat → Bool) : ProgP fr (w.setCell ⟨b, 6, none⟩ (.int .u32 (bits32 f))) b { t with busy := f } :=
  h.set (k := 2) 6 (by omega) (by omega) _ ⟨h.2.prio0, h.2.on0, h.2.pend0, h.2.up0, h.2.pr, h.2.fl⟩ (cells_eq rfl rfl rfl (fun s _ => (if_neg (by omega)).symm) (fun c _ => (if_neg (by omega)).symm) (fun c _ => (if_neg (by omega)).symm))
theorem ProgP.setPrio {w : World} {b : Nat} {t : PS} (h : ProgP fr w b t) {s : Nat} (hs : 1 ≤ s) (hs2 : s < 32) {v : Int} (h0 : 0 ≤ v) (h8 : v < 8) : ProgP fr (w.setCell ⟨b, 7 + s, none⟩ (.int .u8 v)) b (prioT t s v) :=
  h.set (k := 3 + s) _ (by omega) (by omega) _ (ok_prio h.2 hs h0 h8) (cells_eq (if_neg (by omega)).symm (if_neg (by omega)).symm (if_neg (by omega)).symm (fun i _ => by
    show Value.int .u8 (upd t.prio s v i) = _
    unfold upd
    by_cases e : i = s
    · rw [if_pos e, if_pos (by omega)]
    · rw [if_neg e, if_neg (by omega)]) (fun c _ => (if_neg (by omega)).symm) (fun c _ => (if_neg (by omega)).symm))
theorem ProgP.setFloor {w : World} {b : Nat} {t : PS} (h : ProgP fr w b t) {c : Nat} (hc : c < 2) {v : Int} (h0 : 0 ≤ v) (h8 : v < 8) : ProgP fr (w.setCell ⟨b, 41 + c, none⟩ (.int .u8 v)) b (floorT t c v) :=
  h.set (k := 37 + c) _ (by omega) (by omega) _ (ok_floor h.2 c h0 h8) (cells_eq (if_neg (by omega)).symm (if_neg (by omega)).symm (if_neg (by omega)).symm (fun i _ => (if_neg (by omega)).symm) (fun i _ => (if_neg (by omega)).symm) (fun i _ => by
    rw [floorT_at]
    by_cases e : i = c
    · rw [if_pos e, if_pos (by omega)]
    · rw [if_neg e, if_neg (by omega)]))
theorem ProgP.setOn {w : World} {b : Nat} {t : PS} (h : ProgP fr w b t) {c : Nat} (hc : c < 2) (f : Nat → Bool) (h0 : f 0 = false) : ProgP fr (w.setCell ⟨b, 39 + c, none⟩ (.int .u32 (bits32 f))) b (onT t c f) :=
  h.set (k := 35 + c) _ (by omega) (by omega) _ (ok_on h.2 c h0) (cells_eq (if_neg (by omega)).symm (if_neg (by omega)).symm (if_neg (by omega)).symm (fun i _ => (if_neg (by omega)).symm) (fun i _ => by
    show Value.int .u32 (bits32 fun s => if i = c then f s else t.on s i) = _
    by_cases e : i = c
    · rw [if_pos (show 35 + i = 35 + c by omega)]; congr 1; exact bits32_congr fun s _ => if_pos e
    · rw [if_neg (by omega)]; congr 1; exact bits32_congr fun s _ => if_neg e) (fun i _ => (if_neg (by omega)).symm))

def SetQ (fr : Fr 4) (w : World) (b : Nat) (t' : PS) (e : Ending) (w' : World) : Prop := (∃ u, e = .returned u) ∧ Only (fun i => i = b) w w' ∧ ProgP fr w' b t'
set_option maxHeartbeats 1000000 in
theorem look_any (w : World) (b : Nat) (t : PS) (h : ProgP fr w b t) (s : Nat) (h1 : 1 ≤ s) (hs : s < 32) :
    Calls Tryz.prog 91 #[.pointer (some ⟨b, 4, none⟩), .int .i64 s] w (SetQ fr w b (lookP t s)) := by
  have c0 := h.up_
  have c1 := h.pend_
  have c2 := h.busy_
  have f1 := h.free 5
  have H := Lib.hid h
  have HN : Hid (ProgP fr (w.drew.setCell ⟨b, 5, none⟩ (.int .u32 (bits32 (upd t.pend s true)))) b { t with pend := upd t.pend s true }) := Lib.hid (ProgP.setPend (w := w.drew) ⟨h.1, h.2⟩ _ (upd0 h.2.pend0 h1 true))
  have HO : Hid (Only (fun i => i = b) w (w.drew.setCell ⟨b, 5, none⟩ (.int .u32 (bits32 (upd t.pend s true))))) := Lib.hid (Only.setCell ((Only.refl (fun i => i = b) w).drewN 1) (p := ⟨b, 5, none⟩) (.inl rfl) _)
  have H1 := Lib.hid (one_shl hs)
  have H2 := Lib.hid (set32 t.pend hs)
  clear h
  generalize hu : t.up s = u at *
  generalize hb : t.busy s = v at *
  have HU := Lib.hid hu
  have HB := Lib.hid hb
  have HL : Hid (lookP t s = if u && !v then { t with pend := upd t.pend s true } else t) := Lib.hid (by unfold lookP; rw [hu, hb])
  clear hu hb
  cases u with
  | false =>
    have HE : Hid (lookP t s = t) := Lib.hid (by rw [HL.out]; rfl)
    rw [HE.out]
    go_enter Tryz.func91, Tryz.ntmps91
    go_wp2_with fail
    (with_reducible refine (bitQ t.up s hs _ HU.out _).mono ?_)
    rintro e w' ⟨rfl, rfl⟩
    go_wp2
    go_end0
    exact ⟨⟨_, rfl⟩, Only.refl _ _, H.out⟩
  | true =>
  cases v with
  | true =>
    have HE : Hid (lookP t s = t) := Lib.hid (by rw [HL.out]; rfl)
    rw [HE.out]
    go_enter Tryz.func91, Tryz.ntmps91
    go_wp2_with fail
    (with_reducible refine (bitQ t.up s hs _ HU.out _).mono ?_)
    rintro e w' ⟨rfl, rfl⟩
    go_wp2_with fail
    (with_reducible refine (bitQ t.busy s hs _ HB.out _).mono ?_)
    rintro e w' ⟨rfl, rfl⟩
    go_wp2
    go_end0
    exact ⟨⟨_, rfl⟩, Only.refl _ _, H.out⟩
  | false =>
    have HE : Hid (lookP t s = { t with pend := upd t.pend s true }) := Lib.hid (by rw [HL.out]; rfl)
    rw [HE.out]
    go_enter Tryz.func91, Tryz.ntmps91
    go_wp2_with fail
    (with_reducible refine (bitQ t.up s hs _ HU.out _).mono ?_)
    rintro e w' ⟨rfl, rfl⟩
    go_wp2_with fail
    (with_reducible refine (bitQ t.busy s hs _ HB.out _).mono ?_)
    rintro e w' ⟨rfl, rfl⟩
    go_wp2_with fail
    go_still_tail 9, (by kernel_rfl)
    change wpList _ _ _ _ _ w.drew
    have d1 : w.drew.frozen? ⟨b, 5, none⟩ = false := f1
    have e1 := H1.out
    have e2 := H2.out
    go_wp2
    go_end0
    exact ⟨⟨_, rfl⟩, HO.out, HN.out⟩
def ProgEnd (fr : Fr 4) (w : World) (b : Nat) (r : Value) (t' : PS) (e : Ending) (w' : World) : Prop := e = .returned r ∧ Only (fun i => i = b) w w' ∧ ProgP fr w' b t'
set_option maxHeartbeats 1000000 in
theorem level_any (w : World) (b : Nat) (t : PS) (s : Int) (u : Bool) (h : ProgP fr w b t) :
    Calls Tryz.prog 45 #[.pointer (some ⟨b, 4, none⟩), .int .i64 s, .bool u] w (ProgEnd fr w b (.bool (isS s)) (levelP t s u)) := by
  cases hs : isS s with
  | false =>
    have HE : Hid (ProgEnd fr w b (.bool false) (levelP t s u) (.returned (.bool false)) w) := by
      refine Lib.hid ⟨rfl, Only.refl _ _, ?_⟩
      unfold levelP; rw [hs, if_neg (by simp)]; exact h
    have HS := Lib.hid hs
    clear h hs
    go_enter Tryz.func45, Tryz.ntmps45
    go_wp2_with fail
    (with_reducible refine (isSource_any _ _).mono ?_)
    rintro e w' ⟨rfl, rfl⟩
    rw [HS.out]
    go_wp2
    go_ret
    exact HE.out
  | true =>
    obtain ⟨k, rfl, hk1, hk2⟩ := isS_nat hs
    have HS := Lib.hid hs
    have HL : Hid (levelP t (k : Int) u = lookP (upP t k u) k) := by
      refine Lib.hid ?_
      unfold levelP; rw [hs, if_pos rfl]; rfl
    have c0 := h.up_
    have f0 := h.free 4
    have HN : Hid (ProgP fr (w.drew.setCell ⟨b, 4, none⟩ (.int .u32 (bits32 (upd t.up k u)))) b (upP t k u)) := Lib.hid (ProgP.setUp (w := w.drew) ⟨h.1, h.2⟩ hk1 u)
    have HO : Hid (Only (fun i => i = b) w (w.drew.setCell ⟨b, 4, none⟩ (.int .u32 (bits32 (upd t.up k u))))) := Lib.hid (Only.setCell ((Only.refl (fun i => i = b) w).drewN 1) (p := ⟨b, 4, none⟩) (.inl rfl) _)
    have H1 := Lib.hid (one_shl hk2)
    have H2 := Lib.hid (set32 t.up hk2)
    have H3 := Lib.hid (clr32 t.up hk2)
    clear h hs
    rw [HL.out]
    cases u <;>
    · go_enter Tryz.func45, Tryz.ntmps45
      go_wp2_with fail
      (with_reducible refine (isSource_any _ _).mono ?_)
      rintro e w' ⟨rfl, rfl⟩
      rw [HS.out]
      go_wp2_with fail
      go_still_tail 9, (by kernel_rfl)
      change wpList _ _ _ _ _ w.drew
      have d1 : w.drew.frozen? ⟨b, 4, none⟩ = false := f0
      have d0 : w.drew.cell? ⟨b, 4, none⟩ = some (.int .u32 (bits32 t.up)) := c0
      generalize w.drew = wd at *
      have e1 := H1.out
      have e2 := H2.out
      have e3 := H3.out
      go_wp2_with fail
      clear e1 e2 e3
      (with_reducible refine (look_any _ b _ HN.out k hk1 hk2).mono ?_)
      rintro e w' ⟨hu, ho, hp⟩
      obtain ⟨v, rfl⟩ := hu
      have HO2 := Lib.hid (HO.out.trans ho)
      have HP := Lib.hid hp
      clear ho hp
      go_wp2
      go_ret
      exact ⟨rfl, HO2.out, HP.out⟩
theorem setPriority_no (w : World) (b : Nat) (i v : Int) (hi : isS i = false) : Calls Tryz.prog 126 #[.pointer (some ⟨b, 4, none⟩), .int .i64 i, .int .u64 v] w fun e w' => (∃ u, e = .returned u) ∧ w = w' := by
  have HI := Lib.hid hi
  clear hi
  go_enter Tryz.func126, Tryz.ntmps126
  go_wp2_with fail
  (with_reducible refine (isSource_any _ _).mono ?_)
  rintro e w' ⟨rfl, rfl⟩
  rw [HI.out]
  go_wp2
  go_end0
  exact ⟨⟨_, rfl⟩, rfl⟩
set_option maxHeartbeats 1000000 in
theorem setPriority_yes (w : World) (b : Nat) (t : PS) (h : ProgP fr w b t) (k : Nat) (h1 : 1 ≤ k) (h2 : k < 32) (v : Int) (hv : In64 v) :
    Calls Tryz.prog 126 #[.pointer (some ⟨b, 4, none⟩), .int .i64 k, .int .u64 v] w (SetQ fr w b (prioT t k (v % 8))) := by
  have HI : Hid (isS (k : Int) = true) := Lib.hid (by unfold isS; rw [decide_eq_true (by omega)])
  have HV := Lib.hid hv
  have h8 := low3 hv
  have hr1 := Int.emod_nonneg v (show (8 : Int) ≠ 0 by decide)
  have hr2 := Int.emod_lt_of_pos v (show (0 : Int) < 8 by decide)
  have HN : Hid (∀ n, ProgP fr ((w.drewN n).setCell ⟨b, 7 + k, none⟩ (.int .u8 (v % 8))) b (prioT t k (v % 8))) := Lib.hid fun n => ProgP.setPrio (w := w.drewN n) ⟨h.1, h.2⟩ h1 h2 hr1 hr2
  have HO : Hid (∀ n, Only (fun i => i = b) w ((w.drewN n).setCell ⟨b, 7 + k, none⟩ (.int .u8 (v % 8)))) := Lib.hid fun n => Only.setCell ((Only.refl (fun i => i = b) w).drewN n) (p := ⟨b, 7 + k, none⟩) (.inl rfl) _
  have H8 := Lib.hid (wrap_u8 hr1 hr2)
  have ff := h.free (7 + k)
  have cc := h.prio_ h2
  have i1 : (k : Int) < 32 := by omega
  have HL := Lib.hid h8
  clear h hv h8 hr1 hr2
  go_enter Tryz.func126, Tryz.ntmps126
  go_wp2_with fail
  (with_reducible refine (isSource_any _ _).mono ?_)
  rintro e w' ⟨rfl, rfl⟩
  rw [HI.out]
  go_wp2_with fail
  go_region_with (go_at_call 117; refine (field_any _ _ _ HV.out _).mono ?_; rintro e w' ⟨rfl, q, rfl⟩; rw [HL.out]; have e8 := H8.out; have f8 : (w.drew.drewN q).frozen? ⟨b, 7 + k, none⟩ = false := ff; have g8 : (w.drew.drewN q).cell? ⟨b, 7 + k, none⟩ = some (.int .u8 (t.prio k)) := cc)
  go_end0
  exact ⟨⟨_, rfl⟩, HO.out _, HN.out _⟩
set_option maxHeartbeats 1000000 in
theorem complete_any (w : World) (b : Nat) (t : PS) (h : ProgP fr w b t) (c : Nat) (hc : c < 2) (x : Nat) :
    Calls Tryz.prog 127 #[.pointer (some ⟨b, 4, none⟩), .int .i64 c, .int .i64 x] w (SetQ fr w b (doneT t c x)) := by
  have con := h.on_ hc
  have cbu := h.busy_
  have fbu := h.free 6
  have H := Lib.hid h
  have i1 : (c : Int) < 2 := by omega
  have hand := both32 (fun s => t.on s c) t.busy
  by_cases hx : x < 32
  · obtain ⟨u, hu⟩ : ∃ u, (t.on x c && t.busy x) = u := ⟨_, rfl⟩
    have HU := Lib.hid hu
    cases u with
    | false =>
      have HE : Hid (doneT t c x = t) := Lib.hid (by
        unfold doneT mayB
        rw [if_neg]
        rw [Bool.and_assoc, hu]; simp)
      rw [HE.out]
      clear hu h
      go_enter Tryz.func127, Tryz.ntmps127
      go_wp2_with fail
      go_quiet ((go_at_call 87; exact Calls.quiet_of_same ((bitQ (fun s => t.on s c && t.busy s) x hx false HU.out _).mono fun e w' h => ⟨h.1, h.2.symm⟩)))
      go_wp2
      go_end0
      exact ⟨⟨_, rfl⟩, (Only.refl _ _).drewN _, H.out⟩
    | true =>
      have hx1 : 1 ≤ x := by
        rcases Nat.eq_zero_or_pos x with rfl | h0
        · rw [h.2.on0] at hu; cases hu
        · exact h0
      have HE : Hid (doneT t c x = lookP (idleP t x) x) := Lib.hid (by
        unfold doneT mayB
        rw [Bool.and_assoc, hu, if_pos]
        simp; omega)
      rw [HE.out]
      have H1 := Lib.hid (one_shl hx)
      have H2 := Lib.hid (clr32 t.busy hx)
      clear hu h
      go_enter Tryz.func127, Tryz.ntmps127
      go_wp2_with fail
      go_quiet ((go_at_call 87; exact Calls.quiet_of_same ((bitQ (fun s => t.on s c && t.busy s) x hx true HU.out _).mono fun e w' h => ⟨h.1, h.2.symm⟩)))
      have dbu : (w.drewN nq).cell? ⟨b, 6, none⟩ = some (.int .u32 (bits32 t.busy)) := cbu
      have dfu : (w.drewN nq).frozen? ⟨b, 6, none⟩ = false := fbu
      have HQ : Hid (ProgP fr (w.drewN nq) b t) := Lib.hid H.out
      have HW : Hid (Only (fun i => i = b) w (w.drewN nq)) := Lib.hid ((Only.refl _ _).drewN nq)
      generalize w.drewN nq = wq at *
      go_wp2_with fail
      go_still_tail 9, (by kernel_rfl)
      have HN : Hid (ProgP fr (wq.drew.setCell ⟨b, 6, none⟩ (.int .u32 (bits32 (upd t.busy x false)))) b (idleP t x)) := Lib.hid (ProgP.setBusy (w := wq.drew) HQ.out _)
      have HO : Hid (Only (fun i => i = b) w (wq.drew.setCell ⟨b, 6, none⟩ (.int .u32 (bits32 (upd t.busy x false))))) := Lib.hid (Only.setCell (HW.out.drewN 1) (p := ⟨b, 6, none⟩) (.inl rfl) _)
      change wpList _ _ _ _ _ wq.drew
      have d1 : wq.drew.frozen? ⟨b, 6, none⟩ = false := dfu
      have d0 : wq.drew.cell? ⟨b, 6, none⟩ = some (.int .u32 (bits32 t.busy)) := dbu
      generalize wq.drew = wd at *
      have e1 := H1.out
      have e2 := H2.out
      clear hand
      go_wp2_with fail
      clear e1 e2
      (with_reducible refine (look_any _ b _ HN.out x hx1 hx).mono ?_)
      rintro e w' ⟨hu, ho, hp⟩
      obtain ⟨v, rfl⟩ := hu
      have HO2 := Lib.hid (HO.out.trans ho)
      have HP := Lib.hid hp
      clear ho hp
      go_wp2
      go_end0
      exact ⟨⟨_, rfl⟩, HO2.out, HP.out⟩
  · have HE : Hid (doneT t c x = t) := Lib.hid (by
      unfold doneT mayB
      rw [decide_eq_false (show ¬ x ≤ 31 by omega), if_neg (by simp)])
    rw [HE.out]
    have HX : Hid (¬ (0 ≤ (x : Int) ∧ (x : Int) < 32)) := Lib.hid (by omega)
    clear h
    go_enter Tryz.func127, Tryz.ntmps127
    go_wp2_with fail
    go_quiet ((go_at_call 87; exact Calls.quiet_of_same ((bitQ_out (fun s => t.on s c && t.busy s) x HX.out _).mono fun e w' h => ⟨h.1, h.2.symm⟩)))
    go_wp2
    go_end0
    exact ⟨⟨_, rfl⟩, (Only.refl _ _).drewN _, H.out⟩
set_option maxHeartbeats 2000000 in
theorem claim_any (w : World) (b : Nat) (t : PS) (h : ProgP fr w b t) (c : Int) (k : Nat) (hk : bestC t c = k) :
    Calls Tryz.prog 125 #[.pointer (some ⟨b, 4, none⟩), .int .i64 c] w (ProgEnd fr w b (.int .i64 k) (claimed t k)) := by
  have hle := bestC_le t c
  have hbest := fun w' => best_any w' t h.2 c
  rw [hk] at hbest
  unfold progPV at hbest
  have HBEST := Lib.hid hbest
  have HROW : Hid (w.rangeAt b 4 (varr 39 (cellQ t)).toList) := Lib.hid (fr.range h.1)
  have HSZ : Hid ((varr 39 (cellQ t)).size = 39) := Lib.hid (varr_size _ _)
  have H := Lib.hid h
  rw [hk] at hle
  clear h hk hbest
  generalize varr 39 (cellQ t) = row at *
  go_enter Tryz.func125, Tryz.ntmps125
  go_wp2_with (refine wpList_load_fr rfl _ _ rfl b 4 rfl _ _ HROW.out Tryz.underlying69 rfl ?_ ?_; · exact size_progP.trans (by rw [HSZ.out]))
  refine (HBEST.out _).mono ?_
  rintro e w2 ⟨rfl, hb⟩
  have HB2 := Lib.hid hb
  have HP := Lib.hid (H.out.below hb)
  clear hb HROW HSZ HBEST H
  by_cases k0 : k = 0
  · subst k0
    have HC : Hid (claimed t 0 = t) := Lib.hid (by unfold claimed; rw [if_pos rfl])
    rw [HC.out]
    go_wp2
    go_ret
    exact ⟨rfl, Only.of_below _ HB2.out, HP.out⟩
  · have hk : (0 : Int) < (k : Int) := by omega
    have hk1 : 1 ≤ k := by omega
    have hk32 : k < 32 := by omega
    have HC : Hid (claimed t k = claimP t k) := Lib.hid (by unfold claimed; rw [if_neg k0])
    rw [HC.out]
    have c1 := HP.out.pend_
    have f1 := HP.out.free 5
    have H1 := Lib.hid (one_shl hk32)
    have H2 := Lib.hid (clr32 t.pend hk32)
    have H3 := Lib.hid (set32 t.busy hk32)
    clear k0
    go_wp2_with fail
    go_still_tail 9, (by kernel_rfl)
    change wpList _ _ _ _ _ w2.drew
    have HPD : Hid (ProgP fr w2.drew b t) := Lib.hid HP.out
    have HBD : Hid (Below w.heap.size w w2.drew) := Lib.hid HB2.out.drew
    have d0 : w2.drew.cell? ⟨b, 5, none⟩ = some (.int .u32 (bits32 t.pend)) := c1
    have d1 : w2.drew.frozen? ⟨b, 5, none⟩ = false := f1
    clear c1 f1
    generalize w2.drew = w3 at *
    have HN : Hid (ProgP fr (w3.setCell ⟨b, 5, none⟩ (.int .u32 (bits32 (upd t.pend k false)))) b (unpendP t k)) := Lib.hid (HPD.out.setPend _ (upd0 HPD.out.2.pend0 hk1 false))
    have HO : Hid (Only (fun i => i = b) w (w3.setCell ⟨b, 5, none⟩ (.int .u32 (bits32 (upd t.pend k false))))) := Lib.hid ((Only.of_below (fun i => i = b) HBD.out).setCell (p := ⟨b, 5, none⟩) (.inl rfl) _)
    have e1 := H1.out
    have e2 := H2.out
    go_wp2_with fail
    clear e1 e2 d0 d1
    generalize w3.setCell ⟨b, 5, none⟩ (.int .u32 (bits32 (upd t.pend k false))) = w4 at *
    have d2 : w4.cell? ⟨b, 6, none⟩ = some (.int .u32 (bits32 t.busy)) := HN.out.busy_
    have f2 := HN.out.free 6
    go_still_tail 9, (by kernel_rfl)
    change wpList _ _ _ _ _ w4.drew
    have HND : Hid (ProgP fr w4.drew b (unpendP t k)) := Lib.hid HN.out
    have HOD : Hid (Only (fun i => i = b) w w4.drew) := Lib.hid (HO.out.drewN 1)
    have g2 : w4.drew.cell? ⟨b, 6, none⟩ = some (.int .u32 (bits32 t.busy)) := d2
    have g3 : w4.drew.frozen? ⟨b, 6, none⟩ = false := f2
    clear d2 f2
    generalize w4.drew = w5 at *
    have HN2 : Hid (ProgP fr (w5.setCell ⟨b, 6, none⟩ (.int .u32 (bits32 (upd t.busy k true)))) b (claimP t k)) := Lib.hid (HND.out.setBusy (upd t.busy k true))
    have HO2 : Hid (Only (fun i => i = b) w (w5.setCell ⟨b, 6, none⟩ (.int .u32 (bits32 (upd t.busy k true))))) := Lib.hid (HOD.out.setCell (p := ⟨b, 6, none⟩) (.inl rfl) _)
    have e1 := H1.out
    have e3 := H3.out
    go_wp2
    go_ret
    exact ⟨rfl, HO2.out, by rw [HC.out]; exact HN2.out⟩
theorem read_len (w : World) (b : Nat) (t : PS) (h : ProgP fr w b t) (off n : Int) (hn : ¬ n = 4) : Calls Tryz.prog 80 #[.pointer (some ⟨b, 4, none⟩), .int .u64 off, .int .i64 n] w (ProgEnd fr w b (.tuple #[.int .u64 0, .bool false]) t) := by
  have HN := Lib.hid hn
  have H := Lib.hid h
  clear hn h
  go_enter Tryz.func80, Tryz.ntmps80
  go_wp2_with fail
  refine (find_len _ off n HN.out).mono ?_
  rintro e w2 ⟨rfl, hb⟩
  have HB := Lib.hid hb
  clear hb
  go_wp2
  go_ret2
  exact ⟨rfl, Only.of_below _ HB.out, H.out.below HB.out⟩
theorem read_no (w : World) (b : Nat) (t : PS) (h : ProgP fr w b t) (ht : Tab w) (off : Int) (hn : NoPlic off) (ho : In64 off) : Calls Tryz.prog 80 #[.pointer (some ⟨b, 4, none⟩), .int .u64 off, .int .i64 4] w (ProgEnd fr w b (.tuple #[.int .u64 0, .bool false]) t) := by
  have HF := Lib.hid (find_is w off ht _ _ _ (findQ_no hn ho))
  have H := Lib.hid h
  clear hn h ho ht
  go_enter Tryz.func80, Tryz.ntmps80
  go_wp2_with fail
  (with_reducible refine (HF.out).mono ?_)
  rintro e w2 ⟨rfl, hb⟩
  have HB := Lib.hid hb
  clear hb
  go_wp2
  go_ret2
  exact ⟨rfl, Only.of_below _ HB.out, H.out.below HB.out⟩
theorem read_prio (w : World) (b : Nat) (t : PS) (h : ProgP fr w b t) (ht : Tab w) (k : Nat) (hk : k < 32) (off : Int) (ho : off = 4 * (k : Int)) : Calls Tryz.prog 80 #[.pointer (some ⟨b, 4, none⟩), .int .u64 off, .int .i64 4] w (ProgEnd fr w b (.tuple #[.int .u64 (t.prio k), .bool true]) t) := by
  have HF := Lib.hid (find_is w off ht 0 (k : Int) true (by rw [ho]; exact findQ_prio hk))
  have H := Lib.hid h
  have hw := wrap_u64s (h.2.pr k).1 (by have := (h.2.pr k).2; omega)
  have i1 : (k : Int) < 32 := by omega
  clear h ht ho
  go_enter Tryz.func80, Tryz.ntmps80
  go_wp2_with fail
  (with_reducible refine (HF.out).mono ?_)
  rintro e w2 ⟨rfl, hb⟩
  have HB := Lib.hid hb
  have c0 := (H.out.below hb).prio_ hk
  clear hb
  go_wp2
  go_ret2
  exact ⟨rfl, Only.of_below _ HB.out, H.out.below HB.out⟩
theorem read_pend (w : World) (b : Nat) (t : PS) (h : ProgP fr w b t) (ht : Tab w) : Calls Tryz.prog 80 #[.pointer (some ⟨b, 4, none⟩), .int .u64 4096, .int .i64 4] w (ProgEnd fr w b (.tuple #[.int .u64 (bits32 t.pend), .bool true]) t) := by
  have HF := Lib.hid (find_is w 4096 ht 1 0 true (by decide))
  have H := Lib.hid h
  have hw := wrap_u64s (bits32_bd t.pend).1 (bits32_bd t.pend).2
  clear h ht
  go_enter Tryz.func80, Tryz.ntmps80
  go_wp2_with fail
  (with_reducible refine (HF.out).mono ?_)
  rintro e w2 ⟨rfl, hb⟩
  have HB := Lib.hid hb
  have c0 := (H.out.below hb).pend_
  clear hb
  go_wp2
  go_ret2
  exact ⟨rfl, Only.of_below _ HB.out, H.out.below HB.out⟩
theorem read_on (w : World) (b : Nat) (t : PS) (h : ProgP fr w b t) (ht : Tab w) (c : Nat) (hc : c < 2) (off : Int) (hf : findQ off = (2, (c : Int), true)) : Calls Tryz.prog 80 #[.pointer (some ⟨b, 4, none⟩), .int .u64 off, .int .i64 4] w (ProgEnd fr w b (.tuple #[.int .u64 (bits32 fun s => t.on s c), .bool true]) t) := by
  have HF := Lib.hid (find_is w off ht _ _ _ hf)
  have H := Lib.hid h
  have hw := wrap_u64s (bits32_bd fun s => t.on s c).1 (bits32_bd fun s => t.on s c).2
  have i1 : (c : Int) < 2 := by omega
  clear h ht hf
  go_enter Tryz.func80, Tryz.ntmps80
  go_wp2_with fail
  (with_reducible refine (HF.out).mono ?_)
  rintro e w2 ⟨rfl, hb⟩
  have HB := Lib.hid hb
  have c0 := (H.out.below hb).on_ hc
  clear hb
  go_wp2
  go_ret2
  exact ⟨rfl, Only.of_below _ HB.out, H.out.below HB.out⟩
theorem read_floor (w : World) (b : Nat) (t : PS) (h : ProgP fr w b t) (ht : Tab w) (c : Nat) (hc : c < 2) (off : Int) (hf : findQ off = (3, (c : Int), true)) : Calls Tryz.prog 80 #[.pointer (some ⟨b, 4, none⟩), .int .u64 off, .int .i64 4] w (ProgEnd fr w b (.tuple #[.int .u64 (t.floor c), .bool true]) t) := by
  have HF := Lib.hid (find_is w off ht _ _ _ hf)
  have H := Lib.hid h
  have hw := wrap_u64s (h.2.fl c).1 (by have := (h.2.fl c).2; omega)
  have i1 : (c : Int) < 2 := by omega
  clear h ht hf
  go_enter Tryz.func80, Tryz.ntmps80
  go_wp2_with fail
  (with_reducible refine (HF.out).mono ?_)
  rintro e w2 ⟨rfl, hb⟩
  have HB := Lib.hid hb
  have c0 := (H.out.below hb).floor_ hc
  clear hb
  go_wp2
  go_ret2
  exact ⟨rfl, Only.of_below _ HB.out, H.out.below HB.out⟩
theorem read_claim (w : World) (b : Nat) (t : PS) (h : ProgP fr w b t) (ht : Tab w) (c : Nat) (hc : c < 2) (off : Int) (hf : findQ off = (4, (c : Int), true)) : Calls Tryz.prog 80 #[.pointer (some ⟨b, 4, none⟩), .int .u64 off, .int .i64 4] w (ProgEnd fr w b (.tuple #[.int .u64 (bestC t c), .bool true]) (claimed t (bestC t c))) := by
  have HF := Lib.hid (find_is w off ht _ _ _ hf)
  have H := Lib.hid h
  have hle := bestC_le t c
  have HCL : Hid (∀ w2, ProgP fr w2 b t → Calls Tryz.prog 125 #[.pointer (some ⟨b, 4, none⟩), .int .i64 c] w2 (ProgEnd fr w2 b (.int .i64 (bestC t c)) (claimed t (bestC t c)))) := Lib.hid fun w2 h2 => claim_any w2 b t h2 c _ rfl
  generalize bestC t (c : Int) = k at *
  have hw : IntKind.u64.wrap (k : Int) = k := wrap_u64s (by omega) (by omega)
  clear h ht hf
  go_enter Tryz.func80, Tryz.ntmps80
  go_wp2_with fail
  (with_reducible refine (HF.out).mono ?_)
  rintro e w2 ⟨rfl, hb⟩
  have HB := Lib.hid hb
  clear hb
  go_wp2_with fail
  (with_reducible refine (HCL.out _ (H.out.below HB.out)).mono ?_)
  rintro e w3 ⟨rfl, ho, hp⟩
  have HO := Lib.hid ((Only.of_below _ HB.out).trans ho)
  have HP := Lib.hid hp
  clear ho hp
  go_wp2
  go_ret2
  exact ⟨rfl, HO.out, HP.out⟩
theorem read_any (w : World) (b : Nat) (t : PS) (h : ProgP fr w b t) (ht : Tab w) (off n : Int) (ho : In64 off) :
    Calls Tryz.prog 80 #[.pointer (some ⟨b, 4, none⟩), .int .u64 off, .int .i64 n] w (ProgEnd fr w b (.tuple #[.int .u64 (rdX t (plcK off n)), .bool (okP (plcK off n))]) (rdT t (plcK off n))) := by
  rcases plc_cases off n ho.1 with ⟨rfl, k, hk, hk4, hp⟩ | ⟨rfl, rfl, hp⟩ | ⟨rfl, rfl, hp⟩ | ⟨rfl, rfl, hp⟩ | ⟨rfl, rfl, hp⟩ | ⟨rfl, rfl, hp⟩ | ⟨rfl, rfl, hp⟩ | ⟨rfl, rfl, hp⟩ | ⟨rfl, hn, hp⟩ | ⟨hn, hp⟩
  all_goals rw [hp]
  · exact read_prio w b t h ht k hk off hk4
  · exact read_pend w b t h ht
  · exact read_on w b t h ht 0 (by omega) _ (by decide)
  · exact read_on w b t h ht 1 (by omega) _ (by decide)
  · exact read_floor w b t h ht 0 (by omega) _ (by decide)
  · exact read_floor w b t h ht 1 (by omega) _ (by decide)
  · exact read_claim w b t h ht 0 (by omega) _ (by decide)
  · exact read_claim w b t h ht 1 (by omega) _ (by decide)
  · exact read_no w b t h ht off hn ho
  · exact read_len w b t h off n hn
theorem write_len (w : World) (b : Nat) (t : PS) (h : ProgP fr w b t) (off n v : Int) (hn : ¬ n = 4) : Calls Tryz.prog 81 #[.pointer (some ⟨b, 4, none⟩), .int .u64 off, .int .i64 n, .int .u64 v] w (ProgEnd fr w b (.bool false) t) := by
  have HN := Lib.hid hn
  have H := Lib.hid h
  clear hn h
  go_enter Tryz.func81, Tryz.ntmps81
  go_wp2_with fail
  refine (find_len _ off n HN.out).mono ?_
  rintro e w2 ⟨rfl, hb⟩
  have HB := Lib.hid hb
  clear hb
  go_wp2
  go_ret
  exact ⟨rfl, Only.of_below _ HB.out, H.out.below HB.out⟩
theorem write_no (w : World) (b : Nat) (t : PS) (h : ProgP fr w b t) (ht : Tab w) (off v : Int) (hn : NoPlic off) (ho : In64 off) : Calls Tryz.prog 81 #[.pointer (some ⟨b, 4, none⟩), .int .u64 off, .int .i64 4, .int .u64 v] w (ProgEnd fr w b (.bool false) t) := by
  have HF := Lib.hid (find_is w off ht _ _ _ (findQ_no hn ho))
  have H := Lib.hid h
  clear hn h ho ht
  go_enter Tryz.func81, Tryz.ntmps81
  go_wp2_with fail
  (with_reducible refine (HF.out).mono ?_)
  rintro e w2 ⟨rfl, hb⟩
  have HB := Lib.hid hb
  clear hb
  go_wp2
  go_ret
  exact ⟨rfl, Only.of_below _ HB.out, H.out.below HB.out⟩
theorem write_pend (w : World) (b : Nat) (t : PS) (h : ProgP fr w b t) (ht : Tab w) (v : Int) : Calls Tryz.prog 81 #[.pointer (some ⟨b, 4, none⟩), .int .u64 4096, .int .i64 4, .int .u64 v] w (ProgEnd fr w b (.bool true) t) := by
  have HF := Lib.hid (find_is w 4096 ht 1 0 true (by decide))
  have H := Lib.hid h
  clear h ht
  go_enter Tryz.func81, Tryz.ntmps81
  go_wp2_with fail
  (with_reducible refine (HF.out).mono ?_)
  rintro e w2 ⟨rfl, hb⟩
  have HB := Lib.hid hb
  clear hb
  go_wp2
  go_ret
  exact ⟨rfl, Only.of_below _ HB.out, H.out.below HB.out⟩
theorem write_prio0 (w : World) (b : Nat) (t : PS) (h : ProgP fr w b t) (ht : Tab w) (v : Int) : Calls Tryz.prog 81 #[.pointer (some ⟨b, 4, none⟩), .int .u64 0, .int .i64 4, .int .u64 v] w (ProgEnd fr w b (.bool true) t) := by
  have HF := Lib.hid (find_is w 0 ht 0 0 true (by decide))
  have H := Lib.hid h
  clear h ht
  go_enter Tryz.func81, Tryz.ntmps81
  go_wp2_with fail
  (with_reducible refine (HF.out).mono ?_)
  rintro e w2 ⟨rfl, hb⟩
  have HB := Lib.hid hb
  clear hb
  go_wp2_with fail
  (with_reducible refine (setPriority_no _ _ _ _ (by decide)).mono ?_)
  rintro e w3 ⟨hu, rfl⟩
  obtain ⟨u, rfl⟩ := hu
  go_wp2
  go_ret
  exact ⟨rfl, Only.of_below _ HB.out, H.out.below HB.out⟩
theorem write_prio (w : World) (b : Nat) (t : PS) (h : ProgP fr w b t) (ht : Tab w) (k : Nat) (hk1 : 1 ≤ k) (hk : k < 32) (off v : Int) (ho : off = 4 * (k : Int)) (hv : In64 v) : Calls Tryz.prog 81 #[.pointer (some ⟨b, 4, none⟩), .int .u64 off, .int .i64 4, .int .u64 v] w (ProgEnd fr w b (.bool true) (prioT t k (v % 8))) := by
  have HF := Lib.hid (find_is w off ht 0 (k : Int) true (by rw [ho]; exact findQ_prio hk))
  have H := Lib.hid h
  have HV := Lib.hid hv
  clear h ht ho hv
  go_enter Tryz.func81, Tryz.ntmps81
  go_wp2_with fail
  (with_reducible refine (HF.out).mono ?_)
  rintro e w2 ⟨rfl, hb⟩
  have HB := Lib.hid hb
  have HP := Lib.hid (H.out.below hb)
  clear hb
  go_wp2_with fail
  (with_reducible refine (setPriority_yes _ b t HP.out k hk1 hk v HV.out).mono ?_)
  rintro e w3 ⟨hu, ho, hp⟩
  obtain ⟨u, rfl⟩ := hu
  have HO := Lib.hid ((Only.of_below _ HB.out).trans ho)
  have HP3 := Lib.hid hp
  clear ho hp
  go_wp2
  go_ret
  exact ⟨rfl, HO.out, HP3.out⟩
theorem write_on (w : World) (b : Nat) (t : PS) (h : ProgP fr w b t) (ht : Tab w) (c : Nat) (hc : c < 2) (off v : Int) (hf : findQ off = (2, (c : Int), true)) (hv : In64 v) : Calls Tryz.prog 81 #[.pointer (some ⟨b, 4, none⟩), .int .u64 off, .int .i64 4, .int .u64 v] w (ProgEnd fr w b (.bool true) (onT t c (onBits v))) := by
  have HF := Lib.hid (find_is w off ht _ _ _ hf)
  have H := Lib.hid h
  have hw : IntKind.u32.wrap v = v % 4294967296 := by rw [IntKind.wrap_u32]
  have hn1 := not1_32 hv.1
  have H1 := Lib.hid hw
  have H2 := Lib.hid hn1
  have i1 : (c : Int) < 2 := by omega
  clear h ht hf hv hw hn1
  go_enter Tryz.func81, Tryz.ntmps81
  go_wp2_with fail
  (with_reducible refine (HF.out).mono ?_)
  rintro e w2 ⟨rfl, hb⟩
  have HB := Lib.hid hb
  have HP := H.out.below hb
  have c0 := HP.on_ hc
  have f0 := HP.free (39 + c)
  have HP2 := Lib.hid (HP.setOn hc (onBits v) (by unfold onBits; rfl))
  have HO : Hid (Only (fun i => i = b) w (w2.setCell ⟨b, 39 + c, none⟩ (.int .u32 (bits32 (onBits v))))) := Lib.hid ((Only.of_below (fun i => i = b) HB.out).setCell (p := ⟨b, 39 + c, none⟩) (.inl rfl) _)
  have e1 := H1.out
  have e2 := H2.out
  clear hb HP
  go_wp2
  go_ret
  exact ⟨rfl, HO.out, HP2.out⟩
set_option maxHeartbeats 1000000 in
theorem write_floor (w : World) (b : Nat) (t : PS) (h : ProgP fr w b t) (ht : Tab w) (c : Nat) (hc : c < 2) (off v : Int) (hf : findQ off = (3, (c : Int), true)) (hv : In64 v) : Calls Tryz.prog 81 #[.pointer (some ⟨b, 4, none⟩), .int .u64 off, .int .i64 4, .int .u64 v] w (ProgEnd fr w b (.bool true) (floorT t c (v % 8))) := by
  have HF := Lib.hid (find_is w off ht _ _ _ hf)
  have H := Lib.hid h
  have HV := Lib.hid hv
  have HL := Lib.hid (low3 hv)
  have hr1 := Int.emod_nonneg v (show (8 : Int) ≠ 0 by decide)
  have hr2 := Int.emod_lt_of_pos v (show (0 : Int) < 8 by decide)
  have H8 := Lib.hid (wrap_u8 hr1 hr2)
  have HR : Hid (0 ≤ v % 8 ∧ v % 8 < 8) := Lib.hid ⟨hr1, hr2⟩
  have i1 : (c : Int) < 2 := by omega
  clear h ht hf hv hr1 hr2
  go_enter Tryz.func81, Tryz.ntmps81
  go_wp2_with fail
  (with_reducible refine (HF.out).mono ?_)
  rintro e w2 ⟨rfl, hb⟩
  have HB := Lib.hid hb
  have HP := H.out.below hb
  have cc := HP.floor_ hc
  have ff := HP.free (41 + c)
  have HN : Hid (∀ n, ProgP fr ((w2.drewN n).setCell ⟨b, 41 + c, none⟩ (.int .u8 (v % 8))) b (floorT t c (v % 8))) := Lib.hid fun n => ProgP.setFloor (w := w2.drewN n) ⟨HP.1, HP.2⟩ hc HR.out.1 HR.out.2
  have HO : Hid (∀ n, Only (fun i => i = b) w ((w2.drewN n).setCell ⟨b, 41 + c, none⟩ (.int .u8 (v % 8)))) := Lib.hid fun n => Only.setCell ((Only.of_below (fun i => i = b) HB.out).drewN n) (p := ⟨b, 41 + c, none⟩) (.inl rfl) _
  clear hb HP
  go_wp2_with fail
  go_region_with (go_at_call 117; refine (field_any _ _ _ HV.out _).mono ?_; rintro e w' ⟨rfl, q, rfl⟩; rw [HL.out]; have e8 := H8.out; have f8 : (w2.drew.drewN q).frozen? ⟨b, 41 + c, none⟩ = false := ff; have g8 : (w2.drew.drewN q).cell? ⟨b, 41 + c, none⟩ = some (.int .u8 (t.floor c)) := cc)
  go_wp2
  go_ret
  exact ⟨rfl, HO.out _, HN.out _⟩
theorem write_done (w : World) (b : Nat) (t : PS) (h : ProgP fr w b t) (ht : Tab w) (c : Nat) (hc : c < 2) (off v : Int) (hf : findQ off = (4, (c : Int), true)) (hv : In64 v) : Calls Tryz.prog 81 #[.pointer (some ⟨b, 4, none⟩), .int .u64 off, .int .i64 4, .int .u64 v] w (ProgEnd fr w b (.bool true) (doneT t c (v % 4294967296).toNat)) := by
  have HF := Lib.hid (find_is w off ht _ _ _ hf)
  have H := Lib.hid h
  have hx1 := Int.emod_nonneg v (show (4294967296 : Int) ≠ 0 by decide)
  have hx2 := Int.emod_lt_of_pos v (show (0 : Int) < 4294967296 by decide)
  obtain ⟨x, hx⟩ : ∃ x : Nat, (v % 4294967296).toNat = x := ⟨_, rfl⟩
  have hvx : IntKind.u32.wrap v = (x : Int) := by rw [IntKind.wrap_u32]; omega
  have hwx : IntKind.i64.wrap (x : Int) = x := IntWalk.i64_in _ (by omega)
  rw [hx]
  clear h ht hf hv hx hx1 hx2
  go_enter Tryz.func81, Tryz.ntmps81
  go_wp2_with fail
  (with_reducible refine (HF.out).mono ?_)
  rintro e w2 ⟨rfl, hb⟩
  have HB := Lib.hid hb
  have HP := Lib.hid (H.out.below hb)
  clear hb
  go_wp2_with fail
  (with_reducible refine (complete_any _ b t HP.out c hc x).mono ?_)
  rintro e w3 ⟨hu, ho, hp⟩
  obtain ⟨u, rfl⟩ := hu
  have HO := Lib.hid ((Only.of_below _ HB.out).trans ho)
  have HP3 := Lib.hid hp
  clear ho hp
  go_wp2
  go_ret
  exact ⟨rfl, HO.out, HP3.out⟩
theorem write_any (w : World) (b : Nat) (t : PS) (h : ProgP fr w b t) (ht : Tab w) (off n v : Int) (ho : In64 off) (hv : In64 v) :
    Calls Tryz.prog 81 #[.pointer (some ⟨b, 4, none⟩), .int .u64 off, .int .i64 n, .int .u64 v] w (ProgEnd fr w b (.bool (okP (plcK off n))) (wrT t (plcK off n) v)) := by
  rcases plc_cases off n ho.1 with ⟨rfl, k, hk, hk4, hp⟩ | ⟨rfl, rfl, hp⟩ | ⟨rfl, rfl, hp⟩ | ⟨rfl, rfl, hp⟩ | ⟨rfl, rfl, hp⟩ | ⟨rfl, rfl, hp⟩ | ⟨rfl, rfl, hp⟩ | ⟨rfl, rfl, hp⟩ | ⟨rfl, hn, hp⟩ | ⟨hn, hp⟩
  all_goals rw [hp]
  · by_cases k0 : k = 0
    · subst k0
      obtain rfl : off = 0 := by omega
      exact write_prio0 w b t h ht v
    · rw [show wrT t (0, k) v = prioT t k (v % 8) from if_neg k0]
      exact write_prio w b t h ht k (by omega) hk off v hk4 hv
  · exact write_pend w b t h ht v
  · exact write_on w b t h ht 0 (by omega) _ v (by decide) hv
  · exact write_on w b t h ht 1 (by omega) _ v (by decide) hv
  · exact write_floor w b t h ht 0 (by omega) _ v (by decide) hv
  · exact write_floor w b t h ht 1 (by omega) _ v (by decide) hv
  · exact write_done w b t h ht 0 (by omega) _ v (by decide) hv
  · exact write_done w b t h ht 1 (by omega) _ v (by decide) hv
  · exact write_no w b t h ht off v hn ho
  · exact write_len w b t h off n v hn

end Go.Proofs.YtbcnkhfpogglmaaGreatDoor.P5.In

namespace Go.Proofs.YtbcnkhfpogglmaaGreatDoor
open Go.RowKit
set_option linter.unusedVariables false
set_option maxRecDepth 100000

/-- The slice value v reads as the list xs of numbers of kind k, out of blocks below B. -/
def ReadsL (k : IntKind) (B : Nat) (w : World) (v : Value) (xs : List Int) : Prop :=
  ∃ a c, v = .slice a xs.length c ∧ xs.length ≤ maxLen ∧ (xs = [] ∨ ∃ b off, a = some ⟨b, off, none⟩ ∧ b < B ∧ ∀ i, i < xs.length → w.cell? ⟨b, off + i, none⟩ = some (.int k (xs.getD i 0)))

theorem ReadsL.below {k : IntKind} {B B' : Nat} {w w' : World} {v : Value} {xs : List Int} (h : ReadsL k B w v xs) (hb : Below B' w w') (hB : B ≤ B') : ReadsL k B w' v xs := by
  obtain ⟨a, c, hv, hm, h⟩ := h
  refine ⟨a, c, hv, hm, ?_⟩
  rcases h with h | ⟨b, off, ha, hlt, hc⟩
  · exact .inl h
  · exact .inr ⟨b, off, ha, hlt, fun i hi => (hb.cell (p := ⟨b, off + i, none⟩) (Nat.lt_of_lt_of_le hlt hB)).trans (hc i hi)⟩

theorem ReadsL.mono {k : IntKind} {B B' : Nat} {w : World} {v : Value} {xs : List Int} (h : ReadsL k B w v xs) (hB : B ≤ B') : ReadsL k B' w v xs := by
  obtain ⟨a, c, hv, hm, h⟩ := h
  refine ⟨a, c, hv, hm, ?_⟩
  rcases h with h | ⟨b, off, ha, hlt, hc⟩
  · exact .inl h
  · exact .inr ⟨b, off, ha, Nat.lt_of_lt_of_le hlt hB, hc⟩

theorem add_none (b off i : Nat) : (⟨b, off, none⟩ : Addr).add i = ⟨b, off + i, none⟩ := by
  unfold Addr.add; split <;> simp_all

/-- What the call made by append reads as its list. -/
theorem ReadsL.own {k : IntKind} {base : Nat} {e : TypeId} {w : World} {v : Value} {xs : List Int} (h : w.ownsRow base e 1 v xs.length (xs.map (Value.int k))) : ReadsL k w.heap.size w v xs := by
  rcases h.2 with ⟨hv, h0⟩ | ⟨g, cap, cur, hv, _, hg, hn, hc, _, _⟩
  · have : xs = [] := List.eq_nil_of_length_eq_zero h0
    subst this
    exact ⟨none, 0, hv, Nat.zero_le _, .inl rfl⟩
  · subst hv
    refine ⟨_, cap, rfl, by omega, .inr ⟨g, 0, rfl, (Array.getElem?_eq_some_iff.1 hg).1, fun i hi => ?_⟩⟩
    have := h.cells (g := g) rfl i (.int k (xs.getD i 0)) (by simp [List.getD, hi])
    rwa [add_none] at this

/-- What the frame of a law tells of a slice of integers that came in: nil, or a row of 'cap' cells of which the first 'len' are its elements. -/
def IsRow (k : IntKind) (w : World) (a : Option Addr) (len cap : Nat) (zs : List Int) : Prop :=
  (a = none ∧ len = 0 ∧ cap = 0 ∧ zs = []) ∨
  ∃ x, a = some x ∧ len ≤ cap ∧ cap ≤ maxLen ∧ zs.length = cap ∧ (∀ i, i < zs.length → w.cell? (x.add i) = some (.int k (zs.getD i 0))) ∧ ∀ n ∈ zs, (Lit.int k n).wf = true

theorem IsRow.reads {k : IntKind} {w : World} {a : Option Addr} {len cap : Nat} {zs : List Int} (h : IsRow k w a len cap zs) : ReadsL k w.heap.size w (.slice a len cap) (zs.take len) := by
  rcases h with ⟨rfl, rfl, rfl, rfl⟩ | ⟨x, rfl, hl, hm, hz, hc, _⟩
  · exact ⟨none, 0, rfl, Nat.zero_le _, .inl rfl⟩
  · have hlen : (zs.take len).length = len := by rw [List.length_take]; omega
    refine ⟨some x, cap, by rw [hlen], by omega, ?_⟩
    by_cases h0 : len = 0
    · exact .inl (by rw [h0, List.take_zero])
    · right
      obtain ⟨b, off, rfl, hcell⟩ := Go.ints_at hc (by omega)
      refine ⟨b, off, rfl, ?_, fun i hi => ?_⟩
      · have h1 := hcell 0 (by omega)
        by_cases hb : b < w.heap.size
        · exact hb
        · have hn : w.heap[b]? = none := by simp; omega
          simp [World.cell?, hn] at h1
      · rw [hcell i (by omega)]
        simp [List.getD, show i < len by omega]

/-- An append whose run is known. -/
theorem wp_append_run {P : Program} {o : Oper} {a : Act} {w : World} {K : Act → World → Prop} {Q : Exit → Act → World → Prop} (s x : Operand) (t : TypeId)
    (ho : o.op = .call { callee := .builtin .append, args := #[s, x], argTypes := #[t, t] }) (v v2 v' : Value) (w' : World) (hs : a.eval s = v) (hx : a.eval x = v2)
    (hr : (Builtin.append_ #[t, t] o.type #[v, v2]).run P w = .ok v' w') (h : K (a.put o.dst v') w') : o.wp P a w K Q := by
  unfold Oper.wp execOp
  simp only [ho, resolve, invoke, builtin, Sem.run_bind, Sem.run_pure, Result.andThen_ok, List.map_toArray, List.map_cons, List.map_nil, hs, hx, hr]
  exact h
theorem wpList_append_run {P : Program} {ops : Array Oper} {rest : List Oper} {o : Oper} {a : Act} {w : World} {Q : Exit → Act → World → Prop} (hgd : o.guard = none) (s x : Operand) (t : TypeId)
    (ho : o.op = .call { callee := .builtin .append, args := #[s, x], argTypes := #[t, t] }) (v v2 v' : Value) (w' : World) (hs : a.eval s = v) (hx : a.eval x = v2)
    (hr : (Builtin.append_ #[t, t] o.type #[v, v2]).run P w = .ok v' w') (h : wpList P ops Q rest (a.put o.dst v') w') : wpList P ops Q (o :: rest) a w :=
  wpList_plain hgd fun _ hK => wp_append_run s x t ho v v2 v' w' hs hx hr (hK _ _ h)

end Go.Proofs.YtbcnkhfpogglmaaGreatDoor

namespace Go.Proofs.YtbcnkhfpogglmaaGreatDoor.U6
open Go.RowKit
set_option linter.unusedVariables false
set_option maxRecDepth 100000

def Byt (xs : List Int) : Prop := ∀ x ∈ xs, 0 ≤ x ∧ x < 256
def u8s (xs : List Int) : List Value := xs.map (Value.int .u8)
theorem u8s_len (xs : List Int) : (u8s xs).length = xs.length := by simp [u8s]
theorem u8s_one (xs : List Int) : ∀ u ∈ u8s xs, u.oneCell' = true := by
  intro u hu; obtain ⟨z, _, rfl⟩ := List.mem_map.1 hu; rfl
theorem u8s_get {xs : List Int} {j : Nat} {u : Value} (h : (u8s xs)[j]? = some u) : j < xs.length ∧ u = .int .u8 (xs.getD j 0) := by
  unfold u8s at h
  rw [List.getElem?_map] at h
  rcases Nat.lt_or_ge j xs.length with hl | hl
  · refine ⟨hl, ?_⟩
    rw [List.getElem?_eq_getElem hl] at h
    simp at h
    rw [← h]; simp [List.getD, hl]
  · rw [List.getElem?_eq_none hl] at h; cases h
theorem u8s_at {xs : List Int} {j : Nat} (h : j < xs.length) : (u8s xs)[j]? = some (.int .u8 (xs.getD j 0)) := by
  unfold u8s; rw [List.getElem?_map, List.getElem?_eq_getElem h]; simp [List.getD, h]
theorem Byt.nil : Byt [] := fun x h => by cases h
theorem Byt.snoc {xs : List Int} (h : Byt xs) {b : Int} (hb : 0 ≤ b ∧ b < 256) : Byt (xs ++ [b]) := by
  intro x hx
  rcases List.mem_append.1 hx with hx | hx
  · exact h x hx
  · simp at hx; subst hx; exact hb
theorem Byt.tail {xs : List Int} (h : Byt xs) : Byt xs.tail := fun x hx => h x (List.mem_of_mem_tail hx)
theorem Byt.get {xs : List Int} (h : Byt xs) {j : Nat} (hj : j < xs.length) : 0 ≤ xs.getD j 0 ∧ xs.getD j 0 < 256 := by
  have : xs.getD j 0 = xs[j] := by simp [List.getD, hj]
  rw [this]; exact h _ (List.getElem_mem hj)

/-- The slice v reads as the bytes xs; its row is its own, or it has no room. -/
structure RowB (w : World) (v : Value) (xs : List Int) : Prop where
  byt : Byt xs
  lies : w.ownsRow 0 5 1 v xs.length (u8s xs) ∨ ∃ g off, v = .slice (some ⟨g, off, none⟩) xs.length xs.length ∧ g < w.heap.size ∧ ∀ j, j < xs.length → w.cell? ⟨g, off + j, none⟩ = some (.int .u8 (xs.getD j 0))

theorem RowB.nil (w : World) : RowB w (.slice none 0 0) [] := ⟨Byt.nil, .inl (World.ownsRow_nil _ _ _ _)⟩
theorem RowB.lt {w : World} {v : Value} {xs : List Int} (h : RowB w v xs) : ∀ g, v.ownBlock = some g → g < w.heap.size := by
  intro g hg
  rcases h.lies with h | ⟨g', off, rfl, hl, _⟩
  · exact (h.lt g hg).2
  · simp [Value.ownBlock] at hg; omega
/-- What it looks like. -/
theorem RowB.reads {w : World} {v : Value} {xs : List Int} (h : RowB w v xs) (hl : xs.length ≤ 70000) : ∃ a c, v = .slice a xs.length c ∧ xs.length ≤ c ∧ c ≤ maxLen ∧
    ((a = none ∧ c = 0 ∧ xs = []) ∨ ∃ g off, a = some ⟨g, off, none⟩ ∧ g < w.heap.size ∧ ∀ j, j < xs.length → w.cell? ⟨g, off + j, none⟩ = some (.int .u8 (xs.getD j 0))) := by
  rcases h.lies with h | ⟨g, off, rfl, hg, hc⟩
  · rcases h.2 with ⟨hv, h0⟩ | ⟨g, cap, cur, hv, _, hg, hn, hm, _, _⟩
    · have hx : xs = [] := List.eq_nil_of_length_eq_zero h0
      subst hx
      exact ⟨none, 0, hv, Nat.le_refl _, Nat.zero_le _, .inl ⟨rfl, rfl, rfl⟩⟩
    · subst hv
      refine ⟨_, cap, rfl, hn, hm, .inr ⟨g, 0, rfl, (Array.getElem?_eq_some_iff.1 hg).1, fun j hj => ?_⟩⟩
      have := h.cells (g := g) rfl j _ (u8s_at hj)
      rwa [add_none] at this
  · exact ⟨_, _, rfl, Nat.le_refl _, by unfold maxLen; omega, .inr ⟨g, off, rfl, hg, hc⟩⟩
theorem RowB.keeps {w w' : World} {v : Value} {xs : List Int} {T : Nat → Prop} (h : RowB w v xs) (o : Only T w w') (hd : ∀ g, v.ownBlock = some g → ¬ T g) : RowB w' v xs := by
  refine ⟨h.byt, ?_⟩
  rcases h.lies with h | ⟨g, off, rfl, hg, hc⟩
  · left
    refine ⟨h.1, ?_⟩
    rcases h.2 with hn | ⟨g, cap, cur, rfl, hb, hg, rest⟩
    · exact .inl hn
    · exact .inr ⟨g, cap, cur, rfl, hb, o.keeps (hd g rfl) hg, rest⟩
  · exact .inr ⟨g, off, rfl, Nat.lt_of_lt_of_le hg o.size, fun j hj => (World.cell?_of_block (o.block g hg (hd g rfl))).trans (hc j hj)⟩
theorem RowB.below {w w' : World} {v : Value} {xs : List Int} (h : RowB w v xs) (o : Below w.heap.size w w') : RowB w' v xs := h.keeps (Only.of_below (fun _ => False) o) fun _ _ => id

theorem info_u8 : (Tryz.prog.info? 5).map (fun i => (i.zero, i.size, i.bytes)) = some (some (.int .u8 0), 1, 1) := by kernel_rfl
theorem info_parts8 {t : TypeId} {z : Option Value} {n b : Nat} (h : (Tryz.prog.info? t).map (fun i => (i.zero, i.size, i.bytes)) = some (z, n, b)) : ∃ i, Tryz.prog.info? t = some i ∧ i.zero = z ∧ i.size = n ∧ i.bytes = b := by
  cases hi : Tryz.prog.info? t with
  | none => rw [hi] at h; cases h
  | some i =>
    rw [hi] at h
    simp at h
    exact ⟨i, rfl, h.1, h.2.1, h.2.2⟩

theorem own_base {w : World} {b b' : Nat} {e : TypeId} {s : Nat} {v : Value} {n : Nat} {xs : List Value} (h : w.ownsRow b e s v n xs) (hb : b' ≤ b := by omega) : w.ownsRow b' e s v n xs := by
  refine ⟨h.1, ?_⟩
  rcases h.2 with h0 | ⟨g, cap, cur, hv, hg, hh⟩
  · exact .inl h0
  · exact .inr ⟨g, cap, cur, hv, by omega, hh⟩

/-- One byte more. -/
theorem run_push (w : World) (v : Value) (xs : List Int) (h : RowB w v xs) (hl : xs.length ≤ 70000) (B off : Nat) (b : Int) (c : Nat) (hc : w.cell? ⟨B, off, none⟩ = some (.int .u8 b)) (hb : 0 ≤ b ∧ b < 256) (ty : TypeId) :
    ∃ v' w', (Builtin.append_ #[40, 40] ty #[v, .slice (some ⟨B, off, none⟩) 1 c]).run Tryz.prog w = .ok v' w' ∧ RowB w' v' (xs ++ [b]) ∧ Only (fun i => v.ownBlock = some i) w w' ∧
      (∀ g, v'.ownBlock = some g → v.ownBlock = some g ∨ w.heap.size ≤ g) := by
  obtain ⟨i0, hi, hz0, hz1, hz2⟩ := info_parts8 info_u8
  have hn : ∀ j u, [Value.int .u8 b][j]? = some u → w.cell? ((⟨B, off, none⟩ : Addr).add j) = some u := by
    intro j u hj
    match j, hj with
    | 0, hj => simp at hj; subst hj; rw [add_none]; exact hc
    | (j + 1), hj => simp at hj
  have h1 : ∀ u ∈ [Value.int .u8 b], u.oneCell' = true := by intro u hu; simp at hu; subst hu; rfl
  have e1 : u8s (xs ++ [b]) = u8s xs ++ [.int .u8 b] := by simp [u8s]
  have e2 : (xs ++ [b]).length = xs.length + 1 := by simp
  rcases h.lies with ho | ⟨g, off', rfl, hg, hcs⟩
  · obtain ⟨v', w', hr, h2, h3, _, h5⟩ := run_append_own_at (P := Tryz.prog) w 0 40 ty 5 i0 (.int .u8 0) 1 1 Tryz.underlying40 hi hz0 hz1 hz2 rfl (by decide) v xs.length _ ho ⟨B, off, none⟩ 1 c [.int .u8 b] rfl hn h1 (by unfold maxLen; omega) (by omega) (Nat.zero_le _)
    refine ⟨v', w', hr, ⟨h.byt.snoc hb, .inl (by rw [e1, e2]; exact h2)⟩, (Only.refl _ w).grown h3 (fun k hk => .inl hk), fun g hg => ?_⟩
    rcases h5 with h5 | h5
    · exact .inl (h5 ▸ hg)
    · rw [h5] at hg; injection hg with hg; exact .inr (by omega)
  · obtain ⟨v', w', hr, h2, h3⟩ := run_append_arg_grows (P := Tryz.prog) w 40 ty 5 i0 (.int .u8 0) 1 1 Tryz.underlying40 hi hz0 hz1 hz2 rfl (by decide) ⟨g, off', none⟩ xs.length xs.length (u8s xs) (by rw [u8s_len]; omega) (fun j u hj => by
      obtain ⟨hj2, rfl⟩ := u8s_get hj
      rw [add_none]; exact hcs j hj2) ⟨B, off, none⟩ 1 c [.int .u8 b] rfl hn (by omega) (by unfold maxLen; omega) (by omega)
    refine ⟨v', w', hr, ⟨h.byt.snoc hb, .inl (by rw [e1, e2]; exact own_base h2)⟩, (Only.refl _ w).grown h3 (fun k hk => by cases hk), fun g' hg' => .inr (h2.lt g' hg').1⟩

end Go.Proofs.YtbcnkhfpogglmaaGreatDoor.U6

namespace Go.Proofs.YtbcnkhfpogglmaaGreatDoor.U6
open Go.RowKit
set_option linter.unusedVariables false
set_option maxRecDepth 100000

/-- All bytes of one row poured onto an empty one. -/
theorem run_pour (w : World) (v : Value) (xs : List Int) (h : RowB w v xs) (hl : xs.length ≤ 70000) (hv : ¬ v = .slice none 0 0) (base : Nat) (d : Value) (hd : w.ownsRow base 5 1 d 0 []) (hb : base ≤ w.heap.size) (ty : TypeId) :
    ∃ v' w', (Builtin.append_ #[40, 40] ty #[d, v]).run Tryz.prog w = .ok v' w' ∧ w'.ownsRow base 5 1 v' xs.length (u8s xs) ∧ RowB w' v' xs ∧ Only (fun i => d.ownBlock = some i) w w' ∧
      (∀ g, v'.ownBlock = some g → d.ownBlock = some g ∨ w.heap.size ≤ g) := by
  obtain ⟨i0, hi, hz0, hz1, hz2⟩ := info_parts8 info_u8
  obtain ⟨a, c, rfl, _, _, hr⟩ := h.reads hl
  rcases hr with ⟨rfl, rfl, rfl⟩ | ⟨g, off, rfl, hg, hc⟩
  · exact absurd rfl hv
  obtain ⟨v', w', hr, h2, h3, _, h5⟩ := run_append_own_at (P := Tryz.prog) w base 40 ty 5 i0 (.int .u8 0) 1 1 Tryz.underlying40 hi hz0 hz1 hz2 rfl (by decide) d 0 [] hd ⟨g, off, none⟩ xs.length c (u8s xs) (by rw [u8s_len]; omega) (fun j u hj => by
      obtain ⟨hj2, rfl⟩ := u8s_get hj
      rw [add_none]; exact hc j hj2) (u8s_one xs) (by unfold maxLen; omega) (by omega) hb
  have e1 : 0 + xs.length = xs.length := by omega
  rw [e1, List.nil_append] at h2
  refine ⟨v', w', hr, h2, ⟨h.byt, .inl (own_base h2 (by omega))⟩, (Only.refl _ w).grown h3 (fun k hk => .inl hk), fun g' hg' => ?_⟩
  rcases h5 with h5 | h5
  · exact .inl (h5 ▸ hg')
  · rw [h5] at hg'; injection hg' with hg'; exact .inr (by omega)

/-- A uart's state. -/
structure US where
  inn : List Int
  out : List Int
  ier : Int
  fcr : Int
  lcr : Int
  mcr : Int
  scr : Int
  dl : Int
  dm : Int
  lost : Bool
  sent : Bool
structure US.ok (t : US) : Prop where
  li : t.inn.length ≤ 16
  lo : t.out.length ≤ 65536
  ier : 0 ≤ t.ier ∧ t.ier < 16
  fcr : 0 ≤ t.fcr ∧ t.fcr < 2
  lcr : 0 ≤ t.lcr ∧ t.lcr < 256
  mcr : 0 ≤ t.mcr ∧ t.mcr < 32
  scr : 0 ≤ t.scr ∧ t.scr < 256
  dl : 0 ≤ t.dl ∧ t.dl < 256
  dm : 0 ≤ t.dm ∧ t.dm < 256
def u0 : US := ⟨[], [], 0, 0, 0, 0, 0, 0, 0, false, false⟩
theorem u0_ok : u0.ok := ⟨by decide, by decide, by decide, by decide, by decide, by decide, by decide, by decide, by decide⟩
def cellsP (vi vo : Value) (t : US) : Array Value := #[vi, vo, .bool t.lost, .bool t.sent, .int .u8 0, .int .u8 t.ier, .int .u8 t.fcr, .int .u8 t.lcr, .int .u8 t.mcr, .int .u8 0, .int .u8 0, .int .u8 t.scr, .int .u8 t.dl, .int .u8 t.dm]
def cellsR (vi vo : Value) (t : US) : Array Value := #[vi, vo, .int .u8 t.ier, .int .u8 t.fcr, .int .u8 t.lcr, .int .u8 t.mcr, .int .u8 t.scr, .int .u8 t.dl, .int .u8 t.dm, .bool t.lost, .bool t.sent]

/-- An object in block b, its blocks are F's. -/
structure Holds (mk : Value → Value → US → Array Value) (ty : TypeId) (w : World) (b : Nat) (F : Nat → Prop) (t : US) (vi vo : Value) : Prop where
  obj : w.heap[b]? = some (.cells (mk vi vo t) ty (0, 0))
  ri : RowB w vi t.inn
  ro : RowB w vo t.out
  fb : F b
  fi : ∀ g, vi.ownBlock = some g → F g ∧ ¬ g = b
  fo : ∀ g, vo.ownBlock = some g → F g ∧ ¬ g = b
  io : ∀ g, vi.ownBlock = some g → ¬ vo.ownBlock = some g
  lt : ∀ i, F i → i < w.heap.size
  ok : t.ok
abbrev HP := Holds cellsP 131
abbrev HR := Holds cellsR 111
/-- The program's uart t stands in block b; the document's. -/
def UP (w : World) (b : Nat) (F : Nat → Prop) (t : US) : Prop := ∃ vi vo, HP w b F t vi vo
def UR (w : World) (b : Nat) (F : Nat → Prop) (t : US) : Prop := ∃ vi vo, HR w b F t vi vo

section
variable {mk : Value → Value → US → Array Value} {ty : TypeId} {w : World} {b : Nat} {F : Nat → Prop} {t : US} {vi vo : Value}
theorem Holds.blt (h : Holds mk ty w b F t vi vo) : b < w.heap.size := h.lt b h.fb
theorem Holds.keeps {w' : World} {T : Nat → Prop} (h : Holds mk ty w b F t vi vo) (o : Only T w w') (hd : ∀ i, F i → ¬ T i) : Holds mk ty w' b F t vi vo :=
  ⟨o.keeps (hd b h.fb) h.obj, h.ri.keeps o fun g hg => hd g (h.fi g hg).1, h.ro.keeps o fun g hg => hd g (h.fo g hg).1, h.fb, h.fi, h.fo, h.io, fun i hi => Nat.lt_of_lt_of_le (h.lt i hi) o.size, h.ok⟩
theorem Holds.below {w' : World} (h : Holds mk ty w b F t vi vo) (o : Below w.heap.size w w') : Holds mk ty w' b F t vi vo := h.keeps (Only.of_below (fun _ => False) o) fun _ _ => id
theorem Holds.mono {G : Nat → Prop} (h : Holds mk ty w b F t vi vo) (hs : ∀ i, F i → G i) (hl : ∀ i, G i → i < w.heap.size) : Holds mk ty w b G t vi vo :=
  ⟨h.obj, h.ri, h.ro, hs _ h.fb, fun g hg => ⟨hs _ (h.fi g hg).1, (h.fi g hg).2⟩, fun g hg => ⟨hs _ (h.fo g hg).1, (h.fo g hg).2⟩, h.io, hl, h.ok⟩
theorem Holds.cell (h : Holds mk ty w b F t vi vo) (k : Nat) {v : Value} (hv : (mk vi vo t)[k]? = some v) : w.cell? ⟨b, k, none⟩ = some v := by
  rw [cell_of_row w b k _ _ _ h.obj, hv]
theorem Holds.free (h : Holds mk ty w b F t vi vo) (k : Nat) : w.frozen? ⟨b, k, none⟩ = false := frozen_of_row w b k _ _ h.obj

/-- What a call leaves that may turn the object. -/
def EndU (mk : Value → Value → US → Array Value) (ty : TypeId) (w : World) (b : Nat) (F : Nat → Prop) (t' : US) (w' : World) : Prop :=
  Only F w w' ∧ ∃ F', (∀ i, F' i → F i ∨ w.heap.size ≤ i) ∧ ∃ vi vo, Holds mk ty w' b F' t' vi vo
theorem EndU.refl (h : Holds mk ty w b F t vi vo) : EndU mk ty w b F t w := ⟨Only.refl _ _, F, fun _ hi => .inl hi, vi, vo, h⟩
theorem EndU.later {w' : World} (h : Holds mk ty w b F t vi vo) (o : Below w.heap.size w w') : EndU mk ty w b F t w' := ⟨Only.of_below _ o, F, fun _ hi => .inl hi, vi, vo, h.below o⟩
/-- One step behind another. -/
theorem EndU.step {w1 w2 : World} {F1 : Nat → Prop} {t2 : US} (o : Only F w w1) (hF : ∀ i, F1 i → F i ∨ w.heap.size ≤ i) (h : EndU mk ty w1 b F1 t2 w2) : EndU mk ty w b F t2 w2 := by
  obtain ⟨o2, F2, hF2, h2⟩ := h
  refine ⟨o.step o2 fun i hi => hF i hi, F2, fun i hi => ?_, h2⟩
  rcases hF2 i hi with h3 | h3
  · exact hF i h3
  · exact .inr (Nat.le_trans o.size h3)
/-- One cell turned that is no row. -/
theorem Holds.set (h : Holds mk ty w b F t vi vo) (k : Nat) (v : Value) {t' : US} (hi : t'.inn = t.inn) (ho : t'.out = t.out) (ok : t'.ok) (he : (mk vi vo t).setIfInBounds k v = mk vi vo t') : Holds mk ty (w.setCell ⟨b, k, none⟩ v) b F t' vi vo := by
  have o : Only (fun i => i = b) w (w.setCell ⟨b, k, none⟩ v) := (Only.refl (fun i => i = b) w).setCell (p := ⟨b, k, none⟩) (.inl rfl) v
  refine ⟨by rw [heap_setCell_same w b k _ _ _ h.obj, he], ?_, ?_, h.fb, h.fi, h.fo, h.io, fun i hi => Nat.lt_of_lt_of_le (h.lt i hi) o.size, ok⟩
  · rw [hi]; exact h.ri.keeps o fun g hg => (h.fi g hg).2
  · rw [ho]; exact h.ro.keeps o fun g hg => (h.fo g hg).2
theorem EndU.set (h : Holds mk ty w b F t vi vo) (k : Nat) (v : Value) {t' : US} (hi : t'.inn = t.inn) (ho : t'.out = t.out) (ok : t'.ok) (he : (mk vi vo t).setIfInBounds k v = mk vi vo t') : EndU mk ty w b F t' (w.setCell ⟨b, k, none⟩ v) :=
  ⟨(Only.refl F w).setCell (p := ⟨b, k, none⟩) (.inl h.fb) v, F, fun _ hi => .inl hi, vi, vo, h.set k v hi ho ok he⟩
/-- The row that came in turned. -/
theorem EndU.turnIn (h : Holds mk ty w b F t vi vo) {w2 : World} {v' : Value} {t' : US} (o : Only (fun i => vi.ownBlock = some i) w w2) (hr : RowB w2 v' t'.inn) (hv : ∀ g, v'.ownBlock = some g → vi.ownBlock = some g ∨ w.heap.size ≤ g) (ho : t'.out = t.out) (ok : t'.ok)
    (he : (mk vi vo t).setIfInBounds 0 v' = mk v' vo t') : EndU mk ty w b F t' (w2.setCell ⟨b, 0, none⟩ v') := by
  have hb := h.blt
  have hnb : ¬ vi.ownBlock = some b := fun e => (h.fi b e).2 rfl
  have hob : w2.heap[b]? = some (.cells (mk vi vo t) ty (0, 0)) := o.keeps hnb h.obj
  have o2 : Only (fun i => i = b) w2 (w2.setCell ⟨b, 0, none⟩ v') := (Only.refl (fun i => i = b) w2).setCell (p := ⟨b, 0, none⟩) (.inl rfl) v'
  have oF : Only F w (w2.setCell ⟨b, 0, none⟩ v') := (o.mono fun i hi => .inl (h.fi i hi).1).step o2 (fun i hi => .inl (hi ▸ h.fb))
  have hg2 : ∀ g, v'.ownBlock = some g → ¬ g = b := fun g hg e => by
    rcases hv g hg with h1 | h1
    · exact (h.fi g h1).2 e
    · omega
  refine ⟨oF, fun i => F i ∨ (w.heap.size ≤ i ∧ i < w2.heap.size), fun i hi => hi.imp id fun h => h.1, v', vo, ⟨by rw [heap_setCell_same w2 b 0 _ _ _ hob, he], hr.keeps o2 hg2, ?_, .inl h.fb, ?_, ?_, ?_, ?_, ok⟩⟩
  · rw [ho]; exact (h.ro.keeps o fun g hg e => h.io g e hg).keeps o2 fun g hg => (h.fo g hg).2
  · intro g hg
    refine ⟨?_, hg2 g hg⟩
    rcases hv g hg with h1 | h1
    · exact .inl (h.fi g h1).1
    · exact .inr ⟨h1, hr.lt g hg⟩
  · exact fun g hg => ⟨.inl (h.fo g hg).1, (h.fo g hg).2⟩
  · intro g hg e
    rcases hv g hg with h1 | h1
    · exact h.io g h1 e
    · have := h.lt g (h.fo g e).1; omega
  · intro i hi
    have := o.size
    have s2 := o2.size
    rcases hi with hi | hi
    · have := h.lt i hi; omega
    · omega
/-- The row that was sent turned. -/
theorem EndU.turnOut (h : Holds mk ty w b F t vi vo) {w2 : World} {v' : Value} {t' : US} (o : Only (fun i => vo.ownBlock = some i) w w2) (hr : RowB w2 v' t'.out) (hv : ∀ g, v'.ownBlock = some g → vo.ownBlock = some g ∨ w.heap.size ≤ g) (ho : t'.inn = t.inn) (ok : t'.ok)
    (he : (mk vi vo t).setIfInBounds 1 v' = mk vi v' t') : EndU mk ty w b F t' (w2.setCell ⟨b, 1, none⟩ v') := by
  have hb := h.blt
  have hnb : ¬ vo.ownBlock = some b := fun e => (h.fo b e).2 rfl
  have hob : w2.heap[b]? = some (.cells (mk vi vo t) ty (0, 0)) := o.keeps hnb h.obj
  have o2 : Only (fun i => i = b) w2 (w2.setCell ⟨b, 1, none⟩ v') := (Only.refl (fun i => i = b) w2).setCell (p := ⟨b, 1, none⟩) (.inl rfl) v'
  have oF : Only F w (w2.setCell ⟨b, 1, none⟩ v') := (o.mono fun i hi => .inl (h.fo i hi).1).step o2 (fun i hi => .inl (hi ▸ h.fb))
  have hg2 : ∀ g, v'.ownBlock = some g → ¬ g = b := fun g hg e => by
    rcases hv g hg with h1 | h1
    · exact (h.fo g h1).2 e
    · omega
  refine ⟨oF, fun i => F i ∨ (w.heap.size ≤ i ∧ i < w2.heap.size), fun i hi => hi.imp id fun h => h.1, vi, v', ⟨by rw [heap_setCell_same w2 b 1 _ _ _ hob, he], ?_, hr.keeps o2 hg2, .inl h.fb, ?_, ?_, ?_, ?_, ok⟩⟩
  · rw [ho]; exact (h.ri.keeps o fun g hg e => h.io g hg e).keeps o2 fun g hg => (h.fi g hg).2
  · exact fun g hg => ⟨.inl (h.fi g hg).1, (h.fi g hg).2⟩
  · intro g hg
    refine ⟨?_, hg2 g hg⟩
    rcases hv g hg with h1 | h1
    · exact .inl (h.fo g h1).1
    · exact .inr ⟨h1, hr.lt g hg⟩
  · intro g hg e
    rcases hv g e with h1 | h1
    · exact h.io g hg h1
    · have := h.lt g (h.fi g hg).1; omega
  · intro i hi
    have := o.size
    have s2 := o2.size
    rcases hi with hi | hi
    · have := h.lt i hi; omega
    · omega
end

/-! ### what calls tell and leave -/
def rsn (t : US) : Int := if t.ier % 2 = 1 ∧ 0 < t.inn.length then 4 else if t.ier / 2 % 2 = 1 ∧ t.sent = true then 2 else 1
def lineU (t : US) : Bool := decide (¬ rsn t = 1)
/-- The place that stands at an offset; 10, if there is none. -/
def plK (t : US) (off n : Int) : Nat := if n = 1 ∧ 0 ≤ off ∧ off < 8 then (if off < 2 ∧ 128 ≤ t.lcr then off.toNat + 8 else off.toNat) else 10
def okK (k : Nat) : Bool := decide (k < 10)
def rdX (t : US) : Nat → Int
  | 0 => t.inn.getD 0 0
  | 1 => t.ier
  | 2 => rsn t + if t.fcr = 1 then 192 else 0
  | 3 => t.lcr
  | 4 => t.mcr
  | 5 => 96 + (if 0 < t.inn.length then 1 else 0) + if t.lost = true then 2 else 0
  | 6 => 176
  | 7 => t.scr
  | 8 => t.dl
  | 9 => t.dm
  | _ => 0
def rdT (t : US) : Nat → US
  | 0 => { t with inn := t.inn.tail }
  | 2 => { t with sent := if rsn t = 2 then false else t.sent }
  | 5 => { t with lost := false }
  | _ => t
def sendT (t : US) (b : Int) : US := { t with out := if t.out.length < 65536 then t.out ++ [b] else t.out, sent := true }
def ierT (t : US) (b : Int) : US := { t with ier := b % 16, sent := if t.ier / 2 % 2 = 0 ∧ b / 2 % 2 = 1 then true else t.sent }
def fcrT (t : US) (b : Int) : US := { t with fcr := b % 2, inn := if b / 2 % 2 = 1 then [] else t.inn }
def wrT (t : US) (b : Int) : Nat → US
  | 0 => sendT t b
  | 1 => ierT t b
  | 2 => fcrT t b
  | 3 => { t with lcr := b }
  | 4 => { t with mcr := b % 32 }
  | 7 => { t with scr := b }
  | 8 => { t with dl := b }
  | 9 => { t with dm := b }
  | _ => t
def feedT (t : US) (b : Int) : US := if t.inn.length = 16 then { t with lost := true } else { t with inn := t.inn ++ [b] }
def feedK (t : US) : Bool := decide (t.inn.length < 16)
theorem rsn_vals (t : US) : rsn t = 4 ∨ rsn t = 2 ∨ rsn t = 1 := by
  unfold rsn; split
  · exact .inl rfl
  · split
    · exact .inr (.inl rfl)
    · exact .inr (.inr rfl)

end Go.Proofs.YtbcnkhfpogglmaaGreatDoor.U6

namespace Go.Proofs.YtbcnkhfpogglmaaGreatDoor.U6
open Go.RowKit
set_option linter.unusedVariables false
set_option maxRecDepth 100000

theorem ret_boolU {a b : Bool} (h : a = b) : Ending.returned (.bool a) = .returned (.bool b) := by rw [h]
def tst (x i : Int) : Bool := decide (x / 2 ^ i.toNat % 2 = 1)
theorem bitP_any (x i : Int) (hi : 0 ≤ i) (h8 : i < 8) (h0 : 0 ≤ x) (h1 : x < 256) (w : World) :
    Calls Tryz.prog 156 #[.int .u8 x, .int .i64 i] w fun e w' => e = .returned (.bool (tst x i)) ∧ w = w' := by
  have H := Lib.hid h1
  have H8 := Lib.hid h8
  clear h1 h8
  go_enter Tryz.func156, Tryz.ntmps156
  go_wp2
  go_ret
  have h8 := H8.out
  exact ⟨ret_boolU (by rw [and_one_u8 (Int.ediv_nonneg h0 (Int.le_of_lt (Int.pow_pos (by omega))))]; unfold tst; rw [Nat.min_eq_left (by omega)]; rw [Bool.eq_iff_iff, beq_iff_eq, decide_eq_true_eq]), rfl⟩

def regOf (t : US) (p : Int) : Int := if p = 1 then t.ier else if p = 2 then t.fcr else t.lcr
def hasV (t : US) (p i : Int) : Bool := tst (regOf t p) i
theorem hasV_in (t : US) : hasV t 1 0 = decide (t.ier % 2 = 1) := by
  unfold hasV tst regOf; rw [if_pos rfl]; simp
theorem hasV_sent (t : US) : hasV t 1 1 = decide (t.ier / 2 % 2 = 1) := by
  unfold hasV tst regOf; rw [if_pos rfl]; rfl
theorem hasV_latch {t : US} (h : t.ok) : hasV t 3 7 = decide (128 ≤ t.lcr) := by
  have := h.lcr
  unfold hasV tst regOf
  rw [if_neg (by decide), if_neg (by decide), Bool.eq_iff_iff, decide_eq_true_eq, decide_eq_true_eq]
  show t.lcr / 128 % 2 = 1 ↔ _
  omega
theorem hasV_fifo {t : US} (h : t.ok) : hasV t 2 0 = decide (t.fcr = 1) := by
  have := h.fcr
  unfold hasV tst regOf
  rw [if_neg (by decide), if_pos rfl, Bool.eq_iff_iff, decide_eq_true_eq, decide_eq_true_eq]
  show t.fcr / 1 % 2 = 1 ↔ _
  omega

section
variable {w : World} {b : Nat} {F : Nat → Prop} {t : US} {vi vo : Value}
theorem Holds.pcells (h : HP w b F t vi vo) : w.cell? ⟨b, 0, none⟩ = some vi ∧ w.cell? ⟨b, 1, none⟩ = some vo ∧ w.cell? ⟨b, 2, none⟩ = some (.bool t.lost) ∧ w.cell? ⟨b, 3, none⟩ = some (.bool t.sent) :=
  ⟨h.cell 0 rfl, h.cell 1 rfl, h.cell 2 rfl, h.cell 3 rfl⟩
theorem Holds.pregs (h : HP w b F t vi vo) : w.cell? ⟨b, 4, none⟩ = some (.int .u8 0) ∧ w.cell? ⟨b, 5, none⟩ = some (.int .u8 t.ier) ∧ w.cell? ⟨b, 6, none⟩ = some (.int .u8 t.fcr) ∧ w.cell? ⟨b, 7, none⟩ = some (.int .u8 t.lcr) ∧
    w.cell? ⟨b, 8, none⟩ = some (.int .u8 t.mcr) ∧ w.cell? ⟨b, 9, none⟩ = some (.int .u8 0) ∧ w.cell? ⟨b, 10, none⟩ = some (.int .u8 0) ∧ w.cell? ⟨b, 11, none⟩ = some (.int .u8 t.scr) ∧ w.cell? ⟨b, 12, none⟩ = some (.int .u8 t.dl) ∧ w.cell? ⟨b, 13, none⟩ = some (.int .u8 t.dm) :=
  ⟨h.cell 4 rfl, h.cell 5 rfl, h.cell 6 rfl, h.cell 7 rfl, h.cell 8 rfl, h.cell 9 rfl, h.cell 10 rfl, h.cell 11 rfl, h.cell 12 rfl, h.cell 13 rfl⟩
end
theorem has_any (w : World) (b : Nat) (F : Nat → Prop) (t : US) (vi vo : Value) (h : HP w b F t vi vo) (p i : Int) (hp : p = 1 ∨ p = 2 ∨ p = 3) (hi : 0 ≤ i ∧ i < 8) :
    Calls Tryz.prog 155 #[.pointer (some ⟨b, 0, none⟩), .int .i64 p, .int .i64 i] w fun e w' => e = .returned (.bool (hasV t p i)) ∧ w = w' := by
  obtain ⟨hi0, hi8⟩ := hi
  obtain ⟨_, c1, c2, c3, _⟩ := h.pregs
  have e := h.ok.ier
  have f := h.ok.fcr
  have l := h.ok.lcr
  have E1 : 0 ≤ t.ier ∧ t.ier < 256 := by omega
  have E2 : 0 ≤ t.fcr ∧ t.fcr < 256 := by omega
  clear h e f
  rcases hp with rfl | rfl | rfl
  · go_enter Tryz.func155, Tryz.ntmps155
    go_wp2_with (go_at_call 156; refine (bitP_any _ _ hi0 hi8 E1.1 E1.2 _).mono ?_; rintro e w' ⟨rfl, rfl⟩)
    go_ret
    exact ⟨rfl, rfl⟩
  · go_enter Tryz.func155, Tryz.ntmps155
    go_wp2_with (go_at_call 156; refine (bitP_any _ _ hi0 hi8 E2.1 E2.2 _).mono ?_; rintro e w' ⟨rfl, rfl⟩)
    go_ret
    exact ⟨rfl, rfl⟩
  · go_enter Tryz.func155, Tryz.ntmps155
    go_wp2_with (go_at_call 156; refine (bitP_any _ _ hi0 hi8 l.1 l.2 _).mono ?_; rintro e w' ⟨rfl, rfl⟩)
    go_ret
    exact ⟨rfl, rfl⟩

theorem rsn_in {t : US} (h : t.ier % 2 = 1) (hn : 0 < t.inn.length) : rsn t = 4 := by unfold rsn; rw [if_pos ⟨h, hn⟩]
theorem rsn_snt {t : US} (h : ¬ (t.ier % 2 = 1 ∧ 0 < t.inn.length)) (h2 : t.ier / 2 % 2 = 1) (hs : t.sent = true) : rsn t = 2 := by unfold rsn; rw [if_neg h, if_pos ⟨h2, hs⟩]
theorem rsn_no {t : US} (h : ¬ (t.ier % 2 = 1 ∧ 0 < t.inn.length)) (h2 : ¬ (t.ier / 2 % 2 = 1 ∧ t.sent = true)) : rsn t = 1 := by unfold rsn; rw [if_neg h, if_neg h2]
set_option maxHeartbeats 1000000 in
theorem reason_any (w : World) (b : Nat) (F : Nat → Prop) (t : US) (vi vo : Value) (h : HP w b F t vi vo) :
    Calls Tryz.prog 157 #[.pointer (some ⟨b, 0, none⟩)] w fun e w' => e = .returned (.int .u8 (rsn t)) ∧ w = w' := by
  have H := Lib.hid h
  have hlen := h.ok.li
  obtain ⟨a, c, rfl, _, _, _⟩ := h.ri.reads (by omega)
  obtain ⟨c0, _, _, c3⟩ := h.pcells
  have h10 := hasV_in t
  have h11 := hasV_sent t
  clear h
  by_cases hA : t.ier % 2 = 1
  · by_cases hn : 0 < t.inn.length
    · have ER := Lib.hid (show rsn t = 4 from rsn_in hA hn)
      rw [decide_eq_true hA] at h10
      clear h11
      clear hA
      generalize t.inn.length = n at *
      generalize rsn t = r at *
      go_enter Tryz.func157, Tryz.ntmps157
      go_wp2_with (go_at_call 155; refine (has_any _ b F t _ vo H.out _ _ (by decide) (by decide)).mono ?_; rintro e w' ⟨rfl, rfl⟩)
      go_ret
      exact ⟨by rw [ER.out]; rfl, rfl⟩
    · by_cases hB : t.ier / 2 % 2 = 1
      · by_cases hs : t.sent = true
        · have ER := Lib.hid (show rsn t = 2 from rsn_snt (fun h => hn h.2) hB hs)
          rw [decide_eq_true hA] at h10
          rw [decide_eq_true hB] at h11
          have hn0 : t.inn.length = 0 := by omega
          clear hA
          clear hB
          generalize t.sent = s at *
          subst hs
          clear hn
          generalize t.inn.length = n at *
          subst hn0
          generalize rsn t = r at *
          go_enter Tryz.func157, Tryz.ntmps157
          go_wp2_with (go_at_call 155; refine (has_any _ b F t _ vo H.out _ _ (by decide) (by decide)).mono ?_; rintro e w' ⟨rfl, rfl⟩)
          go_ret
          exact ⟨by rw [ER.out]; rfl, rfl⟩
        · have ER := Lib.hid (show rsn t = 1 from rsn_no (fun h => hn h.2) (fun h => hs h.2))
          rw [decide_eq_true hA] at h10
          rw [decide_eq_true hB] at h11
          have hn0 : t.inn.length = 0 := by omega
          clear hA
          clear hB
          have hs2 : t.sent = false := by simpa using hs
          clear hs
          generalize t.sent = s at *
          subst hs2
          clear hn
          generalize t.inn.length = n at *
          subst hn0
          generalize rsn t = r at *
          go_enter Tryz.func157, Tryz.ntmps157
          go_wp2_with (go_at_call 155; refine (has_any _ b F t _ vo H.out _ _ (by decide) (by decide)).mono ?_; rintro e w' ⟨rfl, rfl⟩)
          go_ret
          exact ⟨by rw [ER.out]; rfl, rfl⟩
      · have ER := Lib.hid (show rsn t = 1 from rsn_no (fun h => hn h.2) (fun h => hB h.1))
        rw [decide_eq_true hA] at h10
        rw [decide_eq_false hB] at h11
        have hn0 : t.inn.length = 0 := by omega
        clear hA
        clear hB
        clear hn
        generalize t.inn.length = n at *
        subst hn0
        generalize rsn t = r at *
        go_enter Tryz.func157, Tryz.ntmps157
        go_wp2_with (go_at_call 155; refine (has_any _ b F t _ vo H.out _ _ (by decide) (by decide)).mono ?_; rintro e w' ⟨rfl, rfl⟩)
        go_ret
        exact ⟨by rw [ER.out]; rfl, rfl⟩
  · by_cases hB : t.ier / 2 % 2 = 1
    · by_cases hs : t.sent = true
      · have ER := Lib.hid (show rsn t = 2 from rsn_snt (fun h => hA h.1) hB hs)
        rw [decide_eq_false hA] at h10
        rw [decide_eq_true hB] at h11
        clear hA
        clear hB
        generalize t.sent = s at *
        subst hs
        generalize t.inn.length = n at *
        generalize rsn t = r at *
        go_enter Tryz.func157, Tryz.ntmps157
        go_wp2_with (go_at_call 155; refine (has_any _ b F t _ vo H.out _ _ (by decide) (by decide)).mono ?_; rintro e w' ⟨rfl, rfl⟩)
        go_ret
        exact ⟨by rw [ER.out]; rfl, rfl⟩
      · have ER := Lib.hid (show rsn t = 1 from rsn_no (fun h => hA h.1) (fun h => hs h.2))
        rw [decide_eq_false hA] at h10
        rw [decide_eq_true hB] at h11
        clear hA
        clear hB
        have hs2 : t.sent = false := by simpa using hs
        clear hs
        generalize t.sent = s at *
        subst hs2
        generalize t.inn.length = n at *
        generalize rsn t = r at *
        go_enter Tryz.func157, Tryz.ntmps157
        go_wp2_with (go_at_call 155; refine (has_any _ b F t _ vo H.out _ _ (by decide) (by decide)).mono ?_; rintro e w' ⟨rfl, rfl⟩)
        go_ret
        exact ⟨by rw [ER.out]; rfl, rfl⟩
    · have ER := Lib.hid (show rsn t = 1 from rsn_no (fun h => hA h.1) (fun h => hB h.1))
      rw [decide_eq_false hA] at h10
      rw [decide_eq_false hB] at h11
      clear hA
      clear hB
      generalize t.inn.length = n at *
      generalize rsn t = r at *
      go_enter Tryz.func157, Tryz.ntmps157
      go_wp2_with (go_at_call 155; refine (has_any _ b F t _ vo H.out _ _ (by decide) (by decide)).mono ?_; rintro e w' ⟨rfl, rfl⟩)
      go_ret
      exact ⟨by rw [ER.out]; rfl, rfl⟩

theorem line_any (w : World) (b : Nat) (F : Nat → Prop) (t : US) (vi vo : Value) (h : HP w b F t vi vo) :
    Calls Tryz.prog 130 #[.pointer (some ⟨b, 0, none⟩)] w fun e w' => e = .returned (.bool (lineU t)) ∧ w = w' := by
  have H := Lib.hid h
  clear h
  go_enter Tryz.func130, Tryz.ntmps130
  go_wp2_with (go_at_call 157; refine (reason_any _ b F t vi vo H.out).mono ?_; rintro e w' ⟨rfl, rfl⟩)
  go_ret
  exact ⟨ret_boolU (by unfold lineU; simp [bne]; try rfl), rfl⟩
/-- What find answers. -/
def FindU (w : World) (k : Nat) (e : Ending) (w' : World) : Prop := w = w' ∧ ((k < 10 ∧ e = .returned (.tuple #[.int .i64 (k : Int), .bool true])) ∨ (k = 10 ∧ e = .returned (.tuple #[.int .i64 0, .bool false])))
theorem find_nil (w : World) (off n : Int) : Calls Tryz.prog 150 #[.pointer none, .int .u64 off, .int .i64 n] w fun e w' => e = .returned (.tuple #[.int .i64 0, .bool false]) ∧ w = w' := by
  go_enter Tryz.func150, Tryz.ntmps150
  go_wp2
  go_ret2
  exact ⟨rfl, rfl⟩
theorem plK_none {t : US} {off n : Int} (h : ¬ (n = 1 ∧ 0 ≤ off ∧ off < 8)) : plK t off n = 10 := by unfold plK; rw [if_neg h]
theorem plK_off {t : US} {off : Int} (h0 : 0 ≤ off) (h8 : off < 8) (h : ¬ (off < 2 ∧ 128 ≤ t.lcr)) : plK t off 1 = off.toNat := by
  unfold plK; rw [if_pos ⟨rfl, h0, h8⟩, if_neg h]
theorem plK_over {t : US} {off : Int} (h0 : 0 ≤ off) (h2 : off < 2) (h : 128 ≤ t.lcr) : plK t off 1 = off.toNat + 8 := by
  unfold plK; rw [if_pos ⟨rfl, h0, by omega⟩, if_pos ⟨h2, h⟩]
set_option maxHeartbeats 1000000 in
theorem find_any (w : World) (b : Nat) (F : Nat → Prop) (t : US) (vi vo : Value) (h : HP w b F t vi vo) (off n : Int) (ho : In64 off) :
    Calls Tryz.prog 150 #[.pointer (some ⟨b, 0, none⟩), .int .u64 off, .int .i64 n] w (FindU w (plK t off n)) := by
  have H := Lib.hid h
  have hlat := hasV_latch h.ok
  have h0 := ho.1
  clear h ho
  by_cases hn : n = 1
  · subst hn
    by_cases h8 : off < 8
    · by_cases h2 : off < 2
      · by_cases hL : 128 ≤ t.lcr
        · have h37 : hasV t 3 7 = true := by rw [hlat]; exact decide_eq_true hL
          have HK := Lib.hid (plK_over h0 h2 hL)
          have e1 : IntKind.i64.wrap off = off := IntWalk.i64_in _ (by omega)
          clear hlat hL
          generalize plK t off 1 = k at *
          go_enter Tryz.func150, Tryz.ntmps150
          go_wp2_with (go_at_call 155; refine (has_any _ b F t _ vo H.out _ _ (by decide) (by decide)).mono ?_; rintro e w' ⟨rfl, rfl⟩)
          go_ret2
          exact ⟨rfl, .inl ⟨by rw [HK.out]; omega, by rw [HK.out, show ((off.toNat + 8 : Nat) : Int) = off + 8 by omega]; rfl⟩⟩
        · have h37 : hasV t 3 7 = false := by rw [hlat]; exact decide_eq_false hL
          have HK := Lib.hid (plK_off h0 h8 (fun h => hL h.2))
          have e1 : IntKind.i64.wrap off = off := IntWalk.i64_in _ (by omega)
          clear hlat hL
          generalize plK t off 1 = k at *
          go_enter Tryz.func150, Tryz.ntmps150
          go_wp2_with (go_at_call 155; refine (has_any _ b F t _ vo H.out _ _ (by decide) (by decide)).mono ?_; rintro e w' ⟨rfl, rfl⟩)
          go_ret2
          exact ⟨rfl, .inl ⟨by rw [HK.out]; omega, by rw [HK.out, show ((off.toNat : Nat) : Int) = off by omega]; rfl⟩⟩
      · have HK := Lib.hid (plK_off (t := t) h0 h8 (fun h => h2 h.1))
        have e1 : IntKind.i64.wrap off = off := IntWalk.i64_in _ (by omega)
        clear hlat
        generalize plK t off 1 = k at *
        go_enter Tryz.func150, Tryz.ntmps150
        go_wp2
        go_ret2
        exact ⟨rfl, .inl ⟨by rw [HK.out]; omega, by rw [HK.out, show ((off.toNat : Nat) : Int) = off by omega]; rfl⟩⟩
    · have HK := Lib.hid (plK_none (t := t) (n := 1) (show ¬ ((1 : Int) = 1 ∧ 0 ≤ off ∧ off < 8) by omega))
      clear hlat
      generalize plK t off 1 = k at *
      go_enter Tryz.func150, Tryz.ntmps150
      go_wp2
      go_ret2
      exact ⟨rfl, .inr ⟨HK.out, rfl⟩⟩
  · have HK := Lib.hid (plK_none (t := t) (off := off) (show ¬ (n = 1 ∧ 0 ≤ off ∧ off < 8) from fun h => hn h.1))
    have hb : (n == 1) = false := by simpa using hn
    have hb2 : (n != 1) = true := by simpa [bne] using hn
    clear hlat hn
    generalize plK t off n = k at *
    go_enter Tryz.func150, Tryz.ntmps150
    go_wp2
    go_ret2
    exact ⟨rfl, .inr ⟨HK.out, rfl⟩⟩

end Go.Proofs.YtbcnkhfpogglmaaGreatDoor.U6
