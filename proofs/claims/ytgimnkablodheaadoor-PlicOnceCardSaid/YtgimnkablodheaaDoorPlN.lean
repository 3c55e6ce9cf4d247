/- Layer 5: the document's Write. -/
import Derived.Test.YtgimnkablodheaaDoorPlK
import Derived.Test.YtgimnkablodheaaDoorPlM
namespace Go.Proofs.YtgimnkablodheaaDoor
open Go.RowKit
set_option linter.unusedVariables false

def prioT (t : PS) (s : Nat) (v : Int) : PS := { t with prio := upd t.prio s v }
def floorT (t : PS) (c : Nat) (v : Int) : PS := { t with floor := upd t.floor c v }
def onT (t : PS) (c : Nat) (f : Nat → Bool) : PS := { t with on := fun s c' => if c' = c then f s else t.on s c' }
def idleP (t : PS) (x : Nat) : PS := { t with busy := upd t.busy x false }
def mayB (t : PS) (c x : Nat) : Bool := decide (1 ≤ x) && decide (x ≤ 31) && t.on x c && t.busy x
/-- What a completion leaves. -/
def doneT (t : PS) (c x : Nat) : PS := if mayB t c x = true then lookP (idleP t x) x else t
/-- What the loop over the enabled ones has done. -/
def onK (t : PS) (c : Nat) (v : Int) (k : Nat) : PS := { t with on := fun s c' => if c' = c ∧ s < k then onBits v s else t.on s c' }
theorem RefP.congr {w : World} {b : Nat} {t t' : PS} (h : RefP w b t) (hs : ∀ s j, s < 32 → j < 6 → srcCell t s j = srcCell t' s j) (hf : ∀ c, c < 2 → t.floor c = t'.floor c) : RefP w b t' := by
  unfold RefP at *
  have e : varr 194 (cellR t) = varr 194 (cellR t') := varr_congr fun i hi => by
    unfold cellR
    by_cases h1 : i < 192
    · rw [if_pos h1, if_pos h1]; exact hs _ _ (by omega) (by omega)
    · rw [if_neg h1, if_neg h1, hf _ (by omega)]
  rw [← e]; exact h
theorem RefP.prioS {w : World} {b : Nat} {t : PS} (h : RefP w b t) {s : Nat} (v : Int) (hs : s < 32) : RefP (w.setCell ⟨b, s * 6, none⟩ (.int .u64 v)) b (prioT t s v) :=
  h.set (s := s) (j := 0) _ hs (by omega) (fun s' j' _ _ => by
    by_cases c : s' = s ∧ j' = 0
    · obtain ⟨rfl, rfl⟩ := c; rw [if_pos ⟨rfl, rfl⟩]; simp [srcCell, prioT, upd_same]
    · rw [if_neg c]; match j' with
      | 0 => simp [srcCell, prioT, upd_other _ _ (fun e : s' = s => c ⟨e, rfl⟩)]
      | 1 => rfl
      | 2 => rfl
      | 3 => rfl
      | 4 => rfl
      | _ + 5 => rfl) rfl
theorem RefP.idleS {w : World} {b : Nat} {t : PS} (h : RefP w b t) {s : Nat} (hs : s < 32) : RefP (w.setCell ⟨b, s * 6 + 3, none⟩ (.bool false)) b (idleP t s) :=
  h.set (s := s) (j := 3) _ hs (by omega) (fun s' j' _ _ => by
    by_cases c : s' = s ∧ j' = 3
    · obtain ⟨rfl, rfl⟩ := c; rw [if_pos ⟨rfl, rfl⟩]; simp [srcCell, idleP, upd_same]
    · rw [if_neg c]; match j' with
      | 0 => rfl
      | 1 => rfl
      | 2 => rfl
      | 3 => simp [srcCell, idleP, upd_other _ _ (fun e : s' = s => c ⟨e, rfl⟩)]
      | 4 => rfl
      | _ + 5 => rfl) rfl
theorem floorT_at (t : PS) (c : Nat) (v : Int) (i : Nat) : (floorT t c v).floor i = if i = c then v else t.floor i := rfl
theorem RefP.floorS {w : World} {b : Nat} {t : PS} (h : RefP w b t) {c : Nat} (v : Int) (hc : c < 2) : RefP (w.setCell ⟨b, 192 + c, none⟩ (.int .u64 v)) b (floorT t c v) := by
  unfold RefP
  rw [heap_setCell_same w b _ _ _ _ h, varr_set]
  have e : (varr 194 fun i => if i = 192 + c then .int .u64 v else cellR t i) = varr 194 (cellR (floorT t c v)) := varr_congr fun i hi => by
    unfold cellR
    by_cases h1 : i < 192
    · rw [if_neg (by omega), if_pos h1, if_pos h1]; rfl
    · rw [if_neg h1, if_neg h1]
      by_cases e : i = 192 + c
      · rw [if_pos e, floorT_at, if_pos (by omega)]
      · rw [if_neg e, floorT_at, if_neg (by omega)]
  rw [e]
theorem RefP.on0S {w : World} {b : Nat} {t : PS} {v : Int} {k : Nat} (h : RefP w b (onK t 0 v k)) (hk : k < 32) : RefP (w.setCell ⟨b, k * 6 + 4, none⟩ (.bool (onBits v k))) b (onK t 0 v (k + 1)) :=
  h.set (s := k) (j := 4) _ hk (by omega) (fun s' j' _ _ => by
    by_cases c : s' = k ∧ j' = 4
    · obtain ⟨rfl, rfl⟩ := c; rw [if_pos ⟨rfl, rfl⟩]; simp [srcCell, onK]
    · rw [if_neg c]; match j' with
      | 0 => rfl
      | 1 => rfl
      | 2 => rfl
      | 3 => rfl
      | 4 => (have n : ¬ s' = k := fun e => c ⟨e, rfl⟩); simp only [srcCell, onK, true_and]; congr 1; by_cases e : s' < k; rw [if_pos e, if_pos (by omega)]; rw [if_neg e, if_neg (by omega)]
      | _ + 5 => simp [srcCell, onK]) rfl
theorem RefP.on1S {w : World} {b : Nat} {t : PS} {v : Int} {k : Nat} (h : RefP w b (onK t 1 v k)) (hk : k < 32) : RefP (w.setCell ⟨b, k * 6 + 5, none⟩ (.bool (onBits v k))) b (onK t 1 v (k + 1)) :=
  h.set (s := k) (j := 5) _ hk (by omega) (fun s' j' _ hj => by
    by_cases c : s' = k ∧ j' = 5
    · obtain ⟨rfl, rfl⟩ := c; rw [if_pos ⟨rfl, rfl⟩]; simp [srcCell, onK]
    · rw [if_neg c]; match j' with
      | 0 => rfl
      | 1 => rfl
      | 2 => rfl
      | 3 => rfl
      | 4 => simp [srcCell, onK]
      | 5 => (have n : ¬ s' = k := fun e => c ⟨e, rfl⟩); simp only [srcCell, onK, true_and]; congr 1; by_cases e : s' < k; rw [if_pos e, if_pos (by omega)]; rw [if_neg e, if_neg (by omega)]
      | _ + 6 => omega) rfl
theorem RefP.onAll {w : World} {b : Nat} {t : PS} {c : Nat} {v : Int} (h : RefP w b (onK t c v 32)) : RefP w b (onT t c (onBits v)) :=
  h.congr (fun s j hs _ => by
    match j with
    | 0 => rfl
    | 1 => rfl
    | 2 => rfl
    | 3 => rfl
    | 4 => simp [srcCell, onK, onT, hs]
    | _ + 5 => simp [srcCell, onK, onT, hs]) (fun _ _ => rfl)
theorem RefP.onNone {w : World} {b : Nat} {t : PS} (c : Nat) (v : Int) (h : RefP w b t) : RefP w b (onK t c v 0) :=
  h.congr (fun s j hs _ => by
    match j with
    | 0 => rfl
    | 1 => rfl
    | 2 => rfl
    | 3 => rfl
    | 4 => simp [srcCell, onK]
    | _ + 5 => simp [srcCell, onK]) (fun _ _ => rfl)

theorem refWrite_len (w : World) (b : Nat) (off n v : Int) (hn : ¬ n = 4) : Calls Tryd.prog 31 #[.pointer (some ⟨b, 0, none⟩), .int .u64 off, .int .i64 n, .int .u64 v] w fun e w' => e = .returned (.bool false) ∧ w = w' := by
  have e4 : (n != 4) = true := by simpa using hn
  clear hn
  go_enter Tryd.func31, Tryd.ntmps31
  go_wp2
  go_ret
  exact ⟨rfl, rfl⟩
theorem refWrite_pend (w : World) (b : Nat) (v : Int) : Calls Tryd.prog 31 #[.pointer (some ⟨b, 0, none⟩), .int .u64 4096, .int .i64 4, .int .u64 v] w fun e w' => e = .returned (.bool true) ∧ w = w' := by
  go_enter Tryd.func31, Tryd.ntmps31
  go_wp2
  go_ret
  exact ⟨rfl, rfl⟩
theorem refWrite_prio0 (w : World) (b : Nat) (v : Int) : Calls Tryd.prog 31 #[.pointer (some ⟨b, 0, none⟩), .int .u64 0, .int .i64 4, .int .u64 v] w fun e w' => e = .returned (.bool true) ∧ w = w' := by
  go_enter Tryd.func31, Tryd.ntmps31
  go_wp2
  go_ret
  exact ⟨rfl, rfl⟩
theorem refWrite_prio (w : World) (b : Nat) (t : PS) (h : RefP w b t) (k : Nat) (hk0 : 1 ≤ k) (hk : k < 32) (off v : Int) (ho : off = 4 * (k : Int)) (hv : 0 ≤ v) :
    Calls Tryd.prog 31 #[.pointer (some ⟨b, 0, none⟩), .int .u64 off, .int .i64 4, .int .u64 v] w (RefPEnd w b (.bool true) (prioT t k (v % 8))) := by
  have c0 : w.cell? ⟨b, k * 6, none⟩ = some (.int .u64 (t.prio k)) := h.src (s := k) (j := 0) hk (by omega)
  have f0 := h.free (k * 6)
  have H := Lib.hid (h.prioS (v % 8) hk)
  have h0 : 0 ≤ off := by omega
  have h00 : 0 < off := by omega
  have h1 : off < 128 := by omega
  have h2 : (off % 4 == 0) = true := by rw [beq_iff_eq]; omega
  have h4 : IntKind.u64.wrap (off.tdiv 4) = (k : Int) := by rw [Int.tdiv_eq_ediv_of_nonneg h0, IntKind.wrap_u64]; omega
  have i1 : (k : Int) < 32 := by omega
  clear ho h
  go_enter Tryd.func31, Tryd.ntmps31
  go_wp2
  go_ret
  exact ⟨rfl, (Only.refl (fun i => i = b) w).setCell (p := ⟨b, k * 6, none⟩) (.inl rfl) _, H.out⟩

set_option maxRecDepth 100000 in
set_option maxHeartbeats 1000000 in
theorem refWrite_floor0 (w : World) (b : Nat) (t : PS) (h : RefP w b t) (v : Int) (hv : 0 ≤ v) :
    Calls Tryd.prog 31 #[.pointer (some ⟨b, 0, none⟩), .int .u64 2097152, .int .i64 4, .int .u64 v] w (RefPEnd w b (.bool true) (floorT t 0 (v % 8))) := by
  have c0 : w.cell? ⟨b, 192, none⟩ = some (.int .u64 (t.floor 0)) := h.floor_ (c := 0) (by omega)
  have f0 := h.free 192
  have H := Lib.hid (h.floorS (c := 0) (v % 8) (by omega))
  clear h
  go_enter Tryd.func31, Tryd.ntmps31
  go_wp2
  go_loop [9] (fun i => i = .int .i64 0) (fun _ => 0)
  case atStart => exact rfl
  case round =>
    obtain rfl := hrel
    go_wp2
    go_ret
    exact ⟨rfl, (Only.refl (fun i => i = b) w).setCell (p := ⟨b, 192, none⟩) (.inl rfl) _, H.out⟩

set_option maxRecDepth 100000 in
set_option maxHeartbeats 1000000 in
theorem refWrite_floor1 (w : World) (b : Nat) (t : PS) (h : RefP w b t) (v : Int) (hv : 0 ≤ v) :
    Calls Tryd.prog 31 #[.pointer (some ⟨b, 0, none⟩), .int .u64 2101248, .int .i64 4, .int .u64 v] w (RefPEnd w b (.bool true) (floorT t 1 (v % 8))) := by
  have c0 : w.cell? ⟨b, 193, none⟩ = some (.int .u64 (t.floor 1)) := h.floor_ (c := 1) (by omega)
  have f0 := h.free 193
  have H := Lib.hid (h.floorS (c := 1) (v % 8) (by omega))
  clear h
  go_enter Tryd.func31, Tryd.ntmps31
  go_wp2
  go_loop [9] (fun i => i = .int .i64 0 ∨ i = .int .i64 1) (fun i => (1 - intOf i).toNat)
  case atStart => exact .inl rfl
  case round =>
    rcases hrel with rfl | rfl
    · go_wp2
      exact ⟨.inr rfl, by simp [intOf]⟩
    go_wp2
    go_ret
    exact ⟨rfl, (Only.refl (fun i => i = b) w).setCell (p := ⟨b, 193, none⟩) (.inl rfl) _, H.out⟩

set_option maxRecDepth 100000 in
set_option maxHeartbeats 4000000 in
theorem refWrite_on0 (w : World) (b : Nat) (t : PS) (h : RefP w b t) (v : Int) (hv : In64 v) :
    Calls Tryd.prog 31 #[.pointer (some ⟨b, 0, none⟩), .int .u64 8192, .int .i64 4, .int .u64 v] w (RefPEnd w b (.bool true) (onT t 0 (onBits v))) := by
  have H := Lib.hid h
  have HV := Lib.hid hv
  clear h hv
  go_enter Tryd.func31, Tryd.ntmps31
  go_wp2
  go_loop [9] (fun i => i = .int .i64 0) (fun _ => 0)
  case atStart => exact rfl
  case round =>
    obtain rfl := hrel
    go_wp2
    obtain ⟨wo, hwo⟩ : ∃ wo : World, wo = w := ⟨_, rfl⟩
    have HWO := Lib.hid hwo
    clear hwo
    go_loopw [11, 12] (fun x i wr => ∃ (k : Nat) (y : Int), k ≤ 32 ∧ i = .int .i64 k ∧ x = .int .u64 y ∧ Hid (y = v / 2 ^ k) ∧ RefP wr b (onK t 0 v k) ∧ Only (fun i => i = b) w wr) (fun _ i _ => (32 - intOf i).toNat)
    case atStart => exact ⟨0, v, by omega, rfl, rfl, Lib.hid (by simp), H.out.onNone 0 v, Only.refl _ _⟩
    case round =>
      obtain ⟨k, y, hk, rfl, rfl, HY, hR, hO⟩ := hrel
      have HO := Lib.hid hO
      have HR := Lib.hid hR
      by_cases hk1 : k < 32
      · have ck : wr.cell? ⟨b, k * 6 + 4, none⟩ = some (.bool ((onK t 0 v k).on k 0)) := hR.src (s := k) (j := 4) hk1 (by omega)
        have fk := hR.free (k * 6 + 4)
        have i1 : (k : Int) < 32 := by omega
        have hn0 : 0 ≤ y := by rw [HY.out]; exact Int.ediv_nonneg HV.out.1 (Int.le_of_lt (Int.pow_pos (by decide)))
        have HWD : Hid (IntKind.u64.wrap (y.tdiv 2) = y / 2) := by
          refine Lib.hid ?_
          have h1 : y ≤ v := by rw [HY.out]; exact Int.ediv_le_self _ HV.out.1
          have h2 := HV.out.2
          rw [Int.tdiv_eq_ediv_of_nonneg hn0, IntKind.wrap_u64]; omega
        have HD : Hid (y / 2 = v / 2 ^ (k + 1)) := by
          refine Lib.hid ?_
          rw [HY.out, Int.pow_succ, Int.ediv_ediv_of_nonneg (Int.le_of_lt (Int.pow_pos (by decide)))]
        have HN := Lib.hid (hR.on0S hk1)
        have HO2 : Hid (∀ u, Only (fun i => i = b) w (wr.setCell ⟨b, k * 6 + 4, none⟩ u)) := Lib.hid fun u => hO.setCell (p := ⟨b, k * 6 + 4, none⟩) (.inl rfl) u
        by_cases hk0 : k = 0
        · have HB : Hid (onBits v k = false) := Lib.hid (by unfold onBits; rw [decide_eq_false (by omega), Bool.false_and])
          subst hk0
          rw [HB.out] at HN
          clear hR hO
          go_wp2
          go_roundw
          case rel => exact ⟨1, y / 2, by omega, rfl, by rw [HWD.out], HD, HN.out, HO2.out _⟩
          case measure => simp [intOf]
        · have HB : Hid (onBits v k = (y % 2 == 1)) := Lib.hid (by unfold onBits vbit; rw [decide_eq_true (by omega), Bool.true_and, HY.out])
          rw [HB.out] at HN
          have hk2 : (0 : Int) < (k : Int) := by omega
          have hk3 : 0 < k := by omega
          clear hR hO
          go_wp2
          go_roundw
          case rel => exact ⟨k + 1, y / 2, by omega, by go_num, by rw [HWD.out], HD, HN.out, HO2.out _⟩
          case measure => simp [intOf]; omega
      · obtain rfl : k = 32 := by omega
        have HF := Lib.hid hR.onAll
        clear hR hO
        go_wp2
        go_ret
        exact ⟨rfl, HO.out, HF.out⟩

set_option maxRecDepth 100000 in
set_option maxHeartbeats 4000000 in
theorem refWrite_on1 (w : World) (b : Nat) (t : PS) (h : RefP w b t) (v : Int) (hv : In64 v) :
    Calls Tryd.prog 31 #[.pointer (some ⟨b, 0, none⟩), .int .u64 8320, .int .i64 4, .int .u64 v] w (RefPEnd w b (.bool true) (onT t 1 (onBits v))) := by
  have H := Lib.hid h
  have HV := Lib.hid hv
  clear h hv
  go_enter Tryd.func31, Tryd.ntmps31
  go_wp2
  go_loop [9] (fun i => i = .int .i64 0 ∨ i = .int .i64 1) (fun i => (1 - intOf i).toNat)
  case atStart => exact .inl rfl
  case round =>
    rcases hrel with rfl | rfl
    · go_wp2
      exact ⟨.inr rfl, by simp [intOf]⟩
    go_wp2
    obtain ⟨wo, hwo⟩ : ∃ wo : World, wo = w := ⟨_, rfl⟩
    have HWO := Lib.hid hwo
    clear hwo
    go_loopw [11, 12] (fun x i wr => ∃ (k : Nat) (y : Int), k ≤ 32 ∧ i = .int .i64 k ∧ x = .int .u64 y ∧ Hid (y = v / 2 ^ k) ∧ RefP wr b (onK t 1 v k) ∧ Only (fun i => i = b) w wr) (fun _ i _ => (32 - intOf i).toNat)
    case atStart => exact ⟨0, v, by omega, rfl, rfl, Lib.hid (by simp), H.out.onNone 1 v, Only.refl _ _⟩
    case round =>
      obtain ⟨k, y, hk, rfl, rfl, HY, hR, hO⟩ := hrel
      have HO := Lib.hid hO
      have HR := Lib.hid hR
      by_cases hk1 : k < 32
      · have ck : wr.cell? ⟨b, k * 6 + 4 + 1, none⟩ = some (.bool ((onK t 1 v k).on k 1)) := hR.src (s := k) (j := 5) hk1 (by omega)
        have fk := hR.free (k * 6 + 4 + 1)
        have i1 : (k : Int) < 32 := by omega
        have hn0 : 0 ≤ y := by rw [HY.out]; exact Int.ediv_nonneg HV.out.1 (Int.le_of_lt (Int.pow_pos (by decide)))
        have HWD : Hid (IntKind.u64.wrap (y.tdiv 2) = y / 2) := by
          refine Lib.hid ?_
          have h1 : y ≤ v := by rw [HY.out]; exact Int.ediv_le_self _ HV.out.1
          have h2 := HV.out.2
          rw [Int.tdiv_eq_ediv_of_nonneg hn0, IntKind.wrap_u64]; omega
        have HD : Hid (y / 2 = v / 2 ^ (k + 1)) := by
          refine Lib.hid ?_
          rw [HY.out, Int.pow_succ, Int.ediv_ediv_of_nonneg (Int.le_of_lt (Int.pow_pos (by decide)))]
        have HN := Lib.hid (hR.on1S hk1)
        have HO2 : Hid (∀ u, Only (fun i => i = b) w (wr.setCell ⟨b, k * 6 + 4 + 1, none⟩ u)) := Lib.hid fun u => hO.setCell (p := ⟨b, k * 6 + 4 + 1, none⟩) (.inl rfl) u
        by_cases hk0 : k = 0
        · have HB : Hid (onBits v k = false) := Lib.hid (by unfold onBits; rw [decide_eq_false (by omega), Bool.false_and])
          subst hk0
          rw [HB.out] at HN
          clear hR hO
          go_wp2
          go_roundw
          case rel => exact ⟨1, y / 2, by omega, rfl, by rw [HWD.out], HD, HN.out, HO2.out _⟩
          case measure => simp [intOf]
        · have HB : Hid (onBits v k = (y % 2 == 1)) := Lib.hid (by unfold onBits vbit; rw [decide_eq_true (by omega), Bool.true_and, HY.out])
          rw [HB.out] at HN
          have hk2 : (0 : Int) < (k : Int) := by omega
          have hk3 : 0 < k := by omega
          clear hR hO
          go_wp2
          go_roundw
          case rel => exact ⟨k + 1, y / 2, by omega, by go_num, by rw [HWD.out], HD, HN.out, HO2.out _⟩
          case measure => simp [intOf]; omega
      · obtain rfl : k = 32 := by omega
        have HF := Lib.hid hR.onAll
        clear hR hO
        go_wp2
        go_ret
        exact ⟨rfl, HO.out, HF.out⟩

set_option maxRecDepth 100000 in
set_option maxHeartbeats 4000000 in
theorem refWrite_done0 (w : World) (b : Nat) (t : PS) (h : RefP w b t) (v : Int) (x : Nat) (hv : 0 ≤ v) (hx0 : v % 4294967296 = (x : Int)) :
    Calls Tryd.prog 31 #[.pointer (some ⟨b, 0, none⟩), .int .u64 2097156, .int .i64 4, .int .u64 v] w (RefPEnd w b (.bool true) (doneT t 0 x)) := by
  have H := Lib.hid h
  clear h
  have HX := Lib.hid hx0
  clear hx0
  go_enter Tryd.func31, Tryd.ntmps31
  go_wp2
  go_loop [9] (fun i => i = .int .i64 0) (fun _ => 0)
  case atStart => exact rfl
  case round =>
    obtain rfl := hrel
    have hxe := HX.out
    by_cases hx1 : 1 ≤ x
    · have d1 : decide ((1 : Int) ≤ (x : Int)) = true := by rw [decide_eq_true_eq]; omega
      by_cases hx2 : x ≤ 31
      · have d2 : decide ((x : Int) ≤ 31) = true := by rw [decide_eq_true_eq]; omega
        have con : w.cell? ⟨b, x * 6 + 4, none⟩ = some (.bool (t.on x 0)) := H.out.src (s := x) (j := 4) (by omega) (by omega)
        have cbu : w.cell? ⟨b, x * 6 + 3, none⟩ = some (.bool (t.busy x)) := H.out.src (s := x) (j := 3) (by omega) (by omega)
        have i1 : (x : Int) < 32 := by omega
        have hw1 : IntKind.i64.wrap (x : Int) = x := IntWalk.i64_in _ (by omega)
        have HM : Hid (mayB t 0 x = (t.on x 0 && t.busy x)) := Lib.hid (by unfold mayB; rw [decide_eq_true hx1, decide_eq_true hx2]; rfl)
        have f3 := H.out.free (x * 6 + 3)
        obtain ⟨p, hp⟩ : ∃ p, t.on x 0 = p := ⟨_, rfl⟩
        obtain ⟨q, hq⟩ : ∃ q, t.busy x = q := ⟨_, rfl⟩
        rw [hp] at con
        rw [hq] at cbu
        rw [hp, hq] at HM
        clear hp hq
        cases p with
        | false =>
          have HE : Hid (RefP w b (doneT t 0 x)) := Lib.hid (by unfold doneT; rw [HM.out, if_neg (by simp)]; exact H.out)
          go_wp2
          go_ret
          exact ⟨rfl, Only.refl _ _, HE.out⟩
        | true =>
        cases q with
        | false =>
          have HE : Hid (RefP w b (doneT t 0 x)) := Lib.hid (by unfold doneT; rw [HM.out, if_neg (by simp)]; exact H.out)
          go_wp2
          go_ret
          exact ⟨rfl, Only.refl _ _, HE.out⟩
        | true =>
          have HE : Hid (doneT t 0 x = lookP (idleP t x) x) := Lib.hid (by unfold doneT; rw [HM.out, if_pos (by rfl)])
          have h2 : Hid (RefP (w.setCell ⟨b, x * 6 + 3, none⟩ (.bool false)) b (idleP t x)) := Lib.hid (RefP.idleS (w := w) H.out (by omega))
          have ho : Hid (Only (fun i => i = b) w (w.setCell ⟨b, x * 6 + 3, none⟩ (.bool false))) := Lib.hid ((Only.refl (fun i => i = b) w).setCell (p := ⟨b, x * 6 + 3, none⟩) (.inl rfl) _)
          rw [HE.out]
          go_wp2_with fail
          refine (refLook_any _ b _ x h2.out (by omega)).mono ?_
          rintro e w' ⟨hu, ho2, hp⟩
          obtain ⟨u, rfl⟩ := hu
          have HO3 := Lib.hid (ho.out.trans ho2)
          have HP := Lib.hid hp
          clear ho2 hp
          go_wp2
          go_ret
          exact ⟨rfl, HO3.out, HP.out⟩
      · have d2 : decide ((x : Int) ≤ 31) = false := by rw [decide_eq_false_iff_not]; omega
        have HE : Hid (RefP w b (doneT t 0 x)) := Lib.hid (by unfold doneT mayB; rw [decide_eq_false hx2, if_neg (by simp)]; exact H.out)
        go_wp2
        go_ret
        exact ⟨rfl, Only.refl _ _, HE.out⟩
    · have d1 : decide ((1 : Int) ≤ (x : Int)) = false := by rw [decide_eq_false_iff_not]; omega
      have HE : Hid (RefP w b (doneT t 0 x)) := Lib.hid (by unfold doneT mayB; rw [decide_eq_false hx1, if_neg (by simp)]; exact H.out)
      go_wp2
      go_ret
      exact ⟨rfl, Only.refl _ _, HE.out⟩

set_option maxRecDepth 100000 in
set_option maxHeartbeats 4000000 in
theorem refWrite_done1 (w : World) (b : Nat) (t : PS) (h : RefP w b t) (v : Int) (x : Nat) (hv : 0 ≤ v) (hx0 : v % 4294967296 = (x : Int)) :
    Calls Tryd.prog 31 #[.pointer (some ⟨b, 0, none⟩), .int .u64 2101252, .int .i64 4, .int .u64 v] w (RefPEnd w b (.bool true) (doneT t 1 x)) := by
  have H := Lib.hid h
  clear h
  have HX := Lib.hid hx0
  clear hx0
  go_enter Tryd.func31, Tryd.ntmps31
  go_wp2
  go_loop [9] (fun i => i = .int .i64 0 ∨ i = .int .i64 1) (fun i => (1 - intOf i).toNat)
  case atStart => exact .inl rfl
  case round =>
    rcases hrel with rfl | rfl
    · go_wp2
      exact ⟨.inr rfl, by simp [intOf]⟩
    have hxe := HX.out
    by_cases hx1 : 1 ≤ x
    · have d1 : decide ((1 : Int) ≤ (x : Int)) = true := by rw [decide_eq_true_eq]; omega
      by_cases hx2 : x ≤ 31
      · have d2 : decide ((x : Int) ≤ 31) = true := by rw [decide_eq_true_eq]; omega
        have con : w.cell? ⟨b, x * 6 + 4 + 1, none⟩ = some (.bool (t.on x 1)) := H.out.src (s := x) (j := 5) (by omega) (by omega)
        have cbu : w.cell? ⟨b, x * 6 + 3, none⟩ = some (.bool (t.busy x)) := H.out.src (s := x) (j := 3) (by omega) (by omega)
        have i1 : (x : Int) < 32 := by omega
        have hw1 : IntKind.i64.wrap (x : Int) = x := IntWalk.i64_in _ (by omega)
        have HM : Hid (mayB t 1 x = (t.on x 1 && t.busy x)) := Lib.hid (by unfold mayB; rw [decide_eq_true hx1, decide_eq_true hx2]; rfl)
        have f3 := H.out.free (x * 6 + 3)
        obtain ⟨p, hp⟩ : ∃ p, t.on x 1 = p := ⟨_, rfl⟩
        obtain ⟨q, hq⟩ : ∃ q, t.busy x = q := ⟨_, rfl⟩
        rw [hp] at con
        rw [hq] at cbu
        rw [hp, hq] at HM
        clear hp hq
        cases p with
        | false =>
          have HE : Hid (RefP w b (doneT t 1 x)) := Lib.hid (by unfold doneT; rw [HM.out, if_neg (by simp)]; exact H.out)
          go_wp2
          go_ret
          exact ⟨rfl, Only.refl _ _, HE.out⟩
        | true =>
        cases q with
        | false =>
          have HE : Hid (RefP w b (doneT t 1 x)) := Lib.hid (by unfold doneT; rw [HM.out, if_neg (by simp)]; exact H.out)
          go_wp2
          go_ret
          exact ⟨rfl, Only.refl _ _, HE.out⟩
        | true =>
          have HE : Hid (doneT t 1 x = lookP (idleP t x) x) := Lib.hid (by unfold doneT; rw [HM.out, if_pos (by rfl)])
          have h2 : Hid (RefP (w.setCell ⟨b, x * 6 + 3, none⟩ (.bool false)) b (idleP t x)) := Lib.hid (RefP.idleS (w := w) H.out (by omega))
          have ho : Hid (Only (fun i => i = b) w (w.setCell ⟨b, x * 6 + 3, none⟩ (.bool false))) := Lib.hid ((Only.refl (fun i => i = b) w).setCell (p := ⟨b, x * 6 + 3, none⟩) (.inl rfl) _)
          rw [HE.out]
          go_wp2_with fail
          refine (refLook_any _ b _ x h2.out (by omega)).mono ?_
          rintro e w' ⟨hu, ho2, hp⟩
          obtain ⟨u, rfl⟩ := hu
          have HO3 := Lib.hid (ho.out.trans ho2)
          have HP := Lib.hid hp
          clear ho2 hp
          go_wp2
          go_ret
          exact ⟨rfl, HO3.out, HP.out⟩
      · have d2 : decide ((x : Int) ≤ 31) = false := by rw [decide_eq_false_iff_not]; omega
        have HE : Hid (RefP w b (doneT t 1 x)) := Lib.hid (by unfold doneT mayB; rw [decide_eq_false hx2, if_neg (by simp)]; exact H.out)
        go_wp2
        go_ret
        exact ⟨rfl, Only.refl _ _, HE.out⟩
    · have d1 : decide ((1 : Int) ≤ (x : Int)) = false := by rw [decide_eq_false_iff_not]; omega
      have HE : Hid (RefP w b (doneT t 1 x)) := Lib.hid (by unfold doneT mayB; rw [decide_eq_false hx1, if_neg (by simp)]; exact H.out)
      go_wp2
      go_ret
      exact ⟨rfl, Only.refl _ _, HE.out⟩

set_option maxRecDepth 100000 in
set_option maxHeartbeats 2000000 in
theorem refWrite_no (w : World) (b : Nat) (off v : Int) (hn : NoPlic off) (h0 : 0 ≤ off) :
    Calls Tryd.prog 31 #[.pointer (some ⟨b, 0, none⟩), .int .u64 off, .int .i64 4, .int .u64 v] w fun e w' => e = .returned (.bool false) ∧ w = w' := by
  have hp := hn.prio
  have e1 := neB hn.pend
  have e2 := neB hn.on0
  have e3 := neB hn.on1
  have e4 := neB hn.fl0
  have e5 := neB hn.fl1
  have e6 := neB hn.cl0
  have e7 := neB hn.cl1
  clear hn
  by_cases h1 : off < 128
  · have h2 : (off % 4 == 0) = false := by simp; omega
    clear hp
    go_enter Tryd.func31, Tryd.ntmps31
    go_wp2
    go_loop [9] (fun i => i = .int .i64 0 ∨ i = .int .i64 1 ∨ i = .int .i64 2) (fun i => (2 - intOf i).toNat)
    case atStart => exact .inl rfl
    case round =>
      rcases hrel with rfl | rfl | rfl
      · go_wp2
        exact ⟨.inr (.inl rfl), by simp [intOf]⟩
      · go_wp2
        exact ⟨.inr (.inr rfl), by simp [intOf]⟩
      · go_wp2
        go_ret
        exact ⟨rfl, rfl⟩
  · have h2 : decide (off < 128) = false := decide_eq_false h1
    clear hp
    go_enter Tryd.func31, Tryd.ntmps31
    go_wp2
    go_loop [9] (fun i => i = .int .i64 0 ∨ i = .int .i64 1 ∨ i = .int .i64 2) (fun i => (2 - intOf i).toNat)
    case atStart => exact .inl rfl
    case round =>
      rcases hrel with rfl | rfl | rfl
      · go_wp2
        exact ⟨.inr (.inl rfl), by simp [intOf]⟩
      · go_wp2
        exact ⟨.inr (.inr rfl), by simp [intOf]⟩
      · go_wp2
        go_ret
        exact ⟨rfl, rfl⟩

end Go.Proofs.YtgimnkablodheaaDoor
