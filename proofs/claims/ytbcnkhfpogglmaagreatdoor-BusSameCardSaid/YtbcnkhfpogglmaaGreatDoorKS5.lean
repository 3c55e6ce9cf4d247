/- Joined: PlSR Un Uo Up RfA RfB RfC RfD RfG RfH RfI RfF -/
import Derived.Test.YtbcnkhfpogglmaaGreatDoorKS4
import Derived.Deep.RegionWith
namespace Go.Proofs.YtbcnkhfpogglmaaGreatDoor.P5.In
open Go.RowKit
set_option linter.unusedVariables false
set_option maxRecDepth 100000
variable {fr : Fr 4}

/-- The document's plic t stands four cells behind the beginning of block b. -/
def RefP (fr : Fr 4) (w : World) (b : Nat) (t : PS) : Prop := w.heap[b]? = some (.cells (fr.all (varr 194 (cellR t))) fr.ty (0, 0))
theorem RefP.lt {w : World} {b : Nat} {t : PS} (h : RefP fr w b t) : b < w.heap.size := (Array.getElem?_eq_some_iff.1 h).1
theorem RefP.below {w w' : World} {b : Nat} {t : PS} (h : RefP fr w b t) (o : Below w.heap.size w w') : RefP fr w' b t := (o.block b h.lt).trans h
theorem RefP.keeps {w w' : World} {b : Nat} {t : PS} {T : Nat → Prop} (h : RefP fr w b t) (o : Only T w w') (hb : ¬ T b) : RefP fr w' b t := o.keeps hb h
theorem RefP.src {w : World} {b : Nat} {t : PS} (h : RefP fr w b t) {s j : Nat} (hs : s < 32) (hj : j < 6) : w.cell? ⟨b, 4 + s * 6 + j, none⟩ = some (srcCell t s j) := by
  rw [Nat.add_assoc, cell_of_row w b _ _ _ _ h, fr.get _ _ (by rw [varr_size]; omega), varr_get _ _ _ (by omega), cellR_src t hs hj]
theorem RefP.floor_ {w : World} {b : Nat} {t : PS} (h : RefP fr w b t) {c : Nat} (hc : c < 2) : w.cell? ⟨b, 196 + c, none⟩ = some (.int .u64 (t.floor c)) := by
  rw [show 196 + c = 4 + (192 + c) by omega, cell_of_row w b _ _ _ _ h, fr.get _ _ (by rw [varr_size]; omega), varr_get _ _ _ (by omega), cellR_floor]
theorem RefP.free {w : World} {b : Nat} {t : PS} (h : RefP fr w b t) (k : Nat) : w.frozen? ⟨b, k, none⟩ = false := frozen_of_row w b k _ _ h
/-- One cell of a source turned. -/
theorem RefP.set {w : World} {b : Nat} {t t' : PS} (h : RefP fr w b t) {s j : Nat} (v : Value) (hs : s < 32) (hj : j < 6) (he : ∀ s' j', s' < 32 → j' < 6 → srcCell t' s' j' = if s' = s ∧ j' = j then v else srcCell t s' j') (hf : t'.floor = t.floor) :
    RefP fr (w.setCell ⟨b, 4 + s * 6 + j, none⟩ v) b t' := by
  unfold RefP
  rw [Nat.add_assoc, heap_setCell_same w b _ _ _ _ h, fr.set _ _ _ (by rw [varr_size]; omega), varr_set]
  have e : (varr 194 fun i => if i = s * 6 + j then v else cellR t i) = varr 194 (cellR t') := varr_congr fun i hi => by
    by_cases h1 : i < 192
    · have h2 : i = i / 6 * 6 + i % 6 := by omega
      have e1 : cellR t' i = srcCell t' (i / 6) (i % 6) := by unfold cellR; rw [if_pos h1]
      have e2 : cellR t i = srcCell t (i / 6) (i % 6) := by unfold cellR; rw [if_pos h1]
      rw [e1, e2, he _ _ (by omega) (by omega)]
      by_cases c : i = s * 6 + j
      · rw [if_pos c, if_pos ⟨by omega, by omega⟩]
      · rw [if_neg c, if_neg (by omega)]
    · rw [if_neg (by omega)]
      unfold cellR
      rw [if_neg h1, if_neg h1, hf]
  rw [e]
theorem RefP.floorS {w : World} {b : Nat} {t : PS} (h : RefP fr w b t) {c : Nat} (v : Int) (hc : c < 2) : RefP fr (w.setCell ⟨b, 196 + c, none⟩ (.int .u64 v)) b (floorT t c v) := by
  unfold RefP
  rw [show 196 + c = 4 + (192 + c) by omega, heap_setCell_same w b _ _ _ _ h, fr.set _ _ _ (by rw [varr_size]; omega), varr_set]
  have e : (varr 194 fun i => if i = 192 + c then .int .u64 v else cellR t i) = varr 194 (cellR (floorT t c v)) := varr_congr fun i hi => by
    unfold cellR
    by_cases h1 : i < 192
    · rw [if_neg (by omega), if_pos h1, if_pos h1]; rfl
    · rw [if_neg h1, if_neg h1]
      by_cases e : i = 192 + c
      · rw [if_pos e, floorT_at, if_pos (by omega)]
      · rw [if_neg e, floorT_at, if_neg (by omega)]
  rw [e]

def SetP (fr : Fr 4) (w : World) (b : Nat) (t' : PS) (e : Ending) (w' : World) : Prop := (∃ u, e = .returned u) ∧ Only (fun i => i = b) w w' ∧ RefP fr w' b t'
set_option maxHeartbeats 1000000 in
theorem refLook_any (w : World) (b : Nat) (t : PS) (s : Nat) (h : RefP fr w b t) (hs : s < 32) :
    Calls Tryz.prog 134 #[.pointer (some ⟨b, 4, none⟩), .int .i64 s] w (SetP fr w b (lookP t s)) := by
  have c1 : w.cell? ⟨b, 4 + s * 6 + 1, none⟩ = some (.bool (t.up s)) := h.src hs (by omega)
  have c2 : w.cell? ⟨b, 4 + s * 6 + 2, none⟩ = some (.bool (t.pend s)) := h.src hs (by omega)
  have c3 : w.cell? ⟨b, 4 + s * 6 + 3, none⟩ = some (.bool (t.busy s)) := h.src hs (by omega)
  have f2 := h.free (4 + s * 6 + 2)
  have i1 : (s : Int) < 32 := by omega
  have H := Lib.hid h
  clear h
  unfold lookP
  generalize hu : t.up s = u at *
  generalize hb : t.busy s = v at *
  clear hu hb
  cases u <;> cases v
  all_goals
    go_enter Tryz.func134, Tryz.ntmps134
    go_wp2
    go_end0
    first
      | exact ⟨⟨_, rfl⟩, Only.refl _ _, H.out⟩
      | exact ⟨⟨_, rfl⟩, (Only.refl (fun i => i = b) w).setCell (p := ⟨b, 4 + s * 6 + 2, none⟩) (.inl rfl) _, H.out.set _ hs (by omega) (fun s' j' _ _ => by
          by_cases c : s' = s ∧ j' = 2
          · obtain ⟨rfl, rfl⟩ := c; rw [if_pos ⟨rfl, rfl⟩]; simp [srcCell, upd_same]
          · rw [if_neg c]; match j' with
            | 0 => rfl
            | 1 => rfl
            | 2 => simp [srcCell, upd_other _ _ (fun e : s' = s => c ⟨e, rfl⟩)]
            | 3 => rfl
            | 4 => rfl
            | _ + 5 => rfl) rfl⟩
theorem RefP.upS {w : World} {b : Nat} {t : PS} (h : RefP fr w b t) {s : Nat} (u : Bool) (hs : s < 32) : RefP fr (w.setCell ⟨b, 4 + s * 6 + 1, none⟩ (.bool u)) b (upP t s u) :=
  h.set _ hs (by omega) (fun s' j' _ _ => by
    by_cases c : s' = s ∧ j' = 1
    · obtain ⟨rfl, rfl⟩ := c; rw [if_pos ⟨rfl, rfl⟩]; simp [srcCell, upP, upd_same]
    · rw [if_neg c]; match j' with
      | 0 => rfl
      | 1 => simp [srcCell, upP, upd_other _ _ (fun e : s' = s => c ⟨e, rfl⟩)]
      | 2 => rfl
      | 3 => rfl
      | 4 => rfl
      | _ + 5 => rfl) rfl
def RefPEnd (fr : Fr 4) (w : World) (b : Nat) (r : Value) (t' : PS) (e : Ending) (w' : World) : Prop := e = .returned r ∧ Only (fun i => i = b) w w' ∧ RefP fr w' b t'
set_option maxHeartbeats 1000000 in
theorem refLevel_any (w : World) (b : Nat) (t : PS) (s : Int) (u : Bool) (h : RefP fr w b t) :
    Calls Tryz.prog 108 #[.pointer (some ⟨b, 4, none⟩), .int .i64 s, .bool u] w (RefPEnd fr w b (.bool (isS s)) (levelP t s u)) := by
  cases hs : isS s with
  | false =>
    have HE : Hid (RefPEnd fr w b (.bool false) (levelP t s u) (.returned (.bool false)) w) := by
      refine Lib.hid ⟨rfl, Only.refl _ _, ?_⟩
      unfold levelP; rw [hs, if_neg (by simp)]; exact h
    have HS := Lib.hid hs
    clear h hs
    go_enter Tryz.func108, Tryz.ntmps108
    go_wp2_with fail
    refine (refIs_any _ _).mono ?_
    rintro e w' ⟨rfl, rfl⟩
    rw [HS.out]
    go_wp2
    go_ret
    exact HE.out
  | true =>
    obtain ⟨k, rfl, hk1, hk2⟩ := isS_nat hs
    have HS := Lib.hid hs
    have c1 : w.cell? ⟨b, 4 + k * 6 + 1, none⟩ = some (.bool (t.up k)) := h.src hk2 (by omega)
    have f1 := h.free (4 + k * 6 + 1)
    have i1 : (k : Int) < 32 := by omega
    have H := Lib.hid (h.upS u hk2)
    have HL : Hid (levelP t (k : Int) u = lookP (upP t k u) k) := by
      refine Lib.hid ?_
      unfold levelP; rw [hs, if_pos rfl]; rfl
    have HO := Lib.hid ((Only.refl (fun i => i = b) w).setCell (p := ⟨b, 4 + k * 6 + 1, none⟩) (.inl rfl) (.bool u))
    clear h hs
    rw [HL.out]
    go_enter Tryz.func108, Tryz.ntmps108
    go_wp2_with fail
    refine (refIs_any _ _).mono ?_
    rintro e w' ⟨rfl, rfl⟩
    rw [HS.out]
    go_wp2_with fail
    refine (refLook_any _ b _ k H.out hk2).mono ?_
    rintro e w' ⟨hu, ho, hp⟩
    obtain ⟨v, rfl⟩ := hu
    have HO2 := Lib.hid (HO.out.trans ho)
    have HP := Lib.hid hp
    clear ho hp
    go_wp2
    go_ret
    exact ⟨rfl, HO2.out, HP.out⟩
theorem refRead_len (w : World) (b : Nat) (off n : Int) (hn : ¬ n = 4) : Calls Tryz.prog 104 #[.pointer (some ⟨b, 4, none⟩), .int .u64 off, .int .i64 n] w (TellsP w 0 false) := by
  have e4 : (n != 4) = true := by simpa using hn
  clear hn
  go_enter Tryz.func104, Tryz.ntmps104
  go_wp2
  go_ret2
  exact ⟨rfl, rfl⟩
set_option maxHeartbeats 2000000 in
theorem refRead_pend (w : World) (b : Nat) (t : PS) (h : RefP fr w b t) : Calls Tryz.prog 104 #[.pointer (some ⟨b, 4, none⟩), .int .u64 4096, .int .i64 4] w (TellsP w (bits32 t.pend) true) := by
  have H := Lib.hid h
  clear h
  go_enter Tryz.func104, Tryz.ntmps104
  go_wp2
  go_loop [8, 9] (fun x i => ∃ (k : Nat) (y : Int), k ≤ 32 ∧ i = .int .i64 ((k : Int) - 1) ∧ x = .int .u64 y ∧ Hid (y = bitsN t.pend (32 - k))) (fun _ i => (intOf i + 1).toNat)
  case atStart => exact ⟨32, 0, Nat.le_refl _, rfl, rfl, Lib.hid rfl⟩
  case round =>
    obtain ⟨k, y, hk, rfl, rfl, HY⟩ := hrel
    have hbd := bitsN_bd t.pend (32 - k)
    have hy0 : 0 ≤ y := by rw [HY.out]; exact hbd.1
    have hy1 : y < 2147483648 ∨ k = 0 := by
      by_cases k0 : k = 0
      · exact .inr k0
      · left
        rw [HY.out]
        refine Int.lt_of_lt_of_le hbd.2 ?_
        have := two_pow_le (show 32 - k ≤ 31 by omega)
        exact Int.le_trans this (by decide)
    clear hbd
    by_cases hk1 : 1 ≤ k
    · obtain ⟨j, rfl⟩ : ∃ j, k = j + 1 := ⟨k - 1, by omega⟩
      have hy2 : y < 2147483648 := by omega
      have hwy : IntKind.u64.wrap (2 * y) = 2 * y := by rw [IntKind.wrap_u64]; omega
      have hwy2 : IntKind.u64.wrap (2 * y + 1) = 2 * y + 1 := by rw [IntKind.wrap_u64]; omega
      have c2 : w.cell? ⟨b, 4 + j * 6 + 2, none⟩ = some (.bool (t.pend j)) := H.out.src (by omega) (by omega)
      have i1 : (j : Int) < 32 := by omega
      have HE := Lib.hid (bitsN_even (f := t.pend) (n := 31 - j))
      have HO := Lib.hid (bitsN_odd (f := t.pend) (n := 31 - j))
      cases hp : t.pend j with
      | false =>
        rw [hp] at c2
        have HN : Hid (2 * y = bitsN t.pend (32 - j)) := by
          refine Lib.hid ?_
          have := HE.out (by rw [show 31 - (31 - j) = j by omega]; exact hp)
          rw [show 32 - j = 31 - j + 1 by omega, this, HY.out, show 32 - (j + 1) = 31 - j by omega]
        clear hp hy1
        go_wp2
        go_round
        case rel => exact ⟨j, 2 * y, by omega, by go_num, rfl, HN⟩
        case measure => simp [intOf]
      | true =>
        rw [hp] at c2
        have HN : Hid (2 * y + 1 = bitsN t.pend (32 - j)) := by
          refine Lib.hid ?_
          have := HO.out (by rw [show 31 - (31 - j) = j by omega]; exact hp)
          rw [show 32 - j = 31 - j + 1 by omega, this, HY.out, show 32 - (j + 1) = 31 - j by omega]
        clear hp hy1
        go_wp2
        go_round
        case rel => exact ⟨j, 2 * y + 1, by omega, by go_num, rfl, HN⟩
        case measure => simp [intOf]
    · obtain rfl : k = 0 := by omega
      have HF : Hid (y = bits32 t.pend) := Lib.hid HY.out
      clear hy1
      go_wp2
      go_ret2
      exact ⟨by rw [← HF.out]; rfl, rfl⟩
theorem refRead_prio (w : World) (b : Nat) (t : PS) (h : RefP fr w b t) (k : Nat) (hk : k < 32) (off : Int) (ho : off = 4 * (k : Int)) :
    Calls Tryz.prog 104 #[.pointer (some ⟨b, 4, none⟩), .int .u64 off, .int .i64 4] w (TellsP w (t.prio k) true) := by
  have c0 : w.cell? ⟨b, 4 + k * 6, none⟩ = some (.int .u64 (t.prio k)) := h.src (s := k) (j := 0) hk (by omega)
  have h0 : 0 ≤ off := by omega
  have h1 : off < 128 := by omega
  have h2 : (off % 4 == 0) = true := by rw [beq_iff_eq]; omega
  have h4 : IntKind.u64.wrap (off.tdiv 4) = (k : Int) := by rw [Int.tdiv_eq_ediv_of_nonneg h0, IntKind.wrap_u64]; omega
  have i1 : (k : Int) < 32 := by omega
  clear ho h
  go_enter Tryz.func104, Tryz.ntmps104
  go_wp2
  go_ret2
  exact ⟨rfl, rfl⟩
set_option maxRecDepth 100000 in
set_option maxHeartbeats 1000000 in
theorem refRead_floor0 (w : World) (b : Nat) (t : PS) (h : RefP fr w b t) :
    Calls Tryz.prog 104 #[.pointer (some ⟨b, 4, none⟩), .int .u64 2097152, .int .i64 4] w (TellsP w (t.floor 0) true) := by
  have c0 : w.cell? ⟨b, 196, none⟩ = some (.int .u64 (t.floor 0)) := h.floor_ (c := 0) (by omega)
  clear h
  go_enter Tryz.func104, Tryz.ntmps104
  go_wp2
  go_loop [10] (fun i => i = .int .i64 0) (fun _ => 0)
  case atStart => rfl
  case round =>
    obtain rfl := hrel
    go_wp2
    go_ret2
    exact ⟨rfl, rfl⟩
set_option maxRecDepth 100000 in
set_option maxHeartbeats 1000000 in
theorem refRead_floor1 (w : World) (b : Nat) (t : PS) (h : RefP fr w b t) :
    Calls Tryz.prog 104 #[.pointer (some ⟨b, 4, none⟩), .int .u64 2101248, .int .i64 4] w (TellsP w (t.floor 1) true) := by
  have c0 : w.cell? ⟨b, 197, none⟩ = some (.int .u64 (t.floor 1)) := h.floor_ (c := 1) (by omega)
  clear h
  go_enter Tryz.func104, Tryz.ntmps104
  go_wp2
  go_loop [10] (fun i => i = .int .i64 0 ∨ i = .int .i64 1) (fun i => (1 - intOf i).toNat)
  case atStart => exact .inl rfl
  case round =>
    rcases hrel with rfl | rfl
    · go_wp2
      exact ⟨.inr rfl, by simp [intOf]⟩
    · go_wp2
      go_ret2
      exact ⟨rfl, rfl⟩
set_option maxRecDepth 100000 in
set_option maxHeartbeats 2000000 in
theorem refRead_no (w : World) (b : Nat) (off : Int) (hn : NoPlic off) (h0 : 0 ≤ off) :
    Calls Tryz.prog 104 #[.pointer (some ⟨b, 4, none⟩), .int .u64 off, .int .i64 4] w (TellsP w 0 false) := by
  have hp := hn.prio
  have e1 := neB hn.pend
  have e2 := neB hn.on0
  have e3 := neB hn.on1
  have e4 := neB hn.fl0
  have e5 := neB hn.fl1
  have e6 := neB hn.cl0
  have e7 := neB hn.cl1
  clear hn
  by_cases h1 : off < 128
  · have h2 : (off % 4 == 0) = false := by simp; omega
    clear hp
    go_enter Tryz.func104, Tryz.ntmps104
    go_wp2
    go_loop [10] (fun i => i = .int .i64 0 ∨ i = .int .i64 1 ∨ i = .int .i64 2) (fun i => (2 - intOf i).toNat)
    case atStart => exact .inl rfl
    case round =>
      rcases hrel with rfl | rfl | rfl
      · go_wp2
        exact ⟨.inr (.inl rfl), by simp [intOf]⟩
      · go_wp2
        exact ⟨.inr (.inr rfl), by simp [intOf]⟩
      · go_wp2
        go_ret2
        exact ⟨rfl, rfl⟩
  · have h2 : decide (off < 128) = false := decide_eq_false h1
    clear hp
    go_enter Tryz.func104, Tryz.ntmps104
    go_wp2
    go_loop [10] (fun i => i = .int .i64 0 ∨ i = .int .i64 1 ∨ i = .int .i64 2) (fun i => (2 - intOf i).toNat)
    case atStart => exact .inl rfl
    case round =>
      rcases hrel with rfl | rfl | rfl
      · go_wp2
        exact ⟨.inr (.inl rfl), by simp [intOf]⟩
      · go_wp2
        exact ⟨.inr (.inr rfl), by simp [intOf]⟩
      · go_wp2
        go_ret2
        exact ⟨rfl, rfl⟩
set_option maxRecDepth 100000 in
set_option maxHeartbeats 2000000 in
theorem refRead_on0 (w : World) (b : Nat) (t : PS) (h : RefP fr w b t) : Calls Tryz.prog 104 #[.pointer (some ⟨b, 4, none⟩), .int .u64 8192, .int .i64 4] w (TellsP w (bits32 fun s => t.on s 0) true) := by
  have H := Lib.hid h
  clear h
  go_enter Tryz.func104, Tryz.ntmps104
  go_wp2
  go_loop [10] (fun i => i = .int .i64 0) (fun _ => 0)
  case atStart => rfl
  case round =>
    obtain rfl := hrel
    go_wp2
    go_loop [12, 13] (fun x i => ∃ (k : Nat) (y : Int), k ≤ 32 ∧ i = .int .i64 ((k : Int) - 1) ∧ x = .int .u64 y ∧ Hid (y = bitsN (fun s => t.on s 0) (32 - k))) (fun _ i => (intOf i + 1).toNat)
    case atStart => exact ⟨32, 0, Nat.le_refl _, rfl, rfl, Lib.hid rfl⟩
    case round =>
      obtain ⟨k, y, hk, rfl, rfl, HY⟩ := hrel
      have hbd := bitsN_bd (fun s => t.on s 0) (32 - k)
      have hy0 : 0 ≤ y := by rw [HY.out]; exact hbd.1
      have hy1 : y < 2147483648 ∨ k = 0 := by
        by_cases k0 : k = 0
        · exact .inr k0
        · left
          rw [HY.out]
          refine Int.lt_of_lt_of_le hbd.2 ?_
          have := two_pow_le (show 32 - k ≤ 31 by omega)
          exact Int.le_trans this (by decide)
      clear hbd
      by_cases hk1 : 1 ≤ k
      · obtain ⟨j, rfl⟩ : ∃ j, k = j + 1 := ⟨k - 1, by omega⟩
        have hy2 : y < 2147483648 := by omega
        have hwy : IntKind.u64.wrap (2 * y) = 2 * y := by rw [IntKind.wrap_u64]; omega
        have hwy2 : IntKind.u64.wrap (2 * y + 1) = 2 * y + 1 := by rw [IntKind.wrap_u64]; omega
        have c2 : w.cell? ⟨b, 4 + j * 6 + 4, none⟩ = some (.bool (t.on j 0)) := H.out.src (s := j) (j := 4) (by omega) (by omega)
        have i1 : (j : Int) < 32 := by omega
        have HE := Lib.hid (bitsN_even (f := (fun s => t.on s 0)) (n := 31 - j))
        have HO := Lib.hid (bitsN_odd (f := (fun s => t.on s 0)) (n := 31 - j))
        cases hp : t.on j 0 with
        | false =>
          rw [hp] at c2
          have HN : Hid (2 * y = bitsN (fun s => t.on s 0) (32 - j)) := by
            refine Lib.hid ?_
            have := HE.out (by rw [show 31 - (31 - j) = j by omega]; exact hp)
            rw [show 32 - j = 31 - j + 1 by omega, this, HY.out, show 32 - (j + 1) = 31 - j by omega]
          clear hp hy1
          go_wp2
          go_round
          case rel => exact ⟨j, 2 * y, by omega, by go_num, rfl, HN⟩
          case measure => simp [intOf]
        | true =>
          rw [hp] at c2
          have HN : Hid (2 * y + 1 = bitsN (fun s => t.on s 0) (32 - j)) := by
            refine Lib.hid ?_
            have := HO.out (by rw [show 31 - (31 - j) = j by omega]; exact hp)
            rw [show 32 - j = 31 - j + 1 by omega, this, HY.out, show 32 - (j + 1) = 31 - j by omega]
          clear hp hy1
          go_wp2
          go_round
          case rel => exact ⟨j, 2 * y + 1, by omega, by go_num, rfl, HN⟩
          case measure => simp [intOf]
      · obtain rfl : k = 0 := by omega
        have HF : Hid (y = bits32 (fun s => t.on s 0)) := Lib.hid HY.out
        clear hy1
        go_wp2
        go_ret2
        exact ⟨by rw [← HF.out]; rfl, rfl⟩
set_option maxRecDepth 100000 in
set_option maxHeartbeats 2000000 in
theorem refRead_on1 (w : World) (b : Nat) (t : PS) (h : RefP fr w b t) : Calls Tryz.prog 104 #[.pointer (some ⟨b, 4, none⟩), .int .u64 8320, .int .i64 4] w (TellsP w (bits32 fun s => t.on s 1) true) := by
  have H := Lib.hid h
  clear h
  go_enter Tryz.func104, Tryz.ntmps104
  go_wp2
  go_loop [10] (fun i => i = .int .i64 0 ∨ i = .int .i64 1) (fun i => (1 - intOf i).toNat)
  case atStart => exact .inl rfl
  case round =>
    rcases hrel with rfl | rfl
    · go_wp2
      exact ⟨.inr rfl, by simp [intOf]⟩
    go_wp2
    go_loop [12, 13] (fun x i => ∃ (k : Nat) (y : Int), k ≤ 32 ∧ i = .int .i64 ((k : Int) - 1) ∧ x = .int .u64 y ∧ Hid (y = bitsN (fun s => t.on s 1) (32 - k))) (fun _ i => (intOf i + 1).toNat)
    case atStart => exact ⟨32, 0, Nat.le_refl _, rfl, rfl, Lib.hid rfl⟩
    case round =>
      obtain ⟨k, y, hk, rfl, rfl, HY⟩ := hrel
      have hbd := bitsN_bd (fun s => t.on s 1) (32 - k)
      have hy0 : 0 ≤ y := by rw [HY.out]; exact hbd.1
      have hy1 : y < 2147483648 ∨ k = 0 := by
        by_cases k0 : k = 0
        · exact .inr k0
        · left
          rw [HY.out]
          refine Int.lt_of_lt_of_le hbd.2 ?_
          have := two_pow_le (show 32 - k ≤ 31 by omega)
          exact Int.le_trans this (by decide)
      clear hbd
      by_cases hk1 : 1 ≤ k
      · obtain ⟨j, rfl⟩ : ∃ j, k = j + 1 := ⟨k - 1, by omega⟩
        have hy2 : y < 2147483648 := by omega
        have hwy : IntKind.u64.wrap (2 * y) = 2 * y := by rw [IntKind.wrap_u64]; omega
        have hwy2 : IntKind.u64.wrap (2 * y + 1) = 2 * y + 1 := by rw [IntKind.wrap_u64]; omega
        have c2 : w.cell? ⟨b, 4 + j * 6 + 4 + 1, none⟩ = some (.bool (t.on j 1)) := H.out.src (s := j) (j := 5) (by omega) (by omega)
        have i1 : (j : Int) < 32 := by omega
        have HE := Lib.hid (bitsN_even (f := (fun s => t.on s 1)) (n := 31 - j))
        have HO := Lib.hid (bitsN_odd (f := (fun s => t.on s 1)) (n := 31 - j))
        cases hp : t.on j 1 with
        | false =>
          rw [hp] at c2
          have HN : Hid (2 * y = bitsN (fun s => t.on s 1) (32 - j)) := by
            refine Lib.hid ?_
            have := HE.out (by rw [show 31 - (31 - j) = j by omega]; exact hp)
            rw [show 32 - j = 31 - j + 1 by omega, this, HY.out, show 32 - (j + 1) = 31 - j by omega]
          clear hp hy1
          go_wp2
          go_round
          case rel => exact ⟨j, 2 * y, by omega, by go_num, rfl, HN⟩
          case measure => simp [intOf]
        | true =>
          rw [hp] at c2
          have HN : Hid (2 * y + 1 = bitsN (fun s => t.on s 1) (32 - j)) := by
            refine Lib.hid ?_
            have := HO.out (by rw [show 31 - (31 - j) = j by omega]; exact hp)
            rw [show 32 - j = 31 - j + 1 by omega, this, HY.out, show 32 - (j + 1) = 31 - j by omega]
          clear hp hy1
          go_wp2
          go_round
          case rel => exact ⟨j, 2 * y + 1, by omega, by go_num, rfl, HN⟩
          case measure => simp [intOf]
      · obtain rfl : k = 0 := by omega
        have HF : Hid (y = bits32 (fun s => t.on s 1)) := Lib.hid HY.out
        clear hy1
        go_wp2
        go_ret2
        exact ⟨by rw [← HF.out]; rfl, rfl⟩
theorem RefP.unpend {w : World} {b : Nat} {t : PS} (h : RefP fr w b t) {s : Nat} (hs : s < 32) : RefP fr (w.setCell ⟨b, 4 + s * 6 + 2, none⟩ (.bool false)) b (unpendP t s) :=
  h.set _ hs (by omega) (fun s' j' _ _ => by
    by_cases c : s' = s ∧ j' = 2
    · obtain ⟨rfl, rfl⟩ := c; rw [if_pos ⟨rfl, rfl⟩]; simp [srcCell, unpendP, upd_same]
    · rw [if_neg c]; match j' with
      | 0 => rfl
      | 1 => rfl
      | 2 => simp [srcCell, unpendP, upd_other _ _ (fun e : s' = s => c ⟨e, rfl⟩)]
      | 3 => rfl
      | 4 => rfl
      | _ + 5 => rfl) rfl
theorem RefP.claim {w : World} {b : Nat} {t : PS} {s : Nat} (h : RefP fr w b (unpendP t s)) (hs : s < 32) : RefP fr (w.setCell ⟨b, 4 + s * 6 + 3, none⟩ (.bool true)) b (claimP t s) :=
  h.set _ hs (by omega) (fun s' j' _ _ => by
    by_cases c : s' = s ∧ j' = 3
    · obtain ⟨rfl, rfl⟩ := c; rw [if_pos ⟨rfl, rfl⟩]; simp [srcCell, claimP, upd_same]
    · rw [if_neg c]; match j' with
      | 0 => rfl
      | 1 => rfl
      | 2 => rfl
      | 3 => simp [srcCell, claimP, unpendP, upd_other _ _ (fun e : s' = s => c ⟨e, rfl⟩)]
      | 4 => rfl
      | _ + 5 => rfl) rfl
set_option maxRecDepth 100000 in
set_option maxHeartbeats 2000000 in
theorem refRead_claim0 (w : World) (b : Nat) (t : PS) (h : RefP fr w b t) (k : Nat) (hk0 : bestC t 0 = k) : Calls Tryz.prog 104 #[.pointer (some ⟨b, 4, none⟩), .int .u64 2097156, .int .i64 4] w (RefPEnd fr w b (.tuple #[.int .u64 k, .bool true]) (claimed t k)) := by
  have H := Lib.hid h
  have HSZ : Hid ((varr 194 (cellR t)).size = 194) := Lib.hid (varr_size _ _)
  have hbest := fun w' => refBest_any w' t 0
  rw [hk0] at hbest
  unfold refPV at hbest
  have HBEST := Lib.hid hbest
  clear hbest
  have HR : Hid (w.rangeAt b 4 (varr 194 (cellR t)).toList) := Lib.hid (fr.range h)
  have hle : k ≤ 31 := by rw [← hk0]; exact bestC_le t 0
  clear h hk0
  generalize varr 194 (cellR t) = row at *
  go_enter Tryz.func104, Tryz.ntmps104
  go_wp2
  go_loop [10] (fun i => i = .int .i64 0) (fun _ => 0)
  case atStart => rfl
  case round =>
    obtain rfl := hrel
    go_wp2_with (refine wpList_load_fr rfl _ _ rfl b 4 rfl _ _ HR.out Tryz.underlying104 rfl ?_ ?_; · exact size_refP.trans (by rw [HSZ.out]))
    refine (HBEST.out _).mono ?_
    rintro e w2 ⟨rfl, hb⟩
    have HB2 := Lib.hid hb
    have HP := Lib.hid (H.out.below hb)
    clear hb HR HSZ HBEST
    by_cases k0 : k = 0
    · subst k0
      go_wp2
      go_ret2
      exact ⟨rfl, Only.of_below _ HB2.out, by unfold claimed; rw [if_pos rfl]; exact HP.out⟩
    · have hk : (0 : Int) < (k : Int) := by omega
      have ik : (k : Int) < 32 := by omega
      have hk2 : IntKind.u64.wrap (k : Int) = k := by rw [IntKind.wrap_u64]; omega
      have c2 : w2.cell? ⟨b, 4 + k * 6 + 2, none⟩ = some (.bool (t.pend k)) := HP.out.src (by omega) (by omega)
      have f2 := HP.out.free (4 + k * 6 + 2)
      have H3 := HP.out.unpend (s := k) (by omega)
      have c3 : (w2.setCell ⟨b, 4 + k * 6 + 2, none⟩ (.bool false)).cell? ⟨b, 4 + k * 6 + 3, none⟩ = some (.bool (t.busy k)) := H3.src (s := k) (j := 3) (by omega) (by omega)
      have f3 := H3.free (4 + k * 6 + 3)
      have H4 := Lib.hid (H3.claim (by omega))
      have HC : Hid (claimed t k = claimP t k) := Lib.hid (by unfold claimed; rw [if_neg k0])
      clear H3
      go_wp2
      go_ret2
      refine ⟨rfl, ((Only.of_below (fun i => i = b) HB2.out).setCell (p := ⟨b, 4 + k * 6 + 2, none⟩) (.inl rfl) _).setCell (p := ⟨b, 4 + k * 6 + 3, none⟩) (.inl rfl) _, ?_⟩
      rw [HC.out]; exact H4.out
set_option maxRecDepth 100000 in
set_option maxHeartbeats 2000000 in
theorem refRead_claim1 (w : World) (b : Nat) (t : PS) (h : RefP fr w b t) (k : Nat) (hk0 : bestC t 1 = k) : Calls Tryz.prog 104 #[.pointer (some ⟨b, 4, none⟩), .int .u64 2101252, .int .i64 4] w (RefPEnd fr w b (.tuple #[.int .u64 k, .bool true]) (claimed t k)) := by
  have H := Lib.hid h
  have HSZ : Hid ((varr 194 (cellR t)).size = 194) := Lib.hid (varr_size _ _)
  have hbest := fun w' => refBest_any w' t 1
  rw [hk0] at hbest
  unfold refPV at hbest
  have HBEST := Lib.hid hbest
  clear hbest
  have HR : Hid (w.rangeAt b 4 (varr 194 (cellR t)).toList) := Lib.hid (fr.range h)
  have hle : k ≤ 31 := by rw [← hk0]; exact bestC_le t 1
  clear h hk0
  generalize varr 194 (cellR t) = row at *
  go_enter Tryz.func104, Tryz.ntmps104
  go_wp2
  go_loop [10] (fun i => i = .int .i64 0 ∨ i = .int .i64 1) (fun i => (1 - intOf i).toNat)
  case atStart => exact .inl rfl
  case round =>
    rcases hrel with rfl | rfl
    · go_wp2
      exact ⟨.inr rfl, by simp [intOf]⟩
    go_wp2_with (refine wpList_load_fr rfl _ _ rfl b 4 rfl _ _ HR.out Tryz.underlying104 rfl ?_ ?_; · exact size_refP.trans (by rw [HSZ.out]))
    refine (HBEST.out _).mono ?_
    rintro e w2 ⟨rfl, hb⟩
    have HB2 := Lib.hid hb
    have HP := Lib.hid (H.out.below hb)
    clear hb HR HSZ HBEST
    by_cases k0 : k = 0
    · subst k0
      go_wp2
      go_ret2
      exact ⟨rfl, Only.of_below _ HB2.out, by unfold claimed; rw [if_pos rfl]; exact HP.out⟩
    · have hk : (0 : Int) < (k : Int) := by omega
      have ik : (k : Int) < 32 := by omega
      have hk2 : IntKind.u64.wrap (k : Int) = k := by rw [IntKind.wrap_u64]; omega
      have c2 : w2.cell? ⟨b, 4 + k * 6 + 2, none⟩ = some (.bool (t.pend k)) := HP.out.src (by omega) (by omega)
      have f2 := HP.out.free (4 + k * 6 + 2)
      have H3 := HP.out.unpend (s := k) (by omega)
      have c3 : (w2.setCell ⟨b, 4 + k * 6 + 2, none⟩ (.bool false)).cell? ⟨b, 4 + k * 6 + 3, none⟩ = some (.bool (t.busy k)) := H3.src (s := k) (j := 3) (by omega) (by omega)
      have f3 := H3.free (4 + k * 6 + 3)
      have H4 := Lib.hid (H3.claim (by omega))
      have HC : Hid (claimed t k = claimP t k) := Lib.hid (by unfold claimed; rw [if_neg k0])
      clear H3
      go_wp2
      go_ret2
      refine ⟨rfl, ((Only.of_below (fun i => i = b) HB2.out).setCell (p := ⟨b, 4 + k * 6 + 2, none⟩) (.inl rfl) _).setCell (p := ⟨b, 4 + k * 6 + 3, none⟩) (.inl rfl) _, ?_⟩
      rw [HC.out]; exact H4.out
theorem RefP.congr {w : World} {b : Nat} {t t' : PS} (h : RefP fr w b t) (hs : ∀ s j, s < 32 → j < 6 → srcCell t s j = srcCell t' s j) (hf : ∀ c, c < 2 → t.floor c = t'.floor c) : RefP fr w b t' := by
  unfold RefP at *
  have e : varr 194 (cellR t) = varr 194 (cellR t') := varr_congr fun i hi => by
    unfold cellR
    by_cases h1 : i < 192
    · rw [if_pos h1, if_pos h1]; exact hs _ _ (by omega) (by omega)
    · rw [if_neg h1, if_neg h1, hf _ (by omega)]
  rw [← e]; exact h
theorem RefP.prioS {w : World} {b : Nat} {t : PS} (h : RefP fr w b t) {s : Nat} (v : Int) (hs : s < 32) : RefP fr (w.setCell ⟨b, 4 + s * 6, none⟩ (.int .u64 v)) b (prioT t s v) :=
  h.set (s := s) (j := 0) _ hs (by omega) (fun s' j' _ _ => by
    by_cases c : s' = s ∧ j' = 0
    · obtain ⟨rfl, rfl⟩ := c; rw [if_pos ⟨rfl, rfl⟩]; simp [srcCell, prioT, upd_same]
    · rw [if_neg c]; match j' with
      | 0 => simp [srcCell, prioT, upd_other _ _ (fun e : s' = s => c ⟨e, rfl⟩)]
      | 1 => rfl
      | 2 => rfl
      | 3 => rfl
      | 4 => rfl
      | _ + 5 => rfl) rfl
theorem RefP.idleS {w : World} {b : Nat} {t : PS} (h : RefP fr w b t) {s : Nat} (hs : s < 32) : RefP fr (w.setCell ⟨b, 4 + s * 6 + 3, none⟩ (.bool false)) b (idleP t s) :=
  h.set (s := s) (j := 3) _ hs (by omega) (fun s' j' _ _ => by
    by_cases c : s' = s ∧ j' = 3
    · obtain ⟨rfl, rfl⟩ := c; rw [if_pos ⟨rfl, rfl⟩]; simp [srcCell, idleP, upd_same]
    · rw [if_neg c]; match j' with
      | 0 => rfl
      | 1 => rfl
      | 2 => rfl
      | 3 => simp [srcCell, idleP, upd_other _ _ (fun e : s' = s => c ⟨e, rfl⟩)]
      | 4 => rfl
      | _ + 5 => rfl) rfl
theorem RefP.on0S {w : World} {b : Nat} {t : PS} {v : Int} {k : Nat} (h : RefP fr w b (onK t 0 v k)) (hk : k < 32) : RefP fr (w.setCell ⟨b, 4 + k * 6 + 4, none⟩ (.bool (onBits v k))) b (onK t 0 v (k + 1)) :=
  h.set (s := k) (j := 4) _ hk (by omega) (fun s' j' _ _ => by
    by_cases c : s' = k ∧ j' = 4
    · obtain ⟨rfl, rfl⟩ := c; rw [if_pos ⟨rfl, rfl⟩]; simp [srcCell, onK]
    · rw [if_neg c]; match j' with
      | 0 => rfl
      | 1 => rfl
      | 2 => rfl
      | 3 => rfl
      | 4 => (have n : ¬ s' = k := fun e => c ⟨e, rfl⟩); simp only [srcCell, onK, true_and]; congr 1; by_cases e : s' < k; rw [if_pos e, if_pos (by omega)]; rw [if_neg e, if_neg (by omega)]
      | _ + 5 => simp [srcCell, onK]) rfl
theorem RefP.on1S {w : World} {b : Nat} {t : PS} {v : Int} {k : Nat} (h : RefP fr w b (onK t 1 v k)) (hk : k < 32) : RefP fr (w.setCell ⟨b, 4 + k * 6 + 5, none⟩ (.bool (onBits v k))) b (onK t 1 v (k + 1)) :=
  h.set (s := k) (j := 5) _ hk (by omega) (fun s' j' _ hj => by
    by_cases c : s' = k ∧ j' = 5
    · obtain ⟨rfl, rfl⟩ := c; rw [if_pos ⟨rfl, rfl⟩]; simp [srcCell, onK]
    · rw [if_neg c]; match j' with
      | 0 => rfl
      | 1 => rfl
      | 2 => rfl
      | 3 => rfl
      | 4 => simp [srcCell, onK]
      | 5 => (have n : ¬ s' = k := fun e => c ⟨e, rfl⟩); simp only [srcCell, onK, true_and]; congr 1; by_cases e : s' < k; rw [if_pos e, if_pos (by omega)]; rw [if_neg e, if_neg (by omega)]
      | _ + 6 => omega) rfl
theorem RefP.onAll {w : World} {b : Nat} {t : PS} {c : Nat} {v : Int} (h : RefP fr w b (onK t c v 32)) : RefP fr w b (onT t c (onBits v)) :=
  h.congr (fun s j hs _ => by
    match j with
    | 0 => rfl
    | 1 => rfl
    | 2 => rfl
    | 3 => rfl
    | 4 => simp [srcCell, onK, onT, hs]
    | _ + 5 => simp [srcCell, onK, onT, hs]) (fun _ _ => rfl)
theorem RefP.onNone {w : World} {b : Nat} {t : PS} (c : Nat) (v : Int) (h : RefP fr w b t) : RefP fr w b (onK t c v 0) :=
  h.congr (fun s j hs _ => by
    match j with
    | 0 => rfl
    | 1 => rfl
    | 2 => rfl
    | 3 => rfl
    | 4 => simp [srcCell, onK]
    | _ + 5 => simp [srcCell, onK]) (fun _ _ => rfl)
theorem refWrite_len (w : World) (b : Nat) (off n v : Int) (hn : ¬ n = 4) : Calls Tryz.prog 99 #[.pointer (some ⟨b, 4, none⟩), .int .u64 off, .int .i64 n, .int .u64 v] w fun e w' => e = .returned (.bool false) ∧ w = w' := by
  have e4 : (n != 4) = true := by simpa using hn
  clear hn
  go_enter Tryz.func99, Tryz.ntmps99
  go_wp2
  go_ret
  exact ⟨rfl, rfl⟩
theorem refWrite_pend (w : World) (b : Nat) (v : Int) : Calls Tryz.prog 99 #[.pointer (some ⟨b, 4, none⟩), .int .u64 4096, .int .i64 4, .int .u64 v] w fun e w' => e = .returned (.bool true) ∧ w = w' := by
  go_enter Tryz.func99, Tryz.ntmps99
  go_wp2
  go_ret
  exact ⟨rfl, rfl⟩
theorem refWrite_prio0 (w : World) (b : Nat) (v : Int) : Calls Tryz.prog 99 #[.pointer (some ⟨b, 4, none⟩), .int .u64 0, .int .i64 4, .int .u64 v] w fun e w' => e = .returned (.bool true) ∧ w = w' := by
  go_enter Tryz.func99, Tryz.ntmps99
  go_wp2
  go_ret
  exact ⟨rfl, rfl⟩
theorem refWrite_prio (w : World) (b : Nat) (t : PS) (h : RefP fr w b t) (k : Nat) (hk0 : 1 ≤ k) (hk : k < 32) (off v : Int) (ho : off = 4 * (k : Int)) (hv : 0 ≤ v) :
    Calls Tryz.prog 99 #[.pointer (some ⟨b, 4, none⟩), .int .u64 off, .int .i64 4, .int .u64 v] w (RefPEnd fr w b (.bool true) (prioT t k (v % 8))) := by
  have c0 : w.cell? ⟨b, 4 + k * 6, none⟩ = some (.int .u64 (t.prio k)) := h.src (s := k) (j := 0) hk (by omega)
  have f0 := h.free (4 + k * 6)
  have H := Lib.hid (h.prioS (v % 8) hk)
  have h0 : 0 ≤ off := by omega
  have h00 : 0 < off := by omega
  have h1 : off < 128 := by omega
  have h2 : (off % 4 == 0) = true := by rw [beq_iff_eq]; omega
  have h4 : IntKind.u64.wrap (off.tdiv 4) = (k : Int) := by rw [Int.tdiv_eq_ediv_of_nonneg h0, IntKind.wrap_u64]; omega
  have i1 : (k : Int) < 32 := by omega
  clear ho h
  go_enter Tryz.func99, Tryz.ntmps99
  go_wp2
  go_ret
  exact ⟨rfl, (Only.refl (fun i => i = b) w).setCell (p := ⟨b, 4 + k * 6, none⟩) (.inl rfl) _, H.out⟩
set_option maxRecDepth 100000 in
set_option maxHeartbeats 1000000 in
theorem refWrite_floor0 (w : World) (b : Nat) (t : PS) (h : RefP fr w b t) (v : Int) (hv : 0 ≤ v) :
    Calls Tryz.prog 99 #[.pointer (some ⟨b, 4, none⟩), .int .u64 2097152, .int .i64 4, .int .u64 v] w (RefPEnd fr w b (.bool true) (floorT t 0 (v % 8))) := by
  have c0 : w.cell? ⟨b, 196, none⟩ = some (.int .u64 (t.floor 0)) := h.floor_ (c := 0) (by omega)
  have f0 := h.free 196
  have H := Lib.hid (h.floorS (c := 0) (v % 8) (by omega))
  clear h
  go_enter Tryz.func99, Tryz.ntmps99
  go_wp2
  go_loop [9] (fun i => i = .int .i64 0) (fun _ => 0)
  case atStart => exact rfl
  case round =>
    obtain rfl := hrel
    go_wp2
    go_ret
    exact ⟨rfl, (Only.refl (fun i => i = b) w).setCell (p := ⟨b, 196, none⟩) (.inl rfl) _, H.out⟩
set_option maxRecDepth 100000 in
set_option maxHeartbeats 1000000 in
theorem refWrite_floor1 (w : World) (b : Nat) (t : PS) (h : RefP fr w b t) (v : Int) (hv : 0 ≤ v) :
    Calls Tryz.prog 99 #[.pointer (some ⟨b, 4, none⟩), .int .u64 2101248, .int .i64 4, .int .u64 v] w (RefPEnd fr w b (.bool true) (floorT t 1 (v % 8))) := by
  have c0 : w.cell? ⟨b, 197, none⟩ = some (.int .u64 (t.floor 1)) := h.floor_ (c := 1) (by omega)
  have f0 := h.free 197
  have H := Lib.hid (h.floorS (c := 1) (v % 8) (by omega))
  clear h
  go_enter Tryz.func99, Tryz.ntmps99
  go_wp2
  go_loop [9] (fun i => i = .int .i64 0 ∨ i = .int .i64 1) (fun i => (1 - intOf i).toNat)
  case atStart => exact .inl rfl
  case round =>
    rcases hrel with rfl | rfl
    · go_wp2
      exact ⟨.inr rfl, by simp [intOf]⟩
    go_wp2
    go_ret
    exact ⟨rfl, (Only.refl (fun i => i = b) w).setCell (p := ⟨b, 197, none⟩) (.inl rfl) _, H.out⟩
set_option maxRecDepth 100000 in
set_option maxHeartbeats 4000000 in
theorem refWrite_on0 (w : World) (b : Nat) (t : PS) (h : RefP fr w b t) (v : Int) (hv : In64 v) :
    Calls Tryz.prog 99 #[.pointer (some ⟨b, 4, none⟩), .int .u64 8192, .int .i64 4, .int .u64 v] w (RefPEnd fr w b (.bool true) (onT t 0 (onBits v))) := by
  have H := Lib.hid h
  have HV := Lib.hid hv
  clear h hv
  go_enter Tryz.func99, Tryz.ntmps99
  go_wp2
  go_loop [9] (fun i => i = .int .i64 0) (fun _ => 0)
  case atStart => exact rfl
  case round =>
    obtain rfl := hrel
    go_wp2
    obtain ⟨wo, hwo⟩ : ∃ wo : World, wo = w := ⟨_, rfl⟩
    have HWO := Lib.hid hwo
    clear hwo
    go_loopw [11, 12] (fun x i wr => ∃ (k : Nat) (y : Int), k ≤ 32 ∧ i = .int .i64 k ∧ x = .int .u64 y ∧ Hid (y = v / 2 ^ k) ∧ RefP fr wr b (onK t 0 v k) ∧ Only (fun i => i = b) w wr) (fun _ i _ => (32 - intOf i).toNat)
    case atStart => exact ⟨0, v, by omega, rfl, rfl, Lib.hid (by simp), H.out.onNone 0 v, Only.refl _ _⟩
    case round =>
      obtain ⟨k, y, hk, rfl, rfl, HY, hR, hO⟩ := hrel
      have HO := Lib.hid hO
      have HR := Lib.hid hR
      by_cases hk1 : k < 32
      · have ck : wr.cell? ⟨b, 4 + k * 6 + 4, none⟩ = some (.bool ((onK t 0 v k).on k 0)) := hR.src (s := k) (j := 4) hk1 (by omega)
        have fk := hR.free (4 + k * 6 + 4)
        have i1 : (k : Int) < 32 := by omega
        have hn0 : 0 ≤ y := by rw [HY.out]; exact Int.ediv_nonneg HV.out.1 (Int.le_of_lt (Int.pow_pos (by decide)))
        have HWD : Hid (IntKind.u64.wrap (y.tdiv 2) = y / 2) := by
          refine Lib.hid ?_
          have h1 : y ≤ v := by rw [HY.out]; exact Int.ediv_le_self _ HV.out.1
          have h2 := HV.out.2
          rw [Int.tdiv_eq_ediv_of_nonneg hn0, IntKind.wrap_u64]; omega
        have HD : Hid (y / 2 = v / 2 ^ (k + 1)) := by
          refine Lib.hid ?_
          rw [HY.out, Int.pow_succ, Int.ediv_ediv_of_nonneg (Int.le_of_lt (Int.pow_pos (by decide)))]
        have HN := Lib.hid (hR.on0S hk1)
        have HO2 : Hid (∀ u, Only (fun i => i = b) w (wr.setCell ⟨b, 4 + k * 6 + 4, none⟩ u)) := Lib.hid fun u => hO.setCell (p := ⟨b, 4 + k * 6 + 4, none⟩) (.inl rfl) u
        by_cases hk0 : k = 0
        · have HB : Hid (onBits v k = false) := Lib.hid (by unfold onBits; rw [decide_eq_false (by omega), Bool.false_and])
          subst hk0
          rw [HB.out] at HN
          clear hR hO
          go_wp2
          go_roundw
          case rel => exact ⟨1, y / 2, by omega, rfl, by rw [HWD.out], HD, HN.out, HO2.out _⟩
          case measure => simp [intOf]
        · have HB : Hid (onBits v k = (y % 2 == 1)) := Lib.hid (by unfold onBits vbit; rw [decide_eq_true (by omega), Bool.true_and, HY.out])
          rw [HB.out] at HN
          have hk2 : (0 : Int) < (k : Int) := by omega
          have hk3 : 0 < k := by omega
          clear hR hO
          go_wp2
          go_roundw
          case rel => exact ⟨k + 1, y / 2, by omega, by go_num, by rw [HWD.out], HD, HN.out, HO2.out _⟩
          case measure => simp [intOf]; omega
      · obtain rfl : k = 32 := by omega
        have HF := Lib.hid hR.onAll
        clear hR hO
        go_wp2
        go_ret
        exact ⟨rfl, HO.out, HF.out⟩
set_option maxRecDepth 100000 in
set_option maxHeartbeats 4000000 in
theorem refWrite_on1 (w : World) (b : Nat) (t : PS) (h : RefP fr w b t) (v : Int) (hv : In64 v) :
    Calls Tryz.prog 99 #[.pointer (some ⟨b, 4, none⟩), .int .u64 8320, .int .i64 4, .int .u64 v] w (RefPEnd fr w b (.bool true) (onT t 1 (onBits v))) := by
  have H := Lib.hid h
  have HV := Lib.hid hv
  clear h hv
  go_enter Tryz.func99, Tryz.ntmps99
  go_wp2
  go_loop [9] (fun i => i = .int .i64 0 ∨ i = .int .i64 1) (fun i => (1 - intOf i).toNat)
  case atStart => exact .inl rfl
  case round =>
    rcases hrel with rfl | rfl
    · go_wp2
      exact ⟨.inr rfl, by simp [intOf]⟩
    go_wp2
    obtain ⟨wo, hwo⟩ : ∃ wo : World, wo = w := ⟨_, rfl⟩
    have HWO := Lib.hid hwo
    clear hwo
    go_loopw [11, 12] (fun x i wr => ∃ (k : Nat) (y : Int), k ≤ 32 ∧ i = .int .i64 k ∧ x = .int .u64 y ∧ Hid (y = v / 2 ^ k) ∧ RefP fr wr b (onK t 1 v k) ∧ Only (fun i => i = b) w wr) (fun _ i _ => (32 - intOf i).toNat)
    case atStart => exact ⟨0, v, by omega, rfl, rfl, Lib.hid (by simp), H.out.onNone 1 v, Only.refl _ _⟩
    case round =>
      obtain ⟨k, y, hk, rfl, rfl, HY, hR, hO⟩ := hrel
      have HO := Lib.hid hO
      have HR := Lib.hid hR
      by_cases hk1 : k < 32
      · have ck : wr.cell? ⟨b, 4 + k * 6 + 4 + 1, none⟩ = some (.bool ((onK t 1 v k).on k 1)) := hR.src (s := k) (j := 5) hk1 (by omega)
        have fk := hR.free (4 + k * 6 + 4 + 1)
        have i1 : (k : Int) < 32 := by omega
        have hn0 : 0 ≤ y := by rw [HY.out]; exact Int.ediv_nonneg HV.out.1 (Int.le_of_lt (Int.pow_pos (by decide)))
        have HWD : Hid (IntKind.u64.wrap (y.tdiv 2) = y / 2) := by
          refine Lib.hid ?_
          have h1 : y ≤ v := by rw [HY.out]; exact Int.ediv_le_self _ HV.out.1
          have h2 := HV.out.2
          rw [Int.tdiv_eq_ediv_of_nonneg hn0, IntKind.wrap_u64]; omega
        have HD : Hid (y / 2 = v / 2 ^ (k + 1)) := by
          refine Lib.hid ?_
          rw [HY.out, Int.pow_succ, Int.ediv_ediv_of_nonneg (Int.le_of_lt (Int.pow_pos (by decide)))]
        have HN := Lib.hid (hR.on1S hk1)
        have HO2 : Hid (∀ u, Only (fun i => i = b) w (wr.setCell ⟨b, 4 + k * 6 + 4 + 1, none⟩ u)) := Lib.hid fun u => hO.setCell (p := ⟨b, 4 + k * 6 + 4 + 1, none⟩) (.inl rfl) u
        by_cases hk0 : k = 0
        · have HB : Hid (onBits v k = false) := Lib.hid (by unfold onBits; rw [decide_eq_false (by omega), Bool.false_and])
          subst hk0
          rw [HB.out] at HN
          clear hR hO
          go_wp2
          go_roundw
          case rel => exact ⟨1, y / 2, by omega, rfl, by rw [HWD.out], HD, HN.out, HO2.out _⟩
          case measure => simp [intOf]
        · have HB : Hid (onBits v k = (y % 2 == 1)) := Lib.hid (by unfold onBits vbit; rw [decide_eq_true (by omega), Bool.true_and, HY.out])
          rw [HB.out] at HN
          have hk2 : (0 : Int) < (k : Int) := by omega
          have hk3 : 0 < k := by omega
          clear hR hO
          go_wp2
          go_roundw
          case rel => exact ⟨k + 1, y / 2, by omega, by go_num, by rw [HWD.out], HD, HN.out, HO2.out _⟩
          case measure => simp [intOf]; omega
      · obtain rfl : k = 32 := by omega
        have HF := Lib.hid hR.onAll
        clear hR hO
        go_wp2
        go_ret
        exact ⟨rfl, HO.out, HF.out⟩
set_option maxRecDepth 100000 in
set_option maxHeartbeats 4000000 in
theorem refWrite_done0 (w : World) (b : Nat) (t : PS) (h : RefP fr w b t) (v : Int) (x : Nat) (hv : 0 ≤ v) (hx0 : v % 4294967296 = (x : Int)) :
    Calls Tryz.prog 99 #[.pointer (some ⟨b, 4, none⟩), .int .u64 2097156, .int .i64 4, .int .u64 v] w (RefPEnd fr w b (.bool true) (doneT t 0 x)) := by
  have H := Lib.hid h
  clear h
  have HX := Lib.hid hx0
  clear hx0
  go_enter Tryz.func99, Tryz.ntmps99
  go_wp2
  go_loop [9] (fun i => i = .int .i64 0) (fun _ => 0)
  case atStart => exact rfl
  case round =>
    obtain rfl := hrel
    have hxe := HX.out
    by_cases hx1 : 1 ≤ x
    · have d1 : decide ((1 : Int) ≤ (x : Int)) = true := by rw [decide_eq_true_eq]; omega
      by_cases hx2 : x ≤ 31
      · have d2 : decide ((x : Int) ≤ 31) = true := by rw [decide_eq_true_eq]; omega
        have con : w.cell? ⟨b, 4 + x * 6 + 4, none⟩ = some (.bool (t.on x 0)) := H.out.src (s := x) (j := 4) (by omega) (by omega)
        have cbu : w.cell? ⟨b, 4 + x * 6 + 3, none⟩ = some (.bool (t.busy x)) := H.out.src (s := x) (j := 3) (by omega) (by omega)
        have i1 : (x : Int) < 32 := by omega
        have hw1 : IntKind.i64.wrap (x : Int) = x := IntWalk.i64_in _ (by omega)
        have HM : Hid (mayB t 0 x = (t.on x 0 && t.busy x)) := Lib.hid (by unfold mayB; rw [decide_eq_true hx1, decide_eq_true hx2]; rfl)
        have f3 := H.out.free (4 + x * 6 + 3)
        obtain ⟨p, hp⟩ : ∃ p, t.on x 0 = p := ⟨_, rfl⟩
        obtain ⟨q, hq⟩ : ∃ q, t.busy x = q := ⟨_, rfl⟩
        rw [hp] at con
        rw [hq] at cbu
        rw [hp, hq] at HM
        clear hp hq
        cases p with
        | false =>
          have HE : Hid (RefP fr w b (doneT t 0 x)) := Lib.hid (by unfold doneT; rw [HM.out, if_neg (by simp)]; exact H.out)
          go_wp2
          go_ret
          exact ⟨rfl, Only.refl _ _, HE.out⟩
        | true =>
        cases q with
        | false =>
          have HE : Hid (RefP fr w b (doneT t 0 x)) := Lib.hid (by unfold doneT; rw [HM.out, if_neg (by simp)]; exact H.out)
          go_wp2
          go_ret
          exact ⟨rfl, Only.refl _ _, HE.out⟩
        | true =>
          have HE : Hid (doneT t 0 x = lookP (idleP t x) x) := Lib.hid (by unfold doneT; rw [HM.out, if_pos (by rfl)])
          have h2 : Hid (RefP fr (w.setCell ⟨b, 4 + x * 6 + 3, none⟩ (.bool false)) b (idleP t x)) := Lib.hid (RefP.idleS (w := w) H.out (by omega))
          have ho : Hid (Only (fun i => i = b) w (w.setCell ⟨b, 4 + x * 6 + 3, none⟩ (.bool false))) := Lib.hid ((Only.refl (fun i => i = b) w).setCell (p := ⟨b, 4 + x * 6 + 3, none⟩) (.inl rfl) _)
          rw [HE.out]
          go_wp2_with fail
          refine (refLook_any _ b _ x h2.out (by omega)).mono ?_
          rintro e w' ⟨hu, ho2, hp⟩
          obtain ⟨u, rfl⟩ := hu
          have HO3 := Lib.hid (ho.out.trans ho2)
          have HP := Lib.hid hp
          clear ho2 hp
          go_wp2
          go_ret
          exact ⟨rfl, HO3.out, HP.out⟩
      · have d2 : decide ((x : Int) ≤ 31) = false := by rw [decide_eq_false_iff_not]; omega
        have HE : Hid (RefP fr w b (doneT t 0 x)) := Lib.hid (by unfold doneT mayB; rw [decide_eq_false hx2, if_neg (by simp)]; exact H.out)
        go_wp2
        go_ret
        exact ⟨rfl, Only.refl _ _, HE.out⟩
    · have d1 : decide ((1 : Int) ≤ (x : Int)) = false := by rw [decide_eq_false_iff_not]; omega
      have HE : Hid (RefP fr w b (doneT t 0 x)) := Lib.hid (by unfold doneT mayB; rw [decide_eq_false hx1, if_neg (by simp)]; exact H.out)
      go_wp2
      go_ret
      exact ⟨rfl, Only.refl _ _, HE.out⟩
set_option maxRecDepth 100000 in
set_option maxHeartbeats 4000000 in
theorem refWrite_done1 (w : World) (b : Nat) (t : PS) (h : RefP fr w b t) (v : Int) (x : Nat) (hv : 0 ≤ v) (hx0 : v % 4294967296 = (x : Int)) :
    Calls Tryz.prog 99 #[.pointer (some ⟨b, 4, none⟩), .int .u64 2101252, .int .i64 4, .int .u64 v] w (RefPEnd fr w b (.bool true) (doneT t 1 x)) := by
  have H := Lib.hid h
  clear h
  have HX := Lib.hid hx0
  clear hx0
  go_enter Tryz.func99, Tryz.ntmps99
  go_wp2
  go_loop [9] (fun i => i = .int .i64 0 ∨ i = .int .i64 1) (fun i => (1 - intOf i).toNat)
  case atStart => exact .inl rfl
  case round =>
    rcases hrel with rfl | rfl
    · go_wp2
      exact ⟨.inr rfl, by simp [intOf]⟩
    have hxe := HX.out
    by_cases hx1 : 1 ≤ x
    · have d1 : decide ((1 : Int) ≤ (x : Int)) = true := by rw [decide_eq_true_eq]; omega
      by_cases hx2 : x ≤ 31
      · have d2 : decide ((x : Int) ≤ 31) = true := by rw [decide_eq_true_eq]; omega
        have con : w.cell? ⟨b, 4 + x * 6 + 4 + 1, none⟩ = some (.bool (t.on x 1)) := H.out.src (s := x) (j := 5) (by omega) (by omega)
        have cbu : w.cell? ⟨b, 4 + x * 6 + 3, none⟩ = some (.bool (t.busy x)) := H.out.src (s := x) (j := 3) (by omega) (by omega)
        have i1 : (x : Int) < 32 := by omega
        have hw1 : IntKind.i64.wrap (x : Int) = x := IntWalk.i64_in _ (by omega)
        have HM : Hid (mayB t 1 x = (t.on x 1 && t.busy x)) := Lib.hid (by unfold mayB; rw [decide_eq_true hx1, decide_eq_true hx2]; rfl)
        have f3 := H.out.free (4 + x * 6 + 3)
        obtain ⟨p, hp⟩ : ∃ p, t.on x 1 = p := ⟨_, rfl⟩
        obtain ⟨q, hq⟩ : ∃ q, t.busy x = q := ⟨_, rfl⟩
        rw [hp] at con
        rw [hq] at cbu
        rw [hp, hq] at HM
        clear hp hq
        cases p with
        | false =>
          have HE : Hid (RefP fr w b (doneT t 1 x)) := Lib.hid (by unfold doneT; rw [HM.out, if_neg (by simp)]; exact H.out)
          go_wp2
          go_ret
          exact ⟨rfl, Only.refl _ _, HE.out⟩
        | true =>
        cases q with
        | false =>
          have HE : Hid (RefP fr w b (doneT t 1 x)) := Lib.hid (by unfold doneT; rw [HM.out, if_neg (by simp)]; exact H.out)
          go_wp2
          go_ret
          exact ⟨rfl, Only.refl _ _, HE.out⟩
        | true =>
          have HE : Hid (doneT t 1 x = lookP (idleP t x) x) := Lib.hid (by unfold doneT; rw [HM.out, if_pos (by rfl)])
          have h2 : Hid (RefP fr (w.setCell ⟨b, 4 + x * 6 + 3, none⟩ (.bool false)) b (idleP t x)) := Lib.hid (RefP.idleS (w := w) H.out (by omega))
          have ho : Hid (Only (fun i => i = b) w (w.setCell ⟨b, 4 + x * 6 + 3, none⟩ (.bool false))) := Lib.hid ((Only.refl (fun i => i = b) w).setCell (p := ⟨b, 4 + x * 6 + 3, none⟩) (.inl rfl) _)
          rw [HE.out]
          go_wp2_with fail
          refine (refLook_any _ b _ x h2.out (by omega)).mono ?_
          rintro e w' ⟨hu, ho2, hp⟩
          obtain ⟨u, rfl⟩ := hu
          have HO3 := Lib.hid (ho.out.trans ho2)
          have HP := Lib.hid hp
          clear ho2 hp
          go_wp2
          go_ret
          exact ⟨rfl, HO3.out, HP.out⟩
      · have d2 : decide ((x : Int) ≤ 31) = false := by rw [decide_eq_false_iff_not]; omega
        have HE : Hid (RefP fr w b (doneT t 1 x)) := Lib.hid (by unfold doneT mayB; rw [decide_eq_false hx2, if_neg (by simp)]; exact H.out)
        go_wp2
        go_ret
        exact ⟨rfl, Only.refl _ _, HE.out⟩
    · have d1 : decide ((1 : Int) ≤ (x : Int)) = false := by rw [decide_eq_false_iff_not]; omega
      have HE : Hid (RefP fr w b (doneT t 1 x)) := Lib.hid (by unfold doneT mayB; rw [decide_eq_false hx1, if_neg (by simp)]; exact H.out)
      go_wp2
      go_ret
      exact ⟨rfl, Only.refl _ _, HE.out⟩
set_option maxRecDepth 100000 in
set_option maxHeartbeats 2000000 in
theorem refWrite_no (w : World) (b : Nat) (off v : Int) (hn : NoPlic off) (h0 : 0 ≤ off) :
    Calls Tryz.prog 99 #[.pointer (some ⟨b, 4, none⟩), .int .u64 off, .int .i64 4, .int .u64 v] w fun e w' => e = .returned (.bool false) ∧ w = w' := by
  have hp := hn.prio
  have e1 := neB hn.pend
  have e2 := neB hn.on0
  have e3 := neB hn.on1
  have e4 := neB hn.fl0
  have e5 := neB hn.fl1
  have e6 := neB hn.cl0
  have e7 := neB hn.cl1
  clear hn
  by_cases h1 : off < 128
  · have h2 : (off % 4 == 0) = false := by simp; omega
    clear hp
    go_enter Tryz.func99, Tryz.ntmps99
    go_wp2
    go_loop [9] (fun i => i = .int .i64 0 ∨ i = .int .i64 1 ∨ i = .int .i64 2) (fun i => (2 - intOf i).toNat)
    case atStart => exact .inl rfl
    case round =>
      rcases hrel with rfl | rfl | rfl
      · go_wp2
        exact ⟨.inr (.inl rfl), by simp [intOf]⟩
      · go_wp2
        exact ⟨.inr (.inr rfl), by simp [intOf]⟩
      · go_wp2
        go_ret
        exact ⟨rfl, rfl⟩
  · have h2 : decide (off < 128) = false := decide_eq_false h1
    clear hp
    go_enter Tryz.func99, Tryz.ntmps99
    go_wp2
    go_loop [9] (fun i => i = .int .i64 0 ∨ i = .int .i64 1 ∨ i = .int .i64 2) (fun i => (2 - intOf i).toNat)
    case atStart => exact .inl rfl
    case round =>
      rcases hrel with rfl | rfl | rfl
      · go_wp2
        exact ⟨.inr (.inl rfl), by simp [intOf]⟩
      · go_wp2
        exact ⟨.inr (.inr rfl), by simp [intOf]⟩
      · go_wp2
        go_ret
        exact ⟨rfl, rfl⟩
theorem tells_end {w : World} {b : Nat} {t : PS} {x : Int} {r : Bool} (h : RefP fr w b t) {e : Ending} {w' : World} (k : TellsP w x r e w') : RefPEnd fr w b (.tuple #[.int .u64 x, .bool r]) t e w' := by
  obtain ⟨rfl, rfl⟩ := k
  exact ⟨rfl, Only.refl _ _, h⟩
theorem refRead_any (w : World) (b : Nat) (t : PS) (h : RefP fr w b t) (off n : Int) (ho : In64 off) :
    Calls Tryz.prog 104 #[.pointer (some ⟨b, 4, none⟩), .int .u64 off, .int .i64 n] w (RefPEnd fr w b (.tuple #[.int .u64 (rdX t (plcK off n)), .bool (okP (plcK off n))]) (rdT t (plcK off n))) := by
  rcases plc_cases off n ho.1 with ⟨rfl, k, hk, hk4, hp⟩ | ⟨rfl, rfl, hp⟩ | ⟨rfl, rfl, hp⟩ | ⟨rfl, rfl, hp⟩ | ⟨rfl, rfl, hp⟩ | ⟨rfl, rfl, hp⟩ | ⟨rfl, rfl, hp⟩ | ⟨rfl, rfl, hp⟩ | ⟨rfl, hn, hp⟩ | ⟨hn, hp⟩
  all_goals rw [hp]
  · exact (refRead_prio w b t h k hk off hk4).mono fun e w' k => tells_end h k
  · exact (refRead_pend w b t h).mono fun e w' k => tells_end h k
  · exact (refRead_on0 w b t h).mono fun e w' k => tells_end h k
  · exact (refRead_on1 w b t h).mono fun e w' k => tells_end h k
  · exact (refRead_floor0 w b t h).mono fun e w' k => tells_end h k
  · exact (refRead_floor1 w b t h).mono fun e w' k => tells_end h k
  · exact refRead_claim0 w b t h _ rfl
  · exact refRead_claim1 w b t h _ rfl
  · exact (refRead_no w b off hn ho.1).mono fun e w' k => tells_end h k
  · exact (refRead_len w b off n hn).mono fun e w' k => tells_end h k
theorem same_end {w : World} {b : Nat} {t : PS} {r : Value} (h : RefP fr w b t) {e : Ending} {w' : World} (k : e = .returned r ∧ w = w') : RefPEnd fr w b r t e w' := by
  obtain ⟨rfl, rfl⟩ := k
  exact ⟨rfl, Only.refl _ _, h⟩
theorem refWrite_any (w : World) (b : Nat) (t : PS) (h : RefP fr w b t) (off n v : Int) (ho : In64 off) (hv : In64 v) :
    Calls Tryz.prog 99 #[.pointer (some ⟨b, 4, none⟩), .int .u64 off, .int .i64 n, .int .u64 v] w (RefPEnd fr w b (.bool (okP (plcK off n))) (wrT t (plcK off n) v)) := by
  have hx1 := Int.emod_nonneg v (show (4294967296 : Int) ≠ 0 by decide)
  rcases plc_cases off n ho.1 with ⟨rfl, k, hk, hk4, hp⟩ | ⟨rfl, rfl, hp⟩ | ⟨rfl, rfl, hp⟩ | ⟨rfl, rfl, hp⟩ | ⟨rfl, rfl, hp⟩ | ⟨rfl, rfl, hp⟩ | ⟨rfl, rfl, hp⟩ | ⟨rfl, rfl, hp⟩ | ⟨rfl, hn, hp⟩ | ⟨hn, hp⟩
  all_goals rw [hp]
  · by_cases k0 : k = 0
    · subst k0
      obtain rfl : off = 0 := by omega
      exact (refWrite_prio0 w b v).mono fun e w' k => same_end h k
    · rw [show wrT t (0, k) v = prioT t k (v % 8) from if_neg k0]
      exact refWrite_prio w b t h k (by omega) hk off v hk4 hv.1
  · exact (refWrite_pend w b v).mono fun e w' k => same_end h k
  · exact refWrite_on0 w b t h v hv
  · exact refWrite_on1 w b t h v hv
  · exact refWrite_floor0 w b t h v hv.1
  · exact refWrite_floor1 w b t h v hv.1
  · exact refWrite_done0 w b t h v _ hv.1 (by omega)
  · exact refWrite_done1 w b t h v _ hv.1 (by omega)
  · exact (refWrite_no w b off v hn ho.1).mono fun e w' k => same_end h k
  · exact (refWrite_len w b off n v hn).mono fun e w' k => same_end h k

end Go.Proofs.YtbcnkhfpogglmaaGreatDoor.P5.In

namespace Go.Proofs.YtbcnkhfpogglmaaGreatDoor.U6
open Go.RowKit
set_option linter.unusedVariables false
set_option maxRecDepth 100000

section
variable {w : World} {b : Nat} {F : Nat → Prop} {t : US} {vi vo : Value}
theorem Holds.rcells (h : HR w b F t vi vo) : w.cell? ⟨b, 0, none⟩ = some vi ∧ w.cell? ⟨b, 1, none⟩ = some vo ∧ w.cell? ⟨b, 2, none⟩ = some (.int .u8 t.ier) ∧ w.cell? ⟨b, 3, none⟩ = some (.int .u8 t.fcr) ∧ w.cell? ⟨b, 4, none⟩ = some (.int .u8 t.lcr) ∧
    w.cell? ⟨b, 5, none⟩ = some (.int .u8 t.mcr) ∧ w.cell? ⟨b, 6, none⟩ = some (.int .u8 t.scr) ∧ w.cell? ⟨b, 7, none⟩ = some (.int .u8 t.dl) ∧ w.cell? ⟨b, 8, none⟩ = some (.int .u8 t.dm) ∧ w.cell? ⟨b, 9, none⟩ = some (.bool t.lost) ∧ w.cell? ⟨b, 10, none⟩ = some (.bool t.sent) :=
  ⟨h.cell 0 rfl, h.cell 1 rfl, h.cell 2 rfl, h.cell 3 rfl, h.cell 4 rfl, h.cell 5 rfl, h.cell 6 rfl, h.cell 7 rfl, h.cell 8 rfl, h.cell 9 rfl, h.cell 10 rfl⟩
end
theorem refNew_any (w : World) : Calls Tryz.prog 54 #[] w (MadeU cellsR 111 w u0) := by
  have HM := Lib.hid (made_of cellsR 111 w)
  go_enter Tryz.func54, Tryz.ntmps54
  go_wp2
  go_ret
  exact ⟨_, _, _, _, rfl, below_alloc w _, fun i hi => by omega, HM.out⟩

def TellR (w : World) (b : Nat) (F : Nat → Prop) (x : Value) (t' : US) (e : Ending) (w' : World) : Prop := e = .returned x ∧ EndU cellsR 111 w b F t' w'

set_option maxRecDepth 100000 in
set_option maxHeartbeats 2000000 in
theorem refReason_any (w : World) (b : Nat) (F : Nat → Prop) (t : US) (vi vo : Value) (h : HR w b F t vi vo) :
    Calls Tryz.prog 136 #[.pointer (some ⟨b, 0, none⟩)] w fun e w' => e = .returned (.int .u8 (rsn t)) ∧ w = w' := by
  have hlen := h.ok.li
  have hi := h.ok.ier
  obtain ⟨a, c, rfl, _, _, _⟩ := h.ri.reads (by omega)
  obtain ⟨c0, _, c2, _, _, _, _, _, _, _, c10⟩ := h.rcells
  have HR : Hid (rsn t = if t.ier % 2 = 1 ∧ 0 < t.inn.length then 4 else if t.ier / 2 % 2 = 1 ∧ t.sent = true then 2 else 1) := Lib.hid rfl
  clear h
  generalize rsn t = r at *
  generalize t.inn.length = n at *
  generalize t.sent = s at *
  generalize t.ier = x at *
  obtain ⟨x0, x1⟩ := hi
  by_cases hA : x % 2 = 1
  · have HA := Lib.hid hA
    by_cases hn : 0 < n
    · have ER : Hid (r = 4) := Lib.hid (by rw [HR.out, if_pos ⟨HA.out, hn⟩])
      clear HR
      go_enter Tryz.func136, Tryz.ntmps136
      go_wp2
      go_ret
      exact ⟨by rw [ER.out]; rfl, rfl⟩
    · obtain rfl : n = 0 := by omega
      by_cases hB : x / 2 % 2 = 1
      · have HB := Lib.hid hB
        cases s with
        | true =>
          have ER : Hid (r = 2) := Lib.hid (by rw [HR.out, if_neg (fun h => hn h.2), if_pos ⟨HB.out, rfl⟩])
          clear HR
          go_enter Tryz.func136, Tryz.ntmps136
          go_wp2
          go_ret
          exact ⟨by rw [ER.out]; rfl, rfl⟩
        | false =>
          have ER : Hid (r = 1) := Lib.hid (by rw [HR.out, if_neg (fun h => hn h.2), if_neg (fun h => by cases h.2)])
          clear HR
          go_enter Tryz.func136, Tryz.ntmps136
          go_wp2
          go_ret
          exact ⟨by rw [ER.out]; rfl, rfl⟩
      · have hb : (x / 2 % 2 == 1) = false := by simpa using hB
        have ER : Hid (r = 1) := Lib.hid (by rw [HR.out, if_neg (fun h => hn h.2), if_neg (fun h => hB h.1)])
        clear HR hB
        go_enter Tryz.func136, Tryz.ntmps136
        go_wp2
        go_ret
        exact ⟨by rw [ER.out]; rfl, rfl⟩
  · have ha : (x % 2 == 1) = false := by simpa using hA
    by_cases hB : x / 2 % 2 = 1
    · have HB := Lib.hid hB
      cases s with
      | true =>
        have ER : Hid (r = 2) := Lib.hid (by rw [HR.out, if_neg (fun h => hA h.1), if_pos ⟨HB.out, rfl⟩])
        clear HR hA
        go_enter Tryz.func136, Tryz.ntmps136
        go_wp2
        go_ret
        exact ⟨by rw [ER.out]; rfl, rfl⟩
      | false =>
        have ER : Hid (r = 1) := Lib.hid (by rw [HR.out, if_neg (fun h => hA h.1), if_neg (fun h => by cases h.2)])
        clear HR hA
        go_enter Tryz.func136, Tryz.ntmps136
        go_wp2
        go_ret
        exact ⟨by rw [ER.out]; rfl, rfl⟩
    · have hb : (x / 2 % 2 == 1) = false := by simpa using hB
      have ER : Hid (r = 1) := Lib.hid (by rw [HR.out, if_neg (fun h => hA h.1), if_neg (fun h => hB h.1)])
      clear HR hB hA
      go_enter Tryz.func136, Tryz.ntmps136
      go_wp2
      go_ret
      exact ⟨by rw [ER.out]; rfl, rfl⟩

theorem lineU_gt (t : US) : decide (1 < rsn t) = lineU t := by
  unfold lineU
  rcases rsn_vals t with h | h | h <;> rw [h] <;> rfl
theorem refLine_any (w : World) (b : Nat) (F : Nat → Prop) (t : US) (vi vo : Value) (h : HR w b F t vi vo) :
    Calls Tryz.prog 135 #[.pointer (some ⟨b, 0, none⟩)] w fun e w' => e = .returned (.bool (lineU t)) ∧ w = w' := by
  have H := Lib.hid h
  have HL := Lib.hid (lineU_gt t)
  clear h
  go_enter Tryz.func135, Tryz.ntmps135
  go_wp2_with (go_at_call 136; refine (refReason_any _ b F t vi vo H.out).mono ?_; rintro e w' ⟨rfl, rfl⟩)
  go_ret
  exact ⟨by rw [← HL.out]; rfl, rfl⟩

set_option maxRecDepth 100000 in
set_option maxHeartbeats 2000000 in
theorem refFeed_any (w : World) (b : Nat) (F : Nat → Prop) (t : US) (h : UR w b F t) (x : Int) (hx : 0 ≤ x ∧ x < 256) :
    Calls Tryz.prog 107 #[.pointer (some ⟨b, 0, none⟩), .int .u8 x] w (TellR w b F (.bool (feedK t)) (feedT t x)) := by
  obtain ⟨vi, vo, h⟩ := h
  have hli := h.ok.li
  obtain ⟨a, c, hvi, hnc, hcm, hr⟩ := h.ri.reads (by omega)
  subst hvi
  obtain ⟨c0, _⟩ := h.rcells
  have c9 := h.cell 9 (v := .bool t.lost) rfl
  have f0 := h.free 0
  have f9 := h.free 9
  have HX := Lib.hid hx
  by_cases hlt : t.inn.length < 16
  · have h2 := h.below (below_alloc w (.cells #[.int .u8 x] 5))
    obtain ⟨v', w', hrun, hR, hO, hv⟩ := run_push (w.alloc (.cells #[.int .u8 x] 5)) _ t.inn h2.ri (by omega) w.heap.size 0 x 1 (new_cell w _ _) hx 40
    obtain ⟨a2, c2, hv2, _, _, _⟩ := hR.reads (by simp; omega)
    have hl2 : (t.inn ++ [x]).length = t.inn.length + 1 := by simp
    rw [hl2] at hv2
    subst hv2
    have E1 : EndU cellsR 111 w b F { t with inn := t.inn ++ [x] } (w'.setCell ⟨b, 0, none⟩ (.slice a2 (t.inn.length + 1) c2)) := by
      have k := EndU.turnIn (t' := { t with inn := t.inn ++ [x] }) h2 hO hR hv rfl (ok_inn h.ok (by simp; omega)) rfl
      exact EndU.step (Only.of_below F (below_alloc w _)) (fun i hi => .inl hi) k
    have HE1 := Lib.hid E1
    have f0' : w'.frozen? ⟨b, 0, none⟩ = false := (World.frozen?_of_block (hO.block b (Nat.lt_of_lt_of_le h.blt (below_alloc w _).size) (fun e => (h2.fi b e).2 rfl))).trans (h2.free 0)
    have d0' : ∃ v, w'.cell? ⟨b, 0, none⟩ = some v := ⟨_, (World.cell?_of_block (hO.block b (Nat.lt_of_lt_of_le h.blt (below_alloc w _).size) (fun e => (h2.fi b e).2 rfl))).trans (h2.cell 0 rfl)⟩
    obtain ⟨v1, d0'⟩ := d0'
    have hT : feedT t x = { t with inn := t.inn ++ [x] } := by unfold feedT; rw [if_neg (by omega)]
    have hK : feedK t = true := decide_eq_true hlt
    have HRUN := Lib.hid hrun
    have hd : ((t.inn.length : Int) == 16) = false := by simp; omega
    rw [hT, hK]
    clear hT hK h h2 hR hO hv hr E1 hx hrun hli hlt
    generalize t.inn.length = n at *
    go_enter Tryz.func107, Tryz.ntmps107
    go_wp2_with ((at_builtin; refine wpList_append_run rfl _ _ _ rfl (.slice a n c) (.slice (some ⟨w.heap.size, 0, none⟩) 1 1) (.slice a2 (n + 1) c2) w' rfl rfl HRUN.out ?_))
    go_ret
    exact ⟨rfl, HE1.out⟩
  · have hd : t.inn.length = 16 := by omega
    have hT : feedT t x = { t with lost := true } := by unfold feedT; rw [if_pos (by omega)]
    have hK : feedK t = false := decide_eq_false hlt
    have OK := Lib.hid (ok_lost h.ok true)
    have H := Lib.hid h
    rw [hT, hK]
    clear hT hK h hr hlt hli hnc hcm hx
    generalize t.inn.length = n at *
    subst hd
    go_enter Tryz.func107, Tryz.ntmps107
    go_wp2
    go_ret
    exact ⟨rfl, EndU.set H.out 9 (.bool true) rfl rfl OK.out rfl⟩

end Go.Proofs.YtbcnkhfpogglmaaGreatDoor.U6

namespace Go.Proofs.YtbcnkhfpogglmaaGreatDoor.U6
open Go.RowKit
set_option linter.unusedVariables false
set_option maxRecDepth 100000

/-- Bytes that stand anywhere poured onto nothing. -/
theorem run_pour0 (w : World) (g off c : Nat) (xs : List Int) (hb : Byt xs) (hl : xs.length ≤ 70000) (hc : ∀ j, j < xs.length → w.cell? ⟨g, off + j, none⟩ = some (.int .u8 (xs.getD j 0))) (ty : TypeId) :
    ∃ v' w', (Builtin.append_ #[40, 40] ty #[.slice none 0 0, .slice (some ⟨g, off, none⟩) xs.length c]).run Tryz.prog w = .ok v' w' ∧ RowB w' v' xs ∧ Only (fun _ => False) w w' ∧ (∀ g, v'.ownBlock = some g → w.heap.size ≤ g) := by
  obtain ⟨i0, hi, hz0, hz1, hz2⟩ := info_parts8 info_u8
  obtain ⟨v', w', hr, h2, h3, _, h5⟩ := run_append_own_at (P := Tryz.prog) w 0 40 ty 5 i0 (.int .u8 0) 1 1 Tryz.underlying40 hi hz0 hz1 hz2 rfl (by decide) (.slice none 0 0) 0 [] (World.ownsRow_nil _ _ _ _) ⟨g, off, none⟩ xs.length c (u8s xs) (by rw [u8s_len]; omega) (fun j u hj => by
      obtain ⟨hj2, rfl⟩ := u8s_get hj
      rw [add_none]; exact hc j hj2) (u8s_one xs) (by unfold maxLen; omega) (by omega) (Nat.zero_le _)
  have e1 : 0 + xs.length = xs.length := by omega
  rw [e1, List.nil_append] at h2
  refine ⟨v', w', hr, ⟨hb, .inl h2⟩, (Only.refl _ w).grown h3 (fun k hk => by cases hk), fun g' hg' => ?_⟩
  rcases h5 with h5 | h5
  · rw [h5] at hg'; cases hg'
  · rw [h5] at hg'; injection hg' with hg'; omega
theorem run_rest (w : World) (g off n c : Nat) (h1 : 1 ≤ n) (hc : n ≤ c) : (Instr.slice 40 (.slice (some ⟨g, off, none⟩) n c) (some (.int .i64 1)) none none).run Tryz.prog w = .ok (.slice (some ⟨g, (if c = 1 then off else off + 1), none⟩) (n - 1) (c - 1)) w := by
  rw [run_slice_l (t := 40) w (some ⟨g, off, none⟩) n c ?_ .i64 1 (by decide) (by omega)]
  · have hs : (sizeOf (Tryz.prog.elem 40)).run Tryz.prog w = .ok 1 w := by kernel_rfl
    rw [hs]
    by_cases h : c = 1
    · subst h; simp [sliced]
    · simp [sliced, Addr.add, h]
  · kernel_rfl
theorem plK_inv {t : US} {off n : Int} {k : Nat} (h : plK t off n = k) (hk : k < 8) : n = 1 ∧ off = k ∧ (k < 2 → t.lcr < 128) := by
  unfold plK at h
  by_cases h1 : n = 1 ∧ 0 ≤ off ∧ off < 8
  · rw [if_pos h1] at h
    by_cases h2 : off < 2 ∧ 128 ≤ t.lcr
    · rw [if_pos h2] at h; omega
    · rw [if_neg h2] at h
      exact ⟨h1.1, by omega, by omega⟩
  · rw [if_neg h1] at h; omega
theorem plK_inv2 {t : US} {off n : Int} {k : Nat} (h : plK t off n = k) (hk : 8 ≤ k) (hk2 : k < 10) : n = 1 ∧ off = k - 8 ∧ 128 ≤ t.lcr := by
  unfold plK at h
  by_cases h1 : n = 1 ∧ 0 ≤ off ∧ off < 8
  · rw [if_pos h1] at h
    by_cases h2 : off < 2 ∧ 128 ≤ t.lcr
    · rw [if_pos h2] at h; exact ⟨h1.1, by omega, h2.2⟩
    · rw [if_neg h2] at h; omega
  · rw [if_neg h1] at h; omega
theorem plK_ten {t : US} {off n : Int} (h : plK t off n = 10) (h0 : 0 ≤ off) : ¬ n = 1 ∨ 8 ≤ off := by
  unfold plK at h
  by_cases h1 : n = 1 ∧ 0 ≤ off ∧ off < 8
  · rw [if_pos h1] at h; split at h <;> omega
  · omega

set_option maxRecDepth 100000 in
set_option maxHeartbeats 4000000 in
theorem refRead_0 (w : World) (b : Nat) (F : Nat → Prop) (t : US) (vi vo : Value) (h : HR w b F t vi vo) (off n : Int) (hk : plK t off n = 0) :
    Calls Tryz.prog 106 #[.pointer (some ⟨b, 0, none⟩), .int .u64 off, .int .i64 n] w (TellR w b F (.tuple #[.int .u64 (rdX t 0), .bool true]) (rdT t 0)) := by
  obtain ⟨rfl, rfl, hL⟩ := plK_inv hk (by decide)
  have hL := hL (by decide)
  change Calls _ _ #[_, .int .u64 0, _] _ _
  clear hk
  have hlen := h.ok.li
  have c4 := h.cell 4 (v := .int .u8 t.lcr) rfl
  obtain ⟨a, c, rfl, hnc, hcm, hr⟩ := h.ri.reads (by omega)
  have c0 := h.cell 0 (v := .slice a t.inn.length c) rfl
  have f0 := h.free 0
  obtain ⟨inn, out, ier, fcr, lcr, mcr, scr, dl, dm, lost, sent⟩ := t
  simp only at hlen hr c0 c4 hnc hL
  cases inn with
  | nil =>
    have H := Lib.hid h
    clear h hr
    go_enter Tryz.func106, Tryz.ntmps106
    go_wp2
    go_ret2
    exact ⟨rfl, EndU.refl H.out⟩
  | cons x xs =>
    rcases hr with ⟨_, _, h0⟩ | ⟨g, o1, rfl, hg, hc⟩
    · cases h0
    have cx : w.cell? ⟨g, o1, none⟩ = some (.int .u8 x) := by have := hc 0 (by simp); simpa using this
    have hbx : 0 ≤ x ∧ x < 256 := h.ri.byt x (by simp)
    obtain ⟨x0, x1⟩ := hbx
    have hl2 : xs.length ≤ 15 := by simp at hlen; omega
    have hcr : ∀ j, j < xs.length → w.cell? ⟨g, (if c = 1 then o1 else o1 + 1) + j, none⟩ = some (.int .u8 (xs.getD j 0)) := fun j hj => by
      rw [if_neg (by simp at hnc; omega)]
      have := hc (j + 1) (by simp; omega)
      rw [show o1 + 1 + j = o1 + (j + 1) by omega, this]; simp
    obtain ⟨v', w', hrun, hR, hO, hv⟩ := run_pour0 w g (if c = 1 then o1 else o1 + 1) (c - 1) xs (h.ri.byt.tail) (by omega) hcr 40
    have hcut := fun wr => run_rest wr g o1 (xs.length + 1) c (by omega) (by simpa using hnc)
    rw [show xs.length + 1 - 1 = xs.length by omega] at hcut
    generalize (if c = 1 then o1 else o1 + 1) = o2 at *
    generalize c - 1 = c9 at *
    obtain ⟨a2, c2, hv2, _, _, _⟩ := hR.reads (by omega)
    subst hv2
    have OK : (⟨xs, out, ier, fcr, lcr, mcr, scr, dl, dm, lost, sent⟩ : US).ok := ⟨by show xs.length ≤ 16; omega, h.ok.lo, h.ok.ier, h.ok.fcr, h.ok.lcr, h.ok.mcr, h.ok.scr, h.ok.dl, h.ok.dm⟩
    have E1 : EndU cellsR 111 w b F ⟨xs, out, ier, fcr, lcr, mcr, scr, dl, dm, lost, sent⟩ (w'.setCell ⟨b, 0, none⟩ (.slice a2 xs.length c2)) :=
      EndU.turnIn h (hO.mono fun i hi => hi.elim) hR (fun g hg => .inr (hv g hg)) rfl OK rfl
    have f0' : w'.frozen? ⟨b, 0, none⟩ = false := (World.frozen?_of_block (hO.block b h.blt id)).trans f0
    have d0' : ∃ v, w'.cell? ⟨b, 0, none⟩ = some v := ⟨_, (World.cell?_of_block (hO.block b h.blt id)).trans c0⟩
    obtain ⟨v1, d0'⟩ := d0'
    have HE := Lib.hid E1
    have HRUN := Lib.hid hrun
    rw [show (x :: xs).length = xs.length + 1 from rfl] at c0
    clear h hc hcr hO hR hv E1 hrun OK hnc hlen
    generalize xs.length = m at *
    go_enter Tryz.func106, Tryz.ntmps106
    go_wp2_with ((at_builtin; refine wpList_append_run rfl _ _ _ rfl (.slice none 0 0) (.slice (some ⟨g, o2, none⟩) m c9) (.slice a2 m c2) w' rfl rfl HRUN.out ?_))
    go_ret2
    exact ⟨rfl, HE.out⟩

set_option maxRecDepth 100000 in
set_option maxHeartbeats 4000000 in
theorem refRead_1 (w : World) (b : Nat) (F : Nat → Prop) (t : US) (vi vo : Value) (h : HR w b F t vi vo) (off n : Int) (hk : plK t off n = 1) :
    Calls Tryz.prog 106 #[.pointer (some ⟨b, 0, none⟩), .int .u64 off, .int .i64 n] w (TellR w b F (.tuple #[.int .u64 (rdX t 1), .bool true]) (rdT t 1)) := by
  obtain ⟨rfl, rfl, hL⟩ := plK_inv hk (by decide)
  have hL := hL (by decide)
  change Calls _ _ #[_, .int .u64 1, _] _ _
  clear hk
  obtain ⟨c0, c1, c2, c3, c4, c5, c6, c7, c8, c9, c10⟩ := h.rcells
  have H := Lib.hid h
  have hb := h.ok.ier
  obtain ⟨x0, x1⟩ := hb
  change Calls _ _ _ _ (TellR w b F (.tuple #[.int .u64 t.ier, .bool true]) t)
  clear h
  generalize t.ier = X at *
  generalize t.lcr = L at *
  go_enter Tryz.func106, Tryz.ntmps106
  go_wp2
  go_ret2
  exact ⟨rfl, EndU.refl H.out⟩

set_option maxRecDepth 100000 in
set_option maxHeartbeats 4000000 in
theorem refRead_2 (w : World) (b : Nat) (F : Nat → Prop) (t : US) (vi vo : Value) (h : HR w b F t vi vo) (off n : Int) (hk : plK t off n = 2) :
    Calls Tryz.prog 106 #[.pointer (some ⟨b, 0, none⟩), .int .u64 off, .int .i64 n] w (TellR w b F (.tuple #[.int .u64 (rdX t 2), .bool true]) (rdT t 2)) := by
  obtain ⟨rfl, rfl, hL⟩ := plK_inv hk (by decide)
  clear hL
  change Calls _ _ #[_, .int .u64 2, _] _ _
  clear hk
  have f10 := h.free 10
  have c4 := h.cell 4 (v := .int .u8 t.lcr) rfl
  have c10 := h.cell 10 (v := .bool t.sent) rfl
  have c3 := h.cell 3 (v := .int .u8 t.fcr) rfl
  have H := Lib.hid h
  have E2 := Lib.hid (EndU.set h 10 (.bool false) (t' := { t with sent := false }) rfl rfl (ok_sent h.ok false) rfl)
  clear h
  rcases rsn_vals t with hr | hr | hr
  all_goals
    by_cases hf : t.fcr = 1
    all_goals
      first | rw [rdX2 hr hf] | rw [rdX2' hr hf]
      first | rw [rdT2 hr] | rw [rdT2' (by omega)]
      have HRS := Lib.hid (refReason_any w b F t vi vo H.out)
      rw [hr] at HRS
      have hf1 : (t.fcr == 1) = decide (t.fcr = 1) := rfl
      first | rw [decide_eq_true hf] at hf1 | rw [decide_eq_false hf] at hf1
      clear hf hr
      generalize t.fcr = fc at *
      generalize t.lcr = L at *
      go_enter Tryz.func106, Tryz.ntmps106
      go_wp2_with (go_at_call 136; refine (HRS.out).mono ?_; rintro e w' ⟨rfl, rfl⟩)
      go_ret2
      first
        | exact ⟨rfl, E2.out⟩
        | exact ⟨rfl, EndU.refl H.out⟩

set_option maxRecDepth 100000 in
set_option maxHeartbeats 4000000 in
theorem refRead_3 (w : World) (b : Nat) (F : Nat → Prop) (t : US) (vi vo : Value) (h : HR w b F t vi vo) (off n : Int) (hk : plK t off n = 3) :
    Calls Tryz.prog 106 #[.pointer (some ⟨b, 0, none⟩), .int .u64 off, .int .i64 n] w (TellR w b F (.tuple #[.int .u64 (rdX t 3), .bool true]) (rdT t 3)) := by
  obtain ⟨rfl, rfl, hL⟩ := plK_inv hk (by decide)
  clear hL
  change Calls _ _ #[_, .int .u64 3, _] _ _
  clear hk
  obtain ⟨c0, c1, c2, c3, c4, c5, c6, c7, c8, c9, c10⟩ := h.rcells
  have H := Lib.hid h
  have hb := h.ok.lcr
  obtain ⟨x0, x1⟩ := hb
  change Calls _ _ _ _ (TellR w b F (.tuple #[.int .u64 t.lcr, .bool true]) t)
  clear h
  go_enter Tryz.func106, Tryz.ntmps106
  go_wp2
  go_ret2
  exact ⟨rfl, EndU.refl H.out⟩

set_option maxRecDepth 100000 in
set_option maxHeartbeats 4000000 in
theorem refRead_4 (w : World) (b : Nat) (F : Nat → Prop) (t : US) (vi vo : Value) (h : HR w b F t vi vo) (off n : Int) (hk : plK t off n = 4) :
    Calls Tryz.prog 106 #[.pointer (some ⟨b, 0, none⟩), .int .u64 off, .int .i64 n] w (TellR w b F (.tuple #[.int .u64 (rdX t 4), .bool true]) (rdT t 4)) := by
  obtain ⟨rfl, rfl, hL⟩ := plK_inv hk (by decide)
  clear hL
  change Calls _ _ #[_, .int .u64 4, _] _ _
  clear hk
  obtain ⟨c0, c1, c2, c3, c4, c5, c6, c7, c8, c9, c10⟩ := h.rcells
  have H := Lib.hid h
  have hb := h.ok.mcr
  obtain ⟨x0, x1⟩ := hb
  change Calls _ _ _ _ (TellR w b F (.tuple #[.int .u64 t.mcr, .bool true]) t)
  clear h
  generalize t.mcr = X at *
  generalize t.lcr = L at *
  go_enter Tryz.func106, Tryz.ntmps106
  go_wp2
  go_ret2
  exact ⟨rfl, EndU.refl H.out⟩

set_option maxRecDepth 100000 in
set_option maxHeartbeats 4000000 in
theorem refRead_5 (w : World) (b : Nat) (F : Nat → Prop) (t : US) (vi vo : Value) (h : HR w b F t vi vo) (off n : Int) (hk : plK t off n = 5) :
    Calls Tryz.prog 106 #[.pointer (some ⟨b, 0, none⟩), .int .u64 off, .int .i64 n] w (TellR w b F (.tuple #[.int .u64 (rdX t 5), .bool true]) (rdT t 5)) := by
  obtain ⟨rfl, rfl, hL⟩ := plK_inv hk (by decide)
  clear hL
  change Calls _ _ #[_, .int .u64 5, _] _ _
  clear hk
  have hli := h.ok.li
  obtain ⟨a, c, hvi, hnc, hcm, hr⟩ := h.ri.reads (by omega)
  subst hvi
  have f9 := h.free 9
  have c0 := h.cell 0 (v := .slice a t.inn.length c) rfl
  have c4 := h.cell 4 (v := .int .u8 t.lcr) rfl
  have c9 := h.cell 9 (v := .bool t.lost) rfl
  have E2 : Hid (EndU cellsR 111 w b F (rdT t 5) (w.setCell ⟨b, 9, none⟩ (.bool false))) := Lib.hid (EndU.set h 9 (.bool false) (t' := { t with lost := false }) rfl rfl (ok_lost h.ok false) rfl)
  have HX := Lib.hid (rdX5 t t.inn.length rfl)
  clear h hr hli hnc hcm
  generalize rdX t 5 = X at *
  generalize rdT t 5 = T at *
  generalize t.inn.length = m at *
  generalize t.lost = l at *
  generalize t.lcr = L at *
  by_cases hn : 0 < m
  · cases l
    all_goals
      go_enter Tryz.func106, Tryz.ntmps106
      go_wp2
      go_ret2
      exact ⟨by rw [HX.out, if_pos hn]; rfl, E2.out⟩
  · obtain rfl : m = 0 := by omega
    cases l
    all_goals
      go_enter Tryz.func106, Tryz.ntmps106
      go_wp2
      go_ret2
      exact ⟨by rw [HX.out, if_neg hn]; rfl, E2.out⟩

set_option maxRecDepth 100000 in
set_option maxHeartbeats 4000000 in
theorem refRead_6 (w : World) (b : Nat) (F : Nat → Prop) (t : US) (vi vo : Value) (h : HR w b F t vi vo) (off n : Int) (hk : plK t off n = 6) :
    Calls Tryz.prog 106 #[.pointer (some ⟨b, 0, none⟩), .int .u64 off, .int .i64 n] w (TellR w b F (.tuple #[.int .u64 (rdX t 6), .bool true]) (rdT t 6)) := by
  obtain ⟨rfl, rfl, hL⟩ := plK_inv hk (by decide)
  clear hL
  change Calls _ _ #[_, .int .u64 6, _] _ _
  clear hk
  obtain ⟨c0, c1, c2, c3, c4, c5, c6, c7, c8, c9, c10⟩ := h.rcells
  have H := Lib.hid h
  change Calls _ _ _ _ (TellR w b F (.tuple #[.int .u64 176, .bool true]) t)
  clear h
  go_enter Tryz.func106, Tryz.ntmps106
  go_wp2
  go_ret2
  exact ⟨rfl, EndU.refl H.out⟩

set_option maxRecDepth 100000 in
set_option maxHeartbeats 4000000 in
theorem refRead_7 (w : World) (b : Nat) (F : Nat → Prop) (t : US) (vi vo : Value) (h : HR w b F t vi vo) (off n : Int) (hk : plK t off n = 7) :
    Calls Tryz.prog 106 #[.pointer (some ⟨b, 0, none⟩), .int .u64 off, .int .i64 n] w (TellR w b F (.tuple #[.int .u64 (rdX t 7), .bool true]) (rdT t 7)) := by
  obtain ⟨rfl, rfl, hL⟩ := plK_inv hk (by decide)
  clear hL
  change Calls _ _ #[_, .int .u64 7, _] _ _
  clear hk
  obtain ⟨c0, c1, c2, c3, c4, c5, c6, c7, c8, c9, c10⟩ := h.rcells
  have H := Lib.hid h
  have hb := h.ok.scr
  obtain ⟨x0, x1⟩ := hb
  change Calls _ _ _ _ (TellR w b F (.tuple #[.int .u64 t.scr, .bool true]) t)
  clear h
  generalize t.scr = X at *
  generalize t.lcr = L at *
  go_enter Tryz.func106, Tryz.ntmps106
  go_wp2
  go_ret2
  exact ⟨rfl, EndU.refl H.out⟩

set_option maxRecDepth 100000 in
set_option maxHeartbeats 4000000 in
theorem refRead_8 (w : World) (b : Nat) (F : Nat → Prop) (t : US) (vi vo : Value) (h : HR w b F t vi vo) (off n : Int) (hk : plK t off n = 8) :
    Calls Tryz.prog 106 #[.pointer (some ⟨b, 0, none⟩), .int .u64 off, .int .i64 n] w (TellR w b F (.tuple #[.int .u64 (rdX t 8), .bool true]) (rdT t 8)) := by
  obtain ⟨rfl, rfl, hL⟩ := plK_inv2 hk (by decide) (by decide)
  change Calls _ _ #[_, .int .u64 0, _] _ _
  clear hk
  obtain ⟨c0, c1, c2, c3, c4, c5, c6, c7, c8, c9, c10⟩ := h.rcells
  have H := Lib.hid h
  have hb := h.ok.dl
  obtain ⟨x0, x1⟩ := hb
  change Calls _ _ _ _ (TellR w b F (.tuple #[.int .u64 t.dl, .bool true]) t)
  clear h
  generalize t.dl = X at *
  generalize t.lcr = L at *
  go_enter Tryz.func106, Tryz.ntmps106
  go_wp2
  go_ret2
  exact ⟨rfl, EndU.refl H.out⟩

set_option maxRecDepth 100000 in
set_option maxHeartbeats 4000000 in
theorem refRead_9 (w : World) (b : Nat) (F : Nat → Prop) (t : US) (vi vo : Value) (h : HR w b F t vi vo) (off n : Int) (hk : plK t off n = 9) :
    Calls Tryz.prog 106 #[.pointer (some ⟨b, 0, none⟩), .int .u64 off, .int .i64 n] w (TellR w b F (.tuple #[.int .u64 (rdX t 9), .bool true]) (rdT t 9)) := by
  obtain ⟨rfl, rfl, hL⟩ := plK_inv2 hk (by decide) (by decide)
  change Calls _ _ #[_, .int .u64 1, _] _ _
  clear hk
  obtain ⟨c0, c1, c2, c3, c4, c5, c6, c7, c8, c9, c10⟩ := h.rcells
  have H := Lib.hid h
  have hb := h.ok.dm
  obtain ⟨x0, x1⟩ := hb
  change Calls _ _ _ _ (TellR w b F (.tuple #[.int .u64 t.dm, .bool true]) t)
  clear h
  generalize t.dm = X at *
  generalize t.lcr = L at *
  go_enter Tryz.func106, Tryz.ntmps106
  go_wp2
  go_ret2
  exact ⟨rfl, EndU.refl H.out⟩

theorem refRead_out (w : World) (b : Nat) (F : Nat → Prop) (t : US) (vi vo : Value) (h : HR w b F t vi vo) (off n : Int) (ho : In64 off) (hk : plK t off n = 10) :
    Calls Tryz.prog 106 #[.pointer (some ⟨b, 0, none⟩), .int .u64 off, .int .i64 n] w (TellR w b F (.tuple #[.int .u64 0, .bool false]) t) := by
  have h0 := ho.1
  have H := Lib.hid h
  have hq := plK_ten hk h0
  clear h ho hk
  by_cases hn : n = 1
  · subst hn
    have h8 : 8 ≤ off := hq.resolve_left (fun h => h rfl)
    have h7 : (7 : Int) < off := by omega
    clear hq
    go_enter Tryz.func106, Tryz.ntmps106
    go_wp2
    go_ret2
    exact ⟨rfl, EndU.refl H.out⟩
  · have hb : (n == 1) = false := by simpa using hn
    have hb2 : (n != 1) = true := by simpa [bne] using hn
    clear hn hq
    go_enter Tryz.func106, Tryz.ntmps106
    go_wp2
    go_ret2
    exact ⟨rfl, EndU.refl H.out⟩
theorem refRead_any (w : World) (b : Nat) (F : Nat → Prop) (t : US) (h : UR w b F t) (off n : Int) (ho : In64 off) :
    Calls Tryz.prog 106 #[.pointer (some ⟨b, 0, none⟩), .int .u64 off, .int .i64 n] w (TellR w b F (.tuple #[.int .u64 (rdX t (plK t off n)), .bool (okK (plK t off n))]) (rdT t (plK t off n))) := by
  obtain ⟨vi, vo, h⟩ := h
  rcases ten (plK_le t off n) with hk | hk | hk | hk | hk | hk | hk | hk | hk | hk | hk
  · rw [hk]; exact refRead_0 w b F t vi vo h off n hk
  · rw [hk]; exact refRead_1 w b F t vi vo h off n hk
  · rw [hk]; exact refRead_2 w b F t vi vo h off n hk
  · rw [hk]; exact refRead_3 w b F t vi vo h off n hk
  · rw [hk]; exact refRead_4 w b F t vi vo h off n hk
  · rw [hk]; exact refRead_5 w b F t vi vo h off n hk
  · rw [hk]; exact refRead_6 w b F t vi vo h off n hk
  · rw [hk]; exact refRead_7 w b F t vi vo h off n hk
  · rw [hk]; exact refRead_8 w b F t vi vo h off n hk
  · rw [hk]; exact refRead_9 w b F t vi vo h off n hk
  · rw [hk]; exact refRead_out w b F t vi vo h off n ho hk

end Go.Proofs.YtbcnkhfpogglmaaGreatDoor.U6

namespace Go.Proofs.YtbcnkhfpogglmaaGreatDoor.U6
open Go.RowKit
set_option linter.unusedVariables false
set_option maxRecDepth 100000

def Room (m : Nat) : Prop := m < 65536
def NoRoom (m : Nat) : Prop := ¬ m < 65536
theorem Room.dec {m : Nat} (h : Room m) : decide ((m : Int) < 65536) = true := by unfold Room at h; rw [decide_eq_true_eq]; omega
theorem NoRoom.dec {m : Nat} (h : NoRoom m) : decide ((m : Int) < 65536) = false := by unfold NoRoom at h; rw [decide_eq_false_iff_not]; omega

set_option maxRecDepth 100000 in
set_option maxHeartbeats 4000000 in
theorem refWrite_0 (w : World) (b : Nat) (F : Nat → Prop) (t : US) (vi vo : Value) (h : HR w b F t vi vo) (off n v : Int) (hv : In64 v) (hk : plK t off n = 0) :
    Calls Tryz.prog 101 #[.pointer (some ⟨b, 0, none⟩), .int .u64 off, .int .i64 n, .int .u64 v] w (TellR w b F (.bool true) (wrT t (v % 256) 0)) := by
  have v0 := hv.1
  have x0 : 0 ≤ v % 256 := by omega
  have x1 : v % 256 < 256 := by omega
  have hw' : IntKind.u8.wrap (v % 256) = v % 256 := by rw [wrap8 _ x0]; omega
  have OK := Lib.hid (wrT_ok h.ok (v % 256) x0 x1 0)
  obtain ⟨x, hvx⟩ : ∃ x, v % 256 = x := ⟨_, rfl⟩
  rw [hvx] at x0 x1 hw' OK ⊢
  clear hv
  obtain ⟨rfl, rfl, hL⟩ := plK_inv hk (by decide)
  have hL := hL (by decide)
  change Calls _ _ #[_, .int .u64 0, _, _] _ _
  clear hk
  have hlo := h.ok.lo
  have c4 := h.cell 4 (v := .int .u8 t.lcr) rfl
  obtain ⟨a, c, hvo, hnc, hcm, hr⟩ := h.ro.reads (by omega)
  subst hvo
  have c1 := h.cell 1 (v := .slice a t.out.length c) rfl
  have c10 := h.cell 10 (v := .bool t.sent) rfl
  have f1 := h.free 1
  have f10 := h.free 10
  change Calls _ _ _ _ (TellR w b F (.bool true) (sendT t x))
  replace OK : Hid (sendT t x).ok := OK
  by_cases hlt : t.out.length < 65536
  · have h2 := h.below (below_alloc w (.cells #[.int .u8 x] 5))
    obtain ⟨v', w', hrun, hR, hO, hv⟩ := run_push (w.alloc (.cells #[.int .u8 x] 5)) _ t.out h2.ro (by omega) w.heap.size 0 x 1 (new_cell w _ _) ⟨x0, x1⟩ 40
    obtain ⟨a2, k2, hv2, _, _, _⟩ := hR.reads (by simp; omega)
    have hl2 : (t.out ++ [x]).length = t.out.length + 1 := by simp
    rw [hl2] at hv2
    subst hv2
    have E1 : EndU cellsR 111 w b F { t with out := t.out ++ [x] } (w'.setCell ⟨b, 1, none⟩ (.slice a2 (t.out.length + 1) k2)) := by
      have k := EndU.turnOut (t' := { t with out := t.out ++ [x] }) h2 hO hR hv rfl ⟨h.ok.li, by simp; omega, h.ok.ier, h.ok.fcr, h.ok.lcr, h.ok.mcr, h.ok.scr, h.ok.dl, h.ok.dm⟩ rfl
      exact EndU.step (Only.of_below F (below_alloc w _)) (fun i hi => .inl hi) k
    have HE1 := Lib.hid E1
    have f1' : w'.frozen? ⟨b, 1, none⟩ = false := (World.frozen?_of_block (hO.block b (Nat.lt_of_lt_of_le h.blt (below_alloc w _).size) (fun e => (h2.fo b e).2 rfl))).trans (h2.free 1)
    have d1' : ∃ v, w'.cell? ⟨b, 1, none⟩ = some v := ⟨_, (World.cell?_of_block (hO.block b (Nat.lt_of_lt_of_le h.blt (below_alloc w _).size) (fun e => (h2.fo b e).2 rfl))).trans (h2.cell 1 rfl)⟩
    obtain ⟨v1, d1'⟩ := d1'
    have hT : sendT t x = { { t with out := t.out ++ [x] } with sent := true } := by unfold sendT; rw [if_pos hlt]
    rw [hT] at OK ⊢
    have HRUN := Lib.hid hrun
    have hd : decide ((t.out.length : Int) < 65536) = true := by rw [decide_eq_true_eq]; omega
    have HDD : Room t.out.length := hlt
    clear hT h h2 hR hO hv hr E1 hrun hlo hlt hd
    generalize t.out.length = m at *
    go_enter Tryz.func101, Tryz.ntmps101
    go_upto_region 10 with (fail)
    have hd := HDD.dec
    clear hvx hw'
    go_upto_region 12 with ((at_builtin; refine wpList_append_run rfl _ _ _ rfl (.slice a m c) (.slice (some ⟨w.heap.size, 0, none⟩) 1 1) (.slice a2 (m + 1) k2) w' rfl rfl HRUN.out ?_))
    obtain ⟨ho, F1, hF1, vi1, vo1, h1⟩ := HE1.out
    generalize w'.setCell ⟨b, 1, none⟩ (.slice a2 (m + 1) k2) = w1 at *
    have H1 := Lib.hid h1
    have HO1 := Lib.hid ho
    have HF1 := Lib.hid hF1
    have f3b := h1.free 10
    have e3 := h1.cell 10 (v := .bool t.sent) rfl
    clear h1 ho hF1 HE1 d1' f1' f1 f10 HRUN hnc hcm hd c1 c10 c4
    go_wp2
    go_ret
    exact ⟨rfl, EndU.step HO1.out HF1.out (EndU.set H1.out 10 (.bool true) rfl rfl OK.out rfl)⟩
  · have hd : decide ((t.out.length : Int) < 65536) = false := by rw [decide_eq_false_iff_not]; omega
    have hT : sendT t x = { t with sent := true } := by unfold sendT; rw [if_neg hlt]
    have H := Lib.hid h
    rw [hT] at OK ⊢
    have HDD : NoRoom t.out.length := hlt
    clear hT h hr hlt hlo hnc hcm hd
    generalize t.out.length = m at *
    go_enter Tryz.func101, Tryz.ntmps101
    go_upto_region 10 with (fail)
    have hd := HDD.dec
    clear hvx hw'
    go_wp2
    go_ret
    exact ⟨rfl, EndU.set H.out 10 (.bool true) rfl rfl OK.out rfl⟩

set_option maxRecDepth 100000 in
set_option maxHeartbeats 4000000 in
theorem refWrite_1 (w : World) (b : Nat) (F : Nat → Prop) (t : US) (vi vo : Value) (h : HR w b F t vi vo) (off n v : Int) (hv : In64 v) (hk : plK t off n = 1) :
    Calls Tryz.prog 101 #[.pointer (some ⟨b, 0, none⟩), .int .u64 off, .int .i64 n, .int .u64 v] w (TellR w b F (.bool true) (wrT t (v % 256) 1)) := by
  have v0 := hv.1
  have x0 : 0 ≤ v % 256 := by omega
  have x1 : v % 256 < 256 := by omega
  have hw' : IntKind.u8.wrap (v % 256) = v % 256 := by rw [wrap8 _ x0]; omega
  have OK := Lib.hid (wrT_ok h.ok (v % 256) x0 x1 1)
  obtain ⟨x, hvx⟩ : ∃ x, v % 256 = x := ⟨_, rfl⟩
  rw [hvx] at x0 x1 hw' OK ⊢
  clear hv
  obtain ⟨rfl, rfl, hL⟩ := plK_inv hk (by decide)
  have hL := hL (by decide)
  change Calls _ _ #[_, .int .u64 1, _, _] _ _
  clear hk
  have c4 := h.cell 4 (v := .int .u8 t.lcr) rfl
  have c2 := h.cell 2 (v := .int .u8 t.ier) rfl
  have c10 := h.cell 10 (v := .bool t.sent) rfl
  have f2 := h.free 2
  have f10 := h.free 10
  obtain ⟨i0, i1⟩ := h.ok.ier
  change Calls _ _ _ _ (TellR w b F (.bool true) (ierT t x))
  replace OK : Hid (ierT t x).ok := OK
  by_cases hA : t.ier / 2 % 2 = 1
  · have hT := ierT_0 (t := t) (x := x) (fun h => h.1 hA)
    have H := Lib.hid h
    rw [hT] at OK ⊢
    clear hT h
    generalize t.ier = i at *
    go_enter Tryz.func101, Tryz.ntmps101
    go_wp2
    go_ret
    exact ⟨rfl, EndU.set H.out 2 (.int .u8 (x % 16)) rfl rfl OK.out rfl⟩
  · have ha : t.ier / 2 % 2 = 0 := by omega
    by_cases hB : x / 2 % 2 = 1
    · have hT := ierT_1 (t := t) (x := x) hA hB
      have H1 := Lib.hid (h.set 10 (.bool true) (t' := { t with sent := true }) rfl rfl (ok_sent h.ok true) rfl)
      have HO1 := Lib.hid ((Only.refl F w).setCell (p := ⟨b, 10, none⟩) (.inl h.fb) (.bool true))
      rw [hT] at OK ⊢
      clear hT h hA
      generalize t.ier = i at *
      go_enter Tryz.func101, Tryz.ntmps101
      go_wp2
      go_ret
      exact ⟨rfl, EndU.step HO1.out (fun i hi => .inl hi) (EndU.set H1.out 2 (.int .u8 (x % 16)) rfl rfl OK.out rfl)⟩
    · have hT := ierT_0 (t := t) (x := x) (fun h => hB h.2)
      have H := Lib.hid h
      have hb : (x / 2 % 2 == 1) = false := by simpa using hB
      rw [hT] at OK ⊢
      clear hT h hA hB
      generalize t.ier = i at *
      go_enter Tryz.func101, Tryz.ntmps101
      go_wp2
      go_ret
      exact ⟨rfl, EndU.set H.out 2 (.int .u8 (x % 16)) rfl rfl OK.out rfl⟩

set_option maxRecDepth 100000 in
set_option maxHeartbeats 4000000 in
theorem refWrite_2 (w : World) (b : Nat) (F : Nat → Prop) (t : US) (vi vo : Value) (h : HR w b F t vi vo) (off n v : Int) (hv : In64 v) (hk : plK t off n = 2) :
    Calls Tryz.prog 101 #[.pointer (some ⟨b, 0, none⟩), .int .u64 off, .int .i64 n, .int .u64 v] w (TellR w b F (.bool true) (wrT t (v % 256) 2)) := by
  have v0 := hv.1
  have x0 : 0 ≤ v % 256 := by omega
  have x1 : v % 256 < 256 := by omega
  have hw' : IntKind.u8.wrap (v % 256) = v % 256 := by rw [wrap8 _ x0]; omega
  have OK := Lib.hid (wrT_ok h.ok (v % 256) x0 x1 2)
  obtain ⟨x, hvx⟩ : ∃ x, v % 256 = x := ⟨_, rfl⟩
  rw [hvx] at x0 x1 hw' OK ⊢
  clear hv
  obtain ⟨rfl, rfl, hL⟩ := plK_inv hk (by decide)
  clear hL
  change Calls _ _ #[_, .int .u64 2, _, _] _ _
  clear hk
  have c4 := h.cell 4 (v := .int .u8 t.lcr) rfl
  have c3 := h.cell 3 (v := .int .u8 t.fcr) rfl
  have c0 := h.cell 0 (v := vi) rfl
  have f3 := h.free 3
  have f0 := h.free 0
  change Calls _ _ _ _ (TellR w b F (.bool true) (fcrT t x))
  have OK1 := (wrT_ok h.ok x x0 x1 2)
  have okf : ({ t with fcr := x % 2 } : US).ok := ⟨h.ok.li, h.ok.lo, h.ok.ier, OK1.fcr, h.ok.lcr, h.ok.mcr, h.ok.scr, h.ok.dl, h.ok.dm⟩
  have H1 := h.set 3 (.int .u8 (x % 2)) (t' := { t with fcr := x % 2 }) rfl rfl okf rfl
  have HO1 := Lib.hid ((Only.refl F w).setCell (p := ⟨b, 3, none⟩) (.inl h.fb) (.int .u8 (x % 2)))
  have E1 := Lib.hid (EndU.set h 3 (.int .u8 (x % 2)) (t' := { t with fcr := x % 2 }) rfl rfl okf rfl)
  replace OK : Hid (fcrT t x).ok := OK
  by_cases hB : x / 2 % 2 = 1
  · have E2 := Lib.hid (EndU.turnIn (t' := { t with inn := [], fcr := x % 2 }) H1 (Only.refl _ _) (RowB.nil _) (fun g hg => by cases hg) rfl (ok_inn okf (by simp)) rfl)
    have hT : fcrT t x = { t with inn := [], fcr := x % 2 } := fcrT_1 hB
    rw [hT]
    clear hT h OK OK1 okf H1 E1
    go_enter Tryz.func101, Tryz.ntmps101
    go_wp2
    go_ret
    exact ⟨rfl, EndU.step HO1.out (fun i hi => .inl hi) E2.out⟩
  · have hT : fcrT t x = { t with fcr := x % 2 } := fcrT_0 hB
    have hb : (x / 2 % 2 == 1) = false := by simpa using hB
    rw [hT]
    clear hT h OK OK1 okf H1 hB
    go_enter Tryz.func101, Tryz.ntmps101
    go_wp2
    go_ret
    exact ⟨rfl, E1.out⟩

set_option maxRecDepth 100000 in
set_option maxHeartbeats 4000000 in
theorem refWrite_3 (w : World) (b : Nat) (F : Nat → Prop) (t : US) (vi vo : Value) (h : HR w b F t vi vo) (off n v : Int) (hv : In64 v) (hk : plK t off n = 3) :
    Calls Tryz.prog 101 #[.pointer (some ⟨b, 0, none⟩), .int .u64 off, .int .i64 n, .int .u64 v] w (TellR w b F (.bool true) (wrT t (v % 256) 3)) := by
  have v0 := hv.1
  have x0 : 0 ≤ v % 256 := by omega
  have x1 : v % 256 < 256 := by omega
  have hw' : IntKind.u8.wrap (v % 256) = v % 256 := by rw [wrap8 _ x0]; omega
  have OK := Lib.hid (wrT_ok h.ok (v % 256) x0 x1 3)
  obtain ⟨x, hvx⟩ : ∃ x, v % 256 = x := ⟨_, rfl⟩
  rw [hvx] at x0 x1 hw' OK ⊢
  clear hv
  obtain ⟨rfl, rfl, hL⟩ := plK_inv hk (by decide)
  clear hL
  change Calls _ _ #[_, .int .u64 3, _, _] _ _
  clear hk
  have c4 := h.cell 4 (v := .int .u8 t.lcr) rfl
  have cF := h.cell 4 (v := .int .u8 t.lcr) rfl
  have fF := h.free 4
  have E := Lib.hid (EndU.set h 4 (.int .u8 x) (t' := { t with lcr := x }) rfl rfl OK.out rfl)
  change Calls _ _ _ _ (TellR w b F (.bool true) { t with lcr := x })
  clear h OK
  go_enter Tryz.func101, Tryz.ntmps101
  go_wp2
  go_ret
  exact ⟨rfl, E.out⟩

set_option maxRecDepth 100000 in
set_option maxHeartbeats 4000000 in
theorem refWrite_4 (w : World) (b : Nat) (F : Nat → Prop) (t : US) (vi vo : Value) (h : HR w b F t vi vo) (off n v : Int) (hv : In64 v) (hk : plK t off n = 4) :
    Calls Tryz.prog 101 #[.pointer (some ⟨b, 0, none⟩), .int .u64 off, .int .i64 n, .int .u64 v] w (TellR w b F (.bool true) (wrT t (v % 256) 4)) := by
  have v0 := hv.1
  have x0 : 0 ≤ v % 256 := by omega
  have x1 : v % 256 < 256 := by omega
  have hw' : IntKind.u8.wrap (v % 256) = v % 256 := by rw [wrap8 _ x0]; omega
  have OK := Lib.hid (wrT_ok h.ok (v % 256) x0 x1 4)
  obtain ⟨x, hvx⟩ : ∃ x, v % 256 = x := ⟨_, rfl⟩
  rw [hvx] at x0 x1 hw' OK ⊢
  clear hv
  obtain ⟨rfl, rfl, hL⟩ := plK_inv hk (by decide)
  clear hL
  change Calls _ _ #[_, .int .u64 4, _, _] _ _
  clear hk
  have c4 := h.cell 4 (v := .int .u8 t.lcr) rfl
  have cF := h.cell 5 (v := .int .u8 t.mcr) rfl
  have fF := h.free 5
  have E := Lib.hid (EndU.set h 5 (.int .u8 (x % 32)) (t' := { t with mcr := (x % 32) }) rfl rfl OK.out rfl)
  change Calls _ _ _ _ (TellR w b F (.bool true) { t with mcr := (x % 32) })
  clear h OK
  go_enter Tryz.func101, Tryz.ntmps101
  go_wp2
  go_ret
  exact ⟨rfl, E.out⟩

set_option maxRecDepth 100000 in
set_option maxHeartbeats 4000000 in
theorem refWrite_5 (w : World) (b : Nat) (F : Nat → Prop) (t : US) (vi vo : Value) (h : HR w b F t vi vo) (off n v : Int) (hv : In64 v) (hk : plK t off n = 5) :
    Calls Tryz.prog 101 #[.pointer (some ⟨b, 0, none⟩), .int .u64 off, .int .i64 n, .int .u64 v] w (TellR w b F (.bool true) (wrT t (v % 256) 5)) := by
  have v0 := hv.1
  have x0 : 0 ≤ v % 256 := by omega
  have x1 : v % 256 < 256 := by omega
  have hw' : IntKind.u8.wrap (v % 256) = v % 256 := by rw [wrap8 _ x0]; omega
  have OK := Lib.hid (wrT_ok h.ok (v % 256) x0 x1 5)
  obtain ⟨x, hvx⟩ : ∃ x, v % 256 = x := ⟨_, rfl⟩
  rw [hvx] at x0 x1 hw' OK ⊢
  clear hv
  obtain ⟨rfl, rfl, hL⟩ := plK_inv hk (by decide)
  clear hL
  change Calls _ _ #[_, .int .u64 5, _, _] _ _
  clear hk
  have c4 := h.cell 4 (v := .int .u8 t.lcr) rfl
  have H := Lib.hid h
  change Calls _ _ _ _ (TellR w b F (.bool true) t)
  clear h OK
  go_enter Tryz.func101, Tryz.ntmps101
  go_wp2
  go_ret
  exact ⟨rfl, EndU.refl H.out⟩

set_option maxRecDepth 100000 in
set_option maxHeartbeats 4000000 in
theorem refWrite_6 (w : World) (b : Nat) (F : Nat → Prop) (t : US) (vi vo : Value) (h : HR w b F t vi vo) (off n v : Int) (hv : In64 v) (hk : plK t off n = 6) :
    Calls Tryz.prog 101 #[.pointer (some ⟨b, 0, none⟩), .int .u64 off, .int .i64 n, .int .u64 v] w (TellR w b F (.bool true) (wrT t (v % 256) 6)) := by
  have v0 := hv.1
  have x0 : 0 ≤ v % 256 := by omega
  have x1 : v % 256 < 256 := by omega
  have hw' : IntKind.u8.wrap (v % 256) = v % 256 := by rw [wrap8 _ x0]; omega
  have OK := Lib.hid (wrT_ok h.ok (v % 256) x0 x1 6)
  obtain ⟨x, hvx⟩ : ∃ x, v % 256 = x := ⟨_, rfl⟩
  rw [hvx] at x0 x1 hw' OK ⊢
  clear hv
  obtain ⟨rfl, rfl, hL⟩ := plK_inv hk (by decide)
  clear hL
  change Calls _ _ #[_, .int .u64 6, _, _] _ _
  clear hk
  have c4 := h.cell 4 (v := .int .u8 t.lcr) rfl
  have H := Lib.hid h
  change Calls _ _ _ _ (TellR w b F (.bool true) t)
  clear h OK
  go_enter Tryz.func101, Tryz.ntmps101
  go_wp2
  go_ret
  exact ⟨rfl, EndU.refl H.out⟩

set_option maxRecDepth 100000 in
set_option maxHeartbeats 4000000 in
theorem refWrite_7 (w : World) (b : Nat) (F : Nat → Prop) (t : US) (vi vo : Value) (h : HR w b F t vi vo) (off n v : Int) (hv : In64 v) (hk : plK t off n = 7) :
    Calls Tryz.prog 101 #[.pointer (some ⟨b, 0, none⟩), .int .u64 off, .int .i64 n, .int .u64 v] w (TellR w b F (.bool true) (wrT t (v % 256) 7)) := by
  have v0 := hv.1
  have x0 : 0 ≤ v % 256 := by omega
  have x1 : v % 256 < 256 := by omega
  have hw' : IntKind.u8.wrap (v % 256) = v % 256 := by rw [wrap8 _ x0]; omega
  have OK := Lib.hid (wrT_ok h.ok (v % 256) x0 x1 7)
  obtain ⟨x, hvx⟩ : ∃ x, v % 256 = x := ⟨_, rfl⟩
  rw [hvx] at x0 x1 hw' OK ⊢
  clear hv
  obtain ⟨rfl, rfl, hL⟩ := plK_inv hk (by decide)
  clear hL
  change Calls _ _ #[_, .int .u64 7, _, _] _ _
  clear hk
  have c4 := h.cell 4 (v := .int .u8 t.lcr) rfl
  have cF := h.cell 6 (v := .int .u8 t.scr) rfl
  have fF := h.free 6
  have E := Lib.hid (EndU.set h 6 (.int .u8 x) (t' := { t with scr := x }) rfl rfl OK.out rfl)
  change Calls _ _ _ _ (TellR w b F (.bool true) { t with scr := x })
  clear h OK
  go_enter Tryz.func101, Tryz.ntmps101
  go_wp2
  go_ret
  exact ⟨rfl, E.out⟩

set_option maxRecDepth 100000 in
set_option maxHeartbeats 4000000 in
theorem refWrite_8 (w : World) (b : Nat) (F : Nat → Prop) (t : US) (vi vo : Value) (h : HR w b F t vi vo) (off n v : Int) (hv : In64 v) (hk : plK t off n = 8) :
    Calls Tryz.prog 101 #[.pointer (some ⟨b, 0, none⟩), .int .u64 off, .int .i64 n, .int .u64 v] w (TellR w b F (.bool true) (wrT t (v % 256) 8)) := by
  have v0 := hv.1
  have x0 : 0 ≤ v % 256 := by omega
  have x1 : v % 256 < 256 := by omega
  have hw' : IntKind.u8.wrap (v % 256) = v % 256 := by rw [wrap8 _ x0]; omega
  have OK := Lib.hid (wrT_ok h.ok (v % 256) x0 x1 8)
  obtain ⟨x, hvx⟩ : ∃ x, v % 256 = x := ⟨_, rfl⟩
  rw [hvx] at x0 x1 hw' OK ⊢
  clear hv
  obtain ⟨rfl, rfl, hL⟩ := plK_inv2 hk (by decide) (by decide)
  change Calls _ _ #[_, .int .u64 0, _, _] _ _
  clear hk
  have c4 := h.cell 4 (v := .int .u8 t.lcr) rfl
  have cF := h.cell 7 (v := .int .u8 t.dl) rfl
  have fF := h.free 7
  have E := Lib.hid (EndU.set h 7 (.int .u8 x) (t' := { t with dl := x }) rfl rfl OK.out rfl)
  change Calls _ _ _ _ (TellR w b F (.bool true) { t with dl := x })
  clear h OK
  go_enter Tryz.func101, Tryz.ntmps101
  go_wp2
  go_ret
  exact ⟨rfl, E.out⟩

set_option maxRecDepth 100000 in
set_option maxHeartbeats 4000000 in
theorem refWrite_9 (w : World) (b : Nat) (F : Nat → Prop) (t : US) (vi vo : Value) (h : HR w b F t vi vo) (off n v : Int) (hv : In64 v) (hk : plK t off n = 9) :
    Calls Tryz.prog 101 #[.pointer (some ⟨b, 0, none⟩), .int .u64 off, .int .i64 n, .int .u64 v] w (TellR w b F (.bool true) (wrT t (v % 256) 9)) := by
  have v0 := hv.1
  have x0 : 0 ≤ v % 256 := by omega
  have x1 : v % 256 < 256 := by omega
  have hw' : IntKind.u8.wrap (v % 256) = v % 256 := by rw [wrap8 _ x0]; omega
  have OK := Lib.hid (wrT_ok h.ok (v % 256) x0 x1 9)
  obtain ⟨x, hvx⟩ : ∃ x, v % 256 = x := ⟨_, rfl⟩
  rw [hvx] at x0 x1 hw' OK ⊢
  clear hv
  obtain ⟨rfl, rfl, hL⟩ := plK_inv2 hk (by decide) (by decide)
  change Calls _ _ #[_, .int .u64 1, _, _] _ _
  clear hk
  have c4 := h.cell 4 (v := .int .u8 t.lcr) rfl
  have cF := h.cell 8 (v := .int .u8 t.dm) rfl
  have fF := h.free 8
  have E := Lib.hid (EndU.set h 8 (.int .u8 x) (t' := { t with dm := x }) rfl rfl OK.out rfl)
  change Calls _ _ _ _ (TellR w b F (.bool true) { t with dm := x })
  clear h OK
  go_enter Tryz.func101, Tryz.ntmps101
  go_wp2
  go_ret
  exact ⟨rfl, E.out⟩

theorem refWrite_out (w : World) (b : Nat) (F : Nat → Prop) (t : US) (vi vo : Value) (h : HR w b F t vi vo) (off n v : Int) (ho : In64 off) (hk : plK t off n = 10) :
    Calls Tryz.prog 101 #[.pointer (some ⟨b, 0, none⟩), .int .u64 off, .int .i64 n, .int .u64 v] w (TellR w b F (.bool false) t) := by
  have h0 := ho.1
  have H := Lib.hid h
  have hq := plK_ten hk h0
  clear h ho hk
  by_cases hn : n = 1
  · subst hn
    have h8 : 8 ≤ off := hq.resolve_left (fun h => h rfl)
    have h7 : (7 : Int) < off := by omega
    clear hq
    go_enter Tryz.func101, Tryz.ntmps101
    go_wp2
    go_ret
    exact ⟨rfl, EndU.refl H.out⟩
  · have hb : (n == 1) = false := by simpa using hn
    have hb2 : (n != 1) = true := by simpa [bne] using hn
    clear hn hq
    go_enter Tryz.func101, Tryz.ntmps101
    go_wp2
    go_ret
    exact ⟨rfl, EndU.refl H.out⟩
theorem refWrite_any (w : World) (b : Nat) (F : Nat → Prop) (t : US) (h : UR w b F t) (off n v : Int) (ho : In64 off) (hv : In64 v) :
    Calls Tryz.prog 101 #[.pointer (some ⟨b, 0, none⟩), .int .u64 off, .int .i64 n, .int .u64 v] w (TellR w b F (.bool (okK (plK t off n))) (wrT t (v % 256) (plK t off n))) := by
  obtain ⟨vi, vo, h⟩ := h
  rcases ten (plK_le t off n) with hk | hk | hk | hk | hk | hk | hk | hk | hk | hk | hk
  · rw [hk]; exact refWrite_0 w b F t vi vo h off n v hv hk
  · rw [hk]; exact refWrite_1 w b F t vi vo h off n v hv hk
  · rw [hk]; exact refWrite_2 w b F t vi vo h off n v hv hk
  · rw [hk]; exact refWrite_3 w b F t vi vo h off n v hv hk
  · rw [hk]; exact refWrite_4 w b F t vi vo h off n v hv hk
  · rw [hk]; exact refWrite_5 w b F t vi vo h off n v hv hk
  · rw [hk]; exact refWrite_6 w b F t vi vo h off n v hv hk
  · rw [hk]; exact refWrite_7 w b F t vi vo h off n v hv hk
  · rw [hk]; exact refWrite_8 w b F t vi vo h off n v hv hk
  · rw [hk]; exact refWrite_9 w b F t vi vo h off n v hv hk
  · rw [hk]; exact refWrite_out w b F t vi vo h off n v ho hk

end Go.Proofs.YtbcnkhfpogglmaaGreatDoor.U6

namespace Go.Proofs.YtbcnkhfpogglmaaGreatDoor
open Go.RowKit
set_option linter.unusedVariables false
set_option maxRecDepth 100000

/-- What lies round the document's plic, and round its clint. -/
def fqP (g : Nat) (c : C4.Cl) (vp : Value) : Fr 4 := ⟨#[.pointer (some ⟨g, 0, none⟩), .int .u64 (C4.sI c.s), .int .u64 c.c, .int .u64 c.n], #[vp], 107, rfl⟩
def fqC (g : Nat) (p : P5.PS) (vp : Value) : Fr 1 := ⟨#[.pointer (some ⟨g, 0, none⟩)], varr 194 (P5.cellR p) ++ #[vp], 107, rfl⟩
def refRow (g : Nat) (c : C4.Cl) (p : P5.PS) (vp : Value) : Array Value := (fqP g c vp).all (varr 194 (P5.cellR p))
theorem refRow_c (g : Nat) (c : C4.Cl) (p : P5.PS) (vp : Value) : refRow g c p vp = (fqC g p vp).all #[.int .u64 (C4.sI c.s), .int .u64 c.c, .int .u64 c.n] := by
  unfold refRow Fr.all fqP fqC
  simp only
  generalize varr 194 (P5.cellR p) = row
  have e : (#[.pointer (some ⟨g, 0, none⟩), .int .u64 (C4.sI c.s), .int .u64 c.c, .int .u64 c.n] : Array Value) = #[.pointer (some ⟨g, 0, none⟩)] ++ #[.int .u64 (C4.sI c.s), .int .u64 c.c, .int .u64 c.n] := by simp
  rw [e]
  generalize (#[.pointer (some ⟨g, 0, none⟩)] : Array Value) = x
  generalize (#[.int .u64 (C4.sI c.s), .int .u64 c.c, .int .u64 c.n] : Array Value) = y
  rw [Array.append_assoc]
def RefAt (w : World) (b g : Nat) (c : C4.Cl) (p : P5.PS) (vp : Value) : Prop := w.heap[b]? = some (.cells (refRow g c p vp) 107 (0, 0))
section
variable {w : World} {b g : Nat} {c : C4.Cl} {p : P5.PS} {vp : Value}
theorem RefAt.lt (h : RefAt w b g c p vp) : b < w.heap.size := (Array.getElem?_eq_some_iff.1 h).1
theorem RefAt.keeps {w' : World} {T : Nat → Prop} (h : RefAt w b g c p vp) (o : Only T w w') (hb : ¬ T b) : RefAt w' b g c p vp := o.keeps hb h
theorem RefAt.free (h : RefAt w b g c p vp) (k : Nat) : w.frozen? ⟨b, k, none⟩ = false := frozen_of_row w b k _ _ h
theorem RefAt.plic (h : RefAt w b g c p vp) : P5.In.RefP (fqP g c vp) w b p := h
theorem RefAt.clint (h : RefAt w b g c p vp) (ok : c.ok) : C4.In.RefC (fqC g p vp) w b c := ⟨by rw [← refRow_c]; exact h, ok⟩
theorem RefAt.ofPlic {p' : P5.PS} (h : P5.In.RefP (fqP g c vp) w b p') : RefAt w b g c p' vp := h
theorem RefAt.ofClint {c' : C4.Cl} (h : C4.In.RefC (fqC g p vp) w b c') : RefAt w b g c' p vp := by
  unfold RefAt; rw [refRow_c]; exact h.1
theorem RefAt.ram_ (h : RefAt w b g c p vp) : w.cell? ⟨b, 0, none⟩ = some (.pointer (some ⟨g, 0, none⟩)) := by
  rw [cell_of_row w b _ _ _ _ h]; exact Fr.ahead _ _ 0 (by omega)
theorem RefAt.clint_ (h : RefAt w b g c p vp) : w.cell? ⟨b, 1, none⟩ = some (.int .u64 (C4.sI c.s)) ∧ w.cell? ⟨b, 2, none⟩ = some (.int .u64 c.c) ∧ w.cell? ⟨b, 3, none⟩ = some (.int .u64 c.n) := by
  refine ⟨?_, ?_, ?_⟩
  · rw [cell_of_row w b _ _ _ _ h]; exact Fr.ahead _ _ 1 (by omega)
  · rw [cell_of_row w b _ _ _ _ h]; exact Fr.ahead _ _ 2 (by omega)
  · rw [cell_of_row w b _ _ _ _ h]; exact Fr.ahead _ _ 3 (by omega)
theorem RefAt.uarts_ (h : RefAt w b g c p vp) : w.cell? ⟨b, 198, none⟩ = some vp := by
  rw [cell_of_row w b _ _ _ _ h]
  unfold refRow
  rw [Fr.behind _ _ 0 198 (by rw [varr_size])]
  rfl
theorem RefAt.range (h : RefAt w b g c p vp) : w.rangeAt b 4 (varr 194 (P5.cellR p)).toList := Fr.range (fqP g c vp) h
theorem RefAt.setUarts (h : RefAt w b g c p vp) (v : Value) : RefAt (w.setCell ⟨b, 198, none⟩ v) b g c p v := by
  unfold RefAt
  rw [heap_setCell_same w b _ _ _ _ h]
  unfold refRow
  rw [Fr.setBehind _ _ 0 198 v (by rw [varr_size])]
  rfl
end
/-- The row of the uarts' pointers. -/
def UartsAt (w : World) (b : Nat) (K : Nat → Nat) (vp : Value) (ul : List Nat) : Prop :=
  (ul = [] ∧ vp = .slice none 0 0) ∨ ∃ gp cap, vp = .slice (some ⟨gp, 0, none⟩) ul.length cap ∧ ul.length ≤ cap ∧ K gp = 1 ∧ ¬ gp = b ∧ Lays w gp (ul.map fun u => .pointer (some ⟨u, 0, none⟩))
theorem UartsAt.keeps {w w' : World} {b : Nat} {K K' : Nat → Nat} {vp : Value} {ul : List Nat} {T : Nat → Prop} (h : UartsAt w b K vp ul) (o : Only T w w') (hT : ∀ i, T i → ¬ K i = 1 ∨ i = b) (hK : ∀ i, i < w.heap.size → K' i = K i) : UartsAt w' b K' vp ul := by
  rcases h with h | ⟨gp, cap, h1, h2, h3, h4, h5⟩
  · exact .inl h
  · refine .inr ⟨gp, cap, h1, h2, by rw [hK _ h5.lt]; exact h3, h4, h5.keeps o fun ht => ?_⟩
    rcases hT _ ht with h6 | h6
    · exact h6 h3
    · exact h4 h6
theorem UartsAt.len {w : World} {b : Nat} {K : Nat → Nat} {vp : Value} {ul : List Nat} (h : UartsAt w b K vp ul) : ∃ a c, vp = .slice a ul.length c ∧ ul.length ≤ c := by
  rcases h with ⟨rfl, rfl⟩ | ⟨gp, cap, h1, h2, _⟩
  · exact ⟨none, 0, rfl, Nat.le_refl _⟩
  · exact ⟨_, cap, h1, h2⟩
theorem UartsAt.cells {w : World} {b : Nat} {K : Nat → Nat} {vp : Value} {ul : List Nat} (h : UartsAt w b K vp ul) {k : Nat} (hk : k < ul.length) : ∃ gp cap, vp = .slice (some ⟨gp, 0, none⟩) ul.length cap ∧ ul.length ≤ cap ∧ w.cell? ⟨gp, k, none⟩ = some (.pointer (some ⟨ul.getD k 0, 0, none⟩)) := by
  rcases h with ⟨rfl, _⟩ | ⟨gp, cap, h1, h2, h3, h4, h5⟩
  · simp at hk
  · refine ⟨gp, cap, h1, h2, h5.cell ?_⟩
    rw [List.getElem?_map, List.getElem?_eq_getElem hk, List.getD_eq_getElem?_getD, List.getElem?_eq_getElem hk]; rfl
/-- The document's memory, its blocks labelled 2. -/
def MemR (w : World) (g : Nat) (K : Nat → Nat) (size : Int) (N : Nat) (m : Int → Int) : Prop := K g = 2 ∧ ∃ gl, K gl = 2 ∧ M3.RefMem w g gl 2147483648 size N m
theorem U6.UR.keeps {w w' : World} {b : Nat} {F : Nat → Prop} {t : U6.US} {T : Nat → Prop} (h : U6.UR w b F t) (o : Only T w w') (hd : ∀ i, F i → ¬ T i) : U6.UR w' b F t := by
  obtain ⟨vi, vo, h⟩ := h; exact ⟨vi, vo, h.keeps o hd⟩
theorem U6.UR.mono {w : World} {b : Nat} {F G : Nat → Prop} {t : U6.US} (h : U6.UR w b F t) (hs : ∀ i, F i → G i) (hl : ∀ i, G i → i < w.heap.size) : U6.UR w b G t := by
  obtain ⟨vi, vo, h⟩ := h; exact ⟨vi, vo, h.mono hs hl⟩
theorem U6.UR.lt {w : World} {b : Nat} {F : Nat → Prop} {t : U6.US} (h : U6.UR w b F t) : ∀ i, F i → i < w.heap.size := by
  obtain ⟨vi, vo, h⟩ := h; exact h.lt
/-- The document's bus st stands in block b; its memory's list is no longer than N. -/
structure BusR (w : World) (b : Nat) (K : Nat → Nat) (g : Nat) (vp : Value) (ul : List Nat) (N : Nat) (st : BS) : Prop where
  obj : RefAt w b g st.c st.p vp
  uarts : UartsAt w b K vp ul
  mem : MemR w g K st.size N st.m
  fits : M3.Fits 2147483648 st.size
  uart : ∀ j, j < ul.length → U6.UR w (ul.getD j 0) (fun i => K i = 3 + j) (st.us.getD j U6.u0)
  len : st.us.length = ul.length
  le : ul.length ≤ 8
  kb : K b = 1
  lt : ∀ i, ¬ K i = 0 → i < w.heap.size
  cok : st.c.ok
def RefBE (w : World) (b : Nat) (K : Nat → Nat) (g : Nat) (vp : Value) (ul : List Nat) (N : Nat) (r : Value) (st' : BS) (e : Ending) (w' : World) : Prop :=
  e = .returned r ∧ Only (fun i => ¬ K i = 0) w w' ∧ ∃ K', Grow w K K' ∧ BusR w' b K' g vp ul N st'
section
variable {w w' : World} {b g : Nat} {K : Nat → Nat} {vp : Value} {ul : List Nat} {N : Nat} {st : BS}
theorem BusR.keeps {T : Nat → Prop} (h : BusR w b K g vp ul N st) (o : Only T w w') (hT : ∀ i, ¬ K i = 0 → ¬ T i) : BusR w' b K g vp ul N st := by
  obtain ⟨hg, gl, hl, hm⟩ := h.mem
  exact ⟨h.obj.keeps o (hT _ (by rw [h.kb]; omega)), h.uarts.keeps o (fun i ht => .inl fun hk => hT i (by omega) ht) (fun _ _ => rfl), ⟨hg, gl, hl, hm.keeps o (hT _ (by omega)) (hT _ (by omega))⟩, h.fits,
    fun j hj => (h.uart j hj).keeps o fun i hi => hT i (by have : K i = 3 + j := hi; omega), h.len, h.le, h.kb, fun i hi => Nat.lt_of_lt_of_le (h.lt i hi) o.size, h.cok⟩
theorem BusR.below (h : BusR w b K g vp ul N st) (o : Below w.heap.size w w') : BusR w' b K g vp ul N st := h.keeps (Only.of_below (fun _ => False) o) fun _ _ => id
theorem BusR.more {N' : Nat} (h : BusR w b K g vp ul N st) (hN : N ≤ N') : BusR w b K g vp ul N' st := by
  obtain ⟨hg, gl, hl, hm⟩ := h.mem
  exact ⟨h.obj, h.uarts, ⟨hg, gl, hl, hm.congr (fun _ => rfl) hN⟩, h.fits, h.uart, h.len, h.le, h.kb, h.lt, h.cok⟩
theorem BusR.end_same (h : BusR w b K g vp ul N st) {r : Value} (o : Below w.heap.size w w') : RefBE w b K g vp ul N r st (.returned r) w' := ⟨rfl, Only.of_below _ o, K, Grow.refl _ _, h.below o⟩
theorem BusR.setPlic (h : BusR w b K g vp ul N st) {p' : P5.PS} (o : Only (fun i => i = b) w w') (hp : P5.In.RefP (fqP g st.c vp) w' b p') : BusR w' b K g vp ul N { st with p := p' } := by
  have kb := h.kb
  obtain ⟨hg, gl, hl, hm⟩ := h.mem
  exact ⟨RefAt.ofPlic hp, h.uarts.keeps o (fun i hi => .inr hi) (fun _ _ => rfl), ⟨hg, gl, hl, hm.keeps o (fun e => by subst e; omega) (fun e => by subst e; omega)⟩, h.fits, fun j hj => (h.uart j hj).keeps o fun i hi e => by have : K i = 3 + j := hi; subst e; omega, h.len, h.le, h.kb,
    fun i hi => Nat.lt_of_lt_of_le (h.lt i hi) o.size, h.cok⟩
theorem BusR.setClint (h : BusR w b K g vp ul N st) {c' : C4.Cl} (o : Only (fun i => i = b) w w') (hp : C4.In.RefC (fqC g st.p vp) w' b c') : BusR w' b K g vp ul N { st with c := c' } := by
  have kb := h.kb
  obtain ⟨hg, gl, hl, hm⟩ := h.mem
  exact ⟨RefAt.ofClint hp, h.uarts.keeps o (fun i hi => .inr hi) (fun _ _ => rfl), ⟨hg, gl, hl, hm.keeps o (fun e => by subst e; omega) (fun e => by subst e; omega)⟩, h.fits, fun j hj => (h.uart j hj).keeps o fun i hi e => by have : K i = 3 + j := hi; subst e; omega, h.len, h.le, h.kb,
    fun i hi => Nat.lt_of_lt_of_le (h.lt i hi) o.size, hp.2⟩
/-- A part's call: all the others stand. -/
theorem BusR.part (h : BusR w b K g vp ul N st) {k : Nat} (hk : 2 ≤ k) (o : Only (fun i => K i = k) w w') {N' : Nat} {st' : BS} (hc : st'.c = st.c) (hp : st'.p = st.p) (hs : st'.size = st.size) (hlen : st'.us.length = st.us.length)
    (hm : MemR w' g (relabel w K k w') st.size N' st'.m) (hu : ∀ j, j < ul.length → U6.UR w' (ul.getD j 0) (fun i => relabel w K k w' i = 3 + j) (st'.us.getD j U6.u0)) : BusR w' b (relabel w K k w') g vp ul N' st' := by
  have kb := h.kb
  obtain ⟨size', m', c', p', us'⟩ := st'
  simp only at hc hp hs hlen hm hu
  subst hc hp hs
  exact ⟨h.obj.keeps o (by show ¬ K b = k; omega), h.uarts.keeps o (fun i hi => .inl (by show ¬ K i = 1; have : K i = k := hi; omega)) (relabel_grow w K k w'), hm, h.fits, hu, hlen.trans h.len, h.le, relabel_old h.lt (by omega) kb, relabel_lt h.lt o.size, h.cok⟩
/-- A uart turned. -/
theorem BusR.setUart (h : BusR w b K g vp ul N st) {j : Nat} (hj : j < ul.length) {t' : U6.US} (k : U6.EndU U6.cellsR 111 w (ul.getD j 0) (fun i => K i = 3 + j) t' w') : BusR w' b (relabel w K (3 + j) w') g vp ul N { st with us := st.us.set j t' } := by
  obtain ⟨o, F', hF', hu⟩ := k
  have hu : U6.UR w' (ul.getD j 0) F' t' := hu
  obtain ⟨hg, gl, hl, hm⟩ := h.mem
  refine h.part (by omega) o rfl rfl rfl (by simp) ⟨relabel_old h.lt (by omega) hg, gl, relabel_old h.lt (by omega) hl, hm.keeps o (by show ¬ K g = 3 + j; omega) (by show ¬ K gl = 3 + j; omega)⟩ ?_
  intro i hi
  by_cases e : i = j
  · subst e
    have e1 : (st.us.set i t').getD i U6.u0 = t' := by
      rw [List.getD_eq_getElem?_getD, List.getElem?_set_self (by rw [h.len]; exact hi)]; rfl
    rw [e1]
    exact hu.mono (fun x hx => relabel_new (hF' x hx) (hu.lt x hx)) fun x hx => relabel_in h.lt o.size (by omega) hx
  · have e1 : (st.us.set j t').getD i U6.u0 = st.us.getD i U6.u0 := by
      rw [List.getD_eq_getElem?_getD, List.getD_eq_getElem?_getD, List.getElem?_set_ne (fun e' => e e'.symm)]
    rw [e1]
    exact ((h.uart i hi).keeps o fun x hx => by show ¬ K x = 3 + j; have : K x = 3 + i := hx; omega).mono (fun x hx => relabel_old h.lt (by omega) hx) fun x hx => relabel_in h.lt o.size (by omega) hx
/-- The memory turned. -/
theorem BusR.setMem (h : BusR w b K g vp ul N st) {N' : Nat} {m' : Int → Int} {r : Bool} {e : Ending} (k : ∀ gl, M3.RefMem w g gl 2147483648 st.size N st.m → M3.MemEnd w g gl 2147483648 st.size N' m' r e w') : e = .returned (.bool r) ∧ Only (fun i => K i = 2) w w' ∧ BusR w' b (relabel w K 2 w') g vp ul N' { st with m := m' } := by
  obtain ⟨hg, gl, hl, hm⟩ := h.mem
  obtain ⟨he, o0, g', hg', hR⟩ := k gl hm
  obtain ⟨g2, hg2, hlt2, hR2⟩ := M3.RefMem.norm hR
  have o : Only (fun i => K i = 2) w w' := o0.mono fun i hi => .inl (by subst hi; exact hg)
  refine ⟨he, o, h.part (by omega) o rfl rfl rfl rfl ⟨relabel_old h.lt (by omega) hg, g2, ?_, hR2⟩ ?_⟩
  · rcases hg2 with rfl | rfl
    · rcases hg' with rfl | hg'
      · exact relabel_old h.lt (by omega) hl
      · exact relabel_new (.inr hg') hlt2
    · exact relabel_old h.lt (by omega) hg
  · intro i hi
    exact ((h.uart i hi).keeps o fun x hx => by show ¬ K x = 2; have : K x = 3 + i := hx; omega).mono (fun x hx => relabel_old h.lt (by omega) hx) fun x hx => relabel_in h.lt o.size (by omega) hx
end

end Go.Proofs.YtbcnkhfpogglmaaGreatDoor

namespace Go.Proofs.YtbcnkhfpogglmaaGreatDoor
open Go.RowKit
set_option linter.unusedVariables false
set_option maxRecDepth 100000

theorem width_any (n : Int) (w : World) : Calls Tryz.prog 96 #[.int .i64 n] w fun e w' => e = .returned (.bool (M3.okN n)) ∧ w = w' := by
  by_cases h1 : n = 1
  · subst h1
    have HE : Hid (true = M3.okN 1) := Lib.hid (by decide)
    go_enter Tryz.func96, Tryz.ntmps96
    go_wp2
    go_ret
    exact ⟨by rw [← HE.out]; rfl, rfl⟩
  by_cases h2 : n = 2
  · subst h2
    have HE : Hid (true = M3.okN 2) := Lib.hid (by decide)
    go_enter Tryz.func96, Tryz.ntmps96
    go_wp2
    go_ret
    exact ⟨by rw [← HE.out]; rfl, rfl⟩
  by_cases h4 : n = 4
  · subst h4
    have HE : Hid (true = M3.okN 4) := Lib.hid (by decide)
    go_enter Tryz.func96, Tryz.ntmps96
    go_wp2
    go_ret
    exact ⟨by rw [← HE.out]; rfl, rfl⟩
  by_cases h8 : n = 8
  · subst h8
    have HE : Hid (true = M3.okN 8) := Lib.hid (by decide)
    go_enter Tryz.func96, Tryz.ntmps96
    go_wp2
    go_ret
    exact ⟨by rw [← HE.out]; rfl, rfl⟩
  have HE : Hid (false = M3.okN n) := Lib.hid (by unfold M3.okN; symm; rw [decide_eq_false_iff_not]; omega)
  have e1 : (n == 1) = false := by simpa using h1
  have e2 : (n == 2) = false := by simpa using h2
  have e4 : (n == 4) = false := by simpa using h4
  have e8 : (n == 8) = false := by simpa using h8
  clear h1 h2 h4 h8
  go_enter Tryz.func96, Tryz.ntmps96
  go_wp2
  go_ret
  exact ⟨by rw [← HE.out]; rfl, rfl⟩

/-- Whether an address lies in a region. -/
def inB (a base size : Int) : Bool := decide (base ≤ a ∧ a - base < size)
theorem in_any (a base size : Int) (ha : In64 a) (h0 : 0 ≤ base) (w : World) : Calls Tryz.prog 97 #[.int .u64 a, .int .u64 base, .int .u64 size] w fun e w' => e = .returned (.bool (inB a base size)) ∧ w = w' := by
  by_cases h1 : base ≤ a
  · have hw : IntKind.u64.wrap (a - base) = a - base := by rw [IntKind.wrap_u64]; unfold In64 at ha; omega
    by_cases h2 : a - base < size
    · have HE : Hid (true = inB a base size) := Lib.hid (by unfold inB; rw [decide_eq_true ⟨h1, h2⟩])
      obtain ⟨d, hd⟩ : ∃ d, a - base = d := ⟨_, rfl⟩
      rw [hd] at h2
      replace hw : IntKind.u64.wrap (a - base) = d := hw.trans hd
      clear hd ha
      go_enter Tryz.func97, Tryz.ntmps97
      go_wp2
      go_ret
      exact ⟨by rw [← HE.out]; rfl, rfl⟩
    · have HE : Hid (false = inB a base size) := Lib.hid (by unfold inB; symm; rw [decide_eq_false_iff_not]; omega)
      obtain ⟨d, hd⟩ : ∃ d, a - base = d := ⟨_, rfl⟩
      rw [hd] at h2
      replace hw : IntKind.u64.wrap (a - base) = d := hw.trans hd
      clear hd ha
      go_enter Tryz.func97, Tryz.ntmps97
      go_wp2
      go_ret
      exact ⟨by rw [← HE.out]; rfl, rfl⟩
  · have HE : Hid (false = inB a base size) := Lib.hid (by unfold inB; symm; rw [decide_eq_false_iff_not]; omega)
    clear ha
    go_enter Tryz.func97, Tryz.ntmps97
    go_wp2
    go_ret
    exact ⟨by rw [← HE.out]; rfl, rfl⟩

/-- The uart of an address: its number, or -1. -/
def uaI (n : Nat) (a : Int) : Int := if 268435456 ≤ a ∧ (a - 268435456) % 4096 < 8 ∧ (a - 268435456) / 4096 < n then (a - 268435456) / 4096 else -1
theorem inB_uart {n k : Nat} {a : Int} (hn : n ≤ 8) (hk : k < n) : inB a (268435456 + 4096 * (k : Int)) 8 = decide (uaI n a = (k : Int)) := by
  unfold inB uaI
  rw [Bool.eq_iff_iff, decide_eq_true_eq, decide_eq_true_eq]
  split <;> omega
theorem uaI_bd (n : Nat) (a : Int) : uaI n a = -1 ∨ ∃ q : Nat, uaI n a = q ∧ q < n := by
  unfold uaI
  split
  · rename_i h; exact .inr ⟨((a - 268435456) / 4096).toNat, by omega, by omega⟩
  · exact .inl rfl
def UaE (w : World) (q : Int) (e : Ending) (w' : World) : Prop := e = .returned (.int .i64 q) ∧ w = w'
set_option maxHeartbeats 1000000 in
theorem refUart_any {w : World} {b g : Nat} {K : Nat → Nat} {vp : Value} {ul : List Nat} {N : Nat} {st : BS} (h : BusR w b K g vp ul N st) (a : Int) (ha : In64 a) :
    Calls Tryz.prog 100 #[.pointer (some ⟨b, 0, none⟩), .int .u64 a] w (UaE w (uaI ul.length a)) := by
  have c0 := h.obj.uarts_
  have hle := h.le
  obtain ⟨av, cv, rfl, hcap⟩ := h.uarts.len
  have HA := Lib.hid ha
  have HIU : Hid (∀ k : Nat, k < ul.length → inB a (268435456 + 4096 * (k : Int)) 8 = decide (uaI ul.length a = (k : Int))) := Lib.hid fun k hk => inB_uart hle hk
  have HBD := Lib.hid (uaI_bd ul.length a)
  clear h ha
  generalize uaI ul.length a = q at *
  generalize ul.length = n at *
  go_enter Tryz.func100, Tryz.ntmps100
  go_wp2
  go_loop [5] (fun i => ∃ k : Nat, k ≤ n ∧ (∀ j : Nat, j < k → ¬ q = (j : Int)) ∧ i = .int .i64 k) (fun i => (n - (intOf i).toNat))
  case atStart => exact ⟨0, by omega, fun j hj => by omega, rfl⟩
  case round =>
    obtain ⟨k, hk, hno, rfl⟩ := hrel
    have HNO := Lib.hid hno
    clear hno
    by_cases hlt : k < n
    · have hlk : (k : Int) < n := by omega
      have hwr : IntKind.u64.wrap (k : Int) = k := by rw [IntKind.wrap_u64]; omega
      by_cases hq : q = (k : Int)
      · have HI : Hid (inB a (268435456 + 4096 * (k : Int)) 8 = true) := Lib.hid (by rw [HIU.out k hlt, decide_eq_true hq])
        have HQ := Lib.hid hq
        clear hq
        go_wp2_with fail
        (with_reducible refine (in_any a _ 8 HA.out (by omega) _).mono ?_)
        rintro e w2 ⟨rfl, rfl⟩
        rw [HI.out]
        go_wp2
        go_ret
        exact ⟨by rw [HQ.out]; rfl, rfl⟩
      · have HI : Hid (inB a (268435456 + 4096 * (k : Int)) 8 = false) := Lib.hid (by rw [HIU.out k hlt, decide_eq_false hq])
        have HQ := Lib.hid hq
        clear hq
        go_wp2_with fail
        (with_reducible refine (in_any a _ 8 HA.out (by omega) _).mono ?_)
        rintro e w2 ⟨rfl, rfl⟩
        rw [HI.out]
        go_wp2
        go_round
        case rel => exact ⟨k + 1, by omega, fun j hj => by
          by_cases e : j = k
          · subst e; exact HQ.out
          · exact HNO.out j (by omega), by go_num⟩
        case measure => simp [intOf]; omega
    · obtain rfl : k = n := by omega
      have HQ1 : Hid (q = -1) := Lib.hid (by
        rcases HBD.out with h | ⟨j, h1, h2⟩
        · exact h
        · exact absurd h1 (HNO.out j h2))
      clear hk hlt
      go_wp2
      go_ret
      exact ⟨by rw [HQ1.out]; rfl, rfl⟩

/-- drive. -/
def RDriveE (w : World) (b : Nat) (K : Nat → Nat) (g : Nat) (vp : Value) (ul : List Nat) (N : Nat) (st' : BS) (e : Ending) (w' : World) : Prop := (∃ v, e = .returned v) ∧ Only (fun i => i = b) w w' ∧ BusR w' b K g vp ul N st'
set_option maxHeartbeats 1000000 in
theorem refDrive_any {w : World} {b g : Nat} {K : Nat → Nat} {vp : Value} {ul : List Nat} {N : Nat} {st : BS} (h : BusR w b K g vp ul N st) (i : Nat) (hi : i < ul.length) :
    Calls Tryz.prog 102 #[.pointer (some ⟨b, 0, none⟩), .int .i64 i] w (RDriveE w b K g vp ul N (driveS st i)) := by
  obtain ⟨gp, cap, rfl, hcap, e0⟩ := h.uarts.cells hi
  have c0 := h.obj.uarts_
  have hle := h.le
  have HL : Hid (∀ w', BusR w' b K g (.slice (some ⟨gp, 0, none⟩) ul.length cap) ul N st → Calls Tryz.prog 135 #[.pointer (some ⟨ul.getD i 0, 0, none⟩)] w' fun e w'' => e = .returned (.bool (U6.lineU (st.us.getD i U6.u0))) ∧ w' = w'') := Lib.hid fun w' h' => by
    obtain ⟨vi, vo, hu⟩ := h'.uart i hi
    exact U6.refLine_any w' _ _ _ vi vo hu
  have HV : Hid (∀ w', BusR w' b K g (.slice (some ⟨gp, 0, none⟩) ul.length cap) ul N st → Calls Tryz.prog 108 #[.pointer (some ⟨b, 4, none⟩), .int .i64 (10 + (i : Int)), .bool (U6.lineU (st.us.getD i U6.u0))] w' fun e w'' => (∃ v, e = .returned v) ∧ Only (fun i => i = b) w' w'' ∧ BusR w'' b K g (.slice (some ⟨gp, 0, none⟩) ul.length cap) ul N (driveS st i)) := Lib.hid fun w' h' =>
    (P5.In.refLevel_any w' b st.p (10 + (i : Int)) (U6.lineU (st.us.getD i U6.u0)) h'.obj.plic).mono fun e w'' k => ⟨⟨_, k.1⟩, k.2.1, h'.setPlic k.2.1 k.2.2⟩
  have HPD : Hid (BusR w.drew b K g (.slice (some ⟨gp, 0, none⟩) ul.length cap) ul N st) := Lib.hid (h.below (Below.refl _ _).drew)
  have HBD : Hid (Only (fun i => i = b) w w.drew) := Lib.hid ((Only.refl _ w).drewN 1)
  have d0 : w.drew.cell? ⟨b, 198, none⟩ = some (.slice (some ⟨gp, 0, none⟩) ul.length cap) := c0
  have d1 : w.drew.cell? ⟨gp, i, none⟩ = some (.pointer (some ⟨ul.getD i 0, 0, none⟩)) := e0
  have hsum : IntKind.i64.wrap (10 + (i : Int)) = 10 + (i : Int) := IntWalk.i64_in _ (by omega)
  have hlt : (i : Int) < ul.length := by omega
  clear h c0 e0
  generalize U6.lineU (st.us.getD i U6.u0) = r at *
  generalize ul.getD i 0 = ui at *
  generalize driveS st i = st' at *
  generalize hn : ul.length = n at *
  clear hn
  go_enter Tryz.func102, Tryz.ntmps102
  go_wp2_with fail
  go_region_with (first
    | (go_at_call 135; (with_reducible refine (HL.out _ HPD.out).mono ?_); rintro e w' ⟨rfl, rfl⟩)
    | (go_at_call 108; (with_reducible refine (HV.out _ HPD.out).mono ?_); rintro e w2 ⟨⟨v, rfl⟩, ho, hp⟩; have HO2 := Lib.hid (HBD.out.trans ho); have HP2 := Lib.hid hp; clear ho hp))
  all_goals
    go_end0
    exact ⟨⟨_, rfl⟩, HO2.out, HP2.out⟩

end Go.Proofs.YtbcnkhfpogglmaaGreatDoor

namespace Go.Proofs.YtbcnkhfpogglmaaGreatDoor
open Go.RowKit
set_option linter.unusedVariables false
set_option maxRecDepth 100000

section
variable {size a : Int} {n : Nat}
theorem inB_ram (h0 : 4096 ≤ size) (h1 : size ≤ 67108864) (hn : n ≤ 8) : inB a 2147483648 size = decide (regK size n a = 0) := by
  unfold inB regK
  rw [Bool.eq_iff_iff, decide_eq_true_eq, decide_eq_true_eq]
  split
  · omega
  · split
    · omega
    · split
      · omega
      · split <;> omega
theorem inB_clint (h0 : 4096 ≤ size) (h1 : size ≤ 67108864) (hn : n ≤ 8) : inB a 33554432 65536 = decide (regK size n a = 1) := by
  unfold inB regK
  rw [Bool.eq_iff_iff, decide_eq_true_eq, decide_eq_true_eq]
  split
  · omega
  · split
    · omega
    · split
      · omega
      · split <;> omega
theorem inB_plic (h0 : 4096 ≤ size) (h1 : size ≤ 67108864) (hn : n ≤ 8) : inB a 201326592 4194304 = decide (regK size n a = 2) := by
  unfold inB regK
  rw [Bool.eq_iff_iff, decide_eq_true_eq, decide_eq_true_eq]
  split
  · omega
  · split
    · omega
    · split
      · omega
      · split <;> omega
theorem uaI_reg (hn : n ≤ 8) {i : Nat} (h : regK size n a = i + 3) (h11 : i + 3 < 11) : uaI n a = (i : Int) := by
  unfold regK at h
  unfold uaI
  split at h; omega
  split at h; omega
  split at h; omega
  split at h
  · rename_i c; rw [if_pos c]; omega
  · omega
theorem uaI_none (hn : n ≤ 8) (h0 : 4096 ≤ size) (h1 : size ≤ 67108864) (h : regK size n a = 11) : uaI n a = -1 := by
  unfold regK at h
  unfold uaI
  split at h; omega
  split at h; omega
  split at h; omega
  split at h
  · omega
  · rename_i c; rw [if_neg c]
end
section
variable {w w' w1 : World} {b g : Nat} {K : Nat → Nat} {vp : Value} {ul : List Nat} {N : Nat} {st : BS}
theorem BusR.uartEnd (h : BusR w b K g vp ul N st) {i : Nat} (hi : i < ul.length) {r : Value} {t' : U6.US} {e : Ending} (k : U6.TellR w (ul.getD i 0) (fun x => K x = 3 + i) r t' e w') : RefBE w b K g vp ul N r (uartS st i t') e w' := by
  obtain ⟨he, k⟩ := k
  exact ⟨he, k.1.mono fun x hx => .inl (by show ¬ K x = 0; have : K x = 3 + i := hx; omega), _, relabel_grow w K (3 + i) w', h.setUart hi k⟩
theorem BusR.plicEnd (h : BusR w b K g vp ul N st) {r : Value} {p' : P5.PS} {e : Ending} (k : P5.In.RefPEnd (fqP g st.c vp) w b r p' e w') : RefBE w b K g vp ul N r { st with p := p' } e w' :=
  ⟨k.1, k.2.1.mono fun i hi => .inl (by subst hi; rw [h.kb]; omega), K, Grow.refl _ _, h.setPlic k.2.1 k.2.2⟩
theorem BusR.clintEnd (h : BusR w b K g vp ul N st) {r : Value} {c' : C4.Cl} {e : Ending} (k : C4.In.RefEnd (fqC g st.p vp) w b r c' e w') : RefBE w b K g vp ul N r { st with c := c' } e w' :=
  ⟨k.1, k.2.1.mono fun i hi => .inl (by subst hi; rw [h.kb]; omega), K, Grow.refl _ _, h.setClint k.2.1 k.2.2⟩
theorem BusR.ramRd (h : BusR w b K g vp ul N st) {q : Int × Bool} {e : Ending} (k : M3.ReadEnd w q e w') : RefBE w b K g vp ul N (.tuple #[.int .u64 q.1, .bool q.2]) st e w' := by
  obtain ⟨rfl, kb⟩ := k; exact h.end_same kb
theorem BusR.clRd (h : BusR w b K g vp ul N st) {x : Int} {r : Bool} {e : Ending} (k : C4.ReadC w x r e w') : RefBE w b K g vp ul N (.tuple #[.int .u64 x, .bool r]) st e w' := by
  obtain ⟨rfl, kb⟩ := k; exact h.end_same kb
theorem BusR.memEnd (h : BusR w b K g vp ul N st) {N' : Nat} {m' : Int → Int} {r : Bool} {e : Ending} (k : ∀ gl, M3.RefMem w g gl 2147483648 st.size N st.m → M3.MemEnd w g gl 2147483648 st.size N' m' r e w') : RefBE w b K g vp ul N' (.bool r) { st with m := m' } e w' := by
  obtain ⟨he, o, hp⟩ := h.setMem k
  exact ⟨he, o.mono fun i hi => .inl (by show ¬ K i = 0; have : K i = 2 := hi; omega), _, relabel_grow w K 2 w', hp⟩
theorem RefBE.more {N' : Nat} {r : Value} {st' : BS} {e : Ending} (hN : N ≤ N') (k : RefBE w b K g vp ul N r st' e w') : RefBE w b K g vp ul N' r st' e w' := by
  obtain ⟨he, o, K', hg, hp⟩ := k
  exact ⟨he, o, K', hg, hp.more hN⟩
theorem RDriveE.end {K1 : Nat → Nat} {st1 st' : BS} {r : Value} {e : Ending} (o : Only (fun i => ¬ K i = 0) w w1) (hg : Grow w K K1) (h1 : BusR w1 b K1 g vp ul N st1) (k : RDriveE w1 b K1 g vp ul N st' e w') : RefBE w b K g vp ul N r st' (.returned r) w' := by
  obtain ⟨_, o2, hp⟩ := k
  refine ⟨rfl, o.step o2 fun i hi => ?_, K1, hg, hp⟩
  subst hi
  by_cases c : i < w.heap.size
  · left; rw [← hg i c, h1.kb]; omega
  · right; omega
theorem BusR.sizeCell (h : BusR w b K g vp ul N st) : w.cell? ⟨g, 1, none⟩ = some (.int .u64 st.size) := by
  obtain ⟨hg, gl, hl, l, ⟨a, c, h1, _⟩, _⟩ := h.mem
  rw [cell_of_row w g 1 _ _ _ h1]; rfl
end
theorem refRead_none_bus (a n : Int) (w : World) : Calls Tryz.prog 56 #[.pointer none, .int .u64 a, .int .i64 n] w fun e w' => e = .returned (.tuple #[.int .u64 0, .bool false]) ∧ w = w' := by
  go_enter Tryz.func56, Tryz.ntmps56
  go_wp2
  go_ret2
  exact ⟨rfl, rfl⟩
theorem refWrite_none_bus (a n v : Int) (w : World) : Calls Tryz.prog 55 #[.pointer none, .int .u64 a, .int .i64 n, .int .u64 v] w fun e w' => e = .returned (.bool false) ∧ w = w' := by
  go_enter Tryz.func55, Tryz.ntmps55
  go_wp2
  go_ret
  exact ⟨rfl, rfl⟩

set_option maxHeartbeats 1000000 in
theorem refRead7_ram {w : World} {b g : Nat} {K : Nat → Nat} {vp : Value} {ul : List Nat} {N : Nat} {st : BS} (h : BusR w b K g vp ul N st) (a n : Int) (ha : In64 a) (hk : M3.okN n = true) (hq : regK st.size ul.length a = 0) (X : Int) (r : Bool) (st' : BS)
    (hC : Calls Tryz.prog 105 #[.pointer (some ⟨g, 0, none⟩), .int .u64 (offK ul.length 0 a), .int .i64 n] w (RefBE w b K g vp ul N (.tuple #[.int .u64 X, .bool r]) st')) :
    Calls Tryz.prog 56 #[.pointer (some ⟨b, 0, none⟩), .int .u64 a, .int .i64 n] w (RefBE w b K g vp ul N (.tuple #[.int .u64 X, .bool r]) st') := by
  have HI1 : Hid (inB a 33554432 65536 = false) := Lib.hid (by rw [inB_clint (a := a) (n := ul.length) h.fits.2.1 h.fits.2.2.1 h.le, hq]; rfl)
  have HI2 : Hid (inB a 201326592 4194304 = false) := Lib.hid (by rw [inB_plic (a := a) (n := ul.length) h.fits.2.1 h.fits.2.2.1 h.le, hq]; rfl)
  have HI0 : Hid (inB a 2147483648 st.size = true) := Lib.hid (by rw [inB_ram (a := a) (n := ul.length) h.fits.2.1 h.fits.2.2.1 h.le, hq]; rfl)
  have c0 := h.obj.ram_
  have cs := h.sizeCell
  obtain ⟨k1, k2, k3⟩ := h.obj.clint_
  have HK := Lib.hid hk
  have HA := Lib.hid ha
  have HC := Lib.hid hC
  clear hC h hk hq ha
  rw [show offK ul.length 0 a = a from rfl] at HC
  generalize st.size = sz at *
  generalize C4.sI st.c.s = k1v at *
  generalize st.c.c = k2v at *
  generalize st.c.n = k3v at *
  go_enter Tryz.func56, Tryz.ntmps56
  go_wp2_with fail
  (with_reducible refine (width_any _ _).mono ?_)
  rintro e x1 ⟨rfl, rfl⟩
  rw [HK.out]
  go_wp2_with fail
  (with_reducible refine (in_any a _ _ HA.out (by omega) _).mono ?_)
  rintro e x2 ⟨rfl, rfl⟩
  rw [HI1.out]
  go_wp2_with fail
  (with_reducible refine (in_any a _ _ HA.out (by omega) _).mono ?_)
  rintro e x2 ⟨rfl, rfl⟩
  rw [HI2.out]
  go_wp2_with fail
  (with_reducible refine (in_any a _ _ HA.out (by omega) _).mono ?_)
  rintro e x2 ⟨rfl, rfl⟩
  rw [HI0.out]
  go_wp2_with fail
  (with_reducible refine HC.out.mono ?_)
  rintro e w4 hE
  obtain ⟨rfl, _⟩ := id hE
  have HE := Lib.hid hE
  clear hE
  go_wp2
  go_ret2
  exact HE.out

set_option maxHeartbeats 1000000 in
theorem refRead7_clint {w : World} {b g : Nat} {K : Nat → Nat} {vp : Value} {ul : List Nat} {N : Nat} {st : BS} (h : BusR w b K g vp ul N st) (a n : Int) (ha : In64 a) (hk : M3.okN n = true) (hq : regK st.size ul.length a = 1) (X : Int) (r : Bool) (st' : BS)
    (hC : Calls Tryz.prog 103 #[.agg #[.int .u64 (C4.sI st.c.s), .int .u64 st.c.c, .int .u64 st.c.n], .int .u64 (offK ul.length 1 a), .int .i64 n] w (RefBE w b K g vp ul N (.tuple #[.int .u64 X, .bool r]) st')) :
    Calls Tryz.prog 56 #[.pointer (some ⟨b, 0, none⟩), .int .u64 a, .int .i64 n] w (RefBE w b K g vp ul N (.tuple #[.int .u64 X, .bool r]) st') := by
  have HI1 : Hid (inB a 33554432 65536 = true) := Lib.hid (by rw [inB_clint (a := a) (n := ul.length) h.fits.2.1 h.fits.2.2.1 h.le, hq]; rfl)
  have HI2 : Hid (inB a 201326592 4194304 = false) := Lib.hid (by rw [inB_plic (a := a) (n := ul.length) h.fits.2.1 h.fits.2.2.1 h.le, hq]; rfl)
  have HI0 : Hid (inB a 2147483648 st.size = false) := Lib.hid (by rw [inB_ram (a := a) (n := ul.length) h.fits.2.1 h.fits.2.2.1 h.le, hq]; rfl)
  have hw := (offK_is hq h.le (by omega) ha h.fits.2.1 h.fits.2.2.1).1
  rw [if_neg (by omega), show regBase ul.length 1 = 33554432 from rfl] at hw
  have c0 := h.obj.ram_
  have cs := h.sizeCell
  obtain ⟨k1, k2, k3⟩ := h.obj.clint_
  have HK := Lib.hid hk
  have HA := Lib.hid ha
  have HC := Lib.hid hC
  clear hC h hk hq ha
  generalize offK ul.length 1 a = D at *
  generalize st.size = sz at *
  generalize C4.sI st.c.s = k1v at *
  generalize st.c.c = k2v at *
  generalize st.c.n = k3v at *
  go_enter Tryz.func56, Tryz.ntmps56
  go_wp2_with fail
  (with_reducible refine (width_any _ _).mono ?_)
  rintro e x1 ⟨rfl, rfl⟩
  rw [HK.out]
  go_wp2_with fail
  (with_reducible refine (in_any a _ _ HA.out (by omega) _).mono ?_)
  rintro e x2 ⟨rfl, rfl⟩
  rw [HI1.out]
  go_wp2_with fail
  (with_reducible refine HC.out.mono ?_)
  rintro e w4 hE
  obtain ⟨rfl, _⟩ := id hE
  have HE := Lib.hid hE
  clear hE
  go_wp2
  go_ret2
  exact HE.out

set_option maxHeartbeats 1000000 in
theorem refRead7_plic {w : World} {b g : Nat} {K : Nat → Nat} {vp : Value} {ul : List Nat} {N : Nat} {st : BS} (h : BusR w b K g vp ul N st) (a n : Int) (ha : In64 a) (hk : M3.okN n = true) (hq : regK st.size ul.length a = 2) (X : Int) (r : Bool) (st' : BS)
    (hC : Calls Tryz.prog 104 #[.pointer (some ⟨b, 4, none⟩), .int .u64 (offK ul.length 2 a), .int .i64 n] w (RefBE w b K g vp ul N (.tuple #[.int .u64 X, .bool r]) st')) :
    Calls Tryz.prog 56 #[.pointer (some ⟨b, 0, none⟩), .int .u64 a, .int .i64 n] w (RefBE w b K g vp ul N (.tuple #[.int .u64 X, .bool r]) st') := by
  have HI1 : Hid (inB a 33554432 65536 = false) := Lib.hid (by rw [inB_clint (a := a) (n := ul.length) h.fits.2.1 h.fits.2.2.1 h.le, hq]; rfl)
  have HI2 : Hid (inB a 201326592 4194304 = true) := Lib.hid (by rw [inB_plic (a := a) (n := ul.length) h.fits.2.1 h.fits.2.2.1 h.le, hq]; rfl)
  have HI0 : Hid (inB a 2147483648 st.size = false) := Lib.hid (by rw [inB_ram (a := a) (n := ul.length) h.fits.2.1 h.fits.2.2.1 h.le, hq]; rfl)
  have hw := (offK_is hq h.le (by omega) ha h.fits.2.1 h.fits.2.2.1).1
  rw [if_neg (by omega), show regBase ul.length 2 = 201326592 from rfl] at hw
  have c0 := h.obj.ram_
  have cs := h.sizeCell
  obtain ⟨k1, k2, k3⟩ := h.obj.clint_
  have HK := Lib.hid hk
  have HA := Lib.hid ha
  have HC := Lib.hid hC
  clear hC h hk hq ha
  generalize offK ul.length 2 a = D at *
  generalize st.size = sz at *
  generalize C4.sI st.c.s = k1v at *
  generalize st.c.c = k2v at *
  generalize st.c.n = k3v at *
  go_enter Tryz.func56, Tryz.ntmps56
  go_wp2_with fail
  (with_reducible refine (width_any _ _).mono ?_)
  rintro e x1 ⟨rfl, rfl⟩
  rw [HK.out]
  go_wp2_with fail
  (with_reducible refine (in_any a _ _ HA.out (by omega) _).mono ?_)
  rintro e x2 ⟨rfl, rfl⟩
  rw [HI1.out]
  go_wp2_with fail
  (with_reducible refine (in_any a _ _ HA.out (by omega) _).mono ?_)
  rintro e x2 ⟨rfl, rfl⟩
  rw [HI2.out]
  go_wp2_with fail
  (with_reducible refine HC.out.mono ?_)
  rintro e w4 hE
  obtain ⟨rfl, _⟩ := id hE
  have HE := Lib.hid hE
  clear hE
  go_wp2
  go_ret2
  exact HE.out

set_option maxHeartbeats 1000000 in
theorem refRead7_uart {w : World} {b g : Nat} {K : Nat → Nat} {vp : Value} {ul : List Nat} {N : Nat} {st : BS} (h : BusR w b K g vp ul N st) (a n : Int) (ha : In64 a) (hk : M3.okN n = true) (i : Nat) (hq : regK st.size ul.length a = i + 3) (h11 : i + 3 < 11) :
    Calls Tryz.prog 56 #[.pointer (some ⟨b, 0, none⟩), .int .u64 a, .int .i64 n] w (RefBE w b K g vp ul N (.tuple #[.int .u64 (rdR st (offK ul.length (i + 3) a) n (i + 3)).1, .bool (rdR st (offK ul.length (i + 3) a) n (i + 3)).2.1]) (rdR st (offK ul.length (i + 3) a) n (i + 3)).2.2) := by
  have hi := regK_port hq h11
  have hof := offK_is hq h.le h11 ha h.fits.2.1 h.fits.2.2.1
  have HU : Hid (∀ w', BusR w' b K g vp ul N st → Calls Tryz.prog 106 #[.pointer (some ⟨ul.getD i 0, 0, none⟩), .int .u64 (offK ul.length (i + 3) a), .int .i64 n] w' (RefBE w' b K g vp ul N (.tuple #[.int .u64 (U6.rdX (st.us.getD i U6.u0) (U6.plK (st.us.getD i U6.u0) (offK ul.length (i + 3) a) n)), .bool (U6.okK (U6.plK (st.us.getD i U6.u0) (offK ul.length (i + 3) a) n))]) (uartS st i (U6.rdT (st.us.getD i U6.u0) (U6.plK (st.us.getD i U6.u0) (offK ul.length (i + 3) a) n))))) := Lib.hid fun w' h' =>
    (U6.refRead_any w' _ _ _ (h'.uart i hi) _ n hof.2).mono fun e w'' k => h'.uartEnd hi k
  have HD : Hid (∀ w' K', BusR w' b K' g vp ul N (uartS st i (U6.rdT (st.us.getD i U6.u0) (U6.plK (st.us.getD i U6.u0) (offK ul.length (i + 3) a) n))) → Calls Tryz.prog 102 #[.pointer (some ⟨b, 0, none⟩), .int .i64 i] w' (RDriveE w' b K' g vp ul N (driveS (uartS st i (U6.rdT (st.us.getD i U6.u0) (U6.plK (st.us.getD i U6.u0) (offK ul.length (i + 3) a) n))) i))) := Lib.hid fun w' K' h' => refDrive_any h' i hi
  show Calls Tryz.prog 56 #[.pointer (some ⟨b, 0, none⟩), .int .u64 a, .int .i64 n] w (RefBE w b K g vp ul N (.tuple #[.int .u64 (U6.rdX (st.us.getD i U6.u0) (U6.plK (st.us.getD i U6.u0) (offK ul.length (i + 3) a) n)), .bool (U6.okK (U6.plK (st.us.getD i U6.u0) (offK ul.length (i + 3) a) n))]) (driveS (uartS st i (U6.rdT (st.us.getD i U6.u0) (U6.plK (st.us.getD i U6.u0) (offK ul.length (i + 3) a) n))) i))
  have HI1 : Hid (inB a 33554432 65536 = false) := Lib.hid (by rw [inB_clint (a := a) (n := ul.length) h.fits.2.1 h.fits.2.2.1 h.le, hq, decide_eq_false (by omega)])
  have HI2 : Hid (inB a 201326592 4194304 = false) := Lib.hid (by rw [inB_plic (a := a) (n := ul.length) h.fits.2.1 h.fits.2.2.1 h.le, hq, decide_eq_false (by omega)])
  have HI0 : Hid (inB a 2147483648 st.size = false) := Lib.hid (by rw [inB_ram (a := a) (n := ul.length) h.fits.2.1 h.fits.2.2.1 h.le, hq, decide_eq_false (by omega)])
  have HUI : Hid (uaI ul.length a = (i : Int)) := Lib.hid (uaI_reg (size := st.size) h.le hq h11)
  have HUA := Lib.hid (refUart_any h a ha)
  obtain ⟨gp, cap, hvp, hcap, e0⟩ := h.uarts.cells hi
  have c0 := h.obj.ram_
  have cs := h.sizeCell
  have cu := h.obj.uarts_
  rw [hvp] at cu
  have hle := h.le
  have hoff : offK ul.length (i + 3) a = a - (268435456 + 4096 * (i : Int)) := by
    unfold offK regBase
    rw [if_neg (by omega), if_neg (by omega), if_neg (by omega), if_neg (by omega), if_pos (by omega)]
    omega
  have hge : 268435456 ≤ a := by
    have := hof.2; rw [hoff] at this; unfold In64 at this; omega
  obtain ⟨D1, hD1⟩ : ∃ D1, a - 268435456 = D1 := ⟨_, rfl⟩
  have hw1 : IntKind.u64.wrap (a - 268435456) = D1 := by rw [IntKind.wrap_u64, ← hD1]; unfold In64 at ha; omega
  have hw2 : IntKind.u64.wrap (D1 - 4096 * (i : Int)) = offK ul.length (i + 3) a := by
    rw [hoff, IntKind.wrap_u64]; have := hof.2; rw [hoff] at this; unfold In64 at this; omega
  have hwi : IntKind.u64.wrap (i : Int) = i := by rw [IntKind.wrap_u64]; omega
  have hlt : (i : Int) < ul.length := by omega
  have HK := Lib.hid hk
  have HA := Lib.hid ha
  have H := Lib.hid h
  have HCAP := Lib.hid hcap
  clear h hk hq ha hof hoff hD1 hge hvp
  generalize (U6.rdT (st.us.getD i U6.u0) (U6.plK (st.us.getD i U6.u0) (offK ul.length (i + 3) a) n)) = ts at *
  generalize (U6.plK (st.us.getD i U6.u0) (offK ul.length (i + 3) a) n) = pk at *
  generalize U6.rdX (st.us.getD i U6.u0) pk = rx at *
  generalize U6.okK pk = r at *
  generalize offK ul.length (i + 3) a = D at *
  generalize ul.getD i 0 = uv at *
  generalize st.size = sz at *
  generalize driveS (uartS st i ts) i = st2 at *
  generalize uartS st i ts = st1 at *
  go_enter Tryz.func56, Tryz.ntmps56
  go_wp2_with fail
  (with_reducible refine (width_any _ _).mono ?_)
  rintro e x1 ⟨rfl, rfl⟩
  rw [HK.out]
  go_wp2_with fail
  (with_reducible refine (in_any a _ _ HA.out (by omega) _).mono ?_)
  rintro e x2 ⟨rfl, rfl⟩
  rw [HI1.out]
  go_wp2_with fail
  (with_reducible refine (in_any a _ _ HA.out (by omega) _).mono ?_)
  rintro e x2 ⟨rfl, rfl⟩
  rw [HI2.out]
  go_wp2_with fail
  (with_reducible refine (in_any a _ _ HA.out (by omega) _).mono ?_)
  rintro e x2 ⟨rfl, rfl⟩
  rw [HI0.out]
  go_wp2_with fail
  (with_reducible refine HUA.out.mono ?_)
  rintro e x3 ⟨rfl, rfl⟩
  rw [HUI.out]
  go_wp2_with fail
  (with_reducible refine (HU.out _ H.out).mono ?_)
  rintro e w4 ⟨rfl, ho, K1, hg, hp⟩
  have HO4 := Lib.hid ho
  have HG4 := Lib.hid hg
  have HP4 := Lib.hid hp
  clear ho hg hp
  go_wp2_with fail
  (with_reducible refine (HD.out _ K1 HP4.out).mono ?_)
  rintro e w5 hE
  obtain ⟨⟨u5, rfl⟩, _⟩ := id hE
  have HE := Lib.hid hE
  clear hE
  go_wp2
  go_ret2
  exact RDriveE.end HO4.out HG4.out HP4.out HE.out

theorem refRead7_none {w : World} {b g : Nat} {K : Nat → Nat} {vp : Value} {ul : List Nat} {N : Nat} {st : BS} (h : BusR w b K g vp ul N st) (a n : Int) (ha : In64 a) (hf : ¬ (M3.okN n = true ∧ regK st.size ul.length a < 11)) :
    Calls Tryz.prog 56 #[.pointer (some ⟨b, 0, none⟩), .int .u64 a, .int .i64 n] w (RefBE w b K g vp ul N (.tuple #[.int .u64 0, .bool false]) st) := by
  cases hk : M3.okN n with
  | false =>
    have HK := Lib.hid hk
    have H := Lib.hid h
    clear h hk ha hf
    go_enter Tryz.func56, Tryz.ntmps56
    go_wp2_with fail
    (with_reducible refine (width_any _ _).mono ?_)
    rintro e x1 ⟨rfl, rfl⟩
    rw [HK.out]
    go_wp2
    go_ret2
    exact H.out.end_same (Below.refl _ _)
  | true =>
    have hq : regK st.size ul.length a = 11 := by
      have := regK_le (size := st.size) (a := a) h.le
      by_cases c : regK st.size ul.length a < 11
      · exact absurd ⟨hk, c⟩ hf
      · omega
    have HI1 : Hid (inB a 33554432 65536 = false) := Lib.hid (by rw [inB_clint (a := a) (n := ul.length) h.fits.2.1 h.fits.2.2.1 h.le, hq]; rfl)
    have HI2 : Hid (inB a 201326592 4194304 = false) := Lib.hid (by rw [inB_plic (a := a) (n := ul.length) h.fits.2.1 h.fits.2.2.1 h.le, hq]; rfl)
    have HI0 : Hid (inB a 2147483648 st.size = false) := Lib.hid (by rw [inB_ram (a := a) (n := ul.length) h.fits.2.1 h.fits.2.2.1 h.le, hq]; rfl)
    have HUI : Hid (uaI ul.length a = -1) := Lib.hid (uaI_none (size := st.size) h.le h.fits.2.1 h.fits.2.2.1 hq)
    have HUA := Lib.hid (refUart_any h a ha)
    have c0 := h.obj.ram_
    have cs := h.sizeCell
    have HK := Lib.hid hk
    have HA := Lib.hid ha
    have H := Lib.hid h
    clear h hk ha hf hq
    generalize st.size = sz at *
    go_enter Tryz.func56, Tryz.ntmps56
    go_wp2_with fail
    (with_reducible refine (width_any _ _).mono ?_)
    rintro e x1 ⟨rfl, rfl⟩
    rw [HK.out]
    go_wp2_with fail
    (with_reducible refine (in_any a _ _ HA.out (by omega) _).mono ?_)
    rintro e x2 ⟨rfl, rfl⟩
    rw [HI1.out]
    go_wp2_with fail
    (with_reducible refine (in_any a _ _ HA.out (by omega) _).mono ?_)
    rintro e x2 ⟨rfl, rfl⟩
    rw [HI2.out]
    go_wp2_with fail
    (with_reducible refine (in_any a _ _ HA.out (by omega) _).mono ?_)
    rintro e x2 ⟨rfl, rfl⟩
    rw [HI0.out]
    go_wp2_with fail
    (with_reducible refine HUA.out.mono ?_)
    rintro e x3 ⟨rfl, rfl⟩
    rw [HUI.out]
    go_wp2
    go_ret2
    exact H.out.end_same (Below.refl _ _)

set_option maxHeartbeats 1000000 in
theorem refWrite7_ram {w : World} {b g : Nat} {K : Nat → Nat} {vp : Value} {ul : List Nat} {N : Nat} {st : BS} (h : BusR w b K g vp ul N st) (a n v : Int) (ha : In64 a) (hk : M3.okN n = true) (hq : regK st.size ul.length a = 0) (r : Bool) (st' : BS)
    (hC : Calls Tryz.prog 61 #[.pointer (some ⟨g, 0, none⟩), .int .u64 (offK ul.length 0 a), .int .i64 n, .int .u64 v] w (RefBE w b K g vp ul (N + 8) (.bool r) st')) :
    Calls Tryz.prog 55 #[.pointer (some ⟨b, 0, none⟩), .int .u64 a, .int .i64 n, .int .u64 v] w (RefBE w b K g vp ul (N + 8) (.bool r) st') := by
  have HI1 : Hid (inB a 33554432 65536 = false) := Lib.hid (by rw [inB_clint (a := a) (n := ul.length) h.fits.2.1 h.fits.2.2.1 h.le, hq]; rfl)
  have HI2 : Hid (inB a 201326592 4194304 = false) := Lib.hid (by rw [inB_plic (a := a) (n := ul.length) h.fits.2.1 h.fits.2.2.1 h.le, hq]; rfl)
  have HI0 : Hid (inB a 2147483648 st.size = true) := Lib.hid (by rw [inB_ram (a := a) (n := ul.length) h.fits.2.1 h.fits.2.2.1 h.le, hq]; rfl)
  have c0 := h.obj.ram_
  have cs := h.sizeCell
  obtain ⟨k1, k2, k3⟩ := h.obj.clint_
  have HK := Lib.hid hk
  have HA := Lib.hid ha
  have HC := Lib.hid hC
  clear hC h hk hq ha
  rw [show offK ul.length 0 a = a from rfl] at HC
  generalize st.size = sz at *
  generalize C4.sI st.c.s = k1v at *
  generalize st.c.c = k2v at *
  generalize st.c.n = k3v at *
  go_enter Tryz.func55, Tryz.ntmps55
  go_wp2_with fail
  (with_reducible refine (width_any _ _).mono ?_)
  rintro e x1 ⟨rfl, rfl⟩
  rw [HK.out]
  go_wp2_with fail
  (with_reducible refine (in_any a _ _ HA.out (by omega) _).mono ?_)
  rintro e x2 ⟨rfl, rfl⟩
  rw [HI1.out]
  go_wp2_with fail
  (with_reducible refine (in_any a _ _ HA.out (by omega) _).mono ?_)
  rintro e x2 ⟨rfl, rfl⟩
  rw [HI2.out]
  go_wp2_with fail
  (with_reducible refine (in_any a _ _ HA.out (by omega) _).mono ?_)
  rintro e x2 ⟨rfl, rfl⟩
  rw [HI0.out]
  go_wp2_with fail
  (with_reducible refine HC.out.mono ?_)
  rintro e w4 hE
  obtain ⟨rfl, _⟩ := id hE
  have HE := Lib.hid hE
  clear hE
  go_wp2
  go_ret
  exact HE.out

set_option maxHeartbeats 1000000 in
theorem refWrite7_clint {w : World} {b g : Nat} {K : Nat → Nat} {vp : Value} {ul : List Nat} {N : Nat} {st : BS} (h : BusR w b K g vp ul N st) (a n v : Int) (ha : In64 a) (hk : M3.okN n = true) (hq : regK st.size ul.length a = 1) (r : Bool) (st' : BS)
    (hC : Calls Tryz.prog 98 #[.pointer (some ⟨b, 1, none⟩), .int .u64 (offK ul.length 1 a), .int .i64 n, .int .u64 v] w (RefBE w b K g vp ul (N + 8) (.bool r) st')) :
    Calls Tryz.prog 55 #[.pointer (some ⟨b, 0, none⟩), .int .u64 a, .int .i64 n, .int .u64 v] w (RefBE w b K g vp ul (N + 8) (.bool r) st') := by
  have HI1 : Hid (inB a 33554432 65536 = true) := Lib.hid (by rw [inB_clint (a := a) (n := ul.length) h.fits.2.1 h.fits.2.2.1 h.le, hq]; rfl)
  have HI2 : Hid (inB a 201326592 4194304 = false) := Lib.hid (by rw [inB_plic (a := a) (n := ul.length) h.fits.2.1 h.fits.2.2.1 h.le, hq]; rfl)
  have HI0 : Hid (inB a 2147483648 st.size = false) := Lib.hid (by rw [inB_ram (a := a) (n := ul.length) h.fits.2.1 h.fits.2.2.1 h.le, hq]; rfl)
  have hw := (offK_is hq h.le (by omega) ha h.fits.2.1 h.fits.2.2.1).1
  rw [if_neg (by omega), show regBase ul.length 1 = 33554432 from rfl] at hw
  have c0 := h.obj.ram_
  have cs := h.sizeCell
  obtain ⟨k1, k2, k3⟩ := h.obj.clint_
  have HK := Lib.hid hk
  have HA := Lib.hid ha
  have HC := Lib.hid hC
  clear hC h hk hq ha
  generalize offK ul.length 1 a = D at *
  generalize st.size = sz at *
  generalize C4.sI st.c.s = k1v at *
  generalize st.c.c = k2v at *
  generalize st.c.n = k3v at *
  go_enter Tryz.func55, Tryz.ntmps55
  go_wp2_with fail
  (with_reducible refine (width_any _ _).mono ?_)
  rintro e x1 ⟨rfl, rfl⟩
  rw [HK.out]
  go_wp2_with fail
  (with_reducible refine (in_any a _ _ HA.out (by omega) _).mono ?_)
  rintro e x2 ⟨rfl, rfl⟩
  rw [HI1.out]
  go_wp2_with fail
  (with_reducible refine HC.out.mono ?_)
  rintro e w4 hE
  obtain ⟨rfl, _⟩ := id hE
  have HE := Lib.hid hE
  clear hE
  go_wp2
  go_ret
  exact HE.out

set_option maxHeartbeats 1000000 in
theorem refWrite7_plic {w : World} {b g : Nat} {K : Nat → Nat} {vp : Value} {ul : List Nat} {N : Nat} {st : BS} (h : BusR w b K g vp ul N st) (a n v : Int) (ha : In64 a) (hk : M3.okN n = true) (hq : regK st.size ul.length a = 2) (r : Bool) (st' : BS)
    (hC : Calls Tryz.prog 99 #[.pointer (some ⟨b, 4, none⟩), .int .u64 (offK ul.length 2 a), .int .i64 n, .int .u64 v] w (RefBE w b K g vp ul (N + 8) (.bool r) st')) :
    Calls Tryz.prog 55 #[.pointer (some ⟨b, 0, none⟩), .int .u64 a, .int .i64 n, .int .u64 v] w (RefBE w b K g vp ul (N + 8) (.bool r) st') := by
  have HI1 : Hid (inB a 33554432 65536 = false) := Lib.hid (by rw [inB_clint (a := a) (n := ul.length) h.fits.2.1 h.fits.2.2.1 h.le, hq]; rfl)
  have HI2 : Hid (inB a 201326592 4194304 = true) := Lib.hid (by rw [inB_plic (a := a) (n := ul.length) h.fits.2.1 h.fits.2.2.1 h.le, hq]; rfl)
  have HI0 : Hid (inB a 2147483648 st.size = false) := Lib.hid (by rw [inB_ram (a := a) (n := ul.length) h.fits.2.1 h.fits.2.2.1 h.le, hq]; rfl)
  have hw := (offK_is hq h.le (by omega) ha h.fits.2.1 h.fits.2.2.1).1
  rw [if_neg (by omega), show regBase ul.length 2 = 201326592 from rfl] at hw
  have c0 := h.obj.ram_
  have cs := h.sizeCell
  obtain ⟨k1, k2, k3⟩ := h.obj.clint_
  have HK := Lib.hid hk
  have HA := Lib.hid ha
  have HC := Lib.hid hC
  clear hC h hk hq ha
  generalize offK ul.length 2 a = D at *
  generalize st.size = sz at *
  generalize C4.sI st.c.s = k1v at *
  generalize st.c.c = k2v at *
  generalize st.c.n = k3v at *
  go_enter Tryz.func55, Tryz.ntmps55
  go_wp2_with fail
  (with_reducible refine (width_any _ _).mono ?_)
  rintro e x1 ⟨rfl, rfl⟩
  rw [HK.out]
  go_wp2_with fail
  (with_reducible refine (in_any a _ _ HA.out (by omega) _).mono ?_)
  rintro e x2 ⟨rfl, rfl⟩
  rw [HI1.out]
  go_wp2_with fail
  (with_reducible refine (in_any a _ _ HA.out (by omega) _).mono ?_)
  rintro e x2 ⟨rfl, rfl⟩
  rw [HI2.out]
  go_wp2_with fail
  (with_reducible refine HC.out.mono ?_)
  rintro e w4 hE
  obtain ⟨rfl, _⟩ := id hE
  have HE := Lib.hid hE
  clear hE
  go_wp2
  go_ret
  exact HE.out

set_option maxHeartbeats 1000000 in
theorem refWrite7_uart {w : World} {b g : Nat} {K : Nat → Nat} {vp : Value} {ul : List Nat} {N : Nat} {st : BS} (h : BusR w b K g vp ul N st) (a n v : Int) (ha : In64 a) (hv : In64 v) (hk : M3.okN n = true) (i : Nat) (hq : regK st.size ul.length a = i + 3) (h11 : i + 3 < 11) :
    Calls Tryz.prog 55 #[.pointer (some ⟨b, 0, none⟩), .int .u64 a, .int .i64 n, .int .u64 v] w (RefBE w b K g vp ul N (.bool (wrR st (offK ul.length (i + 3) a) n v (i + 3)).1) (wrR st (offK ul.length (i + 3) a) n v (i + 3)).2) := by
  have hi := regK_port hq h11
  have hof := offK_is hq h.le h11 ha h.fits.2.1 h.fits.2.2.1
  have HU : Hid (∀ w', BusR w' b K g vp ul N st → Calls Tryz.prog 101 #[.pointer (some ⟨ul.getD i 0, 0, none⟩), .int .u64 (offK ul.length (i + 3) a), .int .i64 n, .int .u64 v] w' (RefBE w' b K g vp ul N (.bool (U6.okK (U6.plK (st.us.getD i U6.u0) (offK ul.length (i + 3) a) n))) (uartS st i (U6.wrT (st.us.getD i U6.u0) (v % 256) (U6.plK (st.us.getD i U6.u0) (offK ul.length (i + 3) a) n))))) := Lib.hid fun w' h' =>
    (U6.refWrite_any w' _ _ _ (h'.uart i hi) _ n v hof.2 hv).mono fun e w'' k => h'.uartEnd hi k
  have HD : Hid (∀ w' K', BusR w' b K' g vp ul N (uartS st i (U6.wrT (st.us.getD i U6.u0) (v % 256) (U6.plK (st.us.getD i U6.u0) (offK ul.length (i + 3) a) n))) → Calls Tryz.prog 102 #[.pointer (some ⟨b, 0, none⟩), .int .i64 i] w' (RDriveE w' b K' g vp ul N (driveS (uartS st i (U6.wrT (st.us.getD i U6.u0) (v % 256) (U6.plK (st.us.getD i U6.u0) (offK ul.length (i + 3) a) n))) i))) := Lib.hid fun w' K' h' => refDrive_any h' i hi
  show Calls Tryz.prog 55 #[.pointer (some ⟨b, 0, none⟩), .int .u64 a, .int .i64 n, .int .u64 v] w (RefBE w b K g vp ul N (.bool (U6.okK (U6.plK (st.us.getD i U6.u0) (offK ul.length (i + 3) a) n))) (driveS (uartS st i (U6.wrT (st.us.getD i U6.u0) (v % 256) (U6.plK (st.us.getD i U6.u0) (offK ul.length (i + 3) a) n))) i))
  have HI1 : Hid (inB a 33554432 65536 = false) := Lib.hid (by rw [inB_clint (a := a) (n := ul.length) h.fits.2.1 h.fits.2.2.1 h.le, hq, decide_eq_false (by omega)])
  have HI2 : Hid (inB a 201326592 4194304 = false) := Lib.hid (by rw [inB_plic (a := a) (n := ul.length) h.fits.2.1 h.fits.2.2.1 h.le, hq, decide_eq_false (by omega)])
  have HI0 : Hid (inB a 2147483648 st.size = false) := Lib.hid (by rw [inB_ram (a := a) (n := ul.length) h.fits.2.1 h.fits.2.2.1 h.le, hq, decide_eq_false (by omega)])
  have HUI : Hid (uaI ul.length a = (i : Int)) := Lib.hid (uaI_reg (size := st.size) h.le hq h11)
  have HUA := Lib.hid (refUart_any h a ha)
  obtain ⟨gp, cap, hvp, hcap, e0⟩ := h.uarts.cells hi
  have c0 := h.obj.ram_
  have cs := h.sizeCell
  have cu := h.obj.uarts_
  rw [hvp] at cu
  have hle := h.le
  have hoff : offK ul.length (i + 3) a = a - (268435456 + 4096 * (i : Int)) := by
    unfold offK regBase
    rw [if_neg (by omega), if_neg (by omega), if_neg (by omega), if_neg (by omega), if_pos (by omega)]
    omega
  have hge : 268435456 ≤ a := by
    have := hof.2; rw [hoff] at this; unfold In64 at this; omega
  obtain ⟨D1, hD1⟩ : ∃ D1, a - 268435456 = D1 := ⟨_, rfl⟩
  have hw1 : IntKind.u64.wrap (a - 268435456) = D1 := by rw [IntKind.wrap_u64, ← hD1]; unfold In64 at ha; omega
  have hw2 : IntKind.u64.wrap (D1 - 4096 * (i : Int)) = offK ul.length (i + 3) a := by
    rw [hoff, IntKind.wrap_u64]; have := hof.2; rw [hoff] at this; unfold In64 at this; omega
  have hwi : IntKind.u64.wrap (i : Int) = i := by rw [IntKind.wrap_u64]; omega
  have hlt : (i : Int) < ul.length := by omega
  have HK := Lib.hid hk
  have HA := Lib.hid ha
  have H := Lib.hid h
  have HCAP := Lib.hid hcap
  clear h hk hq ha hof hoff hD1 hge hvp
  generalize (U6.wrT (st.us.getD i U6.u0) (v % 256) (U6.plK (st.us.getD i U6.u0) (offK ul.length (i + 3) a) n)) = ts at *
  generalize (U6.plK (st.us.getD i U6.u0) (offK ul.length (i + 3) a) n) = pk at *
  generalize U6.okK pk = r at *
  generalize offK ul.length (i + 3) a = D at *
  generalize ul.getD i 0 = uv at *
  generalize st.size = sz at *
  generalize driveS (uartS st i ts) i = st2 at *
  generalize uartS st i ts = st1 at *
  go_enter Tryz.func55, Tryz.ntmps55
  go_wp2_with fail
  (with_reducible refine (width_any _ _).mono ?_)
  rintro e x1 ⟨rfl, rfl⟩
  rw [HK.out]
  go_wp2_with fail
  (with_reducible refine (in_any a _ _ HA.out (by omega) _).mono ?_)
  rintro e x2 ⟨rfl, rfl⟩
  rw [HI1.out]
  go_wp2_with fail
  (with_reducible refine (in_any a _ _ HA.out (by omega) _).mono ?_)
  rintro e x2 ⟨rfl, rfl⟩
  rw [HI2.out]
  go_wp2_with fail
  (with_reducible refine (in_any a _ _ HA.out (by omega) _).mono ?_)
  rintro e x2 ⟨rfl, rfl⟩
  rw [HI0.out]
  go_wp2_with fail
  (with_reducible refine HUA.out.mono ?_)
  rintro e x3 ⟨rfl, rfl⟩
  rw [HUI.out]
  go_wp2_with fail
  (with_reducible refine (HU.out _ H.out).mono ?_)
  rintro e w4 ⟨rfl, ho, K1, hg, hp⟩
  have HO4 := Lib.hid ho
  have HG4 := Lib.hid hg
  have HP4 := Lib.hid hp
  clear ho hg hp
  go_wp2_with fail
  (with_reducible refine (HD.out _ K1 HP4.out).mono ?_)
  rintro e w5 hE
  obtain ⟨⟨u5, rfl⟩, _⟩ := id hE
  have HE := Lib.hid hE
  clear hE
  go_wp2
  go_ret
  exact RDriveE.end HO4.out HG4.out HP4.out HE.out

theorem refWrite7_none {w : World} {b g : Nat} {K : Nat → Nat} {vp : Value} {ul : List Nat} {N : Nat} {st : BS} (h : BusR w b K g vp ul N st) (a n v : Int) (ha : In64 a) (hf : ¬ (M3.okN n = true ∧ regK st.size ul.length a < 11)) :
    Calls Tryz.prog 55 #[.pointer (some ⟨b, 0, none⟩), .int .u64 a, .int .i64 n, .int .u64 v] w (RefBE w b K g vp ul N (.bool false) st) := by
  cases hk : M3.okN n with
  | false =>
    have HK := Lib.hid hk
    have H := Lib.hid h
    clear h hk ha hf
    go_enter Tryz.func55, Tryz.ntmps55
    go_wp2_with fail
    (with_reducible refine (width_any _ _).mono ?_)
    rintro e x1 ⟨rfl, rfl⟩
    rw [HK.out]
    go_wp2
    go_ret
    exact H.out.end_same (Below.refl _ _)
  | true =>
    have hq : regK st.size ul.length a = 11 := by
      have := regK_le (size := st.size) (a := a) h.le
      by_cases c : regK st.size ul.length a < 11
      · exact absurd ⟨hk, c⟩ hf
      · omega
    have HI1 : Hid (inB a 33554432 65536 = false) := Lib.hid (by rw [inB_clint (a := a) (n := ul.length) h.fits.2.1 h.fits.2.2.1 h.le, hq]; rfl)
    have HI2 : Hid (inB a 201326592 4194304 = false) := Lib.hid (by rw [inB_plic (a := a) (n := ul.length) h.fits.2.1 h.fits.2.2.1 h.le, hq]; rfl)
    have HI0 : Hid (inB a 2147483648 st.size = false) := Lib.hid (by rw [inB_ram (a := a) (n := ul.length) h.fits.2.1 h.fits.2.2.1 h.le, hq]; rfl)
    have HUI : Hid (uaI ul.length a = -1) := Lib.hid (uaI_none (size := st.size) h.le h.fits.2.1 h.fits.2.2.1 hq)
    have HUA := Lib.hid (refUart_any h a ha)
    have c0 := h.obj.ram_
    have cs := h.sizeCell
    have HK := Lib.hid hk
    have HA := Lib.hid ha
    have H := Lib.hid h
    clear h hk ha hf hq
    generalize st.size = sz at *
    go_enter Tryz.func55, Tryz.ntmps55
    go_wp2_with fail
    (with_reducible refine (width_any _ _).mono ?_)
    rintro e x1 ⟨rfl, rfl⟩
    rw [HK.out]
    go_wp2_with fail
    (with_reducible refine (in_any a _ _ HA.out (by omega) _).mono ?_)
    rintro e x2 ⟨rfl, rfl⟩
    rw [HI1.out]
    go_wp2_with fail
    (with_reducible refine (in_any a _ _ HA.out (by omega) _).mono ?_)
    rintro e x2 ⟨rfl, rfl⟩
    rw [HI2.out]
    go_wp2_with fail
    (with_reducible refine (in_any a _ _ HA.out (by omega) _).mono ?_)
    rintro e x2 ⟨rfl, rfl⟩
    rw [HI0.out]
    go_wp2_with fail
    (with_reducible refine HUA.out.mono ?_)
    rintro e x3 ⟨rfl, rfl⟩
    rw [HUI.out]
    go_wp2
    go_ret
    exact H.out.end_same (Below.refl _ _)

theorem refRead7_any {w : World} {b g : Nat} {K : Nat → Nat} {vp : Value} {ul : List Nat} {N : Nat} {st : BS} (h : BusR w b K g vp ul N st) (a n : Int) (ha : In64 a) :
    Calls Tryz.prog 56 #[.pointer (some ⟨b, 0, none⟩), .int .u64 a, .int .i64 n] w (RefBE w b K g vp ul N (.tuple #[.int .u64 (busRd st a n).1, .bool (busRd st a n).2.1]) (busRd st a n).2.2) := by
  unfold busRd
  rw [h.len]
  by_cases hf : M3.okN n = true ∧ regK st.size ul.length a < 11
  · rw [if_pos hf]
    obtain ⟨hk, hq11⟩ := hf
    have hof := (offK_is (size := st.size) (n := ul.length) (a := a) rfl h.le hq11 ha h.fits.2.1 h.fits.2.2.1).2
    generalize hq : regK st.size ul.length a = q at *
    match q with
    | 0 =>
      obtain ⟨hg, gl, hl, hm⟩ := h.mem
      exact refRead7_ram h a n ha hk hq _ _ _ ((M3.mem_read w g gl _ _ N _ _ n hm h.fits hof).mono fun e w'' k => h.ramRd k)
    | 1 => exact refRead7_clint h a n ha hk hq _ _ _ ((C4.refRead_any w st.c _ n h.cok).mono fun e w'' k => h.clRd k)
    | 2 => exact refRead7_plic h a n ha hk hq _ _ _ ((P5.In.refRead_any w b st.p h.obj.plic _ n hof).mono fun e w'' k => h.plicEnd k)
    | i + 3 => exact refRead7_uart h a n ha hk i hq hq11
  · rw [if_neg hf]
    exact refRead7_none h a n ha hf
theorem refWrite7_any {w : World} {b g : Nat} {K : Nat → Nat} {vp : Value} {ul : List Nat} {N : Nat} {st : BS} (h : BusR w b K g vp ul N st) (a n v : Int) (ha : In64 a) (hv : In64 v) (hN : N < 900000) :
    Calls Tryz.prog 55 #[.pointer (some ⟨b, 0, none⟩), .int .u64 a, .int .i64 n, .int .u64 v] w (RefBE w b K g vp ul (N + 8) (.bool (busWr st a n v).1) (busWr st a n v).2) := by
  unfold busWr
  rw [h.len]
  by_cases hf : M3.okN n = true ∧ regK st.size ul.length a < 11
  · rw [if_pos hf]
    obtain ⟨hk, hq11⟩ := hf
    have hof := (offK_is (size := st.size) (n := ul.length) (a := a) rfl h.le hq11 ha h.fits.2.1 h.fits.2.2.1).2
    generalize hq : regK st.size ul.length a = q at *
    match q with
    | 0 =>
      obtain ⟨hg, gl, hl, hm⟩ := h.mem
      exact refWrite7_ram h a n v ha hk hq _ _ ((M3.mem_write w g gl _ _ N _ _ n v hm h.fits hof hv hN).mono fun e w'' k => by
        obtain ⟨he, o0, g', hg', hR⟩ := k
        obtain ⟨g2, hg2, hlt2, hR2⟩ := M3.RefMem.norm hR
        have o : Only (fun i => K i = 2) w w'' := o0.mono fun i hi => .inl (by subst hi; exact hg)
        refine ⟨he, o.mono fun i hi => .inl (by show ¬ K i = 0; have : K i = 2 := hi; omega), _, relabel_grow w K 2 w'', h.part (by omega) o rfl rfl rfl rfl ⟨relabel_old h.lt (by omega) hg, g2, ?_, hR2⟩ fun i hi => ?_⟩
        · rcases hg2 with rfl | rfl
          · rcases hg' with rfl | hg'
            · exact relabel_old h.lt (by omega) hl
            · exact relabel_new (.inr hg') hlt2
          · exact relabel_old h.lt (by omega) hg
        · exact ((h.uart i hi).keeps o fun x hx => by show ¬ K x = 2; have : K x = 3 + i := hx; omega).mono (fun x hx => relabel_old h.lt (by omega) hx) fun x hx => relabel_in h.lt o.size (by omega) hx)
    | 1 => exact refWrite7_clint h a n v ha hk hq _ _ ((C4.In.refWrite_any w b st.c _ n v (h.obj.clint h.cok) hv).mono fun e w'' k => RefBE.more (by omega) (h.clintEnd k))
    | 2 => exact refWrite7_plic h a n v ha hk hq _ _ ((P5.In.refWrite_any w b st.p h.obj.plic _ n v hof hv).mono fun e w'' k => RefBE.more (by omega) (h.plicEnd k))
    | i + 3 => exact (refWrite7_uart h a n v ha hv hk i hq hq11).mono fun e w'' k => RefBE.more (by omega) k
  · rw [if_neg hf]
    exact (refWrite7_none h a n v ha hf).mono fun e w'' k => RefBE.more (by omega) k

end Go.Proofs.YtbcnkhfpogglmaaGreatDoor

namespace Go.Proofs.YtbcnkhfpogglmaaGreatDoor
open Go.RowKit
set_option linter.unusedVariables false
set_option maxRecDepth 100000

section
variable {w : World} {b g : Nat} {K : Nat → Nat} {vp : Value} {ul : List Nat} {N : Nat} {st : BS}
theorem refLevel_none_bus (s : Int) (u : Bool) (w : World) : Calls Tryz.prog 58 #[.pointer none, .int .i64 s, .bool u] w fun e w' => e = .returned (.bool false) ∧ w = w' := by
  go_enter Tryz.func58, Tryz.ntmps58
  go_wp2
  go_ret
  exact ⟨rfl, rfl⟩
theorem refLevel7_any (h : BusR w b K g vp ul N st) (s : Int) (u : Bool) :
    Calls Tryz.prog 58 #[.pointer (some ⟨b, 0, none⟩), .int .i64 s, .bool u] w (RefBE w b K g vp ul N (.bool (busLv st s u).1) (busLv st s u).2) := by
  unfold busLv
  rw [h.len]
  have HL := Lib.hid (P5.In.refLevel_any w b st.p s u h.obj.plic)
  have H := Lib.hid h
  have cu := h.obj.uarts_
  have hle := h.le
  obtain ⟨av, cv, rfl, hcap⟩ := h.uarts.len
  clear h
  cases hc : isU ul.length (s - 10) with
  | true =>
    rw [if_pos rfl]
    have hb : 10 ≤ s ∧ s < 10 + (ul.length : Int) := by unfold isU at hc; rw [decide_eq_true_eq] at hc; omega
    have hb1 := hb.1
    have hb2 := hb.2
    clear hc hb
    generalize hn : ul.length = n at *
    have HN := Lib.hid hn
    clear hn
    go_enter Tryz.func58, Tryz.ntmps58
    go_wp2
    go_ret
    exact H.out.end_same (Below.refl _ _)
  | false =>
    rw [if_neg (by simp)]
    have hb : ¬ (10 ≤ s ∧ s < 10 + (ul.length : Int)) := by unfold isU at hc; rw [decide_eq_false_iff_not] at hc; omega
    clear hc
    generalize hn : ul.length = n at *
    have HN := Lib.hid hn
    clear hn
    by_cases h10 : 10 ≤ s
    · have h11 : ¬ s < 10 + (n : Int) := fun c => hb ⟨h10, c⟩
      clear hb
      go_enter Tryz.func58, Tryz.ntmps58
      go_wp2_with fail
      (with_reducible refine HL.out.mono ?_)
      rintro e w2 hE
      obtain ⟨rfl, _⟩ := id hE
      have HE := Lib.hid (H.out.plicEnd hE)
      clear hE
      go_wp2
      go_ret
      exact HE.out
    · clear hb
      go_enter Tryz.func58, Tryz.ntmps58
      go_wp2_with fail
      (with_reducible refine HL.out.mono ?_)
      rintro e w2 hE
      obtain ⟨rfl, _⟩ := id hE
      have HE := Lib.hid (H.out.plicEnd hE)
      clear hE
      go_wp2
      go_ret
      exact HE.out
theorem refTick_none_bus (n : Int) (w : World) : Calls Tryz.prog 59 #[.pointer none, .int .u64 n] w fun e w' => (∃ u, e = .returned u) ∧ w = w' := by
  go_enter Tryz.func59, Tryz.ntmps59
  go_wp2
  go_end0
  exact ⟨⟨_, rfl⟩, rfl⟩
def RTickE (w : World) (b : Nat) (K : Nat → Nat) (g : Nat) (vp : Value) (ul : List Nat) (N : Nat) (st' : BS) (e : Ending) (w' : World) : Prop := ∃ u, RefBE w b K g vp ul N u st' e w'
theorem refTick7_any (h : BusR w b K g vp ul N st) (n : Int) (hn : In64 n) :
    Calls Tryz.prog 59 #[.pointer (some ⟨b, 0, none⟩), .int .u64 n] w (RTickE w b K g vp ul N (busTk st n)) := by
  have HT := Lib.hid (C4.In.refTick_any w b st.c n (h.obj.clint h.cok) hn)
  have H := Lib.hid h
  clear h hn
  go_enter Tryz.func59, Tryz.ntmps59
  go_wp2_with fail
  (with_reducible refine HT.out.mono ?_)
  rintro e w2 ⟨⟨v, rfl⟩, ho, hp⟩
  have HE : Hid (RefBE w b K g vp ul N (.tuple #[]) (busTk st n) (.returned (.tuple #[])) w2) := Lib.hid ⟨rfl, ho.mono fun i hi => .inl (by subst hi; rw [H.out.kb]; omega), K, Grow.refl _ _, H.out.setClint ho hp⟩
  clear ho hp
  go_wp2
  go_end0
  exact ⟨_, HE.out⟩
theorem refIsRam_none_bus (a n : Int) (w : World) : Calls Tryz.prog 60 #[.pointer none, .int .u64 a, .int .i64 n] w fun e w' => e = .returned (.bool false) ∧ w = w' := by
  go_enter Tryz.func60, Tryz.ntmps60
  go_wp2
  go_ret
  exact ⟨rfl, rfl⟩
theorem refFeed_none_bus (i x : Int) (w : World) : Calls Tryz.prog 57 #[.pointer none, .int .i64 i, .int .u8 x] w fun e w' => e = .returned (.bool false) ∧ w = w' := by
  go_enter Tryz.func57, Tryz.ntmps57
  go_wp2
  go_ret
  exact ⟨rfl, rfl⟩
theorem refFeed7_any (h : BusR w b K g vp ul N st) (i x : Int) (hx : 0 ≤ x ∧ x < 256) :
    Calls Tryz.prog 57 #[.pointer (some ⟨b, 0, none⟩), .int .i64 i, .int .u8 x] w (RefBE w b K g vp ul N (.bool (busFd st i x).1) (busFd st i x).2) := by
  unfold busFd
  rw [h.len]
  have cu := h.obj.uarts_
  have hle := h.le
  cases hc : isU ul.length i with
  | false =>
    rw [if_neg (by simp)]
    have hb : ¬ (0 ≤ i ∧ i < (ul.length : Int)) := by unfold isU at hc; rw [decide_eq_false_iff_not] at hc; omega
    obtain ⟨av, cv, rfl, hcap⟩ := h.uarts.len
    have H := Lib.hid h
    clear hc h hx
    generalize hn : ul.length = n at *
    have HN := Lib.hid hn
    clear hn
    by_cases i0 : i < 0
    · clear hb
      go_enter Tryz.func57, Tryz.ntmps57
      go_wp2
      go_ret
      exact H.out.end_same (Below.refl _ _)
    · have i1 : (n : Int) ≤ i := by omega
      clear hb
      go_enter Tryz.func57, Tryz.ntmps57
      go_wp2
      go_ret
      exact H.out.end_same (Below.refl _ _)
  | true =>
    rw [if_pos rfl]
    obtain ⟨k, rfl, hk⟩ := isU_nat hc
    obtain ⟨gp, cap, hvp, hcap, e0⟩ := h.uarts.cells hk
    have hnk : ¬ (ul.length : Int) ≤ (k : Int) := by omega
    have hk0 : ¬ (k : Int) < 0 := by omega
    have hlt : (k : Int) < ul.length := by omega
    rw [hvp] at cu
    rw [show ((k : Int)).toNat = k from rfl]
    have HU : Hid (∀ w', BusR w' b K g vp ul N st → Calls Tryz.prog 107 #[.pointer (some ⟨ul.getD k 0, 0, none⟩), .int .u8 x] w' (RefBE w' b K g vp ul N (.bool (U6.feedK (st.us.getD k U6.u0))) (uartS st k (U6.feedT (st.us.getD k U6.u0) x)))) := Lib.hid fun w' h' =>
      (U6.refFeed_any w' _ _ _ (h'.uart k hk) x hx).mono fun e w'' q => h'.uartEnd hk q
    have HD : Hid (∀ w' K', BusR w' b K' g vp ul N (uartS st k (U6.feedT (st.us.getD k U6.u0) x)) → Calls Tryz.prog 102 #[.pointer (some ⟨b, 0, none⟩), .int .i64 k] w' (RDriveE w' b K' g vp ul N (driveS (uartS st k (U6.feedT (st.us.getD k U6.u0) x)) k))) := Lib.hid fun w' K' h' => refDrive_any h' k hk
    have H := Lib.hid h
    clear h hx hc hvp
    generalize U6.feedK (st.us.getD k U6.u0) = r at *
    generalize driveS (uartS st k (U6.feedT (st.us.getD k U6.u0) x)) k = st2 at *
    generalize uartS st k (U6.feedT (st.us.getD k U6.u0) x) = st1 at *
    generalize ul.getD k 0 = uv at *
    generalize hn : ul.length = n at *
    clear hn
    go_enter Tryz.func57, Tryz.ntmps57
    go_wp2_with fail
    (with_reducible refine (HU.out _ H.out).mono ?_)
    rintro e w4 ⟨rfl, ho, K1, hg, hp⟩
    have HO4 := Lib.hid ho
    have HG4 := Lib.hid hg
    have HP4 := Lib.hid hp
    clear ho hg hp
    go_wp2_with fail
    (with_reducible refine (HD.out _ K1 HP4.out).mono ?_)
    rintro e w5 hE
    obtain ⟨⟨u5, rfl⟩, _⟩ := id hE
    have HE := Lib.hid hE
    clear hE
    go_wp2
    go_ret
    exact RDriveE.end HO4.out HG4.out HP4.out HE.out
end

end Go.Proofs.YtbcnkhfpogglmaaGreatDoor

namespace Go.Proofs.YtbcnkhfpogglmaaGreatDoor
open Go.RowKit
set_option linter.unusedVariables false
set_option maxRecDepth 100000

def uartPtrs (ul : List Nat) : List Value := ul.map fun u => .pointer (some ⟨u, 0, none⟩)
theorem uartPtrs_snoc (ul : List Nat) (u : Nat) : uartPtrs (ul ++ [u]) = uartPtrs ul ++ [.pointer (some ⟨u, 0, none⟩)] := by
  unfold uartPtrs; rw [List.map_append]; rfl
theorem BusR.plug {w w' : World} {b g : Nat} {K : Nat → Nat} {vp vp' : Value} {ul : List Nat} {N : Nat} {st : BS} (h : BusR w b K g vp ul N st) {u : Nat} {F : Nat → Prop} {t : U6.US} (hu : U6.UR w u F t) (hF : ∀ i, F i → K i = 0)
    (own : ∀ x, vp.ownBlock = some x → K x = 1) (hat : RefAt w' b g st.c st.p vp') (own' : w'.ownsRow (b + 1) 108 1 vp' (ul.length + 1) (uartPtrs ul ++ [.pointer (some ⟨u, 0, none⟩)]))
    (o : Only (fun i => i = b ∨ vp.ownBlock = some i) w w') (hx : ∀ x, vp'.ownBlock = some x → vp.ownBlock = some x ∨ w.heap.size ≤ x) (hn : ul.length < 8) :
    BusR w' b (plugK K F ul.length vp') g vp' (ul ++ [u]) N { st with us := st.us ++ [t] } ∧ (∀ x, vp'.ownBlock = some x → plugK K F ul.length vp' x = 1) ∧ ∀ i, ¬ plugK K F ul.length vp' i = 0 → ¬ K i = 0 ∨ F i ∨ w.heap.size ≤ i := by
  have kb := h.kb
  have hFl := hu.lt
  have hnF : ∀ x, vp'.ownBlock = some x → ¬ F x := fun x e hf => by
    have h0 := hF x hf
    rcases hx x e with h1 | h1
    · have := own x h1; omega
    · have := hFl x hf; omega
  have k1 : ∀ x, vp'.ownBlock = some x → plugK K F ul.length vp' x = 1 := fun x e => by
    unfold plugK; rw [if_neg (hnF x e), if_pos e]
  have kold : ∀ i j, K i = j → 2 ≤ j → plugK K F ul.length vp' i = j := fun i j e hj => by
    unfold plugK
    rw [if_neg (fun hf => by have := hF i hf; omega), if_neg (fun e2 => by
      rcases hx i e2 with h1 | h1
      · have := own i h1; omega
      · have := h.lt i (by omega); omega)]
    exact e
  have hb1 : ¬ vp'.ownBlock = some b := fun e => by have := (own'.lt b e).1; omega
  have klt : ∀ i, ¬ plugK K F ul.length vp' i = 0 → i < w'.heap.size := fun i hi => by
    unfold plugK at hi
    split at hi
    · rename_i hf; exact Nat.lt_of_lt_of_le (hFl i hf) o.size
    · split at hi
      · rename_i e; exact (own'.lt i e).2
      · exact Nat.lt_of_lt_of_le (h.lt i hi) o.size
  have hT : ∀ i, ¬ K i = 1 → ¬ (i = b ∨ vp.ownBlock = some i) := fun i hi e => by
    rcases e with rfl | e
    · omega
    · exact hi (own i e)
  refine ⟨⟨hat, ?_, ?_, h.fits, ?_, ?_, ?_, ?_, klt, h.cok⟩, k1, ?_⟩
  · refine .inr ?_
    obtain ⟨_, h2⟩ := own'
    rcases h2 with ⟨_, h0⟩ | ⟨gp, cap, cur, hv, hg, hh, hnc, _, hc, ht⟩
    · omega
    · refine ⟨gp, cap, by rw [hv, List.length_append]; rfl, by rw [List.length_append]; exact hnc, k1 gp (by rw [hv]; rfl), by omega, cur, _, _, hh, ?_⟩
      show _ = uartPtrs (ul ++ [u])
      rw [uartPtrs_snoc]
      rw [show ((ul ++ [u]).map fun u => Value.pointer (some ⟨u, 0, none⟩)).length = (ul.length + 1) * 1 by simp]
      exact ht
  · obtain ⟨hg, gl, hl, hm⟩ := h.mem
    exact ⟨kold g 2 hg (by omega), gl, kold gl 2 hl (by omega), hm.keeps o (hT g (by omega)) (hT gl (by omega))⟩
  · intro j hj
    by_cases e : j = ul.length
    · subst e
      have e1 : (ul ++ [u]).getD ul.length 0 = u := by rw [List.getD_eq_getElem?_getD, List.getElem?_append_right (Nat.le_refl _)]; simp
      have e2 : (st.us ++ [t]).getD ul.length U6.u0 = t := by rw [List.getD_eq_getElem?_getD, ← h.len, List.getElem?_append_right (Nat.le_refl _)]; simp
      rw [e1, e2]
      refine (hu.keeps o fun i hi => hT i (by have := hF i hi; omega)).mono (fun i hi => ?_) fun i hi => klt i (by have : plugK K F ul.length vp' i = 3 + ul.length := hi; omega)
      unfold plugK; rw [if_pos hi]
    · have hj2 : j < ul.length := by rw [List.length_append] at hj; simp at hj; omega
      have e1 : (ul ++ [u]).getD j 0 = ul.getD j 0 := by rw [List.getD_eq_getElem?_getD, List.getD_eq_getElem?_getD, List.getElem?_append_left hj2]
      have e2 : (st.us ++ [t]).getD j U6.u0 = st.us.getD j U6.u0 := by rw [List.getD_eq_getElem?_getD, List.getD_eq_getElem?_getD, List.getElem?_append_left (by rw [h.len]; exact hj2)]
      rw [e1, e2]
      exact ((h.uart j hj2).keeps o fun i hi => hT i (by have : K i = 3 + j := hi; omega)).mono (fun i hi => kold i _ hi (by omega)) fun i hi => klt i (by have : plugK K F ul.length vp' i = 3 + j := hi; omega)
  · simp [h.len]
  · simp; omega
  · unfold plugK; rw [if_neg (fun hf => by have := hF b hf; omega), if_neg hb1]; exact kb
  · intro i hi
    unfold plugK at hi
    split at hi
    · rename_i hf; exact .inr (.inl hf)
    · split at hi
      · rename_i e
        rcases hx i e with h1 | h1
        · have := own i h1; exact .inl (by omega)
        · exact .inr (.inr h1)
      · exact .inl hi

open Classical in
noncomputable def startR (b g : Nat) : Nat → Nat := fun i => if i = b then 1 else if i = g ∨ i = g + 1 then 2 else 0
/-- A bus in the making. -/
def MakeRR (w0 : World) (b g : Nat) (st : BS) (wr : World) : Prop :=
  ∃ K vp ul, BusR wr b K g vp ul 0 st ∧ (∀ x, vp.ownBlock = some x → K x = 1) ∧ wr.ownsRow (b + 1) 108 1 vp ul.length (uartPtrs ul) ∧ Below w0.heap.size w0 wr ∧ ∀ i, ¬ K i = 0 → w0.heap.size ≤ i
/-- The zero object of the document. -/
theorem built_ref (g : Nat) : Tryz.prog.built 107 [(0, .pointer (some ⟨g, 0, none⟩)), (1, .agg #[.int .u64 0, .int .u64 18446744073709551615, .int .u64 0])] = some (refRow g cl0 P5.p0 (.slice none 0 0)) := by kernel_rfl

end Go.Proofs.YtbcnkhfpogglmaaGreatDoor

namespace Go.Proofs.YtbcnkhfpogglmaaGreatDoor
open Go.RowKit
set_option linter.unusedVariables false
set_option maxRecDepth 100000

set_option maxHeartbeats 1000000 in
theorem refNew7_bad (w : World) (size n : Int) (hs : In64 size) (hn : 0 ≤ n ∧ n ≤ 8) (hbad : M3.newOk 2147483648 size = false) : Calls Tryz.prog 20 #[.int .u64 size, .int .i64 n] w fun e w' => e = .returned (.tuple #[.pointer none, .int .i64 1]) ∧ w = w' := by
  have HN := Lib.hid (M3.refNew_any 2147483648 size (by unfold In64; omega) hs w)
  have HB := Lib.hid hbad
  have n1 := hn.1
  have n2 := hn.2
  clear hbad hs hn
  go_enter Tryz.func20, Tryz.ntmps20
  go_wp2_with fail
  (with_reducible refine HN.out.mono ?_)
  rintro e w1 hor
  obtain ⟨he, hw⟩ : e = .returned (.tuple #[.pointer none, .int .i64 1]) ∧ w = w1 := by
    rcases hor with ⟨_, h1, h2⟩ | ⟨h1, _⟩
    · exact ⟨h1, h2⟩
    · rw [HB.out] at h1; cases h1
  subst he
  subst hw
  clear hor
  go_wp2
  go_ret2
  exact ⟨rfl, rfl⟩
set_option maxHeartbeats 1000000 in
theorem refNew7_n (w : World) (size n : Int) (hn : ¬ (0 ≤ n ∧ n ≤ 8)) : Calls Tryz.prog 20 #[.int .u64 size, .int .i64 n] w fun e w' => e = .returned (.tuple #[.pointer none, .int .i64 1]) ∧ w = w' := by
  by_cases n0 : n < 0
  · clear hn
    go_enter Tryz.func20, Tryz.ntmps20
    go_wp2
    go_ret2
    exact ⟨rfl, rfl⟩
  · have n8 : 8 < n := by omega
    clear hn
    go_enter Tryz.func20, Tryz.ntmps20
    go_wp2
    go_ret2
    exact ⟨rfl, rfl⟩
open Classical in
noncomputable def startR2 (b g gl : Nat) : Nat → Nat := fun i => if i = b then 1 else if i = g ∨ i = gl then 2 else 0
theorem BusR.start {w : World} {b g gl : Nat} {c : C4.Cl} {p : P5.PS} {size : Int} {m : Int → Int} (hat : RefAt w b g c p (.slice none 0 0)) (hm : M3.RefMem w g gl 2147483648 size 0 m) (hl : gl < w.heap.size) (hf : M3.Fits 2147483648 size) (hb1 : ¬ g = b) (hb2 : ¬ gl = b) (hc : c.ok) :
    BusR w b (startR2 b g gl) g (.slice none 0 0) [] 0 ⟨size, m, c, p, []⟩ := by
  refine ⟨hat, .inl ⟨rfl, rfl⟩, ⟨?_, gl, ?_, hm⟩, hf, fun j hj => by simp at hj, rfl, by simp, ?_, fun i hi => ?_, hc⟩
  · unfold startR2; rw [if_neg hb1, if_pos (.inl rfl)]
  · unfold startR2; rw [if_neg hb2, if_pos (.inr rfl)]
  · unfold startR2; rw [if_pos rfl]
  · unfold startR2 at hi
    split at hi
    · rename_i h; subst h; exact hat.lt
    · split at hi
      · rename_i h
        rcases h with rfl | rfl
        · exact hm.lt
        · exact hl
      · exact absurd rfl hi
/-- What one round of New's loop leaves. -/
theorem makeRR_step {w0 wr w1 w2 : World} {b g u : Nat} {K : Nat → Nat} {vp vp' : Value} {ul : List Nat} {st : BS} {t : U6.US} {F : Nat → Prop} (h : BusR wr b K g vp ul 0 st) (own : ∀ x, vp.ownBlock = some x → K x = 1) (hb0 : Below w0.heap.size w0 wr) (hk : ∀ i, ¬ K i = 0 → w0.heap.size ≤ i) (hn : ul.length < 8)
    (hb : Below wr.heap.size wr w1) (hF : ∀ i, F i → wr.heap.size ≤ i) (hu : U6.UR w1 u F t) (hat : RefAt w2 b g st.c st.p vp') (own' : w2.ownsRow (b + 1) 108 1 vp' (ul.length + 1) (uartPtrs ul ++ [.pointer (some ⟨u, 0, none⟩)]))
    (o : Only (fun i => i = b ∨ vp.ownBlock = some i) w1 w2) (hx : ∀ x, vp'.ownBlock = some x → vp.ownBlock = some x ∨ w1.heap.size ≤ x) : MakeRR w0 b g { st with us := st.us ++ [t] } w2 := by
  have h1 : BusR w1 b K g vp ul 0 st := h.below hb
  have s1 := hb.size
  have s0 := hb0.size
  obtain ⟨p1, p2, p3⟩ := BusR.plug h1 hu (fun i hi => by
    have := hF i hi
    by_cases e : K i = 0
    · exact e
    · have := h.lt i e; omega) own hat own' o hx hn
  refine ⟨_, vp', ul ++ [u], p1, p2, ?_, ?_, fun i hi => ?_⟩
  · rw [uartPtrs_snoc, List.length_append]; exact own'
  · have hb1 : w0.heap.size ≤ b := hk b (by rw [h.kb]; omega)
    exact (hb0.trans (hb.mono hb0.size)).trans (o.below (fun i hi => by
      rcases hi with rfl | hi
      · exact hb1
      · exact hk i (by rw [own i hi]; omega)) (by omega))
  · rcases p3 i hi with h2 | h2 | h2
    · exact hk i h2
    · have := hF i h2; omega
    · omega

end Go.Proofs.YtbcnkhfpogglmaaGreatDoor

namespace Go.Proofs.YtbcnkhfpogglmaaGreatDoor
open Go.RowKit
set_option linter.unusedVariables false
set_option maxRecDepth 100000

def BusNewRE (w : World) (size n : Int) (e : Ending) (w' : World) : Prop :=
  Below w.heap.size w w' ∧ ((busOk size n = false ∧ e = .returned (.tuple #[.pointer none, .int .i64 1])) ∨
    (busOk size n = true ∧ ∃ b K g vp ul, e = .returned (.tuple #[.pointer (some ⟨b, 0, none⟩), .int .i64 0]) ∧ (∀ i, ¬ K i = 0 → w.heap.size ≤ i) ∧ BusR w' b K g vp ul 0 (bs0 size n.toNat)))
theorem info_uptr : (Tryz.prog.info? 108).map (fun i => (i.zero, i.size, i.bytes)) = some (some (.pointer none), 1, 8) := by kernel_rfl
theorem refNew_app {w0 wr : World} {b g : Nat} {K : Nat → Nat} {A : Option Addr} {C : Nat} {ul : List Nat} {st : BS} (h : BusR wr b K g (.slice A ul.length C) ul 0 st) (own : ∀ x, (Value.slice A ul.length C).ownBlock = some x → K x = 1) (owr : wr.ownsRow (b + 1) 108 1 (.slice A ul.length C) ul.length (uartPtrs ul)) (hb0 : Below w0.heap.size w0 wr) (hk : ∀ i, ¬ K i = 0 → w0.heap.size ≤ i) (hn : ul.length < 8) (w5 : World) (u : Nat) (F : Nat → Prop) (hb : Below wr.heap.size wr w5) (hF : ∀ i, F i → wr.heap.size ≤ i) (hu : U6.UR w5 u F U6.u0) :
    ∃ A2 m2 C2 w6, (Builtin.append_ #[105, 105] 105 #[.slice A ul.length C, .slice (some ⟨w5.heap.size, 0, none⟩) 1 1]).run Tryz.prog (w5.alloc (.cells #[.pointer (some ⟨u, 0, none⟩)] 108)) = .ok (.slice A2 m2 C2) w6 ∧ w6.cell? ⟨b, 198, none⟩ = some (.slice A ul.length C) ∧ w6.frozen? ⟨b, 198, none⟩ = false ∧
      Hid (MakeRR w0 b g { st with us := st.us ++ [U6.u0] } (w6.setCell ⟨b, 198, none⟩ (.slice A2 m2 C2))) := by
  obtain ⟨i0, hi, hz0, hz1, hz2⟩ := U6.info_parts8 info_uptr
  have B1 : Below w5.heap.size w5 (w5.alloc (.cells #[.pointer (some ⟨u, 0, none⟩)] 108)) := (Below.refl _ _).alloc (Nat.le_refl _) _
  have B2 : Below wr.heap.size wr (w5.alloc (.cells #[.pointer (some ⟨u, 0, none⟩)] 108)) := hb.trans (B1.mono hb.size)
  have hnc : ∀ j x, ([.pointer (some ⟨u, 0, none⟩)] : List Value)[j]? = some x → (w5.alloc (.cells #[.pointer (some ⟨u, 0, none⟩)] 108)).cell? ((⟨w5.heap.size, 0, none⟩ : Addr).add j) = some x := by
    intro j x hj
    rw [add_none, Nat.zero_add]
    have hz : (w5.alloc (.cells #[.pointer (some ⟨u, 0, none⟩)] 108)).heap[w5.heap.size]? = some (.cells #[.pointer (some ⟨u, 0, none⟩)] 108 (0, 0)) := heap_alloc_new w5 _
    rw [cell_of_row _ _ _ _ _ _ hz]
    simpa using hj
  have hbl := h.obj.lt
  obtain ⟨v', w', hr, h2, h3, _, h5⟩ := run_append_own_at (P := Tryz.prog) (w5.alloc (.cells #[.pointer (some ⟨u, 0, none⟩)] 108)) (b + 1) 105 105 108 i0 (.pointer none) 1 8 Tryz.underlying105 hi hz0 hz1 hz2 rfl (by decide) (.slice A ul.length C) ul.length (uartPtrs ul) (owns_below owr B2) ⟨w5.heap.size, 0, none⟩ 1 1 [.pointer (some ⟨u, 0, none⟩)] rfl hnc (by intro x hx; simp at hx; rw [hx]; rfl) (by unfold maxLen; omega) (by omega) (by have := B2.size; omega)
  obtain ⟨A2, m2, C2, hv2⟩ := M3.own_slice h2
  subst hv2
  have hno : ¬ (Value.slice A ul.length C).ownBlock = some b := fun e => by
    have := (owr.lt b e).1; omega
  have hat : RefAt w' b g st.c st.p (.slice A ul.length C) := (h3.block b (Nat.lt_of_lt_of_le hbl B2.size) (fun e => hno e.symm)).trans ((B2.block b hbl).trans h.obj)
  refine ⟨A2, m2, C2, w', hr, hat.uarts_, hat.free 198, Lib.hid (makeRR_step h own hb0 hk hn hb hF hu (hat.setUarts _) (ownsRow_setCell_below h2 (by show b < b + 1; omega) _) (Only.setCell ((Only.of_below _ B1).grown h3 fun k hk => .inl (.inr hk)) (p := ⟨b, 198, none⟩) (.inl (.inl rfl)) _) fun x hx => ?_)⟩
  rcases h5 with h5 | h5
  · exact .inl (h5 ▸ hx)
  · rw [h5] at hx; injection hx with hx; have := B1.size; exact .inr (by omega)
set_option maxHeartbeats 2000000 in
theorem refNew7_ok (w : World) (size : Int) (n : Nat) (hs : In64 size) (hn : n ≤ 8) (hok : M3.newOk 2147483648 size = true) : Calls Tryz.prog 20 #[.int .u64 size, .int .i64 n] w (BusNewRE w size n) := by
  have HN := Lib.hid (M3.refNew_any 2147483648 size (by unfold In64; omega) hs w)
  have HO : Hid (busOk size n = true) := Lib.hid (by unfold busOk; rw [hok, decide_eq_true (by omega)]; rfl)
  have HF := Lib.hid (M3.newOk_fits (base := 2147483648) (by unfold In64; omega) hok)
  have HB := Lib.hid hok
  have n1 : ¬ (n : Int) < 0 := by omega
  have n2 : ¬ (8 : Int) < n := by omega
  clear hok hs
  go_enter Tryz.func20, Tryz.ntmps20
  go_wp2_with fail
  (with_reducible refine HN.out.mono ?_)
  rintro e w1 hor
  obtain ⟨he, hb, hm0⟩ : e = .returned (.tuple #[.pointer (some ⟨w.heap.size, 0, none⟩), .int .i64 0]) ∧ Below w.heap.size w w1 ∧ M3.RefMem w1 w.heap.size (w.heap.size + 1) 2147483648 size 0 fun _ => 0 := by
    rcases hor with ⟨h1, _⟩ | ⟨_, h1, h2, h3⟩
    · rw [HB.out] at h1; cases h1
    · exact ⟨h1, h2, h3⟩
  subst he
  obtain ⟨gl, hgl, hlt, hm⟩ := M3.RefMem.norm hm0
  have hg0 : w.heap.size ≤ w.heap.size := Nat.le_refl _
  have hgl0 : w.heap.size ≤ gl := by omega
  clear hm0 hgl
  generalize hgg : w.heap.size = g at hm HN hor
  have hg0 : w.heap.size ≤ g := by omega
  have HB1 := Lib.hid hb
  have HM := Lib.hid hm
  have HG := Lib.hid hg0
  have HL := Lib.hid hgl0
  have HLT := Lib.hid hlt
  clear hb hor hm hg0 hgl0 hlt HN HB hgg
  go_wp2_with fail
  refine (C4.refNew_any _).mono ?_
  rintro e w2 ⟨rfl, hb2⟩
  have HB2 := Lib.hid (HB1.out.trans (hb2.mono HB1.out.size))
  have HM2 := Lib.hid (HM.out.below hb2)
  have HLT2 := Lib.hid (Nat.lt_of_lt_of_le HLT.out hb2.size)
  clear hb2 HM HLT HB1
  go_wp2_with (refine wpList_build_at rfl 107 #[(0, .tmp 23), (1, .tmp 24)] rfl [(0, .pointer (some ⟨g, 0, none⟩)), (1, .agg #[.int .u64 0, .int .u64 18446744073709551615, .int .u64 0])] (by first | rfl | simp [Act.eval, Act.put, C4.refV, C4.sI]) _ (built_ref g) ?_)
  have hfr : M3.Fits 2147483648 size := HF.out
  have D : RefAt (w2.alloc (.cells (refRow g cl0 P5.p0 (.slice none 0 0)) 107)) w2.heap.size g cl0 P5.p0 (.slice none 0 0) := heap_alloc_new w2 _
  have hb4 : Below w2.heap.size w2 (w2.alloc (.cells (refRow g cl0 P5.p0 (.slice none 0 0)) 107)) := (Below.refl _ _).alloc (Nat.le_refl _) _
  have HMK : Hid (MakeRR w w2.heap.size g ⟨size, fun _ => 0, cl0, P5.p0, []⟩ (w2.alloc (.cells (refRow g cl0 P5.p0 (.slice none 0 0)) 107))) := by
    have s2 := HB2.out.size
    have l1 := HM2.out.lt
    have l2 := HLT2.out
    have l3 := HG.out
    have l4 := HL.out
    refine Lib.hid ⟨startR2 w2.heap.size g gl, .slice none 0 0, [], BusR.start D (HM2.out.below hb4) (Nat.lt_of_lt_of_le l2 hb4.size) hfr (by omega) (by omega) cl0_ok, fun x hx => by simp [Value.ownBlock] at hx, World.ownsRow_nil _ _ _ _, HB2.out.trans (hb4.mono s2), fun i hi => ?_⟩
    unfold startR2 at hi
    split at hi
    · omega
    · split at hi
      · omega
      · exact absurd rfl hi
  clear D hb4 HM2 HB2 hfr HG HL HLT2 HF
  generalize w2.alloc (.cells (refRow g cl0 P5.p0 (.slice none 0 0)) 107) = w4 at *
  generalize w2.heap.size = b at *
  go_loopw [9] (fun i wr => ∃ k : Nat, k ≤ n ∧ i = .int .i64 k ∧ Hid (MakeRR w b g ⟨size, fun _ => 0, cl0, P5.p0, List.replicate k U6.u0⟩ wr)) (fun i wr => (n - (intOf i).toNat))
  case atStart => exact ⟨0, by omega, rfl, HMK⟩
  case round =>
    obtain ⟨k, hk, rfl, HMR⟩ := hrel
    obtain ⟨K, vp, ul, hq, own, owr, hb0, hkk⟩ := HMR.out
    have hl := hq.len
    simp only [List.length_replicate] at hl
    by_cases hlt : k < n
    · obtain ⟨A, m, C, hvp⟩ := M3.own_slice owr
      subst hvp
      have hmn : m = ul.length := by
        rcases Lays.own owr with ⟨h1, h2, _⟩ | ⟨_, _, h1, _, _⟩
        · simp at h1; omega
        · simp at h1; omega
      subst hmn
      have hcell := hq.obj.uarts_
      have hlk : (k : Int) < n := by omega
      have HAPP := Lib.hid (refNew_app hq own owr hb0 hkk (by omega))
      rw [← List.replicate_succ'] at HAPP
      have HC5 : Hid (∀ w', Below wr.heap.size wr w' → w'.cell? ⟨b, 198, none⟩ = some (.slice A ul.length C)) := Lib.hid fun w' h' => (hq.obj.keeps (Only.of_below (fun _ => False) h') id).uarts_
      have HUN : Hid (∀ w', Calls Tryz.prog 54 #[] w' (U6.MadeU U6.cellsR 111 w' U6.u0)) := Lib.hid fun w' => U6.refNew_any w'
      have hbd : Below wr.heap.size wr wr.drew := (Below.refl _ _).drew
      have HBD := Lib.hid hbd
      clear hq own owr hb0 hkk HMR hl HMK hbd
      generalize ul.length = m at *
      go_wp2_with fail
      go_region_law (first
        | (refine M3.step_append_run rfl (.tmp 36) (.tmp 38) 105 rfl (.slice A m C) (.slice (some ⟨w5.heap.size, 0, none⟩) 1 1) (.slice A2 m2 C2) w6 rfl rfl HRUN.out ?_)
        | (go_simp; go_at_call 54; refine (HUN.out _).mono ?_; rintro e w5 ⟨u, F, vi, vo, rfl, hb5, hF5, hu5⟩; have c5 := HC5.out _ (HBD.out.trans hb5); have c5b := Lib.cell?_alloc_some (.cells #[.pointer (some ⟨u, 0, none⟩)] 108) c5; obtain ⟨A2, m2, C2, w6, hrun, hc6, hf6, hE6⟩ := HAPP.out w5 u F (HBD.out.trans hb5) hF5 ⟨vi, vo, hu5⟩; have HRUN := Lib.hid hrun; clear hrun hb5 hF5 hu5))
      all_goals
        go_wp2
        go_roundw
        case rel => exact ⟨k + 1, by omega, by go_num, hE6⟩
        case measure => simp [intOf]; omega
    · obtain rfl : k = n := by omega
      have HFIN : Hid (BusNewRE w size k (.returned (.tuple #[.pointer (some ⟨b, 0, none⟩), .int .i64 0])) wr) := Lib.hid ⟨hb0, .inr ⟨HO.out, b, K, g, vp, ul, rfl, hkk, hq⟩⟩
      clear hq own owr hb0 hkk HMR hl HMK
      go_wp2
      go_ret2
      exact HFIN.out
theorem refNew7_any (w : World) (size n : Int) (hs : In64 size) : Calls Tryz.prog 20 #[.int .u64 size, .int .i64 n] w (BusNewRE w size n) := by
  by_cases hn : 0 ≤ n ∧ n ≤ 8
  · cases hok : M3.newOk 2147483648 size with
    | false =>
      refine (refNew7_bad w size n hs hn hok).mono ?_
      rintro e w' ⟨he, rfl⟩
      exact ⟨Below.refl _ _, .inl ⟨by unfold busOk; rw [hok]; rfl, he⟩⟩
    | true =>
      obtain ⟨k, rfl⟩ : ∃ k : Nat, n = k := ⟨n.toNat, by omega⟩
      exact refNew7_ok w size k hs (by omega) hok
  · refine (refNew7_n w size n hn).mono ?_
    rintro e w' ⟨he, rfl⟩
    exact ⟨Below.refl _ _, .inl ⟨by unfold busOk; rw [decide_eq_false hn, Bool.and_false], he⟩⟩

end Go.Proofs.YtbcnkhfpogglmaaGreatDoor

namespace Go.Proofs.YtbcnkhfpogglmaaGreatDoor
open Go.RowKit
set_option linter.unusedVariables false
set_option maxRecDepth 100000

section
variable {w : World} {b g : Nat} {K : Nat → Nat} {vp : Value} {ul : List Nat} {N : Nat} {st : BS}
theorem refIsRam7_any (h : BusR w b K g vp ul N st) (a n : Int) (ha : In64 a) : Calls Tryz.prog 60 #[.pointer (some ⟨b, 0, none⟩), .int .u64 a, .int .i64 n] w (IsRamE w (M3.okN n && M3.hasZ 2147483648 st.size a n)) := by
  have HWd := Lib.hid (width_any n w)
  cases hk : M3.okN n with
  | false =>
    have HK := Lib.hid hk
    clear hk h ha
    go_enter Tryz.func60, Tryz.ntmps60
    go_wp2_with fail
    (with_reducible refine HWd.out.mono ?_)
    rintro e w2 ⟨rfl, rfl⟩
    rw [HK.out]
    go_wp2
    go_ret
    exact ⟨rfl, Below.refl _ _⟩
  | true =>
    have HK := Lib.hid hk
    obtain ⟨hg, gl, hl, hm⟩ := h.mem
    have HH := Lib.hid (M3.mem_has w g gl 2147483648 st.size N st.m a n hm h.fits ha)
    have cr := h.obj.ram_
    clear hk h ha hg hl hm
    rw [Bool.true_and]
    generalize M3.hasZ 2147483648 st.size a n = r at *
    go_enter Tryz.func60, Tryz.ntmps60
    go_wp2_with fail
    (with_reducible refine HWd.out.mono ?_)
    rintro e w2 ⟨rfl, rfl⟩
    rw [HK.out]
    go_wp2_with fail
    (with_reducible refine HH.out.mono ?_)
    rintro e w2 ⟨rfl, hw⟩
    have HW := Lib.hid hw
    clear hw
    go_wp2
    go_ret
    exact ⟨rfl, HW.out⟩

theorem refOut_none_bus (i : Int) (w : World) : Calls Tryz.prog 23 #[.pointer none, .int .i64 i] w (OutE w []) := by
  go_enter Tryz.func23, Tryz.ntmps23
  go_wp2
  go_ret
  exact ⟨none, 0, rfl, Below.refl _ _, U6.RowB.nil _⟩
theorem refOut7_any (h : BusR w b K g vp ul N st) (i : Int) :
    Calls Tryz.prog 23 #[.pointer (some ⟨b, 0, none⟩), .int .i64 i] w (OutE w (busOt st.us i)) := by
  unfold busOt
  rw [h.len]
  cases hc : isU ul.length i with
  | false =>
    rw [if_neg (by simp)]
    obtain ⟨av, cv, rfl, hcap⟩ := h.uarts.len
    have cu := h.obj.uarts_
    have hb : ¬ (0 ≤ i ∧ i < (ul.length : Int)) := by unfold isU at hc; rw [decide_eq_false_iff_not] at hc; omega
    clear hc h
    generalize ul.length = n at *
    by_cases h10 : i < 0
    · clear hb
      go_enter Tryz.func23, Tryz.ntmps23
      go_wp2
      go_ret
      exact ⟨none, 0, rfl, Below.refl _ _, U6.RowB.nil _⟩
    · have h11 : (n : Int) ≤ i := by omega
      have h12 : 0 ≤ i := by omega
      clear hb h10
      go_enter Tryz.func23, Tryz.ntmps23
      go_wp2
      go_ret
      exact ⟨none, 0, rfl, Below.refl _ _, U6.RowB.nil _⟩
  | true =>
    rw [if_pos rfl]
    obtain ⟨k, rfl, hk⟩ := isU_nat hc
    obtain ⟨gp, cap, rfl, hcap, c0⟩ := h.uarts.cells hk
    have cu := h.obj.uarts_
    have hle := h.le
    have hnk : ¬ (ul.length : Int) ≤ (k : Int) := by omega
    have hk0 : ¬ (k : Int) < 0 := by omega
    have hlt : (k : Int) < ul.length := by omega
    rw [show ((k : Int)).toNat = k from rfl]
    obtain ⟨vi, vo, hu⟩ := h.uart k hk
    obtain ⟨_, c1, _⟩ := U6.Holds.rcells hu
    have hl : (st.us.getD k U6.u0).out.length ≤ 70000 := by have := hu.ok.lo; omega
    have hro := hu.ro
    generalize (st.us.getD k U6.u0).out = xs at *
    generalize ul.getD k 0 = uv at *
    generalize hn : ul.length = n at *
    clear hc h hn hu
    obtain ⟨a, c, hv3, _, _, hr⟩ := hro.reads hl
    obtain ⟨a2, c2, w', hrun, hE⟩ : ∃ a2 c2 w', (Builtin.append_ #[40, 40] 40 #[.slice (some ⟨w.heap.size, 0, none⟩) 0 0, .slice a xs.length c]).run Tryz.prog (w.alloc (.cells #[] 5)) = .ok (.slice a2 xs.length c2) w' ∧ OutE w xs (.returned (.slice a2 xs.length c2)) w' := by
      have hown : (w.alloc (.cells #[] 5)).ownsRow w.heap.size 5 1 (.slice (some ⟨w.heap.size, 0, none⟩) 0 0) 0 [] := World.ownsRow_made w #[] 0 (Nat.le_refl _) (Nat.zero_le _) rfl
      rcases hr with ⟨rfl, rfl, rfl⟩ | ⟨gv, off, rfl, hg, hcs⟩
      · obtain ⟨i0, hi, hz0, hz1, hz2⟩ := U6.info_parts8 U6.info_u8
        refine ⟨_, _, _, run_append_owned_none (P := Tryz.prog) _ w.heap.size 40 40 5 i0 1 Tryz.underlying40 hi _ 0 [] hown, ?_⟩
        exact ⟨_, _, rfl, U6.below_alloc w _, ⟨hro.byt, .inl (U6.own_base hown (Nat.zero_le _))⟩⟩
      · subst hv3
        have h2 := hro.below (U6.below_alloc w (.cells #[] 5))
        obtain ⟨v', w', hrun, hO, hR, hOn, hv⟩ := U6.run_pour (w.alloc (.cells #[] 5)) _ xs h2 hl (by simp) w.heap.size (.slice (some ⟨w.heap.size, 0, none⟩) 0 0) hown (by rw [World.size_alloc]; omega) 40
        obtain ⟨a2, c2, hv2, _, _, _⟩ := hR.reads hl
        subst hv2
        exact ⟨a2, c2, w', hrun, a2, c2, rfl, (U6.below_alloc w (.cells #[] 5)).trans (hOn.below (fun k hk => by simp [Value.ownBlock] at hk; omega) (by rw [World.size_alloc]; omega)), hR⟩
    subst hv3
    have cu' := Lib.cell?_alloc_some (.cells #[] 5) cu
    have c0' := Lib.cell?_alloc_some (.cells #[] 5) c0
    have c1' := Lib.cell?_alloc_some (.cells #[] 5) c1
    have HRUN := Lib.hid hrun
    have HE := Lib.hid hE
    clear hrun hE hr hl hro
    generalize xs.length = m at *
    go_enter Tryz.func23, Tryz.ntmps23
    go_wp2_with ((at_builtin; refine wpList_append_run rfl _ _ _ rfl (.slice (some ⟨w.heap.size, 0, none⟩) 0 0) (.slice a m c) (.slice a2 m c2) w' rfl rfl HRUN.out ?_))
    go_ret
    exact HE.out
end

end Go.Proofs.YtbcnkhfpogglmaaGreatDoor
