/- Layer 5: the document's Read of a claim. -/
import Derived.Test.YtgimnkablodheaaDoorPlJ
namespace Go.Proofs.YtgimnkablodheaaDoor
open Go.RowKit
set_option linter.unusedVariables false

def unpendP (t : PS) (s : Nat) : PS := { t with pend := upd t.pend s false }
def claimP (t : PS) (s : Nat) : PS := { unpendP t s with busy := upd t.busy s true }
theorem RefP.unpend {w : World} {b : Nat} {t : PS} (h : RefP w b t) {s : Nat} (hs : s < 32) : RefP (w.setCell ⟨b, s * 6 + 2, none⟩ (.bool false)) b (unpendP t s) :=
  h.set _ hs (by omega) (fun s' j' _ _ => by
    by_cases c : s' = s ∧ j' = 2
    · obtain ⟨rfl, rfl⟩ := c; rw [if_pos ⟨rfl, rfl⟩]; simp [srcCell, unpendP, upd_same]
    · rw [if_neg c]; match j' with
      | 0 => rfl
      | 1 => rfl
      | 2 => simp [srcCell, unpendP, upd_other _ _ (fun e : s' = s => c ⟨e, rfl⟩)]
      | 3 => rfl
      | 4 => rfl
      | _ + 5 => rfl) rfl
theorem RefP.claim {w : World} {b : Nat} {t : PS} {s : Nat} (h : RefP w b (unpendP t s)) (hs : s < 32) : RefP (w.setCell ⟨b, s * 6 + 3, none⟩ (.bool true)) b (claimP t s) :=
  h.set _ hs (by omega) (fun s' j' _ _ => by
    by_cases c : s' = s ∧ j' = 3
    · obtain ⟨rfl, rfl⟩ := c; rw [if_pos ⟨rfl, rfl⟩]; simp [srcCell, claimP, upd_same]
    · rw [if_neg c]; match j' with
      | 0 => rfl
      | 1 => rfl
      | 2 => rfl
      | 3 => simp [srcCell, claimP, unpendP, upd_other _ _ (fun e : s' = s => c ⟨e, rfl⟩)]
      | 4 => rfl
      | _ + 5 => rfl) rfl
/-- What a claim leaves. -/
def claimed (t : PS) (k : Nat) : PS := if k = 0 then t else claimP t k
theorem bestC_le (t : PS) (c : Int) : bestC t c ≤ 31 := by unfold bestC; split; exact bestTo_le _ _ _; omega

set_option maxRecDepth 100000 in
set_option maxHeartbeats 2000000 in
theorem refRead_claim0 (w : World) (b : Nat) (t : PS) (h : RefP w b t) (k : Nat) (hk0 : bestC t 0 = k) : Calls Tryd.prog 32 #[.pointer (some ⟨b, 0, none⟩), .int .u64 2097156, .int .i64 4] w (RefPEnd w b (.tuple #[.int .u64 k, .bool true]) (claimed t k)) := by
  have H := Lib.hid h
  have HSZ : Hid ((varr 194 (cellR t)).size = 194) := Lib.hid (varr_size _ _)
  have hbest := fun w' => refBest_any w' t 0
  rw [hk0] at hbest
  unfold refPV at hbest
  have HBEST := Lib.hid hbest
  clear hbest
  have HR : Hid (w.heap[b]? = some (.cells (varr 194 (cellR t)) 45 (0, 0))) := Lib.hid h
  have hle : k ≤ 31 := by rw [← hk0]; exact bestC_le t 0
  clear h hk0
  generalize varr 194 (cellR t) = row at *
  go_enter Tryd.func32, Tryd.ntmps32
  go_wp2
  go_loop [10] (fun i => i = .int .i64 0) (fun _ => 0)
  case atStart => rfl
  case round =>
    obtain rfl := hrel
    go_wp2_with (refine wpList_load_row rfl _ _ rfl b rfl 45 _ _ _ HR.out Tryd.underlying45 rfl ?_ ?_; · exact size_refP.trans (by rw [HSZ.out]))
    refine (HBEST.out _).mono ?_
    rintro e w2 ⟨rfl, hb⟩
    have HB2 := Lib.hid hb
    have HP := Lib.hid (H.out.below hb)
    clear hb HR HSZ HBEST
    by_cases k0 : k = 0
    · subst k0
      go_wp2
      go_ret2
      exact ⟨rfl, Only.of_below _ HB2.out, by unfold claimed; rw [if_pos rfl]; exact HP.out⟩
    · have hk : (0 : Int) < (k : Int) := by omega
      have ik : (k : Int) < 32 := by omega
      have hk2 : IntKind.u64.wrap (k : Int) = k := by rw [IntKind.wrap_u64]; omega
      have c2 : w2.cell? ⟨b, k * 6 + 2, none⟩ = some (.bool (t.pend k)) := HP.out.src (by omega) (by omega)
      have f2 := HP.out.free (k * 6 + 2)
      have H3 := HP.out.unpend (s := k) (by omega)
      have c3 : (w2.setCell ⟨b, k * 6 + 2, none⟩ (.bool false)).cell? ⟨b, k * 6 + 3, none⟩ = some (.bool (t.busy k)) := H3.src (s := k) (j := 3) (by omega) (by omega)
      have f3 := H3.free (k * 6 + 3)
      have H4 := Lib.hid (H3.claim (by omega))
      have HC : Hid (claimed t k = claimP t k) := Lib.hid (by unfold claimed; rw [if_neg k0])
      clear H3
      go_wp2
      go_ret2
      refine ⟨rfl, ((Only.of_below (fun i => i = b) HB2.out).setCell (p := ⟨b, k * 6 + 2, none⟩) (.inl rfl) _).setCell (p := ⟨b, k * 6 + 3, none⟩) (.inl rfl) _, ?_⟩
      rw [HC.out]; exact H4.out

set_option maxRecDepth 100000 in
set_option maxHeartbeats 2000000 in
theorem refRead_claim1 (w : World) (b : Nat) (t : PS) (h : RefP w b t) (k : Nat) (hk0 : bestC t 1 = k) : Calls Tryd.prog 32 #[.pointer (some ⟨b, 0, none⟩), .int .u64 2101252, .int .i64 4] w (RefPEnd w b (.tuple #[.int .u64 k, .bool true]) (claimed t k)) := by
  have H := Lib.hid h
  have HSZ : Hid ((varr 194 (cellR t)).size = 194) := Lib.hid (varr_size _ _)
  have hbest := fun w' => refBest_any w' t 1
  rw [hk0] at hbest
  unfold refPV at hbest
  have HBEST := Lib.hid hbest
  clear hbest
  have HR : Hid (w.heap[b]? = some (.cells (varr 194 (cellR t)) 45 (0, 0))) := Lib.hid h
  have hle : k ≤ 31 := by rw [← hk0]; exact bestC_le t 1
  clear h hk0
  generalize varr 194 (cellR t) = row at *
  go_enter Tryd.func32, Tryd.ntmps32
  go_wp2
  go_loop [10] (fun i => i = .int .i64 0 ∨ i = .int .i64 1) (fun i => (1 - intOf i).toNat)
  case atStart => exact .inl rfl
  case round =>
    rcases hrel with rfl | rfl
    · go_wp2
      exact ⟨.inr rfl, by simp [intOf]⟩
    go_wp2_with (refine wpList_load_row rfl _ _ rfl b rfl 45 _ _ _ HR.out Tryd.underlying45 rfl ?_ ?_; · exact size_refP.trans (by rw [HSZ.out]))
    refine (HBEST.out _).mono ?_
    rintro e w2 ⟨rfl, hb⟩
    have HB2 := Lib.hid hb
    have HP := Lib.hid (H.out.below hb)
    clear hb HR HSZ HBEST
    by_cases k0 : k = 0
    · subst k0
      go_wp2
      go_ret2
      exact ⟨rfl, Only.of_below _ HB2.out, by unfold claimed; rw [if_pos rfl]; exact HP.out⟩
    · have hk : (0 : Int) < (k : Int) := by omega
      have ik : (k : Int) < 32 := by omega
      have hk2 : IntKind.u64.wrap (k : Int) = k := by rw [IntKind.wrap_u64]; omega
      have c2 : w2.cell? ⟨b, k * 6 + 2, none⟩ = some (.bool (t.pend k)) := HP.out.src (by omega) (by omega)
      have f2 := HP.out.free (k * 6 + 2)
      have H3 := HP.out.unpend (s := k) (by omega)
      have c3 : (w2.setCell ⟨b, k * 6 + 2, none⟩ (.bool false)).cell? ⟨b, k * 6 + 3, none⟩ = some (.bool (t.busy k)) := H3.src (s := k) (j := 3) (by omega) (by omega)
      have f3 := H3.free (k * 6 + 3)
      have H4 := Lib.hid (H3.claim (by omega))
      have HC : Hid (claimed t k = claimP t k) := Lib.hid (by unfold claimed; rw [if_neg k0])
      clear H3
      go_wp2
      go_ret2
      refine ⟨rfl, ((Only.of_below (fun i => i = b) HB2.out).setCell (p := ⟨b, k * 6 + 2, none⟩) (.inl rfl) _).setCell (p := ⟨b, k * 6 + 3, none⟩) (.inl rfl) _, ?_⟩
      rw [HC.out]; exact H4.out

end Go.Proofs.YtgimnkablodheaaDoor
