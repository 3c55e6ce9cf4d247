/- Layer 5: the document's plic: Level. -/
import Derived.Test.YtgimnkablodheaaDoorPlA
namespace Go.Proofs.YtgimnkablodheaaDoor
open Go.RowKit
set_option linter.unusedVariables false

theorem isS_nat {s : Int} (h : isS s = true) : ∃ k : Nat, s = (k : Int) ∧ 1 ≤ k ∧ k < 32 := by
  unfold isS at h; rw [decide_eq_true_eq] at h
  exact ⟨s.toNat, by omega, by omega, by omega⟩
/-- A line turned. -/
def upP (t : PS) (s : Nat) (u : Bool) : PS := { t with up := upd t.up s u }
/-- What Level leaves. -/
def levelP (t : PS) (s : Int) (u : Bool) : PS := if isS s = true then lookP (upP t s.toNat u) s.toNat else t
theorem RefP.upS {w : World} {b : Nat} {t : PS} (h : RefP w b t) {s : Nat} (u : Bool) (hs : s < 32) : RefP (w.setCell ⟨b, s * 6 + 1, none⟩ (.bool u)) b (upP t s u) :=
  h.set _ hs (by omega) (fun s' j' _ _ => by
    by_cases c : s' = s ∧ j' = 1
    · obtain ⟨rfl, rfl⟩ := c; rw [if_pos ⟨rfl, rfl⟩]; simp [srcCell, upP, upd_same]
    · rw [if_neg c]; match j' with
      | 0 => rfl
      | 1 => simp [srcCell, upP, upd_other _ _ (fun e : s' = s => c ⟨e, rfl⟩)]
      | 2 => rfl
      | 3 => rfl
      | 4 => rfl
      | _ + 5 => rfl) rfl
def RefPEnd (w : World) (b : Nat) (r : Value) (t' : PS) (e : Ending) (w' : World) : Prop := e = .returned r ∧ Only (fun i => i = b) w w' ∧ RefP w' b t'

set_option maxHeartbeats 1000000 in
theorem refLevel_any (w : World) (b : Nat) (t : PS) (s : Int) (u : Bool) (h : RefP w b t) :
    Calls Tryd.prog 33 #[.pointer (some ⟨b, 0, none⟩), .int .i64 s, .bool u] w (RefPEnd w b (.bool (isS s)) (levelP t s u)) := by
  cases hs : isS s with
  | false =>
    have HE : Hid (RefPEnd w b (.bool false) (levelP t s u) (.returned (.bool false)) w) := by
      refine Lib.hid ⟨rfl, Only.refl _ _, ?_⟩
      unfold levelP; rw [hs, if_neg (by simp)]; exact h
    have HS := Lib.hid hs
    clear h hs
    go_enter Tryd.func33, Tryd.ntmps33
    go_wp2_with fail
    refine (refIs_any _ _).mono ?_
    rintro e w' ⟨rfl, rfl⟩
    rw [HS.out]
    go_wp2
    go_ret
    exact HE.out
  | true =>
    obtain ⟨k, rfl, hk1, hk2⟩ := isS_nat hs
    have HS := Lib.hid hs
    have c1 : w.cell? ⟨b, k * 6 + 1, none⟩ = some (.bool (t.up k)) := h.src hk2 (by omega)
    have f1 := h.free (k * 6 + 1)
    have i1 : (k : Int) < 32 := by omega
    have H := Lib.hid (h.upS u hk2)
    have HL : Hid (levelP t (k : Int) u = lookP (upP t k u) k) := by
      refine Lib.hid ?_
      unfold levelP; rw [hs, if_pos rfl]; rfl
    have HO := Lib.hid ((Only.refl (fun i => i = b) w).setCell (p := ⟨b, k * 6 + 1, none⟩) (.inl rfl) (.bool u))
    clear h hs
    rw [HL.out]
    go_enter Tryd.func33, Tryd.ntmps33
    go_wp2_with fail
    refine (refIs_any _ _).mono ?_
    rintro e w' ⟨rfl, rfl⟩
    rw [HS.out]
    go_wp2_with fail
    refine (refLook_any _ b _ k H.out hk2).mono ?_
    rintro e w' ⟨hu, ho, hp⟩
    obtain ⟨v, rfl⟩ := hu
    have HO2 := Lib.hid (HO.out.trans ho)
    have HP := Lib.hid hp
    clear ho hp
    go_wp2
    go_ret
    exact ⟨rfl, HO2.out, HP.out⟩

end Go.Proofs.YtgimnkablodheaaDoor
