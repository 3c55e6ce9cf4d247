/- Layer 6: the program's uart: reasons and the line's state are told; its table of kept bits. -/
import Derived.Test.YtcbjfkbmbjmnbaaDoorUe
namespace Go.Proofs.YtcbjfkbmbjmnbaaDoor
open Go.RowKit
set_option linter.unusedVariables false

theorem rdX2 {t : US} {r : Int} (h : rsn t = r) (hf : t.fcr = 1) : rdX t 2 = r + 192 := by show rsn t + _ = _; rw [h, if_pos hf]
theorem rdX2' {t : US} {r : Int} (h : rsn t = r) (hf : ¬ t.fcr = 1) : rdX t 2 = r := by show rsn t + _ = _; rw [h, if_neg hf]; omega
theorem rdT2 {t : US} (h : rsn t = 2) : rdT t 2 = { t with sent := false } := by show ({ t with sent := _ } : US) = _; rw [if_pos h]
theorem rdT2' {t : US} (h : ¬ rsn t = 2) : rdT t 2 = t := by show ({ t with sent := _ } : US) = _; rw [if_neg h]

set_option maxHeartbeats 2000000 in
theorem tellReason_any (w : World) (b : Nat) (F : Nat → Prop) (t : US) (vi vo : Value) (h : HP w b F t vi vo) :
    Calls Tryd.prog 32 #[.pointer (some ⟨b, 0, none⟩)] w (TellU w b F (.int .u8 (rdX t 2)) (rdT t 2)) := by
  have f3 := h.free 3
  obtain ⟨_, _, _, c3⟩ := h.pcells
  have h20 := hasV_fifo h.ok
  have H := Lib.hid h
  have H2 := Lib.hid (h.set 3 (.bool false) (t' := { t with sent := false }) rfl rfl (ok_sent h.ok false) rfl)
  have E2 := Lib.hid (EndU.set h 3 (.bool false) (t' := { t with sent := false }) rfl rfl (ok_sent h.ok false) rfl)
  have e20 : hasV { t with sent := false } 2 0 = hasV t 2 0 := rfl
  clear h
  rcases rsn_vals t with hr | hr | hr
  all_goals
    by_cases hf : t.fcr = 1
    all_goals
      first | rw [decide_eq_true hf] at h20 | rw [decide_eq_false hf] at h20
      rw [h20] at e20
      first | rw [rdX2 hr hf] | rw [rdX2' hr hf]
      first | rw [rdT2 hr] | rw [rdT2' (by omega)]
      have HRS := Lib.hid (reason_any w b F t vi vo H.out)
      rw [hr] at HRS
      clear hf hr
      go_enter Tryd.func32, Tryd.ntmps32
      go_wp2_with (first
        | (go_at_call 25; refine (HRS.out).mono ?_; rintro e w' ⟨rfl, rfl⟩)
        | (go_at_call 28; refine (has_any _ b F _ vi vo H.out _ _ (by decide) (by decide)).mono ?_; rintro e w' ⟨rfl, rfl⟩)
        | (go_at_call 28; refine (has_any _ b F _ vi vo H2.out _ _ (by decide) (by decide)).mono ?_; rintro e w' ⟨rfl, rfl⟩))
      go_ret
      first
        | exact ⟨rfl, E2.out⟩
        | exact ⟨rfl, EndU.refl H.out⟩

theorem rdX5 (t : US) (m : Nat) (hm : t.inn.length = m) : rdX t 5 = 96 + (if 0 < m then 1 else 0) + if t.lost = true then 2 else 0 := by subst hm; rfl
set_option maxHeartbeats 2000000 in
theorem tellStatus_any (w : World) (b : Nat) (F : Nat → Prop) (t : US) (vi vo : Value) (h : HP w b F t vi vo) :
    Calls Tryd.prog 33 #[.pointer (some ⟨b, 0, none⟩)] w (TellU w b F (.int .u8 (rdX t 5)) (rdT t 5)) := by
  have hli := h.ok.li
  obtain ⟨a, c, hvi, hnc, hcm, hr⟩ := h.ri.reads (by omega)
  subst hvi
  have f2 := h.free 2
  obtain ⟨c0, _, c2, _⟩ := h.pcells
  have E2 : Hid (EndU cellsP 52 w b F (rdT t 5) (w.setCell ⟨b, 2, none⟩ (.bool false))) := Lib.hid (EndU.set h 2 (.bool false) (t' := { t with lost := false }) rfl rfl (ok_lost h.ok false) rfl)
  have HX := Lib.hid (rdX5 t t.inn.length rfl)
  clear h hr hli hnc hcm
  generalize rdX t 5 = X at *
  generalize rdT t 5 = T at *
  generalize t.inn.length = n at *
  generalize t.lost = l at *
  by_cases hn : 0 < n
  · cases l
    all_goals
      go_enter Tryd.func33, Tryd.ntmps33
      go_wp2
      go_ret
      exact ⟨by rw [HX.out, if_pos hn]; rfl, E2.out⟩
  · obtain rfl : n = 0 := by omega
    cases l
    all_goals
      go_enter Tryd.func33, Tryd.ntmps33
      go_wp2
      go_ret
      exact ⟨by rw [HX.out, if_neg hn]; rfl, E2.out⟩

/-! ### the table of kept bits -/
def keptQ : Array Value := #[.int .u8 0, .int .u8 15, .int .u8 1, .int .u8 255, .int .u8 31, .int .u8 0, .int .u8 0, .int .u8 255, .int .u8 255, .int .u8 255]
/-- The program's table stands in its block. -/
def Tab (w : World) : Prop := ∃ t fr, w.heap[0]? = some (.cells keptQ t fr)
theorem Tab.lt {w : World} (h : Tab w) : 0 < w.heap.size := by obtain ⟨t, fr, h⟩ := h; exact (Array.getElem?_eq_some_iff.1 h).1
theorem Tab.below {w w' : World} (h : Tab w) (o : Below w.heap.size w w') : Tab w' := by
  have hl := h.lt
  obtain ⟨t, fr, h⟩ := h; exact ⟨t, fr, (o.block _ hl).trans h⟩
theorem Tab.keeps {w w' : World} {T : Nat → Prop} (h : Tab w) (o : Only T w w') (hT : ¬ T 0) : Tab w' := by obtain ⟨t, fr, h⟩ := h; exact ⟨t, fr, o.keeps hT h⟩
theorem Tab.cell {w : World} (h : Tab w) (k : Nat) {v : Value} (hv : keptQ[k]? = some v) : w.cell? ⟨0, k, none⟩ = some v := by
  obtain ⟨t, fr, h⟩ := h; rw [cell_of_row w _ k _ _ _ h, hv]

theorem and8 (x : Int) (h0 : 0 ≤ x) (h1 : x < 256) (m : Nat) (k : Nat) (hk : m = 2 ^ k - 1) (hm : m < 256) : bits .and .u8 x m = x % (2 ^ k : Nat) := by
  obtain ⟨n, rfl⟩ := Int.eq_ofNat_of_zero_le h0
  have hn : n < 256 := by omega
  have n8 : n % 2 ^ 8 = n := Nat.mod_eq_of_lt hn
  have m8 : m % 2 ^ 8 = m := Nat.mod_eq_of_lt hm
  show IntKind.u8.wrap ((BitVec.ofInt 8 (n : Int) &&& BitVec.ofInt 8 (m : Int)).toNat : Int) = _
  rw [BitVec.toNat_and, BitVec.ofInt_natCast, BitVec.ofInt_natCast, BitVec.toNat_ofNat, BitVec.toNat_ofNat, n8, m8, hk, Nat.and_two_pow_sub_one_eq_mod]
  have hlt : n % 2 ^ k < 256 := Nat.lt_of_le_of_lt (Nat.mod_le _ _) hn
  rw [show ((n : Int) % ((2 ^ k : Nat) : Int)) = ((n % 2 ^ k : Nat) : Int) from (Int.natCast_emod _ _).symm]
  generalize n % 2 ^ k = q at *
  clear n8 m8
  rw [IntKind.wrap_u8]; omega
theorem and8_0 {x : Int} (h0 : 0 ≤ x) (h1 : x < 256) : bits .and .u8 x 0 = 0 := by have := and8 x h0 h1 0 0 (by decide) (by decide); simpa using this
theorem and8_1 {x : Int} (h0 : 0 ≤ x) (h1 : x < 256) : bits .and .u8 x 1 = x % 2 := by have := and8 x h0 h1 1 1 (by decide) (by decide); simpa using this
theorem and8_15 {x : Int} (h0 : 0 ≤ x) (h1 : x < 256) : bits .and .u8 x 15 = x % 16 := by have := and8 x h0 h1 15 4 (by decide) (by decide); simpa using this
theorem and8_31 {x : Int} (h0 : 0 ≤ x) (h1 : x < 256) : bits .and .u8 x 31 = x % 32 := by have := and8 x h0 h1 31 5 (by decide) (by decide); simpa using this
theorem and8_255 {x : Int} (h0 : 0 ≤ x) (h1 : x < 256) : bits .and .u8 x 255 = x := by have := and8 x h0 h1 255 8 (by decide) (by decide); rw [show ((255 : Nat) : Int) = 255 from rfl] at this; rw [this]; omega
theorem wrap8 (v : Int) (h : 0 ≤ v) : IntKind.u8.wrap v = v % 256 := IntKind.wrap_u8 v

end Go.Proofs.YtcbjfkbmbjmnbaaDoor
