/- The document's memory of layer 3: numbers written, bytes put and told. -/
import Derived.Test.YtgfnhledfhhkoaaR3c
namespace Go.Proofs.Ytgfnhledfhhkoaa
open Go.RowKit
set_option linter.unusedVariables false

theorem RefMem.congr {w : World} {b g : Nat} {base size : Int} {N N' : Nat} {m m' : Int → Int} (h : RefMem w b g base size N m) (e : ∀ y, m y = m' y) (hN : N ≤ N') : RefMem w b g base size N' m' := by
  obtain ⟨l, h1, h2, h3, h4⟩ := h; exact ⟨l, h1, h2, fun y => (h3 y).trans (e y), by omega⟩

/-- P3.2: memory behind a Write. -/
def writeM (base size : Int) (m : Int → Int) (x n v : Int) : Int → Int := if (okN n && hasZ base size x n) = true then wrN m x v n.toNat else m

/-- What a call leaves that may turn the object: another list, new or the old one. -/
def MemEnd (w : World) (b g : Nat) (base size : Int) (N : Nat) (m : Int → Int) (r : Bool) (e : Ending) (w' : World) : Prop :=
  e = .returned (.bool r) ∧ Only (fun i => i = b) w w' ∧ ∃ g', (g' = g ∨ w.heap.size ≤ g') ∧ RefMem w' b g' base size N m

/-- In the loop: what is still to be written. -/
def Writing (w wr : World) (b g : Nat) (base size : Int) (N : Nat) (m : Int → Int) (x v : Int) (n k : Nat) (vv : Int) : Prop :=
  In64 vv ∧ Only (fun i => i = b) w wr ∧ ∃ g' m', (g' = g ∨ w.heap.size ≤ g') ∧ RefMem wr b g' base size (N + k) m' ∧ ∀ y, wrN m' (x + k) vv (n - k) y = wrN m x v n y

theorem Writing.next {e : Ending} {w wr w' : World} {b g : Nat} {base size : Int} {N : Nat} {m m1 : Int → Int} {x v : Int} {n k : Nat} {vv : Int} (h : In64 vv) (ho : Only (fun i => i = b) w wr) (hk : k < n)
    (hy : ∀ y, wrN m1 (x + k) vv (n - k) y = wrN m x v n y) (hs : MemSet wr b base size (N + k + 1) (fun y => if y = x + k then vv % 256 else m1 y) e w') : Writing w w' b g base size N m x v n (k + 1) (vv / 256) := by
  obtain ⟨_, ho2, g', hg, hr⟩ := hs
  refine ⟨by unfold In64 at *; omega, ho.trans ho2, g', _, .inr (Nat.le_trans ho.size hg), hr, fun y => ?_⟩
  rw [← hy y, show x + ((k + 1 : Nat) : Int) = x + k + 1 by omega, wrN_step, show n - (k + 1) + 1 = n - k by omega]

set_option maxHeartbeats 4000000 in
theorem mem_write (w : World) (b g : Nat) (base size : Int) (N : Nat) (m : Int → Int) (x n v : Int) (h : RefMem w b g base size N m) (hf : Fits base size) (hx : In64 x) (hv : In64 v) (hN : N < 900000) :
    Calls Try.prog 36 #[.pointer (some ⟨b, 0, none⟩), .int .u64 x, .int .i64 n, .int .u64 v] w (MemEnd w b g base size (N + 8) (writeM base size m x n v) (okN n && hasZ base size x n)) := by
  have HH := Lib.hid h
  have HX := Lib.hid hx
  have HF := Lib.hid hf
  have HV := Lib.hid hv
  by_cases ok : n = 1 ∨ n = 2 ∨ n = 4 ∨ n = 8
  · by_cases hh : hasZ base size x n = true
    · have hb := hh
      unfold hasZ at hb
      rw [decide_eq_true_eq] at hb
      have R : Hid (writeM base size m x n v = wrN m x v n.toNat ∧ (okN n && hasZ base size x n) = true) := by
        refine Lib.hid ?_
        have : (okN n && hasZ base size x n) = true := by unfold okN; rw [decide_eq_true ok, hh]; rfl
        exact ⟨by unfold writeM; rw [if_pos this], this⟩
      have xb : x + n ≤ 9223372036854775808 := by
        obtain ⟨f1, f2, f3, f4⟩ := hf; omega
      have x0 := hx.1
      clear h hf hx hb hv
      rcases ok with rfl | rfl | rfl | rfl
      · go_enter Try.func36, Try.ntmps36
        go_wp2_with fail
        refine (mem_has _ b g base size N m _ _ HH.out HF.out HX.out).mono ?_
        rintro e w1 ⟨rfl, hb1⟩
        have W0 : Writing w w1 b g base size N m x v 1 0 v := ⟨HV.out, Only.of_below _ hb1, g, m, .inl rfl, HH.out.below hb1, fun y => by rw [show x + ((0 : Nat) : Int) = x by omega]⟩
        go_wp2_with fail
        go_loopw [3, 9] (fun u i wr => ∃ (k : Nat) (vv : Int), k ≤ 1 ∧ i = .int .i64 k ∧ u = .int .u64 vv ∧ Writing w wr b g base size N m x v 1 k vv) (fun _ i _ => 1 - (intOf i).toNat)
        case atStart => exact ⟨0, v, by omega, rfl, rfl, W0⟩
        case round =>
          clear W0 hb1
          obtain ⟨k, vv, hk, rfl, rfl, hW⟩ := hrel
          by_cases hlt : k < 1
          · obtain ⟨hvv, ho, g1, m1, hg1, hr1, hy⟩ := hW
            have v0 := hvv.1
            have HR := Lib.hid hr1
            have HVV := Lib.hid hvv
            have HY := Lib.hid hy
            have HO := Lib.hid ho
            have HL := Lib.hid hlt
            have m1b : 0 ≤ vv % 256 := by omega
            have m2b : vv % 256 ≤ 255 := by omega
            have mw : IntKind.u8.wrap (vv % 256) = vv % 256 := by simp [IntKind.wrap, IntKind.bits, IntKind.signed]
            have IX := Lib.hid (show In64 (x + k) from ⟨by omega, by omega⟩)
            have QE : Hid (IntKind.u64.wrap (vv.tdiv 256) = vv / 256) := by
              refine Lib.hid ?_
              have := hvv.2
              rw [IntKind.wrap_u64, Int.tdiv_eq_ediv_of_nonneg v0]; omega
            clear hr1 hvv hy ho hg1
            go_wp2_with fail
            refine (mem_set _ b g1 base size (N + k) m1 _ _ HR.out (by omega) IX.out (by omega) (by omega)).mono ?_
            rintro e w2 hs
            have HS := Lib.hid (Writing.next (g := g) HVV.out HO.out HL.out HY.out hs)
            obtain ⟨⟨u, rfl⟩, _⟩ := hs
            go_wp2
            go_roundw
            case rel => exact ⟨k + 1, _, by omega, by go_num, rfl, by rw [QE.out]; exact HS.out⟩
            case measure => simp [intOf]; omega
          · obtain rfl : k = 1 := by omega
            obtain ⟨_, ho, g1, m1, hg1, hr1, hy⟩ := hW
            have HE := Lib.hid hy
            have HR := Lib.hid hr1
            clear hy hr1
            go_wp2
            go_ret
            exact ⟨by rw [R.out.2]; rfl, ho, g1, hg1, HR.out.congr (fun y => by rw [R.out.1]; exact HE.out y) (by omega)⟩
      · go_enter Try.func36, Try.ntmps36
        go_wp2_with fail
        refine (mem_has _ b g base size N m _ _ HH.out HF.out HX.out).mono ?_
        rintro e w1 ⟨rfl, hb1⟩
        have W0 : Writing w w1 b g base size N m x v 2 0 v := ⟨HV.out, Only.of_below _ hb1, g, m, .inl rfl, HH.out.below hb1, fun y => by rw [show x + ((0 : Nat) : Int) = x by omega]⟩
        go_wp2_with fail
        go_loopw [3, 9] (fun u i wr => ∃ (k : Nat) (vv : Int), k ≤ 2 ∧ i = .int .i64 k ∧ u = .int .u64 vv ∧ Writing w wr b g base size N m x v 2 k vv) (fun _ i _ => 2 - (intOf i).toNat)
        case atStart => exact ⟨0, v, by omega, rfl, rfl, W0⟩
        case round =>
          clear W0 hb1
          obtain ⟨k, vv, hk, rfl, rfl, hW⟩ := hrel
          by_cases hlt : k < 2
          · obtain ⟨hvv, ho, g1, m1, hg1, hr1, hy⟩ := hW
            have v0 := hvv.1
            have HR := Lib.hid hr1
            have HVV := Lib.hid hvv
            have HY := Lib.hid hy
            have HO := Lib.hid ho
            have HL := Lib.hid hlt
            have m1b : 0 ≤ vv % 256 := by omega
            have m2b : vv % 256 ≤ 255 := by omega
            have mw : IntKind.u8.wrap (vv % 256) = vv % 256 := by simp [IntKind.wrap, IntKind.bits, IntKind.signed]
            have IX := Lib.hid (show In64 (x + k) from ⟨by omega, by omega⟩)
            have QE : Hid (IntKind.u64.wrap (vv.tdiv 256) = vv / 256) := by
              refine Lib.hid ?_
              have := hvv.2
              rw [IntKind.wrap_u64, Int.tdiv_eq_ediv_of_nonneg v0]; omega
            clear hr1 hvv hy ho hg1
            go_wp2_with fail
            refine (mem_set _ b g1 base size (N + k) m1 _ _ HR.out (by omega) IX.out (by omega) (by omega)).mono ?_
            rintro e w2 hs
            have HS := Lib.hid (Writing.next (g := g) HVV.out HO.out HL.out HY.out hs)
            obtain ⟨⟨u, rfl⟩, _⟩ := hs
            go_wp2
            go_roundw
            case rel => exact ⟨k + 1, _, by omega, by go_num, rfl, by rw [QE.out]; exact HS.out⟩
            case measure => simp [intOf]; omega
          · obtain rfl : k = 2 := by omega
            obtain ⟨_, ho, g1, m1, hg1, hr1, hy⟩ := hW
            have HE := Lib.hid hy
            have HR := Lib.hid hr1
            clear hy hr1
            go_wp2
            go_ret
            exact ⟨by rw [R.out.2]; rfl, ho, g1, hg1, HR.out.congr (fun y => by rw [R.out.1]; exact HE.out y) (by omega)⟩
      · go_enter Try.func36, Try.ntmps36
        go_wp2_with fail
        refine (mem_has _ b g base size N m _ _ HH.out HF.out HX.out).mono ?_
        rintro e w1 ⟨rfl, hb1⟩
        have W0 : Writing w w1 b g base size N m x v 4 0 v := ⟨HV.out, Only.of_below _ hb1, g, m, .inl rfl, HH.out.below hb1, fun y => by rw [show x + ((0 : Nat) : Int) = x by omega]⟩
        go_wp2_with fail
        go_loopw [3, 9] (fun u i wr => ∃ (k : Nat) (vv : Int), k ≤ 4 ∧ i = .int .i64 k ∧ u = .int .u64 vv ∧ Writing w wr b g base size N m x v 4 k vv) (fun _ i _ => 4 - (intOf i).toNat)
        case atStart => exact ⟨0, v, by omega, rfl, rfl, W0⟩
        case round =>
          clear W0 hb1
          obtain ⟨k, vv, hk, rfl, rfl, hW⟩ := hrel
          by_cases hlt : k < 4
          · obtain ⟨hvv, ho, g1, m1, hg1, hr1, hy⟩ := hW
            have v0 := hvv.1
            have HR := Lib.hid hr1
            have HVV := Lib.hid hvv
            have HY := Lib.hid hy
            have HO := Lib.hid ho
            have HL := Lib.hid hlt
            have m1b : 0 ≤ vv % 256 := by omega
            have m2b : vv % 256 ≤ 255 := by omega
            have mw : IntKind.u8.wrap (vv % 256) = vv % 256 := by simp [IntKind.wrap, IntKind.bits, IntKind.signed]
            have IX := Lib.hid (show In64 (x + k) from ⟨by omega, by omega⟩)
            have QE : Hid (IntKind.u64.wrap (vv.tdiv 256) = vv / 256) := by
              refine Lib.hid ?_
              have := hvv.2
              rw [IntKind.wrap_u64, Int.tdiv_eq_ediv_of_nonneg v0]; omega
            clear hr1 hvv hy ho hg1
            go_wp2_with fail
            refine (mem_set _ b g1 base size (N + k) m1 _ _ HR.out (by omega) IX.out (by omega) (by omega)).mono ?_
            rintro e w2 hs
            have HS := Lib.hid (Writing.next (g := g) HVV.out HO.out HL.out HY.out hs)
            obtain ⟨⟨u, rfl⟩, _⟩ := hs
            go_wp2
            go_roundw
            case rel => exact ⟨k + 1, _, by omega, by go_num, rfl, by rw [QE.out]; exact HS.out⟩
            case measure => simp [intOf]; omega
          · obtain rfl : k = 4 := by omega
            obtain ⟨_, ho, g1, m1, hg1, hr1, hy⟩ := hW
            have HE := Lib.hid hy
            have HR := Lib.hid hr1
            clear hy hr1
            go_wp2
            go_ret
            exact ⟨by rw [R.out.2]; rfl, ho, g1, hg1, HR.out.congr (fun y => by rw [R.out.1]; exact HE.out y) (by omega)⟩
      · go_enter Try.func36, Try.ntmps36
        go_wp2_with fail
        refine (mem_has _ b g base size N m _ _ HH.out HF.out HX.out).mono ?_
        rintro e w1 ⟨rfl, hb1⟩
        have W0 : Writing w w1 b g base size N m x v 8 0 v := ⟨HV.out, Only.of_below _ hb1, g, m, .inl rfl, HH.out.below hb1, fun y => by rw [show x + ((0 : Nat) : Int) = x by omega]⟩
        go_wp2_with fail
        go_loopw [3, 9] (fun u i wr => ∃ (k : Nat) (vv : Int), k ≤ 8 ∧ i = .int .i64 k ∧ u = .int .u64 vv ∧ Writing w wr b g base size N m x v 8 k vv) (fun _ i _ => 8 - (intOf i).toNat)
        case atStart => exact ⟨0, v, by omega, rfl, rfl, W0⟩
        case round =>
          clear W0 hb1
          obtain ⟨k, vv, hk, rfl, rfl, hW⟩ := hrel
          by_cases hlt : k < 8
          · obtain ⟨hvv, ho, g1, m1, hg1, hr1, hy⟩ := hW
            have v0 := hvv.1
            have HR := Lib.hid hr1
            have HVV := Lib.hid hvv
            have HY := Lib.hid hy
            have HO := Lib.hid ho
            have HL := Lib.hid hlt
            have m1b : 0 ≤ vv % 256 := by omega
            have m2b : vv % 256 ≤ 255 := by omega
            have mw : IntKind.u8.wrap (vv % 256) = vv % 256 := by simp [IntKind.wrap, IntKind.bits, IntKind.signed]
            have IX := Lib.hid (show In64 (x + k) from ⟨by omega, by omega⟩)
            have QE : Hid (IntKind.u64.wrap (vv.tdiv 256) = vv / 256) := by
              refine Lib.hid ?_
              have := hvv.2
              rw [IntKind.wrap_u64, Int.tdiv_eq_ediv_of_nonneg v0]; omega
            clear hr1 hvv hy ho hg1
            go_wp2_with fail
            refine (mem_set _ b g1 base size (N + k) m1 _ _ HR.out (by omega) IX.out (by omega) (by omega)).mono ?_
            rintro e w2 hs
            have HS := Lib.hid (Writing.next (g := g) HVV.out HO.out HL.out HY.out hs)
            obtain ⟨⟨u, rfl⟩, _⟩ := hs
            go_wp2
            go_roundw
            case rel => exact ⟨k + 1, _, by omega, by go_num, rfl, by rw [QE.out]; exact HS.out⟩
            case measure => simp [intOf]; omega
          · obtain rfl : k = 8 := by omega
            obtain ⟨_, ho, g1, m1, hg1, hr1, hy⟩ := hW
            have HE := Lib.hid hy
            have HR := Lib.hid hr1
            clear hy hr1
            go_wp2
            go_ret
            exact ⟨by rw [R.out.2]; rfl, ho, g1, hg1, HR.out.congr (fun y => by rw [R.out.1]; exact HE.out y) (by omega)⟩
    · have hh2 : hasZ base size x n = false := by simpa using hh
      have R : Hid (writeM base size m x n v = m ∧ (okN n && hasZ base size x n) = false) := by
        refine Lib.hid ?_
        have : (okN n && hasZ base size x n) = false := by rw [hh2, Bool.and_false]
        exact ⟨by unfold writeM; rw [this]; rfl, this⟩
      clear h hf hx hh hv
      rcases ok with rfl | rfl | rfl | rfl
      all_goals
        go_enter Try.func36, Try.ntmps36
        go_wp2_with fail
        refine (mem_has _ b g base size N m _ _ HH.out HF.out HX.out).mono ?_
        rintro e w1 ⟨rfl, hb1⟩
        go_wp2
        go_ret
        exact ⟨by rw [R.out.2]; rfl, Only.of_below _ hb1, g, .inl rfl, (HH.out.below hb1).congr (fun y => by rw [R.out.1]) (by omega)⟩
  · have R : Hid (writeM base size m x n v = m ∧ (okN n && hasZ base size x n) = false) := by
      refine Lib.hid ?_
      have : (okN n && hasZ base size x n) = false := by unfold okN; rw [decide_eq_false ok, Bool.false_and]
      exact ⟨by unfold writeM; rw [this]; rfl, this⟩
    have n1 : (n != 1) = true := by simp; omega
    have n2 : (n != 2) = true := by simp; omega
    have n4 : (n != 4) = true := by simp; omega
    have n8 : (n != 8) = true := by simp; omega
    clear h hf hx ok hv
    go_enter Try.func36, Try.ntmps36
    go_wp2
    go_ret
    exact ⟨by rw [R.out.2]; rfl, Only.refl _ _, g, .inl rfl, HH.out.congr (fun y => by rw [R.out.1]) (by omega)⟩

theorem wrNil_any (x n v : Int) (w : World) :
    Calls Try.prog 36 #[.pointer none, .int .u64 x, .int .i64 n, .int .u64 v] w fun e w' => e = .returned (.bool false) ∧ w = w' := by
  by_cases ok : n = 1 ∨ n = 2 ∨ n = 4 ∨ n = 8
  · rcases ok with rfl | rfl | rfl | rfl
    all_goals
      go_enter Try.func36, Try.ntmps36
      go_wp2_with (go_at_call 40; refine (refHas_nil _ _ _).mono ?_; rintro e w1 ⟨rfl, rfl⟩)
      go_ret
      exact ⟨rfl, rfl⟩
  · have n1 : (n != 1) = true := by simp; omega
    have n2 : (n != 2) = true := by simp; omega
    have n4 : (n != 4) = true := by simp; omega
    have n8 : (n != 8) = true := by simp; omega
    clear ok
    go_enter Try.func36, Try.ntmps36
    go_wp2
    go_ret
    exact ⟨rfl, rfl⟩

theorem rdNil_any (x n : Int) (w : World) :
    Calls Try.prog 37 #[.pointer none, .int .u64 x, .int .i64 n] w fun e w' => e = .returned (.tuple #[.int .u64 0, .bool false]) ∧ w = w' := by
  by_cases ok : n = 1 ∨ n = 2 ∨ n = 4 ∨ n = 8
  · rcases ok with rfl | rfl | rfl | rfl
    all_goals
      go_enter Try.func37, Try.ntmps37
      go_wp2_with (go_at_call 40; refine (refHas_nil _ _ _).mono ?_; rintro e w1 ⟨rfl, rfl⟩)
      go_ret2
      exact ⟨rfl, rfl⟩
  · have n1 : (n != 1) = true := by simp; omega
    have n2 : (n != 2) = true := by simp; omega
    have n4 : (n != 4) = true := by simp; omega
    have n8 : (n != 8) = true := by simp; omega
    clear ok
    go_enter Try.func37, Try.ntmps37
    go_wp2
    go_ret2
    exact ⟨rfl, rfl⟩

end Go.Proofs.Ytgfnhledfhhkoaa
