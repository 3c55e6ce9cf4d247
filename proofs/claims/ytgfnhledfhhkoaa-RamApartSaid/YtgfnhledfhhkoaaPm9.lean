/- The program's memory of layer 3: bytes read over several pages. -/
import Derived.Test.YtgfnhledfhhkoaaPm8
import Derived.StillTailTactics
namespace Go.Proofs.Ytgfnhledfhhkoaa
open Go.RowKit Go.Maps
set_option linter.unusedVariables false

/-- The bytes of m from x on, laid over f from off on, k of them. -/
def readU (f : Nat → Int) (off : Nat) (m : Int → Int) (x : Int) (k : Nat) (j : Nat) : Int := if off ≤ j ∧ j < off + k then m (x + ((j - off : Nat) : Int)) else f j
theorem readU_zero (f : Nat → Int) (off : Nat) (m : Int → Int) (x : Int) : readU f off m x 0 = f := by
  funext j; unfold readU; rw [if_neg (by omega)]
theorem readU_step (f : Nat → Int) (off : Nat) (m : Int → Int) (x : Int) (k n : Nat) : overU (readU f off m x k) (off + k) (bytesL m (x + k) n) = readU f off m x (k + n) := by
  funext j
  unfold overU
  rw [bytesL_len]
  by_cases c : off + k ≤ j ∧ j < off + k + n
  · rw [if_pos c, bytesL_get _ _ _ _ (by omega)]
    unfold readU
    rw [if_pos (by omega)]
    congr 1; omega
  · rw [if_neg c]
    unfold readU
    by_cases d : off ≤ j ∧ j < off + k
    · rw [if_pos d, if_pos (by omega)]
    · rw [if_neg d, if_neg (by omega)]
/-- Where the bytes are 0 nothing need be laid. -/
theorem readU_skip {f : Nat → Int} {off : Nat} {m : Int → Int} {x : Int} {k n : Nat} (hf : ∀ j, off ≤ j → j < off + k + n → f j = 0) (hm : ∀ j : Nat, j < n → m (x + k + j) = 0) : readU f off m x (k + n) = readU f off m x k := by
  funext j
  unfold readU
  by_cases d : off ≤ j ∧ j < off + k
  · rw [if_pos d, if_pos (by omega)]
  · rw [if_neg d]
    by_cases c : off ≤ j ∧ j < off + (k + n)
    · rw [if_pos c, hf j (by omega) (by omega)]
      have := hm (j - off - k) (by omega)
      rw [show x + ((j - off : Nat) : Int) = x + k + ((j - off - k : Nat) : Int) by omega, this]
    · rw [if_neg c]

/-- What a call leaves that turns block gd alone. -/
def LoadEnd (w : World) (gd : Nat) (t : TypeId) (n : Nat) (f : Nat → Int) (e : Ending) (w' : World) : Prop :=
  (∃ u, e = .returned u) ∧ Only (fun i => i = gd) w w' ∧ HoldsU w' gd t n f

set_option maxRecDepth 100000 in
set_option maxHeartbeats 4000000 in
theorem load_some {w : World} {b gd off L0 c n : Nat} {t : TypeId} {S : Nat → Prop} {base size : Int} {m : Int → Int} {f : Nat → Int} {a0 : Option Addr} (x : Int) (h : ProgMem w b S base size m) (hf : Fits base size) (hx0 : 0 < L0 → base ≤ x) (hx1 : 0 < L0 → x + L0 ≤ base + size) (hx : In64 x)
    (hd : HoldsU w gd t n f) (ha : 0 < L0 → a0 = some ⟨gd, off, none⟩) (hn : off + L0 ≤ n) (hc : L0 ≤ c) (hL : L0 ≤ 9223372036854775807) (hz : ∀ j, off ≤ j → j < off + L0 → f j = 0) (hs : ¬ S gd) :
    Calls Try.prog 32 #[.pointer (some ⟨b, 0, none⟩), .int .u64 x, .slice a0 L0 c] w (LoadEnd w gd t n (readU f off m x L0)) := by
  obtain ⟨f1, f2, f3, f4⟩ := hf
  obtain ⟨mb, pg, hp⟩ := h.parts
  have HP := Lib.hid hp
  have HG := Lib.hid hs
  have HZ := Lib.hid hz
  have HX0 := Lib.hid hx0
  have HX1 := Lib.hid hx1
  have HD := Lib.hid hd
  have xl := hx.1
  have xh := hx.2
  clear h hp hs hz hd hx hx0 hx1
  go_enter Try.func32, Try.ntmps32
  go_wp2
  go_loopw [1, 2] (fun u v wr => ∃ (k L C : Nat) (A : Option Addr), k + L = L0 ∧ L ≤ C ∧ u = .int .u64 (x + k) ∧ v = .slice A L C ∧ (0 < L → A = some ⟨gd, off + k, none⟩) ∧ Only (fun i => i = gd) w wr ∧ HoldsU wr gd t n (readU f off m x k))
    (fun _ v _ => match v with | .slice _ n _ => n | _ => 0)
  case atStart => exact ⟨0, L0, c, _, by omega, hc, by rw [Int.natCast_zero, Int.add_zero], rfl, ha, Only.refl _ _, by rw [readU_zero]; exact HD.out⟩
  case round =>
    obtain ⟨k, L, C, A, hkL, hLC, rfl, rfl, hA, ho, hr⟩ := hrel
    by_cases h0 : 0 < L
    · obtain rfl := hA h0
      have x0 := HX0.out (by omega)
      have x1 := HX1.out (by omega)
      obtain ⟨q, r, hqr, hr4⟩ : ∃ (q : Int) (r : Nat), x + k = q * 4096 + r ∧ r < 4096 := ⟨(x + k) / 4096, ((x + k) % 4096).toNat, by omega, by omega⟩
      have hp := HP.out.keeps ho (fun i hi e => HG.out (e ▸ hi))
      obtain ⟨c0, c1, c2⟩ := ram_cells hp.row
      have HO := Lib.hid ho
      have HQR := Lib.hid hqr
      have HR := Lib.hid hr
      have HQ := Lib.hid hp
      have hx64 : x + k ≤ 9223372036854775808 := by omega
      have hxp : 0 ≤ x + k := by omega
      have hqi : In64 q := by unfold In64; omega
      have hxi : Hid (In64 (x + k)) := Lib.hid (by unfold In64; omega)
      have hl := hp.ok.map.look pgT hqi
      clear ho hqr hr hp hA hqi
      obtain ⟨n4, hn4⟩ : ∃ n4 : Nat, r + n4 = 4096 := ⟨4096 - r, by omega⟩
      have e4 : (4096 : Int) - r = n4 := by omega
      obtain ⟨d, hd1, hd2, hd3, emin⟩ : ∃ d : Nat, 0 < d ∧ d ≤ L ∧ d ≤ n4 ∧ min (L : Int) (n4 : Int) = d := by
        by_cases hlt : n4 < L
        · exact ⟨n4, by omega, by omega, by omega, by omega⟩
        · exact ⟨L, by omega, by omega, by omega, by omega⟩
      have hdC : d ≤ C := by omega
      have ex : x + k + d ≤ 9223372036854775808 := by omega
      cases hpg : pg q with
      | none =>
        rw [hpg] at hl
        simp only [ptrTo] at hl
        have HN : Hid (HoldsU wr gd t n (readU f off m x (k + d))) := by
          rw [readU_skip (fun j h1 h2 => HZ.out j h1 (by omega)) (fun j hj => by
            have := HQ.out.ok.gone q hpg (r + j) (by omega)
            rw [HQR.out, show q * 4096 + (r : Int) + (j : Int) = q * 4096 + ((r + j : Nat) : Int) by omega]
            exact this)]
          exact Lib.hid HR.out
        clear hpg
        by_cases hcap : C = d
        · go_wp2_with (first
            | (go_at_call 45; refine (place_at (x + k) q r HQR.out hr4 hxi.out _).mono ?_; rintro e w2 ⟨rfl, rfl⟩))
          go_roundw
          case rel => exact ⟨k + d, L - d, C - d, some ⟨gd, off + k, none⟩, by omega, by omega, by rw [Int.natCast_add, Int.add_assoc], by rw [hcap, Nat.sub_self], fun h => absurd h (by omega), HO.out, HN.out⟩
          case measure => simp; omega
        · go_wp2_with (first
            | (go_at_call 45; refine (place_at (x + k) q r HQR.out hr4 hxi.out _).mono ?_; rintro e w2 ⟨rfl, rfl⟩))
          go_roundw
          case rel => exact ⟨k + d, L - d, C - d, some ⟨gd, off + k + d, none⟩, by omega, by omega, by rw [Int.natCast_add, Int.add_assoc], rfl, fun h => by rw [Nat.add_assoc], HO.out, HN.out⟩
          case measure => simp; omega
      | some g =>
        rw [hpg] at hl
        simp only [ptrTo] at hl
        have HPG := Lib.hid (HQ.out.ok.page q g hpg).1
        have HSL := fun w => run_slice_from (w := w) Try.underlying76 (Try.sizeOf5 w) g r hr4
        clear hpg
        have HXL : Hid ((bytesL m (x + k) d).length = Nat.min (4096 - r) d) := Lib.hid (by rw [bytesL_len]; show d = min (4096 - r) d; omega)
        have HSRC : Hid (∀ j, j < (bytesL m (x + k) d).length → wr.drew.cell? ((⟨g, r, none⟩ : Addr).add j) = some (.int .u8 ((bytesL m (x + k) d).getD j 0))) := by
          refine Lib.hid fun j hj => ?_
          rw [bytesL_len] at hj
          rw [add_none, bytesL_get _ _ _ _ hj, HQR.out]
          have := HoldsU.cell (show HoldsU wr.drew g 76 4096 (fun i => m (q * 4096 + i)) from HPG.out) (j := r + j) (by omega)
          rw [show q * 4096 + (r : Int) + (j : Int) = q * 4096 + ((r + j : Nat) : Int) by omega]
          exact this
        have HRD : Hid (HoldsU wr.drew gd t n (readU f off m x k)) := Lib.hid HR.out
        have HFIT : Hid (off + k + (bytesL m (x + k) d).length ≤ n) := Lib.hid (by rw [bytesL_len]; omega)
        have HN : Hid (HoldsU (wr.drew.setRow gd (uarr n (overU (readU f off m x k) (off + k) (bytesL m (x + k) d)))) gd t n (readU f off m x (k + d))) := by
          have := HoldsU.setRow HRD.out (overU (readU f off m x k) (off + k) (bytesL m (x + k) d))
          rw [readU_step] at this ⊢
          exact Lib.hid this
        have HO2 : Hid (Only (fun i => i = gd) w (wr.drew.setRow gd (uarr n (overU (readU f off m x k) (off + k) (bytesL m (x + k) d))))) := Lib.hid ((HO.out.drewN 1).setRow (.inl rfl) _)
        go_wp2_with (first
          | (go_at_call 45; refine (place_at (x + k) q r HQR.out hr4 hxi.out _).mono ?_; rintro e w2 ⟨rfl, rfl⟩))
        go_still_tail 7, (by kernel_rfl)
        change wpList _ _ _ _ _ wr.drew
        refine wpList_copy_u rfl (.tmp 33) (.tmp 37) 30 30 rfl 5 Try.underlying30 size_u8 gd (off + k) d C ⟨g, r, none⟩ (4096 - r) (4096 - r) rfl rfl n (readU f off m x k) t HRD.out (bytesL m (x + k) d) HXL.out HSRC.out HFIT.out ?_
        clear HSRC HRD HXL HFIT
        generalize wr.drew.setRow gd (uarr n (overU (readU f off m x k) (off + k) (bytesL m (x + k) d))) = w9 at *
        generalize (bytesL m (x + k) d).length = nl
        by_cases hcap : C = d
        · go_wp2
          go_roundw
          case rel => exact ⟨k + d, L - d, C - d, some ⟨gd, off + k, none⟩, by omega, by omega, by rw [Int.natCast_add, Int.add_assoc], by rw [hcap, Nat.sub_self], fun h => absurd h (by omega), HO2.out, HN.out⟩
          case measure => simp; omega
        · go_wp2
          go_roundw
          case rel => exact ⟨k + d, L - d, C - d, some ⟨gd, off + k + d, none⟩, by omega, by omega, by rw [Int.natCast_add, Int.add_assoc], rfl, fun h => by rw [Nat.add_assoc], HO2.out, HN.out⟩
          case measure => simp; omega
    · obtain rfl : L = 0 := by omega
      obtain rfl : k = L0 := by omega
      have HO := Lib.hid ho
      have HR := Lib.hid hr
      clear ho hr
      go_wp2
      go_end0
      exact ⟨⟨_, rfl⟩, HO.out, HR.out⟩

end Go.Proofs.Ytgfnhledfhhkoaa
