/- The program's memory of layer 3: bytes written over several pages. -/
import Derived.Test.YtgfnhledfhhkoaaPm7
namespace Go.Proofs.Ytgfnhledfhhkoaa
open Go.RowKit Go.Maps
set_option linter.unusedVariables false

theorem storeIn_any {w : World} {b gs : Nat} {S : Nat → Prop} {base size : Int} {m : Int → Int} (i : Int) (at_ : Nat) (xs : List Int) (v : Value) (h : ProgMem w b S base size m) (hf : Fits base size) (hi : In64 i) (hv : ReadsIn .u8 gs w v xs) (hs : ¬ S gs) (hx : InPage base size i at_ xs) :
    Calls Try.prog 46 #[.pointer (some ⟨b, 0, none⟩), .int .u64 i, .int .i64 at_, v] w (StoreEnd w b S base size (putF m (i * 4096 + at_) xs)) := by
  obtain ⟨mb, pg, hp⟩ := h.parts
  have hv2 := hv
  obtain ⟨a, c, rfl, _, h3⟩ := hv2
  obtain ⟨off, rfl, _⟩ := h3.resolve_left hx.ne
  cases hn : noughts xs
  · cases e : pg i with
    | none => exact storeIn_b i at_ xs hp hf hi hv hs hx e hn
    | some g => exact storeIn_c i at_ xs hp hi hv hs hx e hn
  · cases e : pg i with
    | none => exact storeIn_a i at_ xs hp hi hv hx e hn
    | some g =>
      cases hz : alike 4096 (overU (fun k => m (i * 4096 + k)) at_ xs) (fun _ => 0)
      · exact storeIn_d i at_ xs hp hi hv hs hx e hn hz
      · exact storeIn_e i at_ xs hp hi hv hs hx e hn hz

theorem place_at (y q : Int) (r : Nat) (h : y = q * 4096 + r) (hr : r < 4096) (hy : In64 y) (w : World) :
    Calls Try.prog 45 #[.int .u64 y] w fun e w' => e = .returned (.tuple #[.int .u64 q, .int .i64 r]) ∧ w = w' := by
  have h1 : y / 4096 = q := by omega
  have h2 : y % 4096 = r := by omega
  have := place_any y hy w
  rw [h1, h2] at this
  exact this

theorem putF_take (m : Int → Int) (x : Int) (xs : List Int) (k n : Nat) (h : k + n ≤ xs.length) : putF (putF m x (xs.take k)) (x + k) ((xs.drop k).take n) = putF m x (xs.take (k + n)) := by
  funext y
  rw [putF_eq, putF_eq, putF_eq]
  have e1 : ((xs.drop k).take n).length = n := by simp; omega
  have e2 : (xs.take k).length = k := by simp; omega
  have e3 : (xs.take (k + n)).length = k + n := by simp; omega
  rw [e1, e2, e3]
  by_cases a : x + k ≤ y ∧ y < x + k + n
  · rw [if_pos a, if_pos (by omega)]
    have f1 : (y - (x + k)).toNat < n := by omega
    have f2 : (y - x).toNat = k + (y - (x + k)).toNat := by omega
    rw [f2]
    simp [List.getD, List.getElem?_take, f1]
  · rw [if_neg a]
    by_cases c : x ≤ y ∧ y < x + k
    · rw [if_pos c, if_pos (by omega)]
      have f1 : (y - x).toNat < k := by omega
      simp [List.getD, List.getElem?_take, f1, show (y - x).toNat < k + n by omega]
    · rw [if_neg c, if_neg (by omega)]

/-- In the loop: the first k bytes are written. -/
def Storing (w wr : World) (b : Nat) (S : Nat → Prop) (base size : Int) (m : Int → Int) (x : Int) (xs : List Int) (k : Nat) : Prop :=
  Only S w wr ∧ ∃ S', (∀ j, S' j → S j ∨ w.heap.size ≤ j) ∧ ProgMem wr b S' base size (putF m x (xs.take k))
theorem Storing.next {e : Ending} {w wr w' : World} {b : Nat} {S S' : Nat → Prop} {base size : Int} {m : Int → Int} {x : Int} {xs : List Int} {k n : Nat} (h : k + n ≤ xs.length) (ho : Only S w wr) (hS : ∀ j, S' j → S j ∨ w.heap.size ≤ j)
    (hs : StoreEnd wr b S' base size (putF (putF m x (xs.take k)) (x + k) ((xs.drop k).take n)) e w') : Storing w w' b S base size m x xs (k + n) := by
  obtain ⟨_, o2, S2, hS2, hM⟩ := hs
  rw [putF_take m x xs k n h] at hM
  refine ⟨ho.step o2 hS, S2, fun j hj => ?_, hM⟩
  rcases hS2 j hj with hj | hj
  · exact hS j hj
  · exact .inr (Nat.le_trans ho.size hj)

/-- A piece of a slice. -/
theorem ReadsIn.piece {w : World} {gs off c c' : Nat} {xs : List Int} (h : ReadsIn .u8 gs w (.slice (some ⟨gs, off, none⟩) xs.length c) xs) (k n : Nat) (hk : k + n ≤ xs.length) (hn : 0 < n) :
    ReadsIn .u8 gs w (.slice (some ⟨gs, off + k, none⟩) n c') ((xs.drop k).take n) := by
  obtain ⟨a, cc, h1, h2, h3⟩ := h
  injection h1 with h1 _ _
  subst h1
  have e1 : ((xs.drop k).take n).length = n := by simp; omega
  refine ⟨_, c', by rw [e1], by omega, .inr ⟨off + k, rfl, ?_, fun j hj => ?_⟩⟩
  · rcases h3 with h3 | ⟨o, _, h4, _⟩
    · rw [h3] at hk; simp at hk; omega
    · exact h4
  · rcases h3 with h3 | ⟨o, h5, _, h4⟩
    · rw [h3] at hk; simp at hk; omega
    · injection h5 with h5; injection h5 with _ h5
      subst h5
      rw [e1] at hj
      have := h4 (k + j) (by omega)
      rw [show off + k + j = off + (k + j) by omega, this]
      simp [List.getD, List.getElem?_take, hj]

set_option maxRecDepth 100000 in
set_option maxHeartbeats 2000000 in
theorem store_some {w : World} {b gs off c : Nat} {S : Nat → Prop} {base size : Int} {m : Int → Int} (x : Int) (xs : List Int) (h : ProgMem w b S base size m) (hf : Fits base size) (hx0 : base ≤ x) (hx1 : x + xs.length ≤ base + size)
    (hv : ReadsIn .u8 gs w (.slice (some ⟨gs, off, none⟩) xs.length c) xs) (hc : xs.length ≤ c) (hb : Bytes255 xs) (hs : ¬ S gs) :
    Calls Try.prog 31 #[.pointer (some ⟨b, 0, none⟩), .int .u64 x, .slice (some ⟨gs, off, none⟩) xs.length c] w (StoreEnd w b S base size (putF m x xs)) := by
  obtain ⟨f1, f2, f3, f4⟩ := hf
  have HF : Hid (Fits base size) := Lib.hid ⟨f1, f2, f3, f4⟩
  have hml : xs.length ≤ maxLen := by obtain ⟨_, _, h1, h2, _⟩ := hv; exact h2
  unfold maxLen at hml
  have hgs : xs = [] ∨ gs < w.heap.size := by
    obtain ⟨_, _, _, _, h3⟩ := hv
    rcases h3 with h3 | ⟨_, _, h3, _⟩
    · exact .inl h3
    · exact .inr h3
  have HV := Lib.hid hv
  have HB := Lib.hid hb
  have HG := Lib.hid hs
  have HGS := Lib.hid hgs
  have HP : Hid (Storing w w b S base size m x xs 0) := Lib.hid ⟨Only.refl _ _, S, fun j hj => .inl hj, by simpa [putF] using h⟩
  clear hv hb hs h hgs
  go_enter Try.func31, Try.ntmps31
  go_wp2
  go_loopw [1, 2] (fun u v wr => ∃ (k L C : Nat) (A : Option Addr), k + L = xs.length ∧ L ≤ C ∧ u = .int .u64 (x + k) ∧ v = .slice A L C ∧ (0 < L → A = some ⟨gs, off + k, none⟩) ∧ Storing w wr b S base size m x xs k)
    (fun _ v _ => match v with | .slice _ n _ => n | _ => 0)
  case atStart => exact ⟨0, xs.length, c, _, by omega, hc, by rw [Int.natCast_zero, Int.add_zero], rfl, fun _ => rfl, HP.out⟩
  case round =>
    obtain ⟨k, L, C, A, hkL, hLC, rfl, rfl, hA, hst⟩ := hrel
    by_cases h0 : 0 < L
    · obtain rfl := hA h0
      obtain ⟨ho, S', hS', hM⟩ := hst
      obtain ⟨q, r, hqr, hr⟩ : ∃ (q : Int) (r : Nat), x + k = q * 4096 + r ∧ r < 4096 := ⟨(x + k) / 4096, ((x + k) % 4096).toNat, by omega, by omega⟩
      have hgs2 : gs < w.heap.size := by
        rcases HGS.out with h1 | h1
        · rw [h1] at hkL; simp at hkL; omega
        · exact h1
      have hsg : ¬ S' gs := fun hh => by
        rcases hS' gs hh with h1 | h1
        · exact HG.out h1
        · omega
      have hvr := HV.out.keeps ho HG.out
      have HO := Lib.hid ho
      have HS := Lib.hid hS'
      have HM := Lib.hid hM
      have HSG := Lib.hid hsg
      have HVR := Lib.hid hvr
      have HQR := Lib.hid hqr
      have hx64 : x + k ≤ 9223372036854775808 := by omega
      have hxp : 0 ≤ x + k := by omega
      have hqi : Hid (In64 q) := Lib.hid (by unfold In64; omega)
      have hxi : Hid (In64 (x + k)) := Lib.hid (by unfold In64; omega)
      clear ho hS' hM hsg hvr hqr hA
      obtain ⟨n4, hn4⟩ : ∃ n4 : Nat, r + n4 = 4096 := ⟨4096 - r, by omega⟩
      have e4 : (4096 : Int) - r = n4 := by omega
      by_cases hlt : n4 < L
      · have hcap : ¬ C = n4 := by omega
        have hle : n4 ≤ C := by omega
        have hpos : 0 < n4 := by omega
        have emin : min (L : Int) (n4 : Int) = n4 := by omega
        have HIN : Hid (InPage base size q r ((xs.drop k).take n4)) := by
          have e1 : ((xs.drop k).take n4).length = n4 := by simp; omega
          refine Lib.hid ⟨by rw [← HQR.out]; omega, by rw [← HQR.out, e1]; omega, by rw [e1]; omega, fun i hi => ?_, fun hh => by rw [hh] at e1; simp at e1; omega⟩
          rw [e1] at hi
          have := HB.out (k + i) (by omega)
          simpa [List.getD, List.getElem?_take, hi] using this
        have HPC : ∀ c', Hid (ReadsIn .u8 gs wr (.slice (some ⟨gs, off + k, none⟩) n4 c') ((xs.drop k).take n4)) := fun c' => Lib.hid (HVR.out.piece k n4 (by omega) hpos)
        go_wp2_with (first
          | (go_at_call 45; refine (place_at (x + k) q r HQR.out hr hxi.out _).mono ?_; rintro e w2 ⟨rfl, rfl⟩))
        refine (storeIn_any q r ((xs.drop k).take n4) _ HM.out HF.out hqi.out (HPC _).out HSG.out HIN.out).mono ?_
        rintro e w2 hE
        rw [← HQR.out] at hE
        obtain ⟨u, rfl⟩ := hE.1
        have HN := Lib.hid (Storing.next (by omega) HO.out HS.out hE)
        have ex : x + k + n4 ≤ 9223372036854775808 := by omega
        clear hE
        go_wp2
        go_roundw
        case rel => exact ⟨k + n4, L - n4, C - n4, _, by omega, by omega, by rw [Int.natCast_add, Int.add_assoc], rfl, fun _ => by rw [Nat.add_assoc], HN.out⟩
        case measure => simp; omega
      · have hle : L ≤ C := hLC
        have emin : min (L : Int) (n4 : Int) = L := by omega
        have HIN : Hid (InPage base size q r ((xs.drop k).take L)) := by
          have e1 : ((xs.drop k).take L).length = L := by simp; omega
          refine Lib.hid ⟨by rw [← HQR.out]; omega, by rw [← HQR.out, e1]; omega, by rw [e1]; omega, fun i hi => ?_, fun hh => by rw [hh] at e1; simp at e1; omega⟩
          rw [e1] at hi
          have := HB.out (k + i) (by omega)
          simpa [List.getD, List.getElem?_take, hi] using this
        have HPC : ∀ c', Hid (ReadsIn .u8 gs wr (.slice (some ⟨gs, off + k, none⟩) L c') ((xs.drop k).take L)) := fun c' => Lib.hid (HVR.out.piece k L (by omega) h0)
        go_wp2_with (first
          | (go_at_call 45; refine (place_at (x + k) q r HQR.out hr hxi.out _).mono ?_; rintro e w2 ⟨rfl, rfl⟩))
        refine (storeIn_any q r ((xs.drop k).take L) _ HM.out HF.out hqi.out (HPC _).out HSG.out HIN.out).mono ?_
        rintro e w2 hE
        rw [← HQR.out] at hE
        obtain ⟨u, rfl⟩ := hE.1
        have HN := Lib.hid (Storing.next (by omega) HO.out HS.out hE)
        have ex : x + k + L ≤ 9223372036854775808 := by omega
        clear hE
        by_cases hcap : C = L
        · subst hcap
          go_wp2
          go_roundw
          case rel => exact ⟨k + C, 0, 0, some ⟨gs, off + k, none⟩, by omega, by omega, by rw [Int.natCast_add, Int.add_assoc], by simp, fun h => absurd h (by omega), HN.out⟩
          case measure => simp; omega
        · go_wp2
          go_roundw
          case rel => exact ⟨k + L, 0, C - L, some ⟨gs, off + k + L, none⟩, by omega, by omega, by rw [Int.natCast_add, Int.add_assoc], by simp, fun h => absurd h (by omega), HN.out⟩
          case measure => simp; omega
    · obtain rfl : L = 0 := by omega
      obtain rfl : k = xs.length := by omega
      rw [Storing, List.take_length] at hst
      have HST := Lib.hid hst
      clear hst
      go_wp2
      go_end0
      exact ⟨⟨_, rfl⟩, HST.out⟩

end Go.Proofs.Ytgfnhledfhhkoaa
