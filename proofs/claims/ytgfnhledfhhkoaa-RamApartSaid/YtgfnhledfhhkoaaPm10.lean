/- The program's memory of layer 3: Read, Write, Put, Bytes. -/
import Derived.Test.YtgfnhledfhhkoaaPm9
import Derived.Laws.MakeOwn
namespace Go.Proofs.Ytgfnhledfhhkoaa
open Go.RowKit Go.Maps
set_option linter.unusedVariables false

theorem okN_cases {n : Int} (h : okN n = true) : ∃ N : Nat, n = N ∧ 0 < N ∧ N ≤ 8 := by
  unfold okN at h
  rw [decide_eq_true_eq] at h
  exact ⟨n.toNat, by omega, by omega, by omega⟩
theorem hasZ_in {base size x : Int} {N : Nat} (h : hasZ base size x N = true) (hN : 0 < N) : base ≤ x ∧ x + N ≤ base + size := by
  unfold hasZ at h
  rw [decide_eq_true_eq] at h
  omega

/-- m between x and x + N, 0 elsewhere. -/
def cutM (m : Int → Int) (x : Int) (N : Nat) (y : Int) : Int := if x ≤ y ∧ y < x + N then m y else 0
theorem cutM_bytey {m : Int → Int} (h : Bytey m) (x : Int) (N : Nat) : Bytey (cutM m x N) := by
  intro y; unfold cutM; split
  · exact h y
  · omega
theorem cutM_read (m : Int → Int) (x : Int) {N : Nat} (h : N ≤ 8) : rdN (cutM m x N) x 8 = rdN m x N := by
  obtain ⟨d, hd⟩ : ∃ d, 8 = N + d := ⟨8 - N, by omega⟩
  rw [hd, rdN_zeros fun i h1 h2 => by unfold cutM; rw [if_neg (by omega)]]
  exact rdN_congr fun y h1 h2 => by unfold cutM; rw [if_pos ⟨h1, h2⟩]
theorem cutM_readU (m : Int → Int) (x : Int) (N : Nat) : readU (fun _ => 0) 0 m x N = fun i : Nat => cutM m x N (x + (i : Int)) := by
  funext j
  unfold readU cutM
  by_cases c : j < N
  · rw [if_pos ⟨by omega, by omega⟩, if_pos (by omega)]; congr 1
  · rw [if_neg (by omega), if_neg (by omega)]

set_option maxRecDepth 100000 in
set_option maxHeartbeats 2000000 in
theorem progRead_any {w : World} {b : Nat} {S : Nat → Prop} {base size : Int} {m : Int → Int} (x n : Int) (h : ProgMem w b S base size m) (hf : Fits base size) (hx : In64 x) (hn : In63 n) :
    Calls Try.prog 10 #[.pointer (some ⟨b, 0, none⟩), .int .u64 x, .int .i64 n] w (ReadEnd w (readV base size m x n)) := by
  have HP := Lib.hid h
  have HF := Lib.hid hf
  have HX := Lib.hid hx
  have HN := Lib.hid hn
  clear h hf hx hn
  cases hk : okN n
  · have H := Lib.hid hk
    have HE : Hid (readV base size m x n = (0, false)) := Lib.hid (by unfold readV; rw [hk]; rfl)
    clear hk
    rw [HE.out]
    go_enter Try.func10, Try.ntmps10
    go_wp2_with (go_at_call 29; refine (isLength_any _ _).mono ?_; rintro e w' ⟨rfl, rfl⟩; rw [H.out])
    go_ret2
    exact ⟨rfl, Below.refl _ _⟩
  · cases hz : hasZ base size x n
    · have H := Lib.hid hk
      have HZ := Lib.hid hz
      have HE : Hid (readV base size m x n = (0, false)) := Lib.hid (by unfold readV; rw [hk, hz]; rfl)
      clear hk hz
      rw [HE.out]
      go_enter Try.func10, Try.ntmps10
      go_wp2_with (first
        | (go_at_call 29; refine (isLength_any _ _).mono ?_; rintro e w' ⟨rfl, rfl⟩; rw [H.out])
        | (go_at_call 16; refine (progHas_any _ _ HP.out HF.out HX.out HN.out).mono ?_; rintro e w' ⟨rfl, rfl⟩; rw [HZ.out]))
      go_ret2
      exact ⟨rfl, Below.refl _ _⟩
    · obtain ⟨N, rfl, hN0, hN8⟩ := okN_cases hk
      have HI := Lib.hid (hasZ_in hz hN0)
      have H := Lib.hid hk
      have HZ := Lib.hid hz
      have HE : Hid (readV base size m x N = (rdN m x N, true)) := Lib.hid (by unfold readV; rw [hk, hz]; rfl)
      clear hk hz
      rw [HE.out]
      have HSL := fun w' => run_slice_upto (w := w') Try.underlying66 (Try.sizeOf5 w') w.heap.size N hN8 (by omega)
      have hb1 : Below w.heap.size w (w.alloc (.cells #[.int .u8 0, .int .u8 0, .int .u8 0, .int .u8 0, .int .u8 0, .int .u8 0, .int .u8 0, .int .u8 0] 66)) := (Below.refl _ _).alloc (Nat.le_refl _) _
      have hu : HoldsU (w.alloc (.cells #[.int .u8 0, .int .u8 0, .int .u8 0, .int .u8 0, .int .u8 0, .int .u8 0, .int .u8 0, .int .u8 0] 66)) w.heap.size 66 8 (fun _ => 0) := heap_alloc_new w _
      have HU := Lib.hid hu
      have HB1 := Lib.hid hb1
      have HP1 := Lib.hid (HP.out.keeps (Only.of_below (fun _ => False) hb1) (fun _ _ => id))
      have HG : Hid (¬ S w.heap.size) := Lib.hid (fun hs => by obtain ⟨mb, pg, hp⟩ := HP.out.parts; have := hp.ok.lt _ hs; omega)
      clear hu hb1
      go_enter Try.func10, Try.ntmps10
      go_wp2_with (first
        | (go_at_call 29; refine (isLength_any _ _).mono ?_; rintro e w' ⟨rfl, rfl⟩; rw [H.out])
        | (go_at_call 16; refine (progHas_any _ _ HP.out HF.out HX.out HN.out).mono ?_; rintro e w' ⟨rfl, rfl⟩; rw [HZ.out]))
      refine (load_some (off := 0) x HP1.out HF.out (fun _ => HI.out.1) (fun _ => HI.out.2) HX.out HU.out (fun _ => rfl) (by omega) (by omega) (by omega) (fun _ _ _ => rfl) HG.out).mono ?_
      rintro e w2 ⟨⟨u, rfl⟩, ho, hr⟩
      rw [cutM_readU] at hr
      have HR := Lib.hid hr
      have HO := Lib.hid (HB1.out.trans (ho.below (B := w.heap.size) (by rintro k rfl; exact Nat.le_refl _) HB1.out.size))
      have HBY : Hid (Bytey (cutM m x N)) := Lib.hid (cutM_bytey (by obtain ⟨mb, pg, hp⟩ := HP.out.parts; exact hp.bytey) x N)
      have HRD := Lib.hid (cutM_read m x hN8)
      clear ho hr
      go_wp2_with (first
        | (refine wpList_load_u rfl _ _ rfl w.heap.size rfl 66 8 (fun i : Nat => cutM m x N (x + (i : Int))) 5 HR.out Try.underlying66 size8 ?_)
        | (go_at_call 33; refine (number_any (cutM m x N) x HBY.out _).mono ?_; rintro e w3 ⟨rfl, hb3⟩; rw [HRD.out]))
      go_ret2
      exact ⟨rfl, HO.out.trans (hb3.mono HO.out.size)⟩

end Go.Proofs.Ytgfnhledfhhkoaa
