/- Layer 3's laws: all contracts that the program's memory must keep; awake. -/
import Derived.Test.YtoghdkhlliehoaaBothNil2
namespace Go.Proofs.Ytoghdkhlliehoaa
open Go.RowKit
set_option linter.unusedVariables false
set_option maxRecDepth 100000

theorem rises_ext {ps qs : List Int} (h : Rises ps) (k : Rises qs) (e : ∀ p, p ∈ ps ↔ p ∈ qs) : ps = qs := by
  induction ps generalizing qs with
  | nil =>
    cases qs with
    | nil => rfl
    | cons q qs => exact absurd ((e q).2 (by simp)) (by simp)
  | cons p ps ih =>
    cases qs with
    | nil => exact absurd ((e p).1 (by simp)) (by simp)
    | cons q qs =>
      unfold Rises at h k
      rw [List.pairwise_cons] at h k
      have hpq : p = q := by
        rcases List.mem_cons.1 ((e p).1 (by simp)) with h1 | h1
        · exact h1
        · rcases List.mem_cons.1 ((e q).2 (by simp)) with h2 | h2
          · exact h2.symm
          · have := h.1 q h2; have := k.1 p h1; omega
      subst hpq
      congr 1
      refine ih h.2 k.2 fun x => ⟨fun hx => ?_, fun hx => ?_⟩
      · rcases List.mem_cons.1 ((e x).1 (by simp [hx])) with h1 | h1
        · have := h.1 x hx; omega
        · exact h1
      · rcases List.mem_cons.1 ((e x).2 (by simp [hx])) with h1 | h1
        · have := k.1 x hx; omega
        · exact h1

/-- What the program's New answers. -/
def ProgNew (M : World → Nat → (Nat → Prop) → Int → Int → (Int → Int) → Prop) (w : World) (base size : Int) (ok : Bool) (e : Ending) (w' : World) : Prop :=
  Below w.heap.size w w' ∧ ((ok = false ∧ e = .returned (.tuple #[.pointer none, .int .i64 1])) ∨
    (ok = true ∧ ∃ b S, e = .returned (.tuple #[.pointer (some ⟨b, 0, none⟩), .int .i64 0]) ∧ (∀ i, S i → w.heap.size ≤ i) ∧ M w' b S base size fun _ => 0))

/-- All the contracts. -/
structure Full extends Spec where
  new : ∀ (base size : Int) (w : World), In64 base → In64 size → Calls Try.prog 6 #[.int .u64 base, .int .u64 size] w (ProgNew M w base size (newOk base size))
  getBase : ∀ {w b S base size m}, M w b S base size m → Calls Try.prog 8 #[.pointer (some ⟨b, 0, none⟩)] w fun e w' => e = .returned (.int .u64 base) ∧ ∃ k, w' = w.drewN k
  getSize : ∀ {w b S base size m}, M w b S base size m → Calls Try.prog 9 #[.pointer (some ⟨b, 0, none⟩)] w fun e w' => e = .returned (.int .u64 size) ∧ ∃ k, w' = w.drewN k
  twin : ∀ {w b S base size m}, M w b S base size m → Fits base size → Calls Try.prog 11 #[.pointer (some ⟨b, 0, none⟩)] w fun e w' => Below w.heap.size w w' ∧ ∃ b' S', e = .returned (.pointer (some ⟨b', 0, none⟩)) ∧ (∀ i, S' i → w.heap.size ≤ i) ∧ M w' b' S' base size m
  pages : ∀ {w b S base size m}, M w b S base size m → Fits base size → size ≤ 49152 → Calls Try.prog 13 #[.pointer (some ⟨b, 0, none⟩)] w (PagesEnd w m)
  nils : NilSpec
  twinNil : ∀ w, Calls Try.prog 11 #[.pointer none] w fun e w' => e = .returned (.pointer none) ∧ Below w.heap.size w w'
  pagesNil : ∀ w, Calls Try.prog 13 #[.pointer none] w fun e w' => Below w.heap.size w w' ∧ ∃ a c, e = .returned (.slice a 0 c)

/-- The memory of the law's opening test. -/
def awakeM : Int → Int := writeM 4096 8192 (fun _ => 0) 8190 4 16909060
theorem awakeM_at (y : Int) : awakeM y = if y = 8190 then 4 else if y = 8191 then 3 else if y = 8192 then 2 else if y = 8193 then 1 else 0 := by
  have e : (okN 4 && hasZ 4096 8192 8190 4) = true := by decide
  unfold awakeM writeM
  rw [if_pos e]
  show wrN (fun _ => 0) 8190 16909060 4 y = _
  simp only [wrN]
  rfl
theorem awake_pages {ps : List Int} (h : Rises ps) (e : ∀ p, p ∈ ps ↔ ∃ y, ¬ awakeM y = 0 ∧ pageOf y = p) : ps.length = 2 := by
  have : ps = [4096, 8192] := by
    refine rises_ext h (by unfold Rises; simp) fun p => ?_
    rw [e p]
    constructor
    · rintro ⟨y, hy, rfl⟩
      rw [awakeM_at] at hy
      unfold pageOf
      simp
      split at hy
      · omega
      split at hy
      · omega
      split at hy
      · omega
      split at hy
      · omega
      · exact absurd rfl hy
    · intro hp
      simp at hp
      rcases hp with rfl | rfl
      · exact ⟨8190, by rw [awakeM_at]; decide, by decide⟩
      · exact ⟨8192, by rw [awakeM_at]; decide, by decide⟩
  rw [this]; rfl

set_option maxHeartbeats 1000000 in
theorem ramAwake_any (R : Full) (w : World) : Calls Try.prog 4 #[] w fun e w' => e = .returned (.bool true) ∧ Below w.heap.size w w' := by
  have hok : newOk 4096 8192 = true := by decide
  have hfit : Fits 4096 8192 := by unfold Fits; omega
  have hwr : (okN 4 && hasZ 4096 8192 8190 4) = true := by decide
  have hrd : readV 4096 8192 awakeM 8191 2 = (515, true) := by
    have e : (okN 2 && hasZ 4096 8192 8191 2) = true := by decide
    unfold readV
    rw [if_pos e]
    show (rdN awakeM 8191 2, true) = _
    simp only [rdN, awakeM_at]
    rfl
  have HF := Lib.hid hfit
  have HRD := Lib.hid hrd
  have HWR := Lib.hid hwr
  have HOK := Lib.hid hok
  clear hfit hrd hwr hok
  go_enter Try.func4, Try.ntmps4
  go_wp2_with fail
  refine (R.new 4096 8192 _ (by unfold In64; omega) (by unfold In64; omega)).mono ?_
  rintro e w1 ⟨hb1, hE⟩
  rw [HOK.out] at hE
  rcases hE with ⟨h0, _⟩ | ⟨_, b, S, rfl, hS, hM⟩
  · cases h0
  have HM := Lib.hid hM
  have HB1 := Lib.hid hb1
  have HS := Lib.hid hS
  clear hM hb1 hS
  go_wp2_with fail
  refine (R.write 8190 4 16909060 HM.out HF.out (by unfold In64; omega) (by unfold In63; omega) (by unfold In64; omega)).mono ?_
  rintro e w2 ⟨rfl, hO, S2, hS2, hM2⟩
  rw [HWR.out]
  have HB2 := Lib.hid (Below.thenOnly HB1.out hO HS.out HB1.out.size)
  have HM2 : Hid (R.M w2 b S2 4096 8192 awakeM) := Lib.hid hM2
  clear hO hS2 hM2
  go_wp2_with fail
  refine (R.read 8191 2 HM2.out HF.out (by unfold In64; omega) (by unfold In63; omega)).mono ?_
  rintro e w3 ⟨rfl, hb3⟩
  rw [HRD.out]
  have HM3 := Lib.hid (R.keeps HM2.out (Only.of_below (fun _ => False) hb3) (fun _ _ => id))
  have HB3 := Lib.hid (HB2.out.trans (hb3.mono HB2.out.size))
  clear hb3
  go_wp2_with fail
  refine (R.pages HM3.out HF.out (by omega)).mono ?_
  rintro e w4 ⟨hb4, a, n, c, ps, rfl, hown, hri, hps⟩
  have hlen := awake_pages hri hps
  have hn : n = 2 := by
    rcases hown.2 with ⟨hv, h0⟩ | ⟨_, _, _, hv, _⟩
    · omega
    · injection hv with _ h2 _; omega
  subst hn
  have HB4 := Lib.hid (HB3.out.trans (hb4.mono HB3.out.size))
  clear hb4 hown hri hps hlen
  go_wp2
  go_ret
  exact ⟨rfl, HB4.out⟩

end Go.Proofs.Ytoghdkhlliehoaa
