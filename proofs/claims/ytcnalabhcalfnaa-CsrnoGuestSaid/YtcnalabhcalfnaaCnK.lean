/- Layer 11: what Check tells, in one word for both sides. -/
import Derived.Test.YtcnalabhcalfnaaCnI
import Derived.Test.YtcnalabhcalfnaaCnJ
namespace Go.Proofs.Ytcnalabhcalfnaa
open Go.RowKit
set_option linter.unusedVariables false
set_option maxRecDepth 100000

/-- Which exception comes of touching a register. -/
def chkZ (t : HS) (no : Int) (wr : Bool) : Int :=
  if knownN no = false then 2
  else if wr = true ∧ 3072 ≤ no then 2
  else if ¬ t.n 33 = 0 ∧ ¬ t.n 33 = 1 then 0
  else if 3072 ≤ no ∧ no ≤ 3074 then ctrB (t.n 33 == 0) t.v (bitZ (t.n 44) (no - 3072).toNat) (bitZ (t.n 62) (no - 3072).toNat) (bitZ (t.n 52) (no - 3072).toNat)
  else if no / 256 % 4 = 3 ∨ no / 256 % 4 = 0 then 2
  else if t.v then gstB (t.n 33 == 0) (no / 256 % 4 == 2) (no == 384) (bitZ (t.n 58) 20)
  else hstB (t.n 33 == 0) (no == 384) (no == 1664) (bitZ (t.n 38) 20)
theorem ro_all : ∀ k, k < 56 → roB (noT k) = decide (3072 ≤ noT k) := by decide +kernel
theorem lv_all : ∀ k, k < 56 → lvZ (noT k) = (noT k / 256 % 4 : Nat) := by decide +kernel
theorem known_is {no : Int} (h : knownN no = true) : 0 ≤ no ∧ no < 4096 ∧ roB no = decide (3072 ≤ no) ∧ lvZ no = no / 256 % 4 := by
  unfold knownN at h
  rw [decide_eq_true_eq] at h
  rcases ixN_cases no with ⟨a, b⟩ | ⟨a, _⟩
  · have l := noT_lt _ a
    have r := ro_all _ a
    have v := lv_all _ a
    rw [b] at r v
    refine ⟨by omega, by omega, ?_, ?_⟩
    · rw [r, decide_eq_decide]; omega
    · rw [v]; omega
  · omega
theorem bneT {a b : Int} (h : ¬ a = b) : (a != b) = true := by simpa using h
theorem bneF {a b : Int} (h : a = b) : (a != b) = false := by simpa using h
theorem beqF {a b : Int} (h : ¬ a = b) : (a == b) = false := by simpa using h
theorem beqT {a b : Int} (h : a = b) : (a == b) = true := by simpa using h
theorem ctB_t {no : Int} (h : 3072 ≤ no ∧ no ≤ 3074) : ctB no = true := by
  unfold ctB
  rcases (show no = 3072 ∨ no = 3073 ∨ no = 3074 by omega) with h | h | h <;> subst h <;> rfl
theorem ctB_f {no : Int} (h : ¬ (3072 ≤ no ∧ no ≤ 3074)) : ctB no = false := by
  unfold ctB
  rw [beqF (show ¬ no = 3072 by omega), beqF (show ¬ no = 3073 by omega), beqF (show ¬ no = 3074 by omega)]; rfl

theorem check_is (t : HS) (ok : HOk t) (no : Int) (wr : Bool) (w : World) :
    Calls Try.prog 17 #[hartV t, .int .i64 no, .bool wr] w fun e w' => e = .returned (.int .i64 (chkZ t no wr)) ∧ Below w.heap.size w w' := by
  unfold chkZ
  cases hk : knownN no
  · rw [if_pos rfl]; exact check_no t no wr hk w
  obtain ⟨h0, h4, hro, hlv⟩ := known_is hk
  rw [if_neg (by decide)]
  by_cases hw : wr = true ∧ 3072 ≤ no
  · rw [if_pos hw]
    obtain ⟨rfl, hh⟩ := hw
    exact check_ro t no h0 h4 (t.n 33) t.v rfl rfl hk (by rw [hro]; exact decide_eq_true hh) w
  rw [if_neg hw]
  have hw2 : wr = false ∨ (wr = true ∧ roB no = false) := by
    cases wr
    · exact .inl rfl
    · exact .inr ⟨rfl, by rw [hro]; exact decide_eq_false fun h => hw ⟨rfl, h⟩⟩
  by_cases hm : ¬ t.n 33 = 0 ∧ ¬ t.n 33 = 1
  · rw [if_pos hm]
    rcases hw2 with rfl | ⟨rfl, hr⟩
    · exact check_mr t no h0 h4 (t.n 33) t.v rfl rfl hk (bneT hm.1) (bneT hm.2) w
    · exact check_mw t no h0 h4 (t.n 33) t.v rfl rfl hk hr (bneT hm.1) (bneT hm.2) w
  rw [if_neg hm]
  have hp : (t.n 33 = 0) ∨ (¬ t.n 33 = 0 ∧ t.n 33 = 1) := by omega
  by_cases hc : 3072 ≤ no ∧ no ≤ 3074
  · rw [if_pos hc]
    have hct := ctB_t hc
    have hx : ∀ w, Calls Try.prog 23 #[hartV t, .int .i64 (no - 3072)] w fun e w' => e = .returned (.int .i64 (ctrB (t.n 33 == 0) t.v (bitZ (t.n 44) (no - 3072).toNat) (bitZ (t.n 62) (no - 3072).toNat) (bitZ (t.n 52) (no - 3072).toNat))) ∧ Below w.heap.size w w' := fun w => by
      have := touchCounter_at t ok (no - 3072).toNat (by omega) _ _ _ _ _ rfl rfl rfl rfl rfl w
      rw [show (((no - 3072).toNat : Nat) : Int) = no - 3072 by omega] at this
      exact this
    rcases hw2 with rfl | ⟨rfl, hr⟩
    · rcases hp with p | ⟨p, q⟩
      · exact check_cru t no h0 h4 (t.n 33) t.v _ rfl rfl hk (bneF p) hct hx w
      · exact check_crs t no h0 h4 (t.n 33) t.v _ rfl rfl hk (bneT p) (bneF q) hct hx w
    · rcases hp with p | ⟨p, q⟩
      · exact check_cwu t no h0 h4 (t.n 33) t.v _ rfl rfl hk hr (bneF p) hct hx w
      · exact check_cws t no h0 h4 (t.n 33) t.v _ rfl rfl hk hr (bneT p) (bneF q) hct hx w
  rw [if_neg hc]
  have hct := ctB_f hc
  by_cases hl : no / 256 % 4 = 3 ∨ no / 256 % 4 = 0
  · rw [if_pos hl]
    have a1 : (lvZ no != 1) = true := bneT (by rw [hlv]; omega)
    have a2 : (lvZ no != 2) = true := bneT (by rw [hlv]; omega)
    rcases hw2 with rfl | ⟨rfl, hr⟩
    · rcases hp with p | ⟨p, q⟩
      · exact check_lru t no h0 h4 (t.n 33) t.v rfl rfl hk (bneF p) hct a1 a2 w
      · exact check_lrs t no h0 h4 (t.n 33) t.v rfl rfl hk (bneT p) (bneF q) hct a1 a2 w
    · rcases hp with p | ⟨p, q⟩
      · exact check_lwu t no h0 h4 (t.n 33) t.v rfl rfl hk hr (bneF p) hct a1 a2 w
      · exact check_lws t no h0 h4 (t.n 33) t.v rfl rfl hk hr (bneT p) (bneF q) hct a1 a2 w
  rw [if_neg hl]
  have hl2 : (lvZ no = 1) ∨ (¬ lvZ no = 1 ∧ lvZ no = 2) := by rw [hlv]; omega
  cases hv : t.v
  · rw [if_neg (by decide)]
    have hx : ∀ w, Calls Try.prog 26 #[hartV t, .int .i64 no] w fun e w' => e = .returned (.int .i64 (hstB (t.n 33 == 0) (no == 384) (no == 1664) (bitZ (t.n 38) 20))) ∧ Below w.heap.size w w' := fun w => touchAsHost_at t ok no _ _ _ _ rfl rfl rfl rfl w
    rcases hw2 with rfl | ⟨rfl, hr⟩
    · rcases hp with p | ⟨p, q⟩
      · rcases hl2 with l | ⟨l, m⟩
        · exact check_hru1 t no h0 h4 (t.n 33) _ _ rfl hv hk (bneF p) hct (bneF l) rfl hx w
        · exact check_hru2 t no h0 h4 (t.n 33) _ _ rfl hv hk (bneF p) hct (bneT l) (bneF m) rfl hx w
      · rcases hl2 with l | ⟨l, m⟩
        · exact check_hrs1 t no h0 h4 (t.n 33) _ _ rfl hv hk (bneT p) (bneF q) hct (bneF l) rfl hx w
        · exact check_hrs2 t no h0 h4 (t.n 33) _ _ rfl hv hk (bneT p) (bneF q) hct (bneT l) (bneF m) rfl hx w
    · rcases hp with p | ⟨p, q⟩
      · rcases hl2 with l | ⟨l, m⟩
        · exact check_hwu1 t no h0 h4 (t.n 33) _ _ rfl hv hk hr (bneF p) hct (bneF l) rfl hx w
        · exact check_hwu2 t no h0 h4 (t.n 33) _ _ rfl hv hk hr (bneF p) hct (bneT l) (bneF m) rfl hx w
      · rcases hl2 with l | ⟨l, m⟩
        · exact check_hws1 t no h0 h4 (t.n 33) _ _ rfl hv hk hr (bneT p) (bneF q) hct (bneF l) rfl hx w
        · exact check_hws2 t no h0 h4 (t.n 33) _ _ rfl hv hk hr (bneT p) (bneF q) hct (bneT l) (bneF m) rfl hx w
  · rw [if_pos rfl]
    have hx : ∀ w, Calls Try.prog 25 #[hartV t, .int .i64 no] w fun e w' => e = .returned (.int .i64 (gstB (t.n 33 == 0) (no / 256 % 4 == 2) (no == 384) (bitZ (t.n 58) 20))) ∧ Below w.heap.size w w' := fun w => touchAsGuest_at t ok no h0 _ _ _ _ rfl (by rw [hlv]) rfl rfl w
    rcases hw2 with rfl | ⟨rfl, hr⟩
    · rcases hp with p | ⟨p, q⟩
      · rcases hl2 with l | ⟨l, m⟩
        · exact check_gru1 t no h0 h4 (t.n 33) _ _ rfl hv hk (bneF p) hct (bneF l) rfl hx w
        · exact check_gru2 t no h0 h4 (t.n 33) _ _ rfl hv hk (bneF p) hct (bneT l) (bneF m) rfl hx w
      · rcases hl2 with l | ⟨l, m⟩
        · exact check_grs1 t no h0 h4 (t.n 33) _ _ rfl hv hk (bneT p) (bneF q) hct (bneF l) rfl hx w
        · exact check_grs2 t no h0 h4 (t.n 33) _ _ rfl hv hk (bneT p) (bneF q) hct (bneT l) (bneF m) rfl hx w
    · rcases hp with p | ⟨p, q⟩
      · rcases hl2 with l | ⟨l, m⟩
        · exact check_gwu1 t no h0 h4 (t.n 33) _ _ rfl hv hk hr (bneF p) hct (bneF l) rfl hx w
        · exact check_gwu2 t no h0 h4 (t.n 33) _ _ rfl hv hk hr (bneF p) hct (bneT l) (bneF m) rfl hx w
      · rcases hl2 with l | ⟨l, m⟩
        · exact check_gws1 t no h0 h4 (t.n 33) _ _ rfl hv hk hr (bneT p) (bneF q) hct (bneF l) rfl hx w
        · exact check_gws2 t no h0 h4 (t.n 33) _ _ rfl hv hk hr (bneT p) (bneF q) hct (bneT l) (bneF m) rfl hx w

theorem refcheck_is (t : HS) (ok : HOk t) (no : Int) (wr : Bool) (w : World) :
    Calls Try.prog 18 #[hartV t, .int .i64 no, .bool wr] w fun e w' => e = .returned (.int .i64 (chkZ t no wr)) ∧ Below w.heap.size w w' := by
  unfold chkZ
  cases hk : knownN no
  · rw [if_pos rfl]; exact ref_no t no wr hk w
  obtain ⟨h0, h4, hro, hlv⟩ := known_is hk
  rw [if_neg (by decide)]
  by_cases hw : wr = true ∧ 3072 ≤ no
  · rw [if_pos hw]
    obtain ⟨rfl, hh⟩ := hw
    exact ref_hi t ok no h0 h4 (t.n 33) t.v rfl rfl hk hh w
  rw [if_neg hw]
  have hw2 : wr = false ∨ (wr = true ∧ no < 3072) := by
    cases wr
    · exact .inl rfl
    · exact .inr ⟨rfl, by have : ¬ 3072 ≤ no := fun h => hw ⟨rfl, h⟩; omega⟩
  by_cases hm : ¬ t.n 33 = 0 ∧ ¬ t.n 33 = 1
  · rw [if_pos hm]
    rcases hw2 with rfl | ⟨rfl, hr⟩
    · exact ref_mr t ok no h0 h4 (t.n 33) t.v rfl rfl hk (bneT hm.1) (bneT hm.2) w
    · exact ref_mw t ok no h0 h4 (t.n 33) t.v rfl rfl hk hr (bneT hm.1) (bneT hm.2) w
  rw [if_neg hm]
  have hp : (t.n 33 = 0) ∨ (¬ t.n 33 = 0 ∧ t.n 33 = 1) := by omega
  by_cases hc : 3072 ≤ no ∧ no ≤ 3074
  · rw [if_pos hc]
    have hwr : wr = false := by
      rcases hw2 with h | ⟨_, h⟩
      · exact h
      · omega
    subst hwr
    rcases (show no = 3072 ∨ no = 3073 ∨ no = 3074 by omega) with h | h | h <;> subst h
    · rcases hp with p | ⟨p, q⟩
      · rw [beqT p]; exact ref_c0u t ok (t.n 33) t.v rfl rfl hk (bneF p) (beqT p) _ _ _ rfl rfl rfl w
      · rw [beqF p]; exact ref_c0s t ok (t.n 33) t.v rfl rfl hk (bneT p) (bneF q) (beqF p) _ _ _ rfl rfl rfl w
    · rcases hp with p | ⟨p, q⟩
      · rw [beqT p]; exact ref_c1u t ok (t.n 33) t.v rfl rfl hk (bneF p) (beqT p) _ _ _ rfl rfl rfl w
      · rw [beqF p]; exact ref_c1s t ok (t.n 33) t.v rfl rfl hk (bneT p) (bneF q) (beqF p) _ _ _ rfl rfl rfl w
    · rcases hp with p | ⟨p, q⟩
      · rw [beqT p]; exact ref_c2u t ok (t.n 33) t.v rfl rfl hk (bneF p) (beqT p) _ _ _ rfl rfl rfl w
      · rw [beqF p]; exact ref_c2s t ok (t.n 33) t.v rfl rfl hk (bneT p) (bneF q) (beqF p) _ _ _ rfl rfl rfl w
  rw [if_neg hc]
  have n0 : (no == 3072) = false := beqF (by omega)
  have n1 : (no == 3073) = false := beqF (by omega)
  have n2 : (no == 3074) = false := beqF (by omega)
  by_cases hl : no / 256 % 4 = 3 ∨ no / 256 % 4 = 0
  · rw [if_pos hl]
    have hb : ((no / 256 % 4 == 3) || (no / 256 % 4 == 0)) = true := by
      rcases hl with h | h
      · rw [beqT h]; rfl
      · rw [beqT h]; cases (no / 256 % 4 == 3) <;> rfl
    rcases hw2 with rfl | ⟨rfl, hr⟩
    · rcases hp with p | ⟨p, q⟩
      · exact ref_lru t ok no h0 h4 (t.n 33) t.v rfl rfl hk (bneF p) (beqT p) n0 n1 n2 _ _ rfl rfl hb w
      · exact ref_lrs t ok no h0 h4 (t.n 33) t.v rfl rfl hk (bneT p) (bneF q) (beqF p) n0 n1 n2 _ _ rfl rfl hb w
    · rcases hp with p | ⟨p, q⟩
      · exact ref_lwu t ok no h0 h4 (t.n 33) t.v rfl rfl hk hr (bneF p) (beqT p) n0 n1 n2 _ _ rfl rfl hb w
      · exact ref_lws t ok no h0 h4 (t.n 33) t.v rfl rfl hk hr (bneT p) (bneF q) (beqF p) n0 n1 n2 _ _ rfl rfl hb w
  rw [if_neg hl]
  have a3 : (no / 256 % 4 == 3) = false := beqF fun h => hl (.inl h)
  have a0 : (no / 256 % 4 == 0) = false := beqF fun h => hl (.inr h)
  cases hv : t.v
  · rw [if_neg (by decide)]
    rcases hw2 with rfl | ⟨rfl, hr⟩
    · rcases hp with p | ⟨p, q⟩
      · rw [beqT p]; exact ref_hru t ok no h0 h4 (t.n 33) _ rfl hv hk (bneF p) (beqT p) n0 n1 n2 rfl _ _ _ a3 a0 rfl rfl rfl w
      · rw [beqF p]; exact ref_hrs t ok no h0 h4 (t.n 33) _ rfl hv hk (bneT p) (bneF q) (beqF p) n0 n1 n2 rfl _ _ _ a3 a0 rfl rfl rfl w
    · rcases hp with p | ⟨p, q⟩
      · rw [beqT p]; exact ref_hwu t ok no h0 h4 (t.n 33) _ rfl hv hk hr (bneF p) (beqT p) n0 n1 n2 rfl _ _ _ a3 a0 rfl rfl rfl w
      · rw [beqF p]; exact ref_hws t ok no h0 h4 (t.n 33) _ rfl hv hk hr (bneT p) (bneF q) (beqF p) n0 n1 n2 rfl _ _ _ a3 a0 rfl rfl rfl w
  · rw [if_pos rfl]
    rcases hw2 with rfl | ⟨rfl, hr⟩
    · rcases hp with p | ⟨p, q⟩
      · rw [beqT p]; exact ref_gru t ok no h0 h4 (t.n 33) _ rfl hv hk (bneF p) (beqT p) n0 n1 n2 rfl _ _ _ a3 a0 rfl rfl rfl w
      · rw [beqF p]; exact ref_grs t ok no h0 h4 (t.n 33) _ rfl hv hk (bneT p) (bneF q) (beqF p) n0 n1 n2 rfl _ _ _ a3 a0 rfl rfl rfl w
    · rcases hp with p | ⟨p, q⟩
      · rw [beqT p]; exact ref_gwu t ok no h0 h4 (t.n 33) _ rfl hv hk hr (bneF p) (beqT p) n0 n1 n2 rfl _ _ _ a3 a0 rfl rfl rfl w
      · rw [beqF p]; exact ref_gws t ok no h0 h4 (t.n 33) _ rfl hv hk hr (bneT p) (bneF q) (beqF p) n0 n1 n2 rfl _ _ _ a3 a0 rfl rfl rfl w
end Go.Proofs.Ytcnalabhcalfnaa
