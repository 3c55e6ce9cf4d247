/- Layer 11: sort.Find over the table; find, Name, Known. -/
import Derived.Test.YtiblfdgmleckiaaCnC
namespace Go.Proofs.Ytiblfdgmleckiaa
open Go.RowKit
set_option linter.unusedVariables false
set_option maxRecDepth 100000

theorem bcell {W w1 : World} (hb : Below W.heap.size W w1) : (∀ b o, b < W.heap.size → w1.cell? ⟨b, o, none⟩ = W.cell? ⟨b, o, none⟩) ∧ (∀ b o, b < W.heap.size → w1.frozen? ⟨b, o, none⟩ = W.frozen? ⟨b, o, none⟩) :=
  ⟨fun b o h => hb.cell (p := ⟨b, o, none⟩) h, fun b o h => hb.frozen (p := ⟨b, o, none⟩) h⟩

def LowN (no : Int) (a : Nat) : Prop := ∀ k, k < a → (noT k : Int) < no
def HighN (no : Int) (b : Nat) : Prop := ∀ k, b ≤ k → k < 56 → no ≤ (noT k : Int)
theorem noT_le {i j : Nat} (hj : j < 56) (h : i ≤ j) : noT i ≤ noT j := by
  rcases Nat.lt_or_ge i j with c | c
  · exact Nat.le_of_lt (noT_mono j hj i c)
  · have : i = j := by omega
    rw [this]; exact Nat.le_refl _
theorem lowN_up {no : Int} {h : Nat} (hh : h < 56) (c : (noT h : Int) < no) : LowN no (h + 1) := fun k hk => by
  have := noT_le hh (show k ≤ h by omega); omega
theorem highN_dn {no : Int} {h : Nat} (hh : h < 56) (c : no ≤ (noT h : Int)) : HighN no h := fun k hk h2 => by
  have := noT_le h2 hk; omega
theorem ix_of {no : Int} {a : Nat} (ha : a ≤ 56) (l : LowN no a) (h : HighN no a) : ixN no = if a < 56 ∧ (noT a : Int) = no then a else 56 := by
  rcases ixN_cases no with ⟨p, q⟩ | ⟨p, q⟩
  · have e : ixN no = a := by
      rcases Nat.lt_trichotomy (ixN no) a with c | c | c
      · have := l _ c; omega
      · exact c
      · have h1 := h a (Nat.le_refl _) (by omega)
        have h2 := noT_mono _ p a c
        omega
    rw [if_pos ⟨by omega, by rw [← e]; exact q⟩]; exact e
  · rw [if_neg (fun c => q a c.1 c.2)]; exact p

abbrev cmpV (b : Nat) : Value := .func (.func 47) #[] #[.pointer (some ⟨b, 0, none⟩)]
def FindE (no : Int) (w : World) (e : Ending) (w' : World) : Prop := ∃ a : Nat, a ≤ 56 ∧ (ixN no = a ∨ ixN no = 56) ∧ e = .returned (.tuple #[.int .i64 a, .bool (knownN no)]) ∧ (ixN no < 56 → ixN no = a) ∧ Below w.heap.size w w'
theorem sfind_any (no : Int) (b : Nat) (w : World) (hcell : w.cell? ⟨b, 0, none⟩ = some (.int .i64 no)) :
    Calls Try.prog 46 #[.int .i64 56, cmpV b] w (FindE no w) := by
  have hb : b < w.heap.size := World.block_lt_of_cell? _ _ hcell
  have hld : ∀ w', Below w.heap.size w w' → w'.cell? ⟨b, 0, none⟩ = some (.int .i64 no) := fun w' h => (h.cell (p := ⟨b, 0, none⟩) hb).trans hcell
  have HL := Lib.hid hld
  clear hld hcell
  go_enter Try.func46, Try.ntmps46
  go_wp2
  go_loopw [4, 6] (fun i j wr => ∃ a c : Nat, a ≤ c ∧ c ≤ 56 ∧ i = .int .i64 a ∧ j = .int .i64 c ∧ Below w.heap.size w wr ∧ LowN no a ∧ HighN no c) (fun i j _ => (intOf j - intOf i).toNat)
  case atStart => exact ⟨0, 56, by omega, by omega, rfl, rfl, Below.refl _ _, fun k h => absurd h (by omega), fun k h h2 => absurd h2 (by omega)⟩
  case round =>
    obtain ⟨a, c, hac, hc56, rfl, rfl, hbr, hlo, hhi⟩ := hrel
    have HB := Lib.hid hbr
    have HLO := Lib.hid hlo
    have HHI := Lib.hid hhi
    clear hbr hlo hhi
    by_cases hlt : a < c
    · have hsm : (a + c) / 2 < 56 := by omega
      obtain ⟨h, hh⟩ : ∃ h : Nat, h = (a + c) / 2 := ⟨_, rfl⟩
      have he : ((a : Int) + (c : Int)) / 2 = (h : Int) := by omega
      have HE := Lib.hid he
      have hh2 : h < 56 := by omega
      have hac2 : a ≤ h := by omega
      have hac3 : h < c := by omega
      clear hh he hsm
      by_cases hn : (noT h : Int) < no
      · have HN := Lib.hid (lowN_up hh2 hn)
        have HC : Hid (Calls Try.prog 47 #[.int .i64 (((a : Int) + (c : Int)) / 2), .pointer (some ⟨b, 0, none⟩)] wr fun e w' => e = .returned (.int .i64 1) ∧ Below wr.heap.size wr w') :=
          Lib.hid (by rw [HE.out]; exact find1_any h hh2 no b wr 1 (by unfold cmpZ; rw [if_neg (by omega), if_pos hn]) (HL.out _ HB.out))
        clear hn
        go_wp2_with (fail)
        (with_reducible refine HC.out.mono ?_)
        rintro e w2 ⟨rfl, hb2⟩
        have HB2 := Lib.hid (HB.out.trans (hb2.mono HB.out.size))
        clear hb2
        go_wp2
        go_roundw
        case rel => exact ⟨h + 1, c, by omega, hc56, by rw [HE.out]; go_num, rfl, HB2.out, HN.out, HHI.out⟩
        case measure => simp [intOf]; omega
      · have HN := Lib.hid (highN_dn hh2 (show no ≤ (noT h : Int) by omega))
        obtain ⟨r, hr, hr0⟩ : ∃ r : Int, cmpZ no (noT h) = r ∧ r ≤ 0 := by
          refine ⟨_, rfl, ?_⟩
          unfold cmpZ
          by_cases q : no < (noT h : Int)
          · rw [if_pos q]; omega
          · rw [if_neg q, if_neg hn]; omega
        have HC : Hid (Calls Try.prog 47 #[.int .i64 (((a : Int) + (c : Int)) / 2), .pointer (some ⟨b, 0, none⟩)] wr fun e w' => e = .returned (.int .i64 r) ∧ Below wr.heap.size wr w') :=
          Lib.hid (by rw [HE.out]; exact find1_any h hh2 no b wr r hr (HL.out _ HB.out))
        clear hn hr
        go_wp2_with (fail)
        (with_reducible refine HC.out.mono ?_)
        rintro e w2 ⟨rfl, hb2⟩
        have HB2 := Lib.hid (HB.out.trans (hb2.mono HB.out.size))
        clear hb2
        go_wp2
        go_roundw
        case rel => exact ⟨a, h, hac2, by omega, rfl, by rw [HE.out], HB2.out, HLO.out, HN.out⟩
        case measure => simp [intOf]; omega
    · by_cases h56 : a < 56
      · by_cases he : (noT a : Int) = no
        · have HX : Hid (ixN no = a) := Lib.hid (by
            have hca : c = a := by omega
            have := ix_of (by omega) HLO.out (by rw [← hca]; exact HHI.out)
            rw [if_pos ⟨h56, he⟩] at this; exact this)
          have HC := Lib.hid (find1_any a h56 no b wr 0 (by unfold cmpZ; rw [if_neg (by omega), if_neg (by omega)]) (HL.out _ HB.out))
          clear he
          go_wp2_with (fail)
          (with_reducible refine HC.out.mono ?_)
          rintro e w2 ⟨rfl, hb2⟩
          have HB2 := Lib.hid (HB.out.trans (hb2.mono HB.out.size))
          clear hb2
          go_wp2
          go_ret2
          refine ⟨a, by omega, .inl HX.out, ?_, fun _ => HX.out, HB2.out⟩
          rw [show knownN no = true by unfold knownN; rw [HX.out, decide_eq_true h56]]
          rfl
        · have HX : Hid (ixN no = 56) := Lib.hid (by
            have hca : c = a := by omega
            have := ix_of (by omega) HLO.out (by rw [← hca]; exact HHI.out)
            rw [if_neg (fun x => he x.2)] at this; exact this)
          have hlt2 : no < (noT a : Int) := by
            have := HHI.out a (by omega) h56
            omega
          have HC := Lib.hid (find1_any a h56 no b wr (-1) (by unfold cmpZ; rw [if_pos hlt2]) (HL.out _ HB.out))
          clear he hlt2
          go_wp2_with (fail)
          (with_reducible refine HC.out.mono ?_)
          rintro e w2 ⟨rfl, hb2⟩
          have HB2 := Lib.hid (HB.out.trans (hb2.mono HB.out.size))
          clear hb2
          go_wp2
          go_ret2
          refine ⟨a, by omega, .inr HX.out, ?_, fun h => absurd h (by rw [HX.out]; omega), HB2.out⟩
          rw [show knownN no = false by unfold knownN; rw [HX.out]; rfl]
          rfl
      · have HX : Hid (ixN no = 56) := Lib.hid (by
          have hca : c = a := by omega
          have := ix_of (by omega) HLO.out (by rw [← hca]; exact HHI.out)
          rw [if_neg (fun x => h56 x.1)] at this; exact this)
        go_wp2
        go_ret2
        refine ⟨a, by omega, .inr HX.out, ?_, fun h => absurd h (by rw [HX.out]; omega), HB.out⟩
        rw [show knownN no = false by unfold knownN; rw [HX.out]; rfl]
        rfl

/-- What find tells: the register, or none. -/
def regV (no : Int) : Value := .agg #[.int .i64 (if ixN no < 56 then no else 0), .string (nameN no)]
set_option maxHeartbeats 1000000 in
theorem find_yes (no : Int) (h : ixN no < 56) (w : World) :
    Calls Try.prog 43 #[.int .i64 no] w fun e w' => e = .returned (.tuple #[.agg #[.int .i64 no, .string (nameN no)], .bool true]) ∧ Below w.heap.size w w' := by
  have HF : Hid (∀ b w, w.cell? ⟨b, 0, none⟩ = some (.int .i64 no) → Calls Try.prog 46 #[.int .i64 56, cmpV b] w fun e w' => e = .returned (.tuple #[.int .i64 (ixN no), .bool true]) ∧ Below w.heap.size w w') := Lib.hid fun b w hc => (sfind_any no b w hc).mono fun e w' ⟨a, _, _, he, hx, hb⟩ => ⟨by rw [he, hx h, show knownN no = true by unfold knownN; exact decide_eq_true h], hb⟩
  have hno : (noT (ixN no) : Int) = no := by rcases ixN_cases no with ⟨_, q⟩ | ⟨q, _⟩; exact q; omega
  have HA : Hid (∀ w, Calls Try.prog 49 #[.int .i64 (ixN no)] w fun e w' => e = .returned (.agg #[.int .i64 no, .string (nameN no)]) ∧ Below w.heap.size w w') := Lib.hid fun w => by
    have := at_any (ixN no) h w
    rw [hno] at this
    exact this
  clear hno
  generalize nameN no = nm at *
  generalize ixN no = k at *
  go_enter Try.func43, Try.ntmps43
  go_wp2_with (fail)
  (with_reducible refine (HF.out _ _ (by go_simp)).mono ?_)
  rintro e w1 ⟨rfl, hb1⟩
  have HB1 : Hid (Below w.heap.size w w1) := Lib.hid ((((Below.refl _ _).alloc (Nat.le_refl _) _).alloc (by simp) _).trans (hb1.mono (by simp; omega)))
  obtain ⟨hc, hf⟩ := bcell hb1
  have hz1 : w.heap.size + 1 < w1.heap.size := by have := hb1.size; simp at this; omega
  clear hb1 HF
  go_wp2_with (fail)
  (with_reducible refine (HA.out _).mono ?_)
  rintro e w2 ⟨rfl, hb2⟩
  have HB2 : Hid (Below w.heap.size w w2) := Lib.hid (HB1.out.trans (hb2.mono HB1.out.size))
  have hc2 : ∀ o, w2.cell? ⟨w.heap.size + 1, o, none⟩ = w1.cell? ⟨w.heap.size + 1, o, none⟩ := fun o => hb2.cell (p := ⟨w.heap.size + 1, o, none⟩) hz1
  have hf2 : ∀ o, w2.frozen? ⟨w.heap.size + 1, o, none⟩ = w1.frozen? ⟨w.heap.size + 1, o, none⟩ := fun o => hb2.frozen (p := ⟨w.heap.size + 1, o, none⟩) hz1
  have hz2 : w.heap.size + 1 < w2.heap.size := by have := hb2.size; omega
  clear hb2 HA
  go_wp2
  exact bodyPost_ret (v := .tuple #[.agg #[.int .i64 no, .string nm], .bool true]) (by simp [results, Try.results43, go_sem, hc, hc2, hz1, hz2]) rfl ⟨rfl, (HB2.out.setCell (by simp) _).setCell (by simp) _⟩
theorem find_no (no : Int) (h : ixN no = 56) (w : World) :
    Calls Try.prog 43 #[.int .i64 no] w fun e w' => e = .returned (.tuple #[.agg #[.int .i64 0, .string ⟨#[]⟩], .bool false]) ∧ Below w.heap.size w w' := by
  have HF : Hid (∀ b w, w.cell? ⟨b, 0, none⟩ = some (.int .i64 no) → Calls Try.prog 46 #[.int .i64 56, cmpV b] w fun e w' => ∃ a : Int, e = .returned (.tuple #[.int .i64 a, .bool false]) ∧ Below w.heap.size w w') := Lib.hid fun b w hc => (sfind_any no b w hc).mono fun e w' ⟨a, _, _, he, hx, hb⟩ => ⟨a, by rw [he, show knownN no = false by unfold knownN; rw [h]; rfl], hb⟩
  go_enter Try.func43, Try.ntmps43
  go_wp2_with (fail)
  (with_reducible refine (HF.out _ _ (by go_simp)).mono ?_)
  rintro e w1 ⟨a, rfl, hb1⟩
  have HB1 : Hid (Below w.heap.size w w1) := Lib.hid ((((Below.refl _ _).alloc (Nat.le_refl _) _).alloc (by simp) _).trans (hb1.mono (by simp; omega)))
  obtain ⟨hc, hf⟩ := bcell hb1
  have hz1 : w.heap.size + 1 < w1.heap.size := by have := hb1.size; simp at this; omega
  clear hb1 HF
  go_wp2
  exact bodyPost_ret (v := .tuple #[.agg #[.int .i64 0, .string ⟨#[]⟩], .bool false]) (by simp [results, Try.results43, go_sem, hc, hz1]) rfl ⟨rfl, (HB1.out.setCell (by simp) _).setCell (by simp) _⟩
end Go.Proofs.Ytiblfdgmleckiaa
