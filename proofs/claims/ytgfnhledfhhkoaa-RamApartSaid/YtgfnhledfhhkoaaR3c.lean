/- The document's memory of layer 3 as a function from addresses to bytes: numbers read and written, bytes put and told. -/
import Derived.Test.YtgfnhledfhhkoaaR3b
import Derived.Test.YtgfnhledfhhkoaaRdN
import Derived.Test.YtgfnhledfhhkoaaInts
namespace Go.Proofs.Ytgfnhledfhhkoaa
open Go.RowKit
set_option linter.unusedVariables false

theorem look_set {l : List (Int × Int)} {x v y : Int} : look (setL l x v) y = if y = x then v else look l y := by
  unfold look setL
  rw [List.find?_append, List.find?_filter]
  by_cases e : y = x
  · subst e
    rw [if_pos rfl]
    have h : l.find? (fun a => decide ((a.1 != y) = true ∧ (a.1 == y) = true)) = none := by
      rw [List.find?_eq_none]; intro a _; simp
    rw [h]
    by_cases hv : v = 0
    · rw [if_pos hv, hv]; rfl
    · rw [if_neg hv]; simp
  · rw [if_neg e]
    have h : (fun a : Int × Int => decide ((a.1 != x) = true ∧ (a.1 == y) = true)) = fun a => a.1 == y := by
      funext a
      by_cases c : a.1 = y
      · simp [c, e]
      · simp [c]
    rw [h]
    cases l.find? (fun a => a.1 == y) with
    | some c => rfl
    | none =>
      by_cases hv : v = 0
      · rw [if_pos hv]; rfl
      · rw [if_neg hv]
        have : ¬ x = y := fun h => e h.symm
        simp [this]
theorem fine_set {l : List (Int × Int)} {x v : Int} (h : Fine l) (hx : In64 x) (h0 : 0 ≤ v) (h1 : v ≤ 255) : Fine (setL l x v) := by
  have hn : ((l.filter fun c => c.1 != x).map (·.1)).Nodup := List.Nodup.sublist (List.Sublist.map _ List.filter_sublist) h.2
  unfold setL
  by_cases hv : v = 0
  · rw [if_pos hv, List.append_nil]
    exact ⟨fun c hc => h.1 c (List.mem_filter.1 hc).1, hn⟩
  · rw [if_neg hv]
    constructor
    · intro c hc
      rcases List.mem_append.1 hc with hc | hc
      · exact h.1 c (List.mem_filter.1 hc).1
      · simp at hc; subst hc; exact ⟨hx, by omega, h1⟩
    · rw [List.map_append, List.nodup_append]
      refine ⟨hn, by simp, ?_⟩
      intro a ha b hb
      simp at hb; subst hb
      intro e; subst e
      obtain ⟨c, hc, rfl⟩ := List.mem_map.1 ha
      have := (List.mem_filter.1 hc).2
      simp at this

/-- The object in block b (its list in block g) is that memory, its list no longer than N. -/
def RefMem (w : World) (b g : Nat) (base size : Int) (N : Nat) (m : Int → Int) : Prop :=
  ∃ l, RefRam w b g base size l ∧ Fine l ∧ (∀ y, look l y = m y) ∧ l.length ≤ N
theorem RefMem.bytey {w : World} {b g : Nat} {base size : Int} {N : Nat} {m : Int → Int} (h : RefMem w b g base size N m) : Bytey m := by
  obtain ⟨l, _, hf, hm, _⟩ := h
  intro y; rw [← hm y]; exact look_in hf y
theorem RefMem.keeps {S : Nat → Prop} {w w' : World} {b g : Nat} {base size : Int} {N : Nat} {m : Int → Int} (h : RefMem w b g base size N m) (k : Only S w w') (hb : ¬ S b) (hg : ¬ S g) : RefMem w' b g base size N m := by
  obtain ⟨l, h1, h2, h3, h4⟩ := h; exact ⟨l, h1.keeps k hb hg, h2, h3, h4⟩
theorem RefMem.below {w w' : World} {b g : Nat} {base size : Int} {N : Nat} {m : Int → Int} (h : RefMem w b g base size N m) (k : Below w.heap.size w w') : RefMem w' b g base size N m :=
  h.keeps (Only.of_below (fun _ => False) k) id id
theorem RefMem.lt {w : World} {b g : Nat} {base size : Int} {N : Nat} {m : Int → Int} (h : RefMem w b g base size N m) : b < w.heap.size := by
  obtain ⟨l, h1, _⟩ := h; exact h1.lt

theorem mem_at (w : World) (b g : Nat) (base size : Int) (N : Nat) (m : Int → Int) (x : Int) (h : RefMem w b g base size N m) :
    Calls Try.prog 43 #[.pointer (some ⟨b, 0, none⟩), .int .u64 x] w fun e w' => e = .returned (.int .u8 (m x)) ∧ w = w' := by
  obtain ⟨l, h1, h2, h3, h4⟩ := h
  rw [← h3 x]; exact refAt_any w b g base size l x h1
theorem mem_has (w : World) (b g : Nat) (base size : Int) (N : Nat) (m : Int → Int) (x n : Int) (h : RefMem w b g base size N m) (hf : Fits base size) (hx : In64 x) :
    Calls Try.prog 40 #[.pointer (some ⟨b, 0, none⟩), .int .u64 x, .int .i64 n] w fun e w' => e = .returned (.bool (hasZ base size x n)) ∧ Below w.heap.size w w' := by
  obtain ⟨l, h1, h2, h3, h4⟩ := h
  exact refHas_any w b g base size l x n h1 hf hx

theorem mem_hasq (w : World) (b g : Nat) (base size : Int) (N : Nat) (m : Int → Int) (x n : Int) (h : RefMem w b g base size N m) (hf : Fits base size) (hx : In64 x) :
    Calls Try.prog 40 #[.pointer (some ⟨b, 0, none⟩), .int .u64 x, .int .i64 n] w fun e w' => e = .returned (.bool (hasZ base size x n)) ∧ ∃ k, w' = w.drewN k := by
  obtain ⟨l, h1, h2, h3, h4⟩ := h
  exact refHas_q w b g base size l x n h1 hf hx

/-- What set leaves. -/
def MemSet (w : World) (b : Nat) (base size : Int) (N : Nat) (m : Int → Int) (e : Ending) (w' : World) : Prop :=
  (∃ u, e = .returned u) ∧ Only (fun i => i = b) w w' ∧ ∃ g', w.heap.size ≤ g' ∧ RefMem w' b g' base size N m
theorem mem_set (w : World) (b g : Nat) (base size : Int) (N : Nat) (m : Int → Int) (x v : Int) (h : RefMem w b g base size N m) (hN : N < 1000000) (hx : In64 x) (h0 : 0 ≤ v) (h1 : v ≤ 255) :
    Calls Try.prog 51 #[.pointer (some ⟨b, 0, none⟩), .int .u64 x, .int .u8 v] w (MemSet w b base size (N + 1) fun y => if y = x then v else m y) := by
  obtain ⟨l, k1, k2, k3, k4⟩ := h
  refine (refSet_any w b g base size l x v k1 (by omega)).mono ?_
  rintro e w' ⟨hu, ho, g', hg, hr⟩
  exact ⟨hu, ho, g', hg, _, hr, fine_set k2 hx h0 h1, fun y => by rw [look_set, k3 y], by have := setL_len l x v; omega⟩

def okN (n : Int) : Bool := decide (n = 1 ∨ n = 2 ∨ n = 4 ∨ n = 8)
/-- P3.2: what Read tells. -/
def readV (base size : Int) (m : Int → Int) (x n : Int) : Int × Bool := if (okN n && hasZ base size x n) = true then (rdN m x n.toNat, true) else (0, false)

/-- What Read answers. -/
def ReadEnd (w : World) (p : Int × Bool) (e : Ending) (w' : World) : Prop := e = .returned (.tuple #[.int .u64 p.1, .bool p.2]) ∧ Below w.heap.size w w'

set_option maxHeartbeats 4000000 in
theorem mem_read (w : World) (b g : Nat) (base size : Int) (N : Nat) (m : Int → Int) (x n : Int) (h : RefMem w b g base size N m) (hf : Fits base size) (hx : In64 x) :
    Calls Try.prog 37 #[.pointer (some ⟨b, 0, none⟩), .int .u64 x, .int .i64 n] w (ReadEnd w (readV base size m x n)) := by
  have hm := h.bytey
  have HH := Lib.hid h
  have HX := Lib.hid hx
  have HF := Lib.hid hf
  have HM := Lib.hid hm
  by_cases ok : n = 1 ∨ n = 2 ∨ n = 4 ∨ n = 8
  · by_cases hh : hasZ base size x n = true
    · have hb := hh
      unfold hasZ at hb
      rw [decide_eq_true_eq] at hb
      have R : Hid (readV base size m x n = (rdN m x n.toNat, true)) := by
        refine Lib.hid ?_
        unfold readV okN; rw [decide_eq_true ok, hh]; rfl
      have xb : x + n ≤ 9223372036854775808 := by
        obtain ⟨f1, f2, f3, f4⟩ := hf; omega
      have x0 := hx.1
      clear h hm hf hx hb
      rcases ok with rfl | rfl | rfl | rfl
      · go_enter Try.func37, Try.ntmps37
        go_wp2_with fail
        refine (mem_has _ b g base size N m _ _ HH.out HF.out HX.out).mono ?_
        rintro e w1 ⟨rfl, hb1⟩
        have hr := HH.out.below hb1
        have HR := Lib.hid hr
        clear hr
        go_wp2_with fail
        go_loop [8, 9] (fun v i => ∃ k : Nat, k ≤ 1 ∧ i = .int .i64 ((k : Int) - 1) ∧ v = .int .u64 (rdN m (x + k) (1 - k))) (fun _ i => (intOf i + 1).toNat)
        case atStart => exact ⟨1, by omega, rfl, rfl⟩
        case round =>
          obtain ⟨k, hk, rfl, rfl⟩ := hrel
          cases k with
          | succ j =>
            have hv := rdN_7 HM.out (x + ((j + 1 : Nat) : Int)) (c := 1 - (j + 1)) (by omega)
            have hv1 := hv.1
            have hv2 := hv.2
            have hby := HM.out (x + j)
            have hby1 := hby.1
            have hby2 := hby.2
            have E : Hid (256 * rdN m (x + ((j + 1 : Nat) : Int)) (1 - (j + 1)) + m (x + j) = rdN m (x + j) (1 - j)) := by
              refine Lib.hid ?_
              rw [show 1 - j = (1 - (j + 1)) + 1 by omega]
              show _ = m (x + j) + 256 * rdN m (x + j + 1) (1 - (j + 1))
              rw [show x + ((j + 1 : Nat) : Int) = x + j + 1 by omega]; omega
            generalize rdN m (x + ((j + 1 : Nat) : Int)) (1 - (j + 1)) = y at *
            rw [show ((j + 1 : Nat) : Int) - 1 = (j : Int) by omega]
            clear hv hby hb1
            go_wp2_with (go_at_call 43; refine (mem_at _ b g base size N m _ HR.out).mono ?_; rintro e w' ⟨rfl, rfl⟩)
            go_round
            case rel => exact ⟨j, by omega, rfl, by rw [← E.out]⟩
            case measure => simp [intOf]
          | zero =>
            go_wp2
            go_ret2
            exact ⟨by rw [R.out]; exact ret_two (by simp) rfl, hb1⟩
      · go_enter Try.func37, Try.ntmps37
        go_wp2_with fail
        refine (mem_has _ b g base size N m _ _ HH.out HF.out HX.out).mono ?_
        rintro e w1 ⟨rfl, hb1⟩
        have hr := HH.out.below hb1
        have HR := Lib.hid hr
        clear hr
        go_wp2_with fail
        go_loop [8, 9] (fun v i => ∃ k : Nat, k ≤ 2 ∧ i = .int .i64 ((k : Int) - 1) ∧ v = .int .u64 (rdN m (x + k) (2 - k))) (fun _ i => (intOf i + 1).toNat)
        case atStart => exact ⟨2, by omega, rfl, rfl⟩
        case round =>
          obtain ⟨k, hk, rfl, rfl⟩ := hrel
          cases k with
          | succ j =>
            have hv := rdN_7 HM.out (x + ((j + 1 : Nat) : Int)) (c := 2 - (j + 1)) (by omega)
            have hv1 := hv.1
            have hv2 := hv.2
            have hby := HM.out (x + j)
            have hby1 := hby.1
            have hby2 := hby.2
            have E : Hid (256 * rdN m (x + ((j + 1 : Nat) : Int)) (2 - (j + 1)) + m (x + j) = rdN m (x + j) (2 - j)) := by
              refine Lib.hid ?_
              rw [show 2 - j = (2 - (j + 1)) + 1 by omega]
              show _ = m (x + j) + 256 * rdN m (x + j + 1) (2 - (j + 1))
              rw [show x + ((j + 1 : Nat) : Int) = x + j + 1 by omega]; omega
            generalize rdN m (x + ((j + 1 : Nat) : Int)) (2 - (j + 1)) = y at *
            rw [show ((j + 1 : Nat) : Int) - 1 = (j : Int) by omega]
            clear hv hby hb1
            go_wp2_with (go_at_call 43; refine (mem_at _ b g base size N m _ HR.out).mono ?_; rintro e w' ⟨rfl, rfl⟩)
            go_round
            case rel => exact ⟨j, by omega, rfl, by rw [← E.out]⟩
            case measure => simp [intOf]
          | zero =>
            go_wp2
            go_ret2
            exact ⟨by rw [R.out]; exact ret_two (by simp) rfl, hb1⟩
      · go_enter Try.func37, Try.ntmps37
        go_wp2_with fail
        refine (mem_has _ b g base size N m _ _ HH.out HF.out HX.out).mono ?_
        rintro e w1 ⟨rfl, hb1⟩
        have hr := HH.out.below hb1
        have HR := Lib.hid hr
        clear hr
        go_wp2_with fail
        go_loop [8, 9] (fun v i => ∃ k : Nat, k ≤ 4 ∧ i = .int .i64 ((k : Int) - 1) ∧ v = .int .u64 (rdN m (x + k) (4 - k))) (fun _ i => (intOf i + 1).toNat)
        case atStart => exact ⟨4, by omega, rfl, rfl⟩
        case round =>
          obtain ⟨k, hk, rfl, rfl⟩ := hrel
          cases k with
          | succ j =>
            have hv := rdN_7 HM.out (x + ((j + 1 : Nat) : Int)) (c := 4 - (j + 1)) (by omega)
            have hv1 := hv.1
            have hv2 := hv.2
            have hby := HM.out (x + j)
            have hby1 := hby.1
            have hby2 := hby.2
            have E : Hid (256 * rdN m (x + ((j + 1 : Nat) : Int)) (4 - (j + 1)) + m (x + j) = rdN m (x + j) (4 - j)) := by
              refine Lib.hid ?_
              rw [show 4 - j = (4 - (j + 1)) + 1 by omega]
              show _ = m (x + j) + 256 * rdN m (x + j + 1) (4 - (j + 1))
              rw [show x + ((j + 1 : Nat) : Int) = x + j + 1 by omega]; omega
            generalize rdN m (x + ((j + 1 : Nat) : Int)) (4 - (j + 1)) = y at *
            rw [show ((j + 1 : Nat) : Int) - 1 = (j : Int) by omega]
            clear hv hby hb1
            go_wp2_with (go_at_call 43; refine (mem_at _ b g base size N m _ HR.out).mono ?_; rintro e w' ⟨rfl, rfl⟩)
            go_round
            case rel => exact ⟨j, by omega, rfl, by rw [← E.out]⟩
            case measure => simp [intOf]
          | zero =>
            go_wp2
            go_ret2
            exact ⟨by rw [R.out]; exact ret_two (by simp) rfl, hb1⟩
      · go_enter Try.func37, Try.ntmps37
        go_wp2_with fail
        refine (mem_has _ b g base size N m _ _ HH.out HF.out HX.out).mono ?_
        rintro e w1 ⟨rfl, hb1⟩
        have hr := HH.out.below hb1
        have HR := Lib.hid hr
        clear hr
        go_wp2_with fail
        go_loop [8, 9] (fun v i => ∃ k : Nat, k ≤ 8 ∧ i = .int .i64 ((k : Int) - 1) ∧ v = .int .u64 (rdN m (x + k) (8 - k))) (fun _ i => (intOf i + 1).toNat)
        case atStart => exact ⟨8, by omega, rfl, rfl⟩
        case round =>
          obtain ⟨k, hk, rfl, rfl⟩ := hrel
          cases k with
          | succ j =>
            have hv := rdN_7 HM.out (x + ((j + 1 : Nat) : Int)) (c := 8 - (j + 1)) (by omega)
            have hv1 := hv.1
            have hv2 := hv.2
            have hby := HM.out (x + j)
            have hby1 := hby.1
            have hby2 := hby.2
            have E : Hid (256 * rdN m (x + ((j + 1 : Nat) : Int)) (8 - (j + 1)) + m (x + j) = rdN m (x + j) (8 - j)) := by
              refine Lib.hid ?_
              rw [show 8 - j = (8 - (j + 1)) + 1 by omega]
              show _ = m (x + j) + 256 * rdN m (x + j + 1) (8 - (j + 1))
              rw [show x + ((j + 1 : Nat) : Int) = x + j + 1 by omega]; omega
            generalize rdN m (x + ((j + 1 : Nat) : Int)) (8 - (j + 1)) = y at *
            rw [show ((j + 1 : Nat) : Int) - 1 = (j : Int) by omega]
            clear hv hby hb1
            go_wp2_with (go_at_call 43; refine (mem_at _ b g base size N m _ HR.out).mono ?_; rintro e w' ⟨rfl, rfl⟩)
            go_round
            case rel => exact ⟨j, by omega, rfl, by rw [← E.out]⟩
            case measure => simp [intOf]
          | zero =>
            go_wp2
            go_ret2
            exact ⟨by rw [R.out]; exact ret_two (by simp) rfl, hb1⟩
    · have hh2 : hasZ base size x n = false := by simpa using hh
      have R : Hid (readV base size m x n = (0, false)) := by
        refine Lib.hid ?_
        unfold readV; rw [hh2, Bool.and_false]; rfl
      clear h hm hf hx hh
      rcases ok with rfl | rfl | rfl | rfl
      all_goals
        go_enter Try.func37, Try.ntmps37
        go_wp2_with fail
        refine (mem_has _ b g base size N m _ _ HH.out HF.out HX.out).mono ?_
        rintro e w1 ⟨rfl, hb1⟩
        go_wp2
        go_ret2
        exact ⟨by rw [R.out]; rfl, hb1⟩
  · have R : Hid (readV base size m x n = (0, false)) := by
      refine Lib.hid ?_
      unfold readV okN; rw [decide_eq_false ok]; rfl
    have n1 : (n != 1) = true := by simp; omega
    have n2 : (n != 2) = true := by simp; omega
    have n4 : (n != 4) = true := by simp; omega
    have n8 : (n != 8) = true := by simp; omega
    clear h hm hf hx ok
    go_enter Try.func37, Try.ntmps37
    go_wp2
    go_ret2
    exact ⟨by rw [R.out]; rfl, Below.refl _ _⟩

end Go.Proofs.Ytgfnhledfhhkoaa
