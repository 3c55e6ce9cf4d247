/- Joined: R3c R3d R3e R3f R3g R3h R3i R3j -/
import Derived.Test.YtoghdkhlliehoaaR3b
import Derived.Test.YtoghdkhlliehoaaRdN
import Derived.Test.YtoghdkhlliehoaaInts
import Derived.StillTailTactics
import Derived.Deep.AppendLies
import Derived.Deep.RegionLaw
namespace Go.Proofs.Ytoghdkhlliehoaa
open Go.RowKit
set_option linter.unusedVariables false
set_option maxRecDepth 100000

theorem look_set {l : List (Int × Int)} {x v y : Int} : look (setL l x v) y = if y = x then v else look l y := by
  unfold look setL
  rw [List.find?_append, List.find?_filter]
  by_cases e : y = x
  · subst e
    rw [if_pos rfl]
    have h : l.find? (fun a => decide ((a.1 != y) = true ∧ (a.1 == y) = true)) = none := by
      rw [List.find?_eq_none]; intro a _; simp
    rw [h]
    by_cases hv : v = 0
    · rw [if_pos hv, hv]; rfl
    · rw [if_neg hv]; simp
  · rw [if_neg e]
    have h : (fun a : Int × Int => decide ((a.1 != x) = true ∧ (a.1 == y) = true)) = fun a => a.1 == y := by
      funext a
      by_cases c : a.1 = y
      · simp [c, e]
      · simp [c]
    rw [h]
    cases l.find? (fun a => a.1 == y) with
    | some c => rfl
    | none =>
      by_cases hv : v = 0
      · rw [if_pos hv]; rfl
      · rw [if_neg hv]
        have : ¬ x = y := fun h => e h.symm
        simp [this]
theorem fine_set {l : List (Int × Int)} {x v : Int} (h : Fine l) (hx : In64 x) (h0 : 0 ≤ v) (h1 : v ≤ 255) : Fine (setL l x v) := by
  have hn : ((l.filter fun c => c.1 != x).map (·.1)).Nodup := List.Nodup.sublist (List.Sublist.map _ List.filter_sublist) h.2
  unfold setL
  by_cases hv : v = 0
  · rw [if_pos hv, List.append_nil]
    exact ⟨fun c hc => h.1 c (List.mem_filter.1 hc).1, hn⟩
  · rw [if_neg hv]
    constructor
    · intro c hc
      rcases List.mem_append.1 hc with hc | hc
      · exact h.1 c (List.mem_filter.1 hc).1
      · simp at hc; subst hc; exact ⟨hx, by omega, h1⟩
    · rw [List.map_append, List.nodup_append]
      refine ⟨hn, by simp, ?_⟩
      intro a ha b hb
      simp at hb; subst hb
      intro e; subst e
      obtain ⟨c, hc, rfl⟩ := List.mem_map.1 ha
      have := (List.mem_filter.1 hc).2
      simp at this

/-- The object in block b (its list in block g) is that memory, its list no longer than N. -/
def RefMem (w : World) (b g : Nat) (base size : Int) (N : Nat) (m : Int → Int) : Prop :=
  ∃ l, RefRam w b g base size l ∧ Fine l ∧ (∀ y, look l y = m y) ∧ l.length ≤ N
theorem RefMem.bytey {w : World} {b g : Nat} {base size : Int} {N : Nat} {m : Int → Int} (h : RefMem w b g base size N m) : Bytey m := by
  obtain ⟨l, _, hf, hm, _⟩ := h
  intro y; rw [← hm y]; exact look_in hf y
theorem RefMem.keeps {S : Nat → Prop} {w w' : World} {b g : Nat} {base size : Int} {N : Nat} {m : Int → Int} (h : RefMem w b g base size N m) (k : Only S w w') (hb : ¬ S b) (hg : ¬ S g) : RefMem w' b g base size N m := by
  obtain ⟨l, h1, h2, h3, h4⟩ := h; exact ⟨l, h1.keeps k hb hg, h2, h3, h4⟩
theorem RefMem.below {w w' : World} {b g : Nat} {base size : Int} {N : Nat} {m : Int → Int} (h : RefMem w b g base size N m) (k : Below w.heap.size w w') : RefMem w' b g base size N m :=
  h.keeps (Only.of_below (fun _ => False) k) id id
theorem RefMem.lt {w : World} {b g : Nat} {base size : Int} {N : Nat} {m : Int → Int} (h : RefMem w b g base size N m) : b < w.heap.size := by
  obtain ⟨l, h1, _⟩ := h; exact h1.lt

theorem mem_at (w : World) (b g : Nat) (base size : Int) (N : Nat) (m : Int → Int) (x : Int) (h : RefMem w b g base size N m) :
    Calls Try.prog 36 #[.pointer (some ⟨b, 0, none⟩), .int .u64 x] w fun e w' => e = .returned (.int .u8 (m x)) ∧ w = w' := by
  obtain ⟨l, h1, h2, h3, h4⟩ := h
  rw [← h3 x]; exact refAt_any w b g base size l x h1
theorem mem_has (w : World) (b g : Nat) (base size : Int) (N : Nat) (m : Int → Int) (x n : Int) (h : RefMem w b g base size N m) (hf : Fits base size) (hx : In64 x) :
    Calls Try.prog 27 #[.pointer (some ⟨b, 0, none⟩), .int .u64 x, .int .i64 n] w fun e w' => e = .returned (.bool (hasZ base size x n)) ∧ Below w.heap.size w w' := by
  obtain ⟨l, h1, h2, h3, h4⟩ := h
  exact refHas_any w b g base size l x n h1 hf hx

theorem mem_hasq (w : World) (b g : Nat) (base size : Int) (N : Nat) (m : Int → Int) (x n : Int) (h : RefMem w b g base size N m) (hf : Fits base size) (hx : In64 x) :
    Calls Try.prog 27 #[.pointer (some ⟨b, 0, none⟩), .int .u64 x, .int .i64 n] w fun e w' => e = .returned (.bool (hasZ base size x n)) ∧ ∃ k, w' = w.drewN k := by
  obtain ⟨l, h1, h2, h3, h4⟩ := h
  exact refHas_q w b g base size l x n h1 hf hx

/-- What set leaves. -/
def MemSet (w : World) (b : Nat) (base size : Int) (N : Nat) (m : Int → Int) (e : Ending) (w' : World) : Prop :=
  (∃ u, e = .returned u) ∧ Only (fun i => i = b) w w' ∧ ∃ g', w.heap.size ≤ g' ∧ RefMem w' b g' base size N m
theorem mem_set (w : World) (b g : Nat) (base size : Int) (N : Nat) (m : Int → Int) (x v : Int) (h : RefMem w b g base size N m) (hN : N < 1000000) (hx : In64 x) (h0 : 0 ≤ v) (h1 : v ≤ 255) :
    Calls Try.prog 35 #[.pointer (some ⟨b, 0, none⟩), .int .u64 x, .int .u8 v] w (MemSet w b base size (N + 1) fun y => if y = x then v else m y) := by
  obtain ⟨l, k1, k2, k3, k4⟩ := h
  refine (refSet_any w b g base size l x v k1 (by omega)).mono ?_
  rintro e w' ⟨hu, ho, g', hg, hr⟩
  exact ⟨hu, ho, g', hg, _, hr, fine_set k2 hx h0 h1, fun y => by rw [look_set, k3 y], by have := setL_len l x v; omega⟩

def okN (n : Int) : Bool := decide (n = 1 ∨ n = 2 ∨ n = 4 ∨ n = 8)
/-- P3.2: what Read tells. -/
def readV (base size : Int) (m : Int → Int) (x n : Int) : Int × Bool := if (okN n && hasZ base size x n) = true then (rdN m x n.toNat, true) else (0, false)

/-- What Read answers. -/
def ReadEnd (w : World) (p : Int × Bool) (e : Ending) (w' : World) : Prop := e = .returned (.tuple #[.int .u64 p.1, .bool p.2]) ∧ Below w.heap.size w w'

set_option maxHeartbeats 4000000 in
theorem mem_read (w : World) (b g : Nat) (base size : Int) (N : Nat) (m : Int → Int) (x n : Int) (h : RefMem w b g base size N m) (hf : Fits base size) (hx : In64 x) :
    Calls Try.prog 20 #[.pointer (some ⟨b, 0, none⟩), .int .u64 x, .int .i64 n] w (ReadEnd w (readV base size m x n)) := by
  have hm := h.bytey
  have HH := Lib.hid h
  have HX := Lib.hid hx
  have HF := Lib.hid hf
  have HM := Lib.hid hm
  by_cases ok : n = 1 ∨ n = 2 ∨ n = 4 ∨ n = 8
  · by_cases hh : hasZ base size x n = true
    · have hb := hh
      unfold hasZ at hb
      rw [decide_eq_true_eq] at hb
      have R : Hid (readV base size m x n = (rdN m x n.toNat, true)) := by
        refine Lib.hid ?_
        unfold readV okN; rw [decide_eq_true ok, hh]; rfl
      have xb : x + n ≤ 9223372036854775808 := by
        obtain ⟨f1, f2, f3, f4⟩ := hf; omega
      have x0 := hx.1
      clear h hm hf hx hb
      rcases ok with rfl | rfl | rfl | rfl
      · go_enter Try.func20, Try.ntmps20
        go_wp2_with fail
        refine (mem_has _ b g base size N m _ _ HH.out HF.out HX.out).mono ?_
        rintro e w1 ⟨rfl, hb1⟩
        have hr := HH.out.below hb1
        have HR := Lib.hid hr
        clear hr
        go_wp2_with fail
        go_loop [8, 9] (fun v i => ∃ k : Nat, k ≤ 1 ∧ i = .int .i64 ((k : Int) - 1) ∧ v = .int .u64 (rdN m (x + k) (1 - k))) (fun _ i => (intOf i + 1).toNat)
        case atStart => exact ⟨1, by omega, rfl, rfl⟩
        case round =>
          obtain ⟨k, hk, rfl, rfl⟩ := hrel
          cases k with
          | succ j =>
            have hv := rdN_7 HM.out (x + ((j + 1 : Nat) : Int)) (c := 1 - (j + 1)) (by omega)
            have hv1 := hv.1
            have hv2 := hv.2
            have hby := HM.out (x + j)
            have hby1 := hby.1
            have hby2 := hby.2
            have E : Hid (256 * rdN m (x + ((j + 1 : Nat) : Int)) (1 - (j + 1)) + m (x + j) = rdN m (x + j) (1 - j)) := by
              refine Lib.hid ?_
              rw [show 1 - j = (1 - (j + 1)) + 1 by omega]
              show _ = m (x + j) + 256 * rdN m (x + j + 1) (1 - (j + 1))
              rw [show x + ((j + 1 : Nat) : Int) = x + j + 1 by omega]; omega
            generalize rdN m (x + ((j + 1 : Nat) : Int)) (1 - (j + 1)) = y at *
            rw [show ((j + 1 : Nat) : Int) - 1 = (j : Int) by omega]
            clear hv hby hb1
            go_wp2_with (go_at_call 36; refine (mem_at _ b g base size N m _ HR.out).mono ?_; rintro e w' ⟨rfl, rfl⟩)
            go_round
            case rel => exact ⟨j, by omega, rfl, by rw [← E.out]⟩
            case measure => simp [intOf]
          | zero =>
            go_wp2
            go_ret2
            exact ⟨by rw [R.out]; exact ret_two (by simp) rfl, hb1⟩
      · go_enter Try.func20, Try.ntmps20
        go_wp2_with fail
        refine (mem_has _ b g base size N m _ _ HH.out HF.out HX.out).mono ?_
        rintro e w1 ⟨rfl, hb1⟩
        have hr := HH.out.below hb1
        have HR := Lib.hid hr
        clear hr
        go_wp2_with fail
        go_loop [8, 9] (fun v i => ∃ k : Nat, k ≤ 2 ∧ i = .int .i64 ((k : Int) - 1) ∧ v = .int .u64 (rdN m (x + k) (2 - k))) (fun _ i => (intOf i + 1).toNat)
        case atStart => exact ⟨2, by omega, rfl, rfl⟩
        case round =>
          obtain ⟨k, hk, rfl, rfl⟩ := hrel
          cases k with
          | succ j =>
            have hv := rdN_7 HM.out (x + ((j + 1 : Nat) : Int)) (c := 2 - (j + 1)) (by omega)
            have hv1 := hv.1
            have hv2 := hv.2
            have hby := HM.out (x + j)
            have hby1 := hby.1
            have hby2 := hby.2
            have E : Hid (256 * rdN m (x + ((j + 1 : Nat) : Int)) (2 - (j + 1)) + m (x + j) = rdN m (x + j) (2 - j)) := by
              refine Lib.hid ?_
              rw [show 2 - j = (2 - (j + 1)) + 1 by omega]
              show _ = m (x + j) + 256 * rdN m (x + j + 1) (2 - (j + 1))
              rw [show x + ((j + 1 : Nat) : Int) = x + j + 1 by omega]; omega
            generalize rdN m (x + ((j + 1 : Nat) : Int)) (2 - (j + 1)) = y at *
            rw [show ((j + 1 : Nat) : Int) - 1 = (j : Int) by omega]
            clear hv hby hb1
            go_wp2_with (go_at_call 36; refine (mem_at _ b g base size N m _ HR.out).mono ?_; rintro e w' ⟨rfl, rfl⟩)
            go_round
            case rel => exact ⟨j, by omega, rfl, by rw [← E.out]⟩
            case measure => simp [intOf]
          | zero =>
            go_wp2
            go_ret2
            exact ⟨by rw [R.out]; exact ret_two (by simp) rfl, hb1⟩
      · go_enter Try.func20, Try.ntmps20
        go_wp2_with fail
        refine (mem_has _ b g base size N m _ _ HH.out HF.out HX.out).mono ?_
        rintro e w1 ⟨rfl, hb1⟩
        have hr := HH.out.below hb1
        have HR := Lib.hid hr
        clear hr
        go_wp2_with fail
        go_loop [8, 9] (fun v i => ∃ k : Nat, k ≤ 4 ∧ i = .int .i64 ((k : Int) - 1) ∧ v = .int .u64 (rdN m (x + k) (4 - k))) (fun _ i => (intOf i + 1).toNat)
        case atStart => exact ⟨4, by omega, rfl, rfl⟩
        case round =>
          obtain ⟨k, hk, rfl, rfl⟩ := hrel
          cases k with
          | succ j =>
            have hv := rdN_7 HM.out (x + ((j + 1 : Nat) : Int)) (c := 4 - (j + 1)) (by omega)
            have hv1 := hv.1
            have hv2 := hv.2
            have hby := HM.out (x + j)
            have hby1 := hby.1
            have hby2 := hby.2
            have E : Hid (256 * rdN m (x + ((j + 1 : Nat) : Int)) (4 - (j + 1)) + m (x + j) = rdN m (x + j) (4 - j)) := by
              refine Lib.hid ?_
              rw [show 4 - j = (4 - (j + 1)) + 1 by omega]
              show _ = m (x + j) + 256 * rdN m (x + j + 1) (4 - (j + 1))
              rw [show x + ((j + 1 : Nat) : Int) = x + j + 1 by omega]; omega
            generalize rdN m (x + ((j + 1 : Nat) : Int)) (4 - (j + 1)) = y at *
            rw [show ((j + 1 : Nat) : Int) - 1 = (j : Int) by omega]
            clear hv hby hb1
            go_wp2_with (go_at_call 36; refine (mem_at _ b g base size N m _ HR.out).mono ?_; rintro e w' ⟨rfl, rfl⟩)
            go_round
            case rel => exact ⟨j, by omega, rfl, by rw [← E.out]⟩
            case measure => simp [intOf]
          | zero =>
            go_wp2
            go_ret2
            exact ⟨by rw [R.out]; exact ret_two (by simp) rfl, hb1⟩
      · go_enter Try.func20, Try.ntmps20
        go_wp2_with fail
        refine (mem_has _ b g base size N m _ _ HH.out HF.out HX.out).mono ?_
        rintro e w1 ⟨rfl, hb1⟩
        have hr := HH.out.below hb1
        have HR := Lib.hid hr
        clear hr
        go_wp2_with fail
        go_loop [8, 9] (fun v i => ∃ k : Nat, k ≤ 8 ∧ i = .int .i64 ((k : Int) - 1) ∧ v = .int .u64 (rdN m (x + k) (8 - k))) (fun _ i => (intOf i + 1).toNat)
        case atStart => exact ⟨8, by omega, rfl, rfl⟩
        case round =>
          obtain ⟨k, hk, rfl, rfl⟩ := hrel
          cases k with
          | succ j =>
            have hv := rdN_7 HM.out (x + ((j + 1 : Nat) : Int)) (c := 8 - (j + 1)) (by omega)
            have hv1 := hv.1
            have hv2 := hv.2
            have hby := HM.out (x + j)
            have hby1 := hby.1
            have hby2 := hby.2
            have E : Hid (256 * rdN m (x + ((j + 1 : Nat) : Int)) (8 - (j + 1)) + m (x + j) = rdN m (x + j) (8 - j)) := by
              refine Lib.hid ?_
              rw [show 8 - j = (8 - (j + 1)) + 1 by omega]
              show _ = m (x + j) + 256 * rdN m (x + j + 1) (8 - (j + 1))
              rw [show x + ((j + 1 : Nat) : Int) = x + j + 1 by omega]; omega
            generalize rdN m (x + ((j + 1 : Nat) : Int)) (8 - (j + 1)) = y at *
            rw [show ((j + 1 : Nat) : Int) - 1 = (j : Int) by omega]
            clear hv hby hb1
            go_wp2_with (go_at_call 36; refine (mem_at _ b g base size N m _ HR.out).mono ?_; rintro e w' ⟨rfl, rfl⟩)
            go_round
            case rel => exact ⟨j, by omega, rfl, by rw [← E.out]⟩
            case measure => simp [intOf]
          | zero =>
            go_wp2
            go_ret2
            exact ⟨by rw [R.out]; exact ret_two (by simp) rfl, hb1⟩
    · have hh2 : hasZ base size x n = false := by simpa using hh
      have R : Hid (readV base size m x n = (0, false)) := by
        refine Lib.hid ?_
        unfold readV; rw [hh2, Bool.and_false]; rfl
      clear h hm hf hx hh
      rcases ok with rfl | rfl | rfl | rfl
      all_goals
        go_enter Try.func20, Try.ntmps20
        go_wp2_with fail
        refine (mem_has _ b g base size N m _ _ HH.out HF.out HX.out).mono ?_
        rintro e w1 ⟨rfl, hb1⟩
        go_wp2
        go_ret2
        exact ⟨by rw [R.out]; rfl, hb1⟩
  · have R : Hid (readV base size m x n = (0, false)) := by
      refine Lib.hid ?_
      unfold readV okN; rw [decide_eq_false ok]; rfl
    have n1 : (n != 1) = true := by simp; omega
    have n2 : (n != 2) = true := by simp; omega
    have n4 : (n != 4) = true := by simp; omega
    have n8 : (n != 8) = true := by simp; omega
    clear h hm hf hx ok
    go_enter Try.func20, Try.ntmps20
    go_wp2
    go_ret2
    exact ⟨by rw [R.out]; rfl, Below.refl _ _⟩

end Go.Proofs.Ytoghdkhlliehoaa

/- The document's memory of layer 3: numbers written, bytes put and told. -/
namespace Go.Proofs.Ytoghdkhlliehoaa
open Go.RowKit
set_option linter.unusedVariables false
set_option maxRecDepth 100000

theorem RefMem.congr {w : World} {b g : Nat} {base size : Int} {N N' : Nat} {m m' : Int → Int} (h : RefMem w b g base size N m) (e : ∀ y, m y = m' y) (hN : N ≤ N') : RefMem w b g base size N' m' := by
  obtain ⟨l, h1, h2, h3, h4⟩ := h; exact ⟨l, h1, h2, fun y => (h3 y).trans (e y), by omega⟩

/-- P3.2: memory behind a Write. -/
def writeM (base size : Int) (m : Int → Int) (x n v : Int) : Int → Int := if (okN n && hasZ base size x n) = true then wrN m x v n.toNat else m

/-- What a call leaves that may turn the object: another list, new or the old one. -/
def MemEnd (w : World) (b g : Nat) (base size : Int) (N : Nat) (m : Int → Int) (r : Bool) (e : Ending) (w' : World) : Prop :=
  e = .returned (.bool r) ∧ Only (fun i => i = b) w w' ∧ ∃ g', (g' = g ∨ w.heap.size ≤ g') ∧ RefMem w' b g' base size N m

/-- In the loop: what is still to be written. -/
def Writing (w wr : World) (b g : Nat) (base size : Int) (N : Nat) (m : Int → Int) (x v : Int) (n k : Nat) (vv : Int) : Prop :=
  In64 vv ∧ Only (fun i => i = b) w wr ∧ ∃ g' m', (g' = g ∨ w.heap.size ≤ g') ∧ RefMem wr b g' base size (N + k) m' ∧ ∀ y, wrN m' (x + k) vv (n - k) y = wrN m x v n y

theorem Writing.next {e : Ending} {w wr w' : World} {b g : Nat} {base size : Int} {N : Nat} {m m1 : Int → Int} {x v : Int} {n k : Nat} {vv : Int} (h : In64 vv) (ho : Only (fun i => i = b) w wr) (hk : k < n)
    (hy : ∀ y, wrN m1 (x + k) vv (n - k) y = wrN m x v n y) (hs : MemSet wr b base size (N + k + 1) (fun y => if y = x + k then vv % 256 else m1 y) e w') : Writing w w' b g base size N m x v n (k + 1) (vv / 256) := by
  obtain ⟨_, ho2, g', hg, hr⟩ := hs
  refine ⟨by unfold In64 at *; omega, ho.trans ho2, g', _, .inr (Nat.le_trans ho.size hg), hr, fun y => ?_⟩
  rw [← hy y, show x + ((k + 1 : Nat) : Int) = x + k + 1 by omega, wrN_step, show n - (k + 1) + 1 = n - k by omega]

set_option maxHeartbeats 4000000 in
theorem mem_write (w : World) (b g : Nat) (base size : Int) (N : Nat) (m : Int → Int) (x n v : Int) (h : RefMem w b g base size N m) (hf : Fits base size) (hx : In64 x) (hv : In64 v) (hN : N < 900000) :
    Calls Try.prog 19 #[.pointer (some ⟨b, 0, none⟩), .int .u64 x, .int .i64 n, .int .u64 v] w (MemEnd w b g base size (N + 8) (writeM base size m x n v) (okN n && hasZ base size x n)) := by
  have HH := Lib.hid h
  have HX := Lib.hid hx
  have HF := Lib.hid hf
  have HV := Lib.hid hv
  by_cases ok : n = 1 ∨ n = 2 ∨ n = 4 ∨ n = 8
  · by_cases hh : hasZ base size x n = true
    · have hb := hh
      unfold hasZ at hb
      rw [decide_eq_true_eq] at hb
      have R : Hid (writeM base size m x n v = wrN m x v n.toNat ∧ (okN n && hasZ base size x n) = true) := by
        refine Lib.hid ?_
        have : (okN n && hasZ base size x n) = true := by unfold okN; rw [decide_eq_true ok, hh]; rfl
        exact ⟨by unfold writeM; rw [if_pos this], this⟩
      have xb : x + n ≤ 9223372036854775808 := by
        obtain ⟨f1, f2, f3, f4⟩ := hf; omega
      have x0 := hx.1
      clear h hf hx hb hv
      rcases ok with rfl | rfl | rfl | rfl
      · go_enter Try.func19, Try.ntmps19
        go_wp2_with fail
        refine (mem_has _ b g base size N m _ _ HH.out HF.out HX.out).mono ?_
        rintro e w1 ⟨rfl, hb1⟩
        have W0 : Writing w w1 b g base size N m x v 1 0 v := ⟨HV.out, Only.of_below _ hb1, g, m, .inl rfl, HH.out.below hb1, fun y => by rw [show x + ((0 : Nat) : Int) = x by omega]⟩
        go_wp2_with fail
        go_loopw [3, 9] (fun u i wr => ∃ (k : Nat) (vv : Int), k ≤ 1 ∧ i = .int .i64 k ∧ u = .int .u64 vv ∧ Writing w wr b g base size N m x v 1 k vv) (fun _ i _ => 1 - (intOf i).toNat)
        case atStart => exact ⟨0, v, by omega, rfl, rfl, W0⟩
        case round =>
          clear W0 hb1
          obtain ⟨k, vv, hk, rfl, rfl, hW⟩ := hrel
          by_cases hlt : k < 1
          · obtain ⟨hvv, ho, g1, m1, hg1, hr1, hy⟩ := hW
            have v0 := hvv.1
            have HR := Lib.hid hr1
            have HVV := Lib.hid hvv
            have HY := Lib.hid hy
            have HO := Lib.hid ho
            have HL := Lib.hid hlt
            have m1b : 0 ≤ vv % 256 := by omega
            have m2b : vv % 256 ≤ 255 := by omega
            have mw : IntKind.u8.wrap (vv % 256) = vv % 256 := by simp [IntKind.wrap, IntKind.bits, IntKind.signed]
            have IX := Lib.hid (show In64 (x + k) from ⟨by omega, by omega⟩)
            have QE : Hid (IntKind.u64.wrap (vv.tdiv 256) = vv / 256) := by
              refine Lib.hid ?_
              have := hvv.2
              rw [IntKind.wrap_u64, Int.tdiv_eq_ediv_of_nonneg v0]; omega
            clear hr1 hvv hy ho hg1
            go_wp2_with fail
            refine (mem_set _ b g1 base size (N + k) m1 _ _ HR.out (by omega) IX.out (by omega) (by omega)).mono ?_
            rintro e w2 hs
            have HS := Lib.hid (Writing.next (g := g) HVV.out HO.out HL.out HY.out hs)
            obtain ⟨⟨u, rfl⟩, _⟩ := hs
            go_wp2
            go_roundw
            case rel => exact ⟨k + 1, _, by omega, by go_num, rfl, by rw [QE.out]; exact HS.out⟩
            case measure => simp [intOf]; omega
          · obtain rfl : k = 1 := by omega
            obtain ⟨_, ho, g1, m1, hg1, hr1, hy⟩ := hW
            have HE := Lib.hid hy
            have HR := Lib.hid hr1
            clear hy hr1
            go_wp2
            go_ret
            exact ⟨by rw [R.out.2]; rfl, ho, g1, hg1, HR.out.congr (fun y => by rw [R.out.1]; exact HE.out y) (by omega)⟩
      · go_enter Try.func19, Try.ntmps19
        go_wp2_with fail
        refine (mem_has _ b g base size N m _ _ HH.out HF.out HX.out).mono ?_
        rintro e w1 ⟨rfl, hb1⟩
        have W0 : Writing w w1 b g base size N m x v 2 0 v := ⟨HV.out, Only.of_below _ hb1, g, m, .inl rfl, HH.out.below hb1, fun y => by rw [show x + ((0 : Nat) : Int) = x by omega]⟩
        go_wp2_with fail
        go_loopw [3, 9] (fun u i wr => ∃ (k : Nat) (vv : Int), k ≤ 2 ∧ i = .int .i64 k ∧ u = .int .u64 vv ∧ Writing w wr b g base size N m x v 2 k vv) (fun _ i _ => 2 - (intOf i).toNat)
        case atStart => exact ⟨0, v, by omega, rfl, rfl, W0⟩
        case round =>
          clear W0 hb1
          obtain ⟨k, vv, hk, rfl, rfl, hW⟩ := hrel
          by_cases hlt : k < 2
          · obtain ⟨hvv, ho, g1, m1, hg1, hr1, hy⟩ := hW
            have v0 := hvv.1
            have HR := Lib.hid hr1
            have HVV := Lib.hid hvv
            have HY := Lib.hid hy
            have HO := Lib.hid ho
            have HL := Lib.hid hlt
            have m1b : 0 ≤ vv % 256 := by omega
            have m2b : vv % 256 ≤ 255 := by omega
            have mw : IntKind.u8.wrap (vv % 256) = vv % 256 := by simp [IntKind.wrap, IntKind.bits, IntKind.signed]
            have IX := Lib.hid (show In64 (x + k) from ⟨by omega, by omega⟩)
            have QE : Hid (IntKind.u64.wrap (vv.tdiv 256) = vv / 256) := by
              refine Lib.hid ?_
              have := hvv.2
              rw [IntKind.wrap_u64, Int.tdiv_eq_ediv_of_nonneg v0]; omega
            clear hr1 hvv hy ho hg1
            go_wp2_with fail
            refine (mem_set _ b g1 base size (N + k) m1 _ _ HR.out (by omega) IX.out (by omega) (by omega)).mono ?_
            rintro e w2 hs
            have HS := Lib.hid (Writing.next (g := g) HVV.out HO.out HL.out HY.out hs)
            obtain ⟨⟨u, rfl⟩, _⟩ := hs
            go_wp2
            go_roundw
            case rel => exact ⟨k + 1, _, by omega, by go_num, rfl, by rw [QE.out]; exact HS.out⟩
            case measure => simp [intOf]; omega
          · obtain rfl : k = 2 := by omega
            obtain ⟨_, ho, g1, m1, hg1, hr1, hy⟩ := hW
            have HE := Lib.hid hy
            have HR := Lib.hid hr1
            clear hy hr1
            go_wp2
            go_ret
            exact ⟨by rw [R.out.2]; rfl, ho, g1, hg1, HR.out.congr (fun y => by rw [R.out.1]; exact HE.out y) (by omega)⟩
      · go_enter Try.func19, Try.ntmps19
        go_wp2_with fail
        refine (mem_has _ b g base size N m _ _ HH.out HF.out HX.out).mono ?_
        rintro e w1 ⟨rfl, hb1⟩
        have W0 : Writing w w1 b g base size N m x v 4 0 v := ⟨HV.out, Only.of_below _ hb1, g, m, .inl rfl, HH.out.below hb1, fun y => by rw [show x + ((0 : Nat) : Int) = x by omega]⟩
        go_wp2_with fail
        go_loopw [3, 9] (fun u i wr => ∃ (k : Nat) (vv : Int), k ≤ 4 ∧ i = .int .i64 k ∧ u = .int .u64 vv ∧ Writing w wr b g base size N m x v 4 k vv) (fun _ i _ => 4 - (intOf i).toNat)
        case atStart => exact ⟨0, v, by omega, rfl, rfl, W0⟩
        case round =>
          clear W0 hb1
          obtain ⟨k, vv, hk, rfl, rfl, hW⟩ := hrel
          by_cases hlt : k < 4
          · obtain ⟨hvv, ho, g1, m1, hg1, hr1, hy⟩ := hW
            have v0 := hvv.1
            have HR := Lib.hid hr1
            have HVV := Lib.hid hvv
            have HY := Lib.hid hy
            have HO := Lib.hid ho
            have HL := Lib.hid hlt
            have m1b : 0 ≤ vv % 256 := by omega
            have m2b : vv % 256 ≤ 255 := by omega
            have mw : IntKind.u8.wrap (vv % 256) = vv % 256 := by simp [IntKind.wrap, IntKind.bits, IntKind.signed]
            have IX := Lib.hid (show In64 (x + k) from ⟨by omega, by omega⟩)
            have QE : Hid (IntKind.u64.wrap (vv.tdiv 256) = vv / 256) := by
              refine Lib.hid ?_
              have := hvv.2
              rw [IntKind.wrap_u64, Int.tdiv_eq_ediv_of_nonneg v0]; omega
            clear hr1 hvv hy ho hg1
            go_wp2_with fail
            refine (mem_set _ b g1 base size (N + k) m1 _ _ HR.out (by omega) IX.out (by omega) (by omega)).mono ?_
            rintro e w2 hs
            have HS := Lib.hid (Writing.next (g := g) HVV.out HO.out HL.out HY.out hs)
            obtain ⟨⟨u, rfl⟩, _⟩ := hs
            go_wp2
            go_roundw
            case rel => exact ⟨k + 1, _, by omega, by go_num, rfl, by rw [QE.out]; exact HS.out⟩
            case measure => simp [intOf]; omega
          · obtain rfl : k = 4 := by omega
            obtain ⟨_, ho, g1, m1, hg1, hr1, hy⟩ := hW
            have HE := Lib.hid hy
            have HR := Lib.hid hr1
            clear hy hr1
            go_wp2
            go_ret
            exact ⟨by rw [R.out.2]; rfl, ho, g1, hg1, HR.out.congr (fun y => by rw [R.out.1]; exact HE.out y) (by omega)⟩
      · go_enter Try.func19, Try.ntmps19
        go_wp2_with fail
        refine (mem_has _ b g base size N m _ _ HH.out HF.out HX.out).mono ?_
        rintro e w1 ⟨rfl, hb1⟩
        have W0 : Writing w w1 b g base size N m x v 8 0 v := ⟨HV.out, Only.of_below _ hb1, g, m, .inl rfl, HH.out.below hb1, fun y => by rw [show x + ((0 : Nat) : Int) = x by omega]⟩
        go_wp2_with fail
        go_loopw [3, 9] (fun u i wr => ∃ (k : Nat) (vv : Int), k ≤ 8 ∧ i = .int .i64 k ∧ u = .int .u64 vv ∧ Writing w wr b g base size N m x v 8 k vv) (fun _ i _ => 8 - (intOf i).toNat)
        case atStart => exact ⟨0, v, by omega, rfl, rfl, W0⟩
        case round =>
          clear W0 hb1
          obtain ⟨k, vv, hk, rfl, rfl, hW⟩ := hrel
          by_cases hlt : k < 8
          · obtain ⟨hvv, ho, g1, m1, hg1, hr1, hy⟩ := hW
            have v0 := hvv.1
            have HR := Lib.hid hr1
            have HVV := Lib.hid hvv
            have HY := Lib.hid hy
            have HO := Lib.hid ho
            have HL := Lib.hid hlt
            have m1b : 0 ≤ vv % 256 := by omega
            have m2b : vv % 256 ≤ 255 := by omega
            have mw : IntKind.u8.wrap (vv % 256) = vv % 256 := by simp [IntKind.wrap, IntKind.bits, IntKind.signed]
            have IX := Lib.hid (show In64 (x + k) from ⟨by omega, by omega⟩)
            have QE : Hid (IntKind.u64.wrap (vv.tdiv 256) = vv / 256) := by
              refine Lib.hid ?_
              have := hvv.2
              rw [IntKind.wrap_u64, Int.tdiv_eq_ediv_of_nonneg v0]; omega
            clear hr1 hvv hy ho hg1
            go_wp2_with fail
            refine (mem_set _ b g1 base size (N + k) m1 _ _ HR.out (by omega) IX.out (by omega) (by omega)).mono ?_
            rintro e w2 hs
            have HS := Lib.hid (Writing.next (g := g) HVV.out HO.out HL.out HY.out hs)
            obtain ⟨⟨u, rfl⟩, _⟩ := hs
            go_wp2
            go_roundw
            case rel => exact ⟨k + 1, _, by omega, by go_num, rfl, by rw [QE.out]; exact HS.out⟩
            case measure => simp [intOf]; omega
          · obtain rfl : k = 8 := by omega
            obtain ⟨_, ho, g1, m1, hg1, hr1, hy⟩ := hW
            have HE := Lib.hid hy
            have HR := Lib.hid hr1
            clear hy hr1
            go_wp2
            go_ret
            exact ⟨by rw [R.out.2]; rfl, ho, g1, hg1, HR.out.congr (fun y => by rw [R.out.1]; exact HE.out y) (by omega)⟩
    · have hh2 : hasZ base size x n = false := by simpa using hh
      have R : Hid (writeM base size m x n v = m ∧ (okN n && hasZ base size x n) = false) := by
        refine Lib.hid ?_
        have : (okN n && hasZ base size x n) = false := by rw [hh2, Bool.and_false]
        exact ⟨by unfold writeM; rw [this]; rfl, this⟩
      clear h hf hx hh hv
      rcases ok with rfl | rfl | rfl | rfl
      all_goals
        go_enter Try.func19, Try.ntmps19
        go_wp2_with fail
        refine (mem_has _ b g base size N m _ _ HH.out HF.out HX.out).mono ?_
        rintro e w1 ⟨rfl, hb1⟩
        go_wp2
        go_ret
        exact ⟨by rw [R.out.2]; rfl, Only.of_below _ hb1, g, .inl rfl, (HH.out.below hb1).congr (fun y => by rw [R.out.1]) (by omega)⟩
  · have R : Hid (writeM base size m x n v = m ∧ (okN n && hasZ base size x n) = false) := by
      refine Lib.hid ?_
      have : (okN n && hasZ base size x n) = false := by unfold okN; rw [decide_eq_false ok, Bool.false_and]
      exact ⟨by unfold writeM; rw [this]; rfl, this⟩
    have n1 : (n != 1) = true := by simp; omega
    have n2 : (n != 2) = true := by simp; omega
    have n4 : (n != 4) = true := by simp; omega
    have n8 : (n != 8) = true := by simp; omega
    clear h hf hx ok hv
    go_enter Try.func19, Try.ntmps19
    go_wp2
    go_ret
    exact ⟨by rw [R.out.2]; rfl, Only.refl _ _, g, .inl rfl, HH.out.congr (fun y => by rw [R.out.1]) (by omega)⟩

theorem wrNil_any (x n v : Int) (w : World) :
    Calls Try.prog 19 #[.pointer none, .int .u64 x, .int .i64 n, .int .u64 v] w fun e w' => e = .returned (.bool false) ∧ w = w' := by
  by_cases ok : n = 1 ∨ n = 2 ∨ n = 4 ∨ n = 8
  · rcases ok with rfl | rfl | rfl | rfl
    all_goals
      go_enter Try.func19, Try.ntmps19
      go_wp2_with (go_at_call 27; refine (refHas_nil _ _ _).mono ?_; rintro e w1 ⟨rfl, rfl⟩)
      go_ret
      exact ⟨rfl, rfl⟩
  · have n1 : (n != 1) = true := by simp; omega
    have n2 : (n != 2) = true := by simp; omega
    have n4 : (n != 4) = true := by simp; omega
    have n8 : (n != 8) = true := by simp; omega
    clear ok
    go_enter Try.func19, Try.ntmps19
    go_wp2
    go_ret
    exact ⟨rfl, rfl⟩

theorem rdNil_any (x n : Int) (w : World) :
    Calls Try.prog 20 #[.pointer none, .int .u64 x, .int .i64 n] w fun e w' => e = .returned (.tuple #[.int .u64 0, .bool false]) ∧ w = w' := by
  by_cases ok : n = 1 ∨ n = 2 ∨ n = 4 ∨ n = 8
  · rcases ok with rfl | rfl | rfl | rfl
    all_goals
      go_enter Try.func20, Try.ntmps20
      go_wp2_with (go_at_call 27; refine (refHas_nil _ _ _).mono ?_; rintro e w1 ⟨rfl, rfl⟩)
      go_ret2
      exact ⟨rfl, rfl⟩
  · have n1 : (n != 1) = true := by simp; omega
    have n2 : (n != 2) = true := by simp; omega
    have n4 : (n != 4) = true := by simp; omega
    have n8 : (n != 8) = true := by simp; omega
    clear ok
    go_enter Try.func20, Try.ntmps20
    go_wp2
    go_ret2
    exact ⟨rfl, rfl⟩

end Go.Proofs.Ytoghdkhlliehoaa

/- The document's memory of layer 3: bytes put and told, new ones, twins. -/
namespace Go.Proofs.Ytoghdkhlliehoaa
open Go.RowKit
set_option linter.unusedVariables false
set_option maxRecDepth 100000

/-- The slice value reads as xs, out of block g. -/
def ReadsIn (k : IntKind) (g : Nat) (w : World) (v : Value) (xs : List Int) : Prop :=
  ∃ a c, v = .slice a xs.length c ∧ xs.length ≤ maxLen ∧ (xs = [] ∨ ∃ off, a = some ⟨g, off, none⟩ ∧ g < w.heap.size ∧ ∀ i, i < xs.length → w.cell? ⟨g, off + i, none⟩ = some (.int k (xs.getD i 0)))
theorem ReadsIn.keeps {S : Nat → Prop} {k : IntKind} {g : Nat} {w w' : World} {v : Value} {xs : List Int} (h : ReadsIn k g w v xs) (o : Only S w w') (hg : ¬ S g) : ReadsIn k g w' v xs := by
  obtain ⟨a, c, hv, hm, h⟩ := h
  refine ⟨a, c, hv, hm, ?_⟩
  rcases h with h | ⟨off, ha, hlt, hc⟩
  · exact .inl h
  · exact .inr ⟨off, ha, Nat.lt_of_lt_of_le hlt o.size, fun i hi => (World.cell?_of_block (w := w) (o.block g hlt hg)).trans (hc i hi)⟩
theorem ReadsIn.below {k : IntKind} {g : Nat} {w w' : World} {v : Value} {xs : List Int} (h : ReadsIn k g w v xs) (o : Below w.heap.size w w') : ReadsIn k g w' v xs :=
  h.keeps (Only.of_below (fun _ => False) o) id
theorem ReadsL.inBlock {k : IntKind} {B : Nat} {w : World} {v : Value} {xs : List Int} (h : ReadsL k B w v xs) (hB : B ≤ w.heap.size) : ∃ g, (g < B ∨ xs = []) ∧ ReadsIn k g w v xs := by
  obtain ⟨a, c, hv, hm, h⟩ := h
  rcases h with h | ⟨b, off, ha, hlt, hc⟩
  · exact ⟨0, .inr h, a, c, hv, hm, .inl h⟩
  · exact ⟨b, .inl hlt, a, c, hv, hm, .inr ⟨off, ha, by omega, hc⟩⟩
theorem ReadsIn.own {k : IntKind} {base : Nat} {e : TypeId} {w : World} {v : Value} {xs : List Int} (h : w.ownsRow base e 1 v xs.length (xs.map (Value.int k))) : ∃ g, (base ≤ g ∨ xs = []) ∧ ReadsIn k g w v xs := by
  rcases h.2 with ⟨hv, h0⟩ | ⟨g, cap, cur, hv, hb, hg, hn, hc, _, _⟩
  · have : xs = [] := List.eq_nil_of_length_eq_zero h0
    subst this
    exact ⟨0, .inr rfl, none, 0, hv, Nat.zero_le _, .inl rfl⟩
  · subst hv
    refine ⟨g, .inl hb, _, cap, rfl, by omega, .inr ⟨0, rfl, (Array.getElem?_eq_some_iff.1 hg).1, fun i hi => ?_⟩⟩
    have := h.cells (g := g) rfl i (.int k (xs.getD i 0)) (by simp [List.getD, hi])
    rwa [add_none] at this

/-- Memory behind bytes were put at x. -/
def putF (m : Int → Int) (x : Int) : List Int → Int → Int
  | [], y => m y
  | v :: vs, y => putF (fun z => if z = x then v else m z) (x + 1) vs y
def putM (base size : Int) (m : Int → Int) (x : Int) (xs : List Int) : Int → Int := if hasZ base size x xs.length = true then putF m x xs else m
theorem putF_out {m : Int → Int} {x : Int} {xs : List Int} {y : Int} (h : y < x ∨ x + xs.length ≤ y) : putF m x xs y = m y := by
  induction xs generalizing m x with
  | nil => rfl
  | cons v vs ih =>
    simp only [List.length_cons] at h
    unfold putF
    rw [ih (by omega)]
    show (if y = x then v else m y) = m y
    rw [if_neg (by omega)]
theorem putF_at {m : Int → Int} {x : Int} {xs : List Int} {i : Nat} (h : i < xs.length) : putF m x xs (x + i) = xs.getD i 0 := by
  induction xs generalizing m x i with
  | nil => simp at h
  | cons v vs ih =>
    unfold putF
    cases i with
    | zero => rw [putF_out (by omega)]; simp
    | succ i =>
      rw [show x + ((i + 1 : Nat) : Int) = x + 1 + i by omega, ih (by simpa using h)]; simp
def Bytes255 (xs : List Int) : Prop := ∀ i, i < xs.length → 0 ≤ xs.getD i 0 ∧ xs.getD i 0 ≤ 255
theorem drop_getD {xs : List Int} {k : Nat} (h : k < xs.length) : xs.drop k = xs.getD k 0 :: xs.drop (k + 1) := by
  rw [List.drop_eq_getElem_cons h]; simp [List.getD, h]

/-- In the loop: what is still to be put. -/
def Putting (w wr : World) (b g : Nat) (base size : Int) (N : Nat) (m : Int → Int) (x : Int) (xs : List Int) (k : Nat) : Prop :=
  Only (fun i => i = b) w wr ∧ ∃ g' m', (g' = g ∨ w.heap.size ≤ g') ∧ RefMem wr b g' base size (N + k) m' ∧ ∀ y, putF m' (x + k) (xs.drop k) y = putF m x xs y
theorem Putting.next {e : Ending} {w wr w' : World} {b g : Nat} {base size : Int} {N : Nat} {m m1 : Int → Int} {x : Int} {xs : List Int} {k : Nat} (ho : Only (fun i => i = b) w wr) (hk : k < xs.length)
    (hy : ∀ y, putF m1 (x + k) (xs.drop k) y = putF m x xs y) (hs : MemSet wr b base size (N + k + 1) (fun y => if y = x + k then xs.getD k 0 else m1 y) e w') : Putting w w' b g base size N m x xs (k + 1) := by
  obtain ⟨_, ho2, g', hg, hr⟩ := hs
  refine ⟨ho.trans ho2, g', _, .inr (Nat.le_trans ho.size hg), hr, fun y => ?_⟩
  rw [← hy y, drop_getD hk, show x + ((k + 1 : Nat) : Int) = x + k + 1 by omega]; rfl

set_option maxHeartbeats 4000000 in
theorem mem_put (w : World) (b g gx : Nat) (base size : Int) (N : Nat) (m : Int → Int) (x : Int) (v : Value) (xs : List Int) (h : RefMem w b g base size N m) (hf : Fits base size) (hx : In64 x) (hr : ReadsIn .u8 gx w v xs) (hxs : Bytes255 xs) (hgx : xs = [] ∨ gx ≠ b) (hl : xs.length ≤ 10000) (hN : N < 900000) :
    Calls Try.prog 22 #[.pointer (some ⟨b, 0, none⟩), .int .u64 x, v] w (MemEnd w b g base size (N + xs.length) (putM base size m x xs) (hasZ base size x xs.length)) := by
  have HRD := hr
  obtain ⟨a, c, rfl, hm, _⟩ := hr
  have HH := Lib.hid h
  have HX := Lib.hid hx
  have HF := Lib.hid hf
  have HL := Lib.hid hl
  by_cases hh : hasZ base size x xs.length = true
  · have R : Hid (putM base size m x xs = putF m x xs) := by
      refine Lib.hid ?_
      unfold putM; rw [if_pos hh]
    have hb := hh
    unfold hasZ at hb
    rw [decide_eq_true_eq] at hb
    have xb : xs = [] ∨ x + xs.length ≤ 9223372036854775808 := by
      obtain ⟨f1, f2, f3, f4⟩ := hf
      rcases hb.2 with h0 | h0
      · exact .inl (List.eq_nil_of_length_eq_zero (by omega))
      · exact .inr (by omega)
    have XB := Lib.hid xb
    have x0 := hx.1
    clear h hf hx hb xb hl
    unfold maxLen at hm
    go_enter Try.func22, Try.ntmps22
    go_wp2_with fail
    refine (mem_has _ b g base size N m _ _ HH.out HF.out HX.out).mono ?_
    rintro e w1 ⟨rfl, hb1⟩
    have W0 : Putting w w1 b g base size N m x xs 0 := ⟨Only.of_below _ hb1, g, m, .inl rfl, HH.out.below hb1, fun y => by rw [show x + ((0 : Nat) : Int) = x by omega]; rfl⟩
    go_wp2_with fail
    go_loopw [7] (fun i wr => ∃ k : Nat, k ≤ xs.length ∧ i = .int .i64 k ∧ Putting w wr b g base size N m x xs k) (fun i _ => xs.length - (intOf i).toNat)
    case atStart => exact ⟨0, by omega, rfl, W0⟩
    case round =>
      clear W0 hb1
      obtain ⟨k, hk, rfl, hW⟩ := hrel
      by_cases hlt : k < xs.length
      · obtain ⟨ho, g1, m1, hg1, hr1, hy⟩ := hW
        have hgb : gx ≠ b := by
          rcases hgx with h0 | h0
          · subst h0; simp at hlt
          · exact h0
        obtain ⟨a', c', hv', _, hc'⟩ := HRD.keeps ho (fun h => hgb h)
        have hxl : x + xs.length ≤ 9223372036854775808 := by
          rcases XB.out with h0 | h0
          · subst h0; simp at hlt
          · exact h0
        rcases hc' with h0 | ⟨off, rfl, _, hcell⟩
        · subst h0; simp at hlt
        injection hv' with hva _ hvc
        subst hva
        have hcl := hcell k hlt
        have hbd := hxs k hlt
        obtain ⟨u, hu⟩ : ∃ u, xs.getD k 0 = u := ⟨_, rfl⟩
        rw [hu] at hcl hbd
        have HU := Lib.hid hu
        clear hu
        have HBD := Lib.hid hbd
        have HR := Lib.hid hr1
        have HY := Lib.hid hy
        have HO := Lib.hid ho
        have IX := Lib.hid (show In64 (x + k) from ⟨by omega, by omega⟩)
        have HNN := Lib.hid (show N + k < 1000000 by have := HL.out; omega)
        clear hr1 hy ho hg1 hcell hbd hvc
        go_wp2_with fail
        refine (mem_set _ b g1 base size (N + k) m1 _ _ HR.out HNN.out IX.out HBD.out.1 HBD.out.2).mono ?_
        rintro e w2 hs
        have HS := Lib.hid (Putting.next (g := g) HO.out hlt HY.out (by rw [HU.out]; exact hs))
        obtain ⟨⟨u', rfl⟩, _⟩ := hs
        go_wp2
        go_roundw
        case rel => exact ⟨k + 1, by omega, by go_num, HS.out⟩
        case measure => simp [intOf]; omega
      · obtain rfl : k = xs.length := by omega
        obtain ⟨ho, g1, m1, hg1, hr1, hy⟩ := hW
        have HE := Lib.hid hy
        have HR := Lib.hid hr1
        clear hy hr1
        go_wp2
        go_ret
        exact ⟨by rw [hh]; rfl, ho, g1, hg1, HR.out.congr (fun y => by rw [R.out, ← HE.out y, List.drop_length]; rfl) (by omega)⟩
  · have hh2 : hasZ base size x xs.length = false := by simpa using hh
    have R : Hid (putM base size m x xs = m) := by
      refine Lib.hid ?_
      unfold putM; rw [hh2]; rfl
    clear h hf hx hh hl
    go_enter Try.func22, Try.ntmps22
    go_wp2_with fail
    refine (mem_has _ b g base size N m _ _ HH.out HF.out HX.out).mono ?_
    rintro e w1 ⟨rfl, hb1⟩
    go_wp2
    go_ret
    exact ⟨by rw [hh2]; rfl, Only.of_below _ hb1, g, .inl rfl, (HH.out.below hb1).congr (fun y => by rw [R.out]) (by omega)⟩

theorem putNil_any (x : Int) (a : Option Addr) (n c : Nat) (w : World) :
    Calls Try.prog 22 #[.pointer none, .int .u64 x, .slice a n c] w fun e w' => e = .returned (.bool false) ∧ w = w' := by
  go_enter Try.func22, Try.ntmps22
  go_wp2_with (go_at_call 27; refine (refHas_nil _ _ _).mono ?_; rintro e w1 ⟨rfl, rfl⟩)
  go_ret
  exact ⟨rfl, rfl⟩

end Go.Proofs.Ytoghdkhlliehoaa

/- The document's memory of layer 3: bytes told, new ones, twins. -/
namespace Go.Proofs.Ytoghdkhlliehoaa
open Go.RowKit
set_option linter.unusedVariables false
set_option maxRecDepth 100000

/-- The n bytes from x on. -/
def bytesL (m : Int → Int) (x : Int) (n : Nat) : List Int := (List.range n).map fun i : Nat => m (x + (i : Int))
theorem bytesL_len (m : Int → Int) (x : Int) (n : Nat) : (bytesL m x n).length = n := by unfold bytesL; simp
theorem bytesL_succ (m : Int → Int) (x : Int) (n : Nat) : bytesL m x (n + 1) = bytesL m x n ++ [m (x + n)] := by unfold bytesL; rw [List.range_succ, List.map_append]; rfl
theorem bytesL_get (m : Int → Int) (x : Int) (n i : Nat) (h : i < n) : (bytesL m x n).getD i 0 = m (x + i) := by unfold bytesL; simp [List.getD, h]
def bytesV (base size : Int) (m : Int → Int) (x n : Int) : List Int := if hasZ base size x n = true then bytesL m x n.toNat else []

/-- What Bytes answers. -/
def BytesEnd (w : World) (xs : List Int) (r : Bool) (e : Ending) (w' : World) : Prop :=
  Below w.heap.size w w' ∧ ∃ a n c, e = .returned (.tuple #[.slice a n c, .bool r]) ∧ w'.ownsRow w.heap.size 5 1 (.slice a n c) xs.length (xs.map (Value.int .u8))

theorem info_u8 : (Try.prog.info? 5).map (fun i => (i.zero, i.size, i.bytes)) = some (some (.int .u8 0), 1, 1) := by kernel_rfl

set_option maxHeartbeats 4000000 in
theorem mem_bytes (w : World) (b g : Nat) (base size : Int) (N : Nat) (m : Int → Int) (x n : Int) (h : RefMem w b g base size N m) (hf : Fits base size) (hx : In64 x) (hn : n ≤ 100000 ∨ 67108864 < n) :
    Calls Try.prog 24 #[.pointer (some ⟨b, 0, none⟩), .int .u64 x, .int .i64 n] w (BytesEnd w (bytesV base size m x n) (hasZ base size x n)) := by
  obtain ⟨i0, hi, hz0, hz1, hz2⟩ := info_parts info_u8
  have hm := h.bytey
  have HH := Lib.hid h
  have HX := Lib.hid hx
  have HF := Lib.hid hf
  have HM := Lib.hid hm
  by_cases hh : hasZ base size x n = true
  · have hb := hh
    unfold hasZ at hb
    rw [decide_eq_true_eq] at hb
    have R : Hid (bytesV base size m x n = bytesL m x n.toNat) := by
      refine Lib.hid ?_
      unfold bytesV; rw [if_pos hh]
    have xb : n = 0 ∨ x + n ≤ 9223372036854775808 := by
      obtain ⟨f1, f2, f3, f4⟩ := hf; omega
    have n1 : n ≤ 100000 := by
      obtain ⟨f1, f2, f3, f4⟩ := hf; omega
    obtain ⟨n', rfl⟩ := Int.eq_ofNat_of_zero_le hb.1
    have XB := Lib.hid xb
    have x0 := hx.1
    clear h hf hx hb xb hn hm
    go_enter Try.func24, Try.ntmps24
    go_wp2_with fail
    refine (mem_has _ b g base size N m _ _ HH.out HF.out HX.out).mono ?_
    rintro e w1 ⟨rfl, hb1⟩
    go_wp2_with fail
    go_loopw [8, 9] (fun s i wr => ∃ k : Nat, k ≤ n' ∧ i = .int .i64 k ∧ wr.ownsRow w.heap.size 5 1 s (bytesL m x k).length ((bytesL m x k).map (Value.int .u8)) ∧ Below w.heap.size w wr)
      (fun _ i _ => n' - (intOf i).toNat)
    case atStart => exact ⟨0, Nat.zero_le _, rfl, World.ownsRow_nil _ _ _ _, hb1⟩
    case round =>
      clear hb1
      obtain ⟨k, hk, rfl, hown, hbr⟩ := hrel
      have hlen := bytesL_len m x k
      by_cases hlt : k < n'
      · have HR := Lib.hid (HH.out.below hbr)
        have hby := HM.out (x + k)
        have hby1 := hby.1
        have hby2 := hby.2
        have xk : x + k ≤ 9223372036854775808 := by have := XB.out; omega
        have HS := Lib.hid (bytesL_succ m x k)
        rw [hlen] at hown
        clear hby
        go_wp2_with (first
          | (go_at_call 36; refine (mem_at _ b g base size N m _ HR.out).mono ?_; rintro e w' ⟨rfl, rfl⟩)
          | (at_builtin; refine wpList_append_own _ rfl _ _ 38 rfl w.heap.size 5 i0 (.int .u8 0) 1 1 Try.underlying38 hi hz0 hz1 hz2 rfl (by decide) _ _ _ rfl (hown.alloc _) ⟨wr.heap.size, 0, none⟩ 1 1 [.int .u8 (m (x + k))] rfl rfl ?c1 ?c2 ?c3 ?c4 ?c5 ?_))
        case c1 =>
          intro j u hj
          match j, hj with
          | 0, hj => simp at hj; subst hj; simp [Addr.add]
        case c2 => intro u hu; simp at hu; subst hu; rfl
        case c3 => unfold maxLen; omega
        case c4 => omega
        case c5 => have := hbr.size; simp; omega
        intro v' w2 hown' hgrow _
        have R1 : w2.ownsRow w.heap.size 5 1 v' (bytesL m x (k + 1)).length ((bytesL m x (k + 1)).map (Value.int .u8)) := by
          rw [HS.out, List.length_append, hlen]; simpa using hown'
        have R2 : Below w.heap.size w w2 := (hbr.alloc (by have := hbr.size; omega) _).grown hgrow (by have := hbr.size; simp; omega) (fun j hj => (hown.lt j hj).1)
        clear hown' hgrow hown hbr
        go_wp2
        go_roundw
        case rel => exact ⟨k + 1, by omega, by go_num, R1, R2⟩
        case measure => simp [intOf]; omega
      · obtain rfl : k = n' := by omega
        obtain ⟨A, mm, C, rfl⟩ := own_slice hown
        have HO := Lib.hid hown
        clear hown hlen
        go_wp2
        go_ret2
        exact ⟨hbr, _, _, _, by rw [hh]; rfl, by rw [R.out]; exact HO.out⟩
  · have hh2 : hasZ base size x n = false := by simpa using hh
    have R : Hid (bytesV base size m x n = []) := by
      refine Lib.hid ?_
      unfold bytesV; rw [hh2]; rfl
    clear h hf hx hh hn
    go_enter Try.func24, Try.ntmps24
    go_wp2_with fail
    refine (mem_has _ b g base size N m _ _ HH.out HF.out HX.out).mono ?_
    rintro e w1 ⟨rfl, hb1⟩
    go_wp2
    go_ret2
    exact ⟨hb1, _, _, _, by rw [hh2]; rfl, by rw [R.out]; exact World.ownsRow_nil _ _ _ _⟩

end Go.Proofs.Ytoghdkhlliehoaa

namespace Go.Proofs.Ytoghdkhlliehoaa
open Go.RowKit
set_option linter.unusedVariables false
set_option maxRecDepth 100000

/-- P3.1: which memories there are. -/
def newOk (base size : Int) : Bool := decide (base % 4096 = 0 ∧ size % 4096 = 0 ∧ 4096 ≤ size ∧ size ≤ 67108864 ∧ base ≤ 9223372036854775808 - size)
theorem newOk_fits {base size : Int} (hb : In64 base) (h : newOk base size = true) : Fits base size := by
  unfold newOk at h; rw [decide_eq_true_eq] at h
  have := hb.1
  exact ⟨this, by omega, by omega, by omega⟩

/-- What New answers. -/
def NewEnd (w : World) (base size : Int) (ok : Bool) (e : Ending) (w' : World) : Prop :=
  (ok = false ∧ e = .returned (.tuple #[.pointer none, .int .i64 1]) ∧ w = w') ∨
  (ok = true ∧ e = .returned (.tuple #[.pointer (some ⟨w.heap.size, 0, none⟩), .int .i64 0]) ∧ Below w.heap.size w w' ∧ RefMem w' w.heap.size (w.heap.size + 1) base size 0 fun _ => 0)

set_option maxHeartbeats 1000000 in
theorem refNew_any (base size : Int) (hb : In64 base) (hs : In64 size) (w : World) :
    Calls Try.prog 7 #[.int .u64 base, .int .u64 size] w (NewEnd w base size (newOk base size)) := by
  have b0 := hb.1
  have s0 := hs.1
  by_cases h : newOk base size = true
  · have h' := h
    unfold newOk at h'; rw [decide_eq_true_eq] at h'
    obtain ⟨h1, h2, h3, h4, h5⟩ := h'
    have k1 : (base % 4096 != 0) = false := by simpa using h1
    have k2 : (size % 4096 != 0) = false := by simpa using h2
    have HE : Hid (RefMem (w.alloc (.cells #[.int .u64 base, .int .u64 size, .slice none 0 0] 36)) w.heap.size (w.heap.size + 1) base size 0 fun _ => 0) :=
      ⟨[], ⟨none, 0, heap_alloc_new w _, by simp, .inl rfl⟩, ⟨by simp, by simp⟩, fun _ => rfl, by simp⟩
    have HH := Lib.hid h
    clear h1 h2 h hb hs
    go_enter Try.func7, Try.ntmps7
    go_wp2
    go_ret2
    exact .inr ⟨HH.out, rfl, (Below.refl _ _).alloc (Nat.le_refl _) _, HE.out⟩
  · have hh : newOk base size = false := by simpa using h
    have HH := Lib.hid hh
    unfold newOk at hh; rw [decide_eq_false_iff_not] at hh
    by_cases h1 : base % 4096 = 0
    · have k1 : (base % 4096 != 0) = false := by simpa using h1
      by_cases h2 : size % 4096 = 0
      · have k2 : (size % 4096 != 0) = false := by simpa using h2
        by_cases h3 : size < 4096
        · clear hh h h1 h2 hb hs
          go_enter Try.func7, Try.ntmps7
          go_wp2
          go_ret2
          exact .inl ⟨HH.out, rfl, rfl⟩
        · by_cases h4 : 67108864 < size
          · clear hh h h1 h2 hb hs
            go_enter Try.func7, Try.ntmps7
            go_wp2
            go_ret2
            exact .inl ⟨HH.out, rfl, rfl⟩
          · have h5 : 9223372036854775808 - size < base := by omega
            clear hh h h1 h2 hb hs
            go_enter Try.func7, Try.ntmps7
            go_wp2
            go_ret2
            exact .inl ⟨HH.out, rfl, rfl⟩
      · have k2 : (size % 4096 != 0) = true := by simpa using h2
        clear hh h h1 h2 hb hs
        go_enter Try.func7, Try.ntmps7
        go_wp2
        go_ret2
        exact .inl ⟨HH.out, rfl, rfl⟩
    · have k1 : (base % 4096 != 0) = true := by simpa using h1
      clear hh h h1 hb hs
      go_enter Try.func7, Try.ntmps7
      go_wp2
      go_ret2
      exact .inl ⟨HH.out, rfl, rfl⟩

end Go.Proofs.Ytoghdkhlliehoaa

/- The document's memory of layer 3: twins. -/
namespace Go.Proofs.Ytoghdkhlliehoaa
open Go.RowKit
set_option linter.unusedVariables false
set_option maxRecDepth 100000

theorem refTwin_nil (w : World) : Calls Try.prog 12 #[.pointer none] w fun e w' => e = .returned (.pointer none) ∧ w = w' := by
  go_enter Try.func12, Try.ntmps12
  go_wp2
  go_ret
  exact ⟨rfl, rfl⟩

theorem cellsOf_one (l : List (Int × Int)) : ∀ u ∈ cellsOf l, u.oneCell' = true := by
  intro u hu
  unfold cellsOf at hu
  obtain ⟨c, _, hc⟩ := List.mem_flatMap.1 hu
  simp at hc
  rcases hc with rfl | rfl <;> rfl

/-- An append whose run is known, at a step of a region that draws. -/
theorem step_append_run {P : Program} {w : World} {ops : Array Oper} {o : Oper} {a : Act} {K : Act → World → Prop} {Q : Exit → Act → World → Prop} {E : Prop} (hgd : o.guard = none) (s x : Operand) (t : TypeId)
    (ho : o.op = .call { callee := .builtin .append, args := #[s, x], argTypes := #[t, t] }) (v v2 v' : Value) (w' : World) (hs : a.eval s = v) (hx : a.eval x = v2)
    (hr : (Builtin.append_ #[t, t] o.type #[v, v2]).run P w = .ok v' w') (h : K (a.put o.dst v') w') :
    if Region.wanted o (yielded ops a.tmps) = true then Oper.wp P o a w K Q else E := by
  have hw : Region.wanted o (yielded ops a.tmps) = true := by simp [Region.wanted, hgd]
  rw [if_pos hw]
  exact wp_append_run s x t ho v v2 v' w' hs hx hr h

/-- What Twin answers. -/
def TwinEnd (w : World) (base size : Int) (N : Nat) (m : Int → Int) (e : Ending) (w' : World) : Prop :=
  Below w.heap.size w w' ∧ ∃ b g, e = .returned (.pointer (some ⟨b, 0, none⟩)) ∧ w.heap.size ≤ b ∧ w.heap.size ≤ g ∧ RefMem w' b g base size N m

theorem twin_end {w w3 w4 : World} {base size : Int} {N : Nat} {m : Int → Int} {l : List (Int × Int)} {s : Value} {sn : Option Addr} {cc : Nat} (hB3 : Below w.heap.size w w3) (hz3 : w3.heap.size = w.heap.size + 1)
    (HT : w3.heap[w.heap.size]? = some (.cells #[.int .u64 base, .int .u64 size, .slice none 0 0] 36 (0, 0))) (hgrow : w3.drew.grownBy w4 none)
    (hs : s = .slice sn l.length cc) (hown : w4.ownsRow (w.heap.size + 1) 67 2 s l.length (cellsOf l)) (hm : l.length ≤ 1000000) (hN : l.length ≤ N) (hf : Fine l) (hl : ∀ y, look l y = m y) :
    Below w.heap.size w (w4.setCell ⟨w.heap.size, 2, none⟩ s) ∧ ∃ g, w.heap.size ≤ g ∧ RefMem (w4.setCell ⟨w.heap.size, 2, none⟩ s) w.heap.size g base size N m := by
  have hB4 : Below w.heap.size w w4 := hB3.drew.grown hgrow (by show w.heap.size ≤ w3.heap.size; omega) (fun k hk => by cases hk)
  have hT4 : w4.heap[w.heap.size]? = some (.cells #[.int .u64 base, .int .u64 size, .slice none 0 0] 36 (0, 0)) := (hgrow.block w.heap.size (by show w.heap.size < w3.heap.size; omega) (fun h => by cases h)).trans HT
  have hB5 : Below w.heap.size w (w4.setCell ⟨w.heap.size, 2, none⟩ s) := hB4.setCell (Nat.le_refl _) s
  have hS : (w4.setCell ⟨w.heap.size, 2, none⟩ s).heap[w.heap.size]? = some (.cells #[.int .u64 base, .int .u64 size, s] 36 (0, 0)) := by rw [heap_setCell_same w4 w.heap.size 2 _ _ _ hT4]; rfl
  have hO2 : Only (fun i => i = w.heap.size) w4 (w4.setCell ⟨w.heap.size, 2, none⟩ s) := (Only.refl (fun i => i = w.heap.size) w4).setCell (p := ⟨w.heap.size, 2, none⟩) (.inl rfl) s
  refine ⟨hB5, ?_⟩
  rcases Lays.own hown with ⟨hv, h0, _⟩ | ⟨g, cap, hv, hg, hl2⟩
  · have : l = [] := List.length_eq_zero_iff.1 h0
    subst this
    exact ⟨w.heap.size, Nat.le_refl _, [], ⟨sn, cc, by rw [hS, hs], hm, .inl rfl⟩, hf, hl, hN⟩
  · refine ⟨g, by omega, l, ⟨sn, cc, by rw [hS, hs], hm, .inr ⟨?_, by omega, hl2.keeps hO2 (by omega)⟩⟩, hf, hl, hN⟩
    rw [hs] at hv; injection hv

set_option maxRecDepth 100000 in
set_option maxHeartbeats 2000000 in
theorem refTwin_any (w : World) (b g : Nat) (base size : Int) (N : Nat) (m : Int → Int) (h : RefMem w b g base size N m) :
    Calls Try.prog 12 #[.pointer (some ⟨b, 0, none⟩)] w (TwinEnd w base size N m) := by
  obtain ⟨i0, hi, hz0, hz1, hz2⟩ := info_parts info_cell
  obtain ⟨l, hr, hfi, hlo, hN⟩ := h
  have hb0 := hr.base
  have hb1 := hr.size
  obtain ⟨a, c, hb, hm, hx⟩ := hr
  have hbl : b < w.heap.size := (Array.getElem?_eq_some_iff.1 hb).1
  have hb2 : w.cell? ⟨b, 2, none⟩ = some (.slice a l.length c) := by rw [cell_of_row w b 2 _ _ _ hb]; rfl
  have HFI := Lib.hid hfi
  have HLO := Lib.hid hlo
  have HBW := Lib.hid hb
  have hne : ¬ w.heap.size = b := by omega
  clear hfi hlo hb
  go_enter Try.func12, Try.ntmps12
  go_wp2
  go_still_tail 9, (by kernel_rfl)
  change wpList _ _ _ _ _ w.drew
  have Hb2 : Below w.heap.size w w.drew := (Below.refl _ _).drew
  have Hs2 : w.drew.heap.size = w.heap.size := rfl
  generalize w.drew = w2 at *
  go_wp2
  have B3 : w2.heap.size = w.heap.size := Hs2
  have hT : (w2.alloc (.cells #[.int .u64 base, .int .u64 size, .slice none 0 0] 36)).heap[w2.heap.size]? = some (.cells #[.int .u64 base, .int .u64 size, .slice none 0 0] 36 (0, 0)) := heap_alloc_new w2 _
  have hB3 : Below w.heap.size w (w2.alloc (.cells #[.int .u64 base, .int .u64 size, .slice none 0 0] 36)) := Hb2.alloc (by omega) _
  have hz3 : (w2.alloc (.cells #[.int .u64 base, .int .u64 size, .slice none 0 0] 36)).heap.size = w.heap.size + 1 := by rw [World.size_alloc, B3]
  generalize (w2.alloc (.cells #[.int .u64 base, .int .u64 size, .slice none 0 0] 36)) = w3 at *
  have hb3 := (hB3.block b hbl).trans HBW.out
  have c1 : w3.cell? ⟨b, 2, none⟩ = some (.slice a l.length c) := by rw [cell_of_row w3 b 2 _ _ _ hb3]; rfl
  have c2 : w3.cell? ⟨w2.heap.size, 2, none⟩ = some (.slice none 0 0) := by rw [cell_of_row w3 _ 2 _ _ _ hT]; rfl
  have c3 := frozen_of_row w3 w2.heap.size 2 _ _ hT
  have HT := Lib.hid hT
  rw [B3] at HT c2 c3
  clear hT
  by_cases hnil : l = []
  · subst hnil
    clear hx
    cases a
    all_goals go_region
    all_goals
      have hE := twin_end (l := []) (s := .slice none 0 0) (cc := 0) hB3 hz3 HT.out ⟨rfl, rfl, rfl, Nat.le_refl _, fun _ _ _ => rfl⟩ rfl (World.ownsRow_nil w3.drew _ _ _) (by simp) hN HFI.out HLO.out
      have HE := Lib.hid hE
      clear hE c1 c2 c3 hb3 hB3 hz3
      go_wp2
      go_ret
      obtain ⟨h1, g', h2, h3⟩ := HE.out
      exact ⟨h1, _, g', rfl, Nat.le_refl _, h2, h3⟩
  · obtain ⟨rfl, hgb, hl⟩ := hx.resolve_left hnil
    clear hx
    have hl3 := hl.keeps (Only.of_below (fun _ => False) hB3) id
    have hn : 0 < l.length := by
      rcases Nat.eq_zero_or_pos l.length with h0 | h0
      · exact absurd (List.length_eq_zero_iff.1 h0) hnil
      · exact h0
    go_region_law (refine step_append_lies _ rfl _ _ 34 rfl (w.heap.size + 1) 67 i0 (.agg #[.int .u64 0, .int .u8 0]) 2 16 Try.underlying34 hi hz0 hz1 hz2 rfl (by decide) _ 0 [] rfl (World.ownsRow_nil _ _ _ _) ⟨g, 0, none⟩ l.length c (cellsOf l) rfl (cellsOf_len l) (fun j u hj => (by rw [add_none, Nat.zero_add]; exact hl3.cell hj)) (cellsOf_one l) hn (by unfold maxLen; omega) (by omega) (by simp [hz3]) _ rfl ?_; intro g2 cap w4 hown hgrow hat hlt; have d1 : w4.cell? ⟨w.heap.size, 2, none⟩ = some (.slice none 0 0) := (hgrow.cell_far ⟨w.heap.size, 2, none⟩ (by show w.heap.size < w3.heap.size; omega) (fun hh => (by have h0 : (some w.heap.size : Option Nat) = none := hh; cases h0))).trans c2; have d2 : w4.frozen? ⟨w.heap.size, 2, none⟩ = false := (hgrow.frozen_far ⟨w.heap.size, 2, none⟩ (by show w.heap.size < w3.heap.size; omega) (fun hh => (by have h0 : (some w.heap.size : Option Nat) = none := hh; cases h0))).trans c3)
    all_goals
      have hE := twin_end hB3 hz3 HT.out hgrow rfl (by simpa using hown) hm hN HFI.out HLO.out
      have HE := Lib.hid hE
      clear hE hown hgrow hat hlt d1 d2 c1 c2 c3 hl hl3 hb3 hB3 hz3
      go_wp2
      go_ret
      obtain ⟨h1, g', h2, h3⟩ := HE.out
      exact ⟨h1, _, g', rfl, Nat.le_refl _, h2, h3⟩

end Go.Proofs.Ytoghdkhlliehoaa

/- The document's memory of layer 3: whether two are the same. -/
namespace Go.Proofs.Ytoghdkhlliehoaa
open Go.RowKit
set_option linter.unusedVariables false
set_option maxRecDepth 100000

theorem look_cons (d : Int × Int) (l : List (Int × Int)) (x : Int) : look (d :: l) x = if d.1 = x then d.2 else look l x := by
  unfold look
  by_cases e : d.1 = x
  · rw [if_pos e]; simp [e]
  · rw [if_neg e]; simp [e]
theorem look_of_mem {l : List (Int × Int)} (h : Fine l) {c : Int × Int} (hc : c ∈ l) : look l c.1 = c.2 := by
  have hn := h.2
  clear h
  induction l with
  | nil => simp at hc
  | cons d l ih =>
    rw [look_cons]
    simp only [List.map_cons, List.nodup_cons] at hn
    rcases List.mem_cons.1 hc with rfl | hc
    · rw [if_pos rfl]
    · rw [if_neg (fun e => hn.1 (by rw [e]; exact List.mem_map.2 ⟨c, hc, rfl⟩))]
      exact ih hc hn.2
theorem sub_len {l1 l2 : List Int} (h : l1.Nodup) (hs : ∀ x ∈ l1, x ∈ l2) : l1.length ≤ l2.length := by
  induction l1 generalizing l2 with
  | nil => simp
  | cons a l ih =>
    simp only [List.nodup_cons] at h
    have ha := hs a (by simp)
    have h1 := ih (l2 := l2.erase a) h.2 (fun x hx => (List.mem_erase_of_ne (fun e => h.1 (by rw [← e]; exact hx))).2 (hs x (by simp [hx])))
    rw [List.length_erase_of_mem ha] at h1
    have h2 := List.length_pos_of_mem ha
    simp; omega
theorem sub_all {l1 l2 : List Int} (h : l1.Nodup) (hs : ∀ x ∈ l1, x ∈ l2) (hl : l2.length ≤ l1.length) : ∀ x ∈ l2, x ∈ l1 := by
  intro x hx
  by_cases c : x ∈ l1
  · exact c
  · have := sub_len (l1 := x :: l1) (l2 := l2) (by simp [c, h]) (by intro y hy; rcases List.mem_cons.1 hy with rfl | hy; exact hx; exact hs y hy)
    simp at this; omega
theorem look_key {l : List (Int × Int)} {x : Int} (h : ¬ look l x = 0) : x ∈ l.map (·.1) := by
  rcases look_mem (l := l) (x := x) with e | ⟨c, hc, e, _⟩
  · exact absurd e h
  · exact List.mem_map.2 ⟨c, hc, e⟩
theorem look_nokey {l : List (Int × Int)} {x : Int} (h : x ∉ l.map (·.1)) : look l x = 0 := by
  by_cases c : look l x = 0
  · exact c
  · exact absurd (look_key c) h
/-- Of two lists of one length, each entry of the one told by the other: they tell the same. -/
theorem same_look {l1 l2 : List (Int × Int)} (h1 : Fine l1) (h2 : Fine l2) (hl : l1.length = l2.length) (h : ∀ c ∈ l1, look l2 c.1 = c.2) (y : Int) : look l1 y = look l2 y := by
  have hk : ∀ x ∈ l1.map (·.1), x ∈ l2.map (·.1) := by
    intro x hx
    obtain ⟨c, hc, rfl⟩ := List.mem_map.1 hx
    exact look_key (by rw [h c hc]; have := h1.1 c hc; omega)
  have hk2 := sub_all h1.2 hk (by simp [hl])
  by_cases hy : y ∈ l1.map (·.1)
  · obtain ⟨c, hc, rfl⟩ := List.mem_map.1 hy
    rw [look_of_mem h1 hc, h c hc]
  · rw [look_nokey hy, look_nokey (fun k => hy (hk2 y k))]
theorem look_len {l1 l2 : List (Int × Int)} (h1 : Fine l1) (h2 : Fine l2) (h : ∀ y, look l1 y = look l2 y) : l1.length = l2.length := by
  have f : ∀ {l l' : List (Int × Int)}, Fine l → (∀ y, look l y = look l' y) → ∀ x ∈ l.map (·.1), x ∈ l'.map (·.1) := by
    intro l l' hl he x hx
    obtain ⟨c, hc, rfl⟩ := List.mem_map.1 hx
    exact look_key (by rw [← he, look_of_mem hl hc]; have := hl.1 c hc; omega)
  have a := sub_len h1.2 (f h1 h)
  have b := sub_len h2.2 (f h2 fun y => (h y).symm)
  simp at a b; omega

/-- What Same answers. -/
def SameEnd (w : World) (p : Prop) (e : Ending) (w' : World) : Prop := Below w.heap.size w w' ∧ ∃ r : Bool, e = .returned (.bool r) ∧ (r = true ↔ p)

end Go.Proofs.Ytoghdkhlliehoaa

/- The document's memory of layer 3: the pages that are not all noughts. -/
namespace Go.Proofs.Ytoghdkhlliehoaa
open Go.RowKit
set_option linter.unusedVariables false
set_option maxRecDepth 100000

theorem own_mono {w : World} {b b' : Nat} {e : TypeId} {s : Nat} {v : Value} {n : Nat} {xs : List Value} (h : w.ownsRow b e s v n xs) (hb : b' ≤ b) : w.ownsRow b' e s v n xs := by
  refine ⟨h.1, ?_⟩
  rcases h.2 with h0 | ⟨g, cap, cur, hv, hg, hh⟩
  · exact .inl h0
  · exact .inr ⟨g, cap, cur, hv, by omega, hh⟩

/-- Numbers that rise. -/
def Rises (ps : List Int) : Prop := ps.Pairwise (· < ·)
theorem rises_put {ps : List Int} {p : Int} {k : Nat} (h : Rises ps) (hk : k ≤ ps.length) (h1 : ∀ j, j < k → ps.getD j 0 < p) (h2 : k < ps.length → p < ps.getD k 0) : Rises (ps.take k ++ [p] ++ ps.drop k) := by
  unfold Rises at *
  rw [List.append_assoc, List.pairwise_append]
  have hd : ∀ b ∈ ps.drop k, p < b := by
    intro b hb
    obtain ⟨j, hj, rfl⟩ := List.getElem_of_mem hb
    have hlt : k < ps.length := by simp at hj; omega
    have h3 := h2 hlt
    rw [List.getElem_drop]
    have e : ps.getD k 0 = ps[k] := by simp [List.getD, hlt]
    rw [e] at h3
    cases j with
    | zero => simpa using h3
    | succ j => exact Int.lt_trans h3 ((List.pairwise_iff_getElem.1 h) k (k + (j + 1)) hlt (by simp at hj; omega) (by omega))
  refine ⟨h.sublist (List.take_sublist _ _), ?_, ?_⟩
  · rw [List.singleton_append, List.pairwise_cons]
    exact ⟨hd, h.sublist (List.drop_sublist _ _)⟩
  · intro a ha b hb
    obtain ⟨j, hj, rfl⟩ := List.getElem_of_mem ha
    have hj2 : j < k ∧ j < ps.length := by simp at hj; omega
    have ea : ps.getD j 0 = (ps.take k)[j] := by simp [List.getD, hj2.2]
    have hap := h1 j hj2.1
    rw [ea] at hap
    rw [List.singleton_append, List.mem_cons] at hb
    rcases hb with rfl | hb
    · exact hap
    · exact Int.lt_trans hap (hd b hb)
theorem put_mem {ps : List Int} {p q : Int} {k : Nat} : q ∈ ps.take k ++ [p] ++ ps.drop k ↔ q = p ∨ q ∈ ps := by
  rw [List.mem_append, List.mem_append, List.mem_singleton]
  constructor
  · rintro ((h | h) | h)
    · exact .inr (List.mem_of_mem_take h)
    · exact .inl h
    · exact .inr (List.mem_of_mem_drop h)
  · rintro (h | h)
    · exact .inl (.inr h)
    · rw [← List.take_append_drop k ps, List.mem_append] at h
      rcases h with h | h
      · exact .inl (.inl h)
      · exact .inr h
theorem put_len (ps : List Int) (p : Int) {k : Nat} (hk : k ≤ ps.length) : (ps.take k ++ [p] ++ ps.drop k).length = ps.length + 1 := by simp; omega

def pageOf (x : Int) : Int := x / 4096 * 4096
/-- The pages of the first k entries. -/
def PagesTo (l : List (Int × Int)) (k : Nat) (ps : List Int) : Prop := Rises ps ∧ ps.length ≤ k ∧ (∀ p ∈ ps, In64 p) ∧ ∀ p, p ∈ ps ↔ ∃ j, j < k ∧ pageOf (l.getD j (0, 0)).1 = p
theorem pages_zero (l : List (Int × Int)) : PagesTo l 0 [] := ⟨List.Pairwise.nil, by simp, by simp, by simp⟩
theorem pages_have {l : List (Int × Int)} {k : Nat} {ps : List Int} (h : PagesTo l k ps) (hp : pageOf (l.getD k (0, 0)).1 ∈ ps) : PagesTo l (k + 1) ps := by
  obtain ⟨h1, h2, h3, h4⟩ := h
  refine ⟨h1, by omega, h3, fun p => ⟨fun hh => ?_, fun ⟨j, hj, e⟩ => ?_⟩⟩
  · obtain ⟨j, hj, e⟩ := (h4 p).1 hh; exact ⟨j, by omega, e⟩
  · by_cases hjk : j < k
    · exact (h4 p).2 ⟨j, hjk, e⟩
    · obtain rfl : j = k := by omega
      rw [← e]; exact hp
theorem pages_more {l : List (Int × Int)} {k : Nat} {ps : List Int} {kk : Nat} {p : Int} (h : PagesTo l k ps) (ep : pageOf (l.getD k (0, 0)).1 = p) (ip : In64 p) (hk : kk ≤ ps.length) (h1 : ∀ j, j < kk → ps.getD j 0 < p) (h2 : kk < ps.length → p < ps.getD kk 0) :
    PagesTo l (k + 1) (ps.take kk ++ [p] ++ ps.drop kk) := by
  obtain ⟨a1, a2, a3, a4⟩ := h
  refine ⟨rises_put a1 hk h1 h2, by rw [put_len ps p hk]; omega, fun q hq => ?_, fun q => ?_⟩
  · rcases put_mem.1 hq with rfl | hq
    · exact ip
    · exact a3 q hq
  · rw [put_mem, a4]
    constructor
    · rintro (rfl | ⟨j, hj, e⟩)
      · exact ⟨k, by omega, ep⟩
      · exact ⟨j, by omega, e⟩
    · rintro ⟨j, hj, e⟩
      by_cases hjk : j < k
      · exact .inr ⟨j, hjk, e⟩
      · obtain rfl : j = k := by omega
        exact .inl (by rw [← e, ep])

/-- What Pages answers. -/
def PagesEnd (w : World) (m : Int → Int) (e : Ending) (w' : World) : Prop :=
  Below w.heap.size w w' ∧ ∃ a n c ps, e = .returned (.slice a n c) ∧ w'.ownsRow w.heap.size 22 1 (.slice a n c) ps.length (ps.map (Value.int .u64)) ∧ Rises ps ∧ ∀ p, p ∈ ps ↔ ∃ y, ¬ m y = 0 ∧ pageOf y = p

theorem info_u64 : (Try.prog.info? 22).map (fun i => (i.zero, i.size, i.bytes)) = some (some (.int .u64 0), 1, 8) := by kernel_rfl
theorem pages_all {l : List (Int × Int)} {m : Int → Int} {ps : List Int} (hf : Fine l) (hm : ∀ y, look l y = m y) (h : PagesTo l l.length ps) : ∀ p, p ∈ ps ↔ ∃ y, ¬ m y = 0 ∧ pageOf y = p := by
  intro p
  rw [h.2.2.2 p]
  constructor
  · rintro ⟨j, hj, e⟩
    have hc : l.getD j (0, 0) ∈ l := by simp [List.getD, hj]
    exact ⟨_, by rw [← hm, look_of_mem hf hc]; have := hf.1 _ hc; omega, e⟩
  · rintro ⟨y, hy, e⟩
    rw [← hm] at hy
    obtain ⟨c, hc, rfl⟩ := List.mem_map.1 (look_key hy)
    obtain ⟨j, hj, rfl⟩ := List.getElem_of_mem hc
    exact ⟨j, hj, by simpa [List.getD, hj] using e⟩

theorem append64_none (w : World) (A : Option Addr) (n C : Nat) (h : n ≤ C) : (Builtin.append_ #[43, 43] 43 #[.slice A n C, .slice none 0 0]).run Try.prog w = .ok (.slice A n C) w := by
  obtain ⟨i0, hi, hz0, hz1, hz2⟩ := info_parts info_u64
  cases A with
  | none => simp [Builtin.append_, run_underlying Try.underlying43, sizeOf, typeInfo, hi, Builtin.lenOf, Builtin.firstCells, loadCells, loadCellsFrom, storeCells, h]
  | some a => simp [Builtin.append_, run_underlying Try.underlying43, sizeOf, typeInfo, hi, Builtin.lenOf, Builtin.firstCells, loadCells, loadCellsFrom, storeCells, h]

theorem one_cell (w : World) (v : Value) (t : TypeId) : ∀ j u, [v][j]? = some u → (w.alloc (.cells #[v] t)).cell? ((⟨w.heap.size, 0, none⟩ : Addr).add j) = some u := by
  intro j u hj
  match j, hj with
  | 0, hj => simp at hj; subst hj; simp [Addr.add]
theorem ints_one (k : IntKind) (xs : List Int) : ∀ u ∈ xs.map (Value.int k), u.oneCell' = true := by
  intro u hu; obtain ⟨z, _, rfl⟩ := List.mem_map.1 hu; rfl
theorem take_cells {w : World} {g : Nat} {k : IntKind} {xs : List Int} {n : Nat} (h : Lays w g (xs.map (Value.int k))) : ∀ j u, ((xs.take n).map (Value.int k))[j]? = some u → w.cell? ((⟨g, 0, none⟩ : Addr).add j) = some u := by
  intro j u hj
  rw [add_none, Nat.zero_add]
  refine h.cell ?_
  rw [List.map_take, List.getElem?_take] at hj
  by_cases c : j < n
  · rwa [if_pos c] at hj
  · rw [if_neg c] at hj; cases hj
theorem row_cells {w : World} {g : Nat} {k : IntKind} {xs : List Int} (h : Lays w g (xs.map (Value.int k))) : ∀ j u, (xs.map (Value.int k))[j]? = some u → w.cell? ((⟨g, 0, none⟩ : Addr).add j) = some u := by
  intro j u hj
  rw [add_none, Nat.zero_add]
  exact h.cell hj
theorem drop_cells {w : World} {g : Nat} {k : IntKind} {xs : List Int} {n : Nat} (h : Lays w g (xs.map (Value.int k))) : ∀ j u, ((xs.drop n).map (Value.int k))[j]? = some u → w.cell? ((⟨g, n, none⟩ : Addr).add j) = some u := by
  intro j u hj
  rw [add_none]
  refine h.cell ?_
  rwa [List.map_drop, List.getElem?_drop] at hj

theorem refPages_nil (w : World) : Calls Try.prog 15 #[.pointer none] w fun e w' => e = .returned (.slice none 0 0) ∧ w = w' := by
  go_enter Try.func15, Try.ntmps15
  go_wp2
  go_loop [3, 4] (fun s i => s = .slice none 0 0 ∧ i = .int .i64 0) (fun _ _ => 0)
  case atStart => exact ⟨rfl, rfl⟩
  case round =>
    obtain ⟨rfl, rfl⟩ := hrel
    go_wp2
    go_ret
    exact ⟨rfl, rfl⟩

set_option maxHeartbeats 4000000 in
theorem refPages_any (w : World) (b g : Nat) (base size : Int) (N : Nat) (m : Int → Int) (h : RefMem w b g base size N m) :
    Calls Try.prog 15 #[.pointer (some ⟨b, 0, none⟩)] w (PagesEnd w m) := by
  obtain ⟨i0, hi, hz0, hz1, hz2⟩ := info_parts info_u64
  obtain ⟨l, hr, hfi, hlo, hN⟩ := h
  obtain ⟨a, c, hb, hm, hx⟩ := hr
  have hbl : b < w.heap.size := (Array.getElem?_eq_some_iff.1 hb).1
  have HFI := Lib.hid hfi
  have HLO := Lib.hid hlo
  have HB := Lib.hid hb
  have HX := Lib.hid hx
  clear hfi hlo hb hx
  go_enter Try.func15, Try.ntmps15
  go_wp2
  go_loopw [3, 4] (fun s i wr => ∃ (k : Nat) (ps : List Int), k ≤ l.length ∧ i = .int .i64 k ∧ wr.ownsRow w.heap.size 22 1 s ps.length (ps.map (Value.int .u64)) ∧ PagesTo l k ps ∧ Below w.heap.size w wr) (fun _ i _ => l.length - (intOf i).toNat)
  case atStart => exact ⟨0, [], Nat.zero_le _, rfl, World.ownsRow_nil _ _ _ _, pages_zero l, Below.refl _ _⟩
  case round =>
    obtain ⟨k, ps, hk, rfl, hown, hpg, hbr⟩ := hrel
    have hbb := (hbr.block b hbl).trans HB.out
    have c2 : wr.cell? ⟨b, 2, none⟩ = some (.slice a l.length c) := by rw [cell_of_row wr b 2 _ _ _ hbb]; rfl
    clear hbb
    by_cases hlt : k < l.length
    · rcases HX.out with h0 | ⟨ha, hne, hl⟩
      · subst h0; simp at hlt
      subst ha
      have hl2 := hl.keeps (Only.of_below (fun _ => False) hbr) id
      obtain ⟨cc, hcc⟩ : ∃ cc, l.getD k (0, 0) = cc := ⟨_, rfl⟩
      have hA := hl2.cell (cellsOf_get l k hlt).1
      rw [hcc] at hA
      have hmem : cc ∈ l := by rw [← hcc]; simp [List.getD, hlt]
      have hc64 := (HFI.out.1 cc hmem).1
      obtain ⟨q, hq⟩ : ∃ q, IntKind.u64.wrap (cc.1.tdiv 4096) = q := ⟨_, rfl⟩
      obtain ⟨p, hp⟩ : ∃ p, IntKind.u64.wrap (q * 4096) = p := ⟨_, rfl⟩
      have hpp : pageOf cc.1 = p := by
        have := hc64.1
        have := hc64.2
        rw [IntKind.wrap_u64, Int.tdiv_eq_ediv_of_nonneg hc64.1] at hq
        rw [IntKind.wrap_u64] at hp
        unfold pageOf; omega
      have ip : In64 p := by rw [← hp, wrap_eq]; exact U_in _
      have HP := Lib.hid (show pageOf (l.getD k (0, 0)).1 = p by rw [hcc]; exact hpp)
      have HIP := Lib.hid ip
      have HPG := Lib.hid hpg
      have hpl := hpg.2.1
      clear hcc hl hl2 hmem hc64 hpp ip hpg
      rcases Lays.own hown with ⟨hs, h0, hv⟩ | ⟨gs, cap, hs, hgs, hls⟩
      · subst hs
        obtain rfl : ps = [] := List.length_eq_zero_iff.1 h0
        clear h0 hv
        go_wp2
        go_loop [6] (fun i => i = .int .i64 0) (fun _ => 0)
        case atStart => rfl
        case round =>
          subst hrel
          go_wp2_with (first
            | (at_builtin; refine wpList_append_run rfl _ _ _ rfl (.slice none 0 0) (.slice none 0 0) (.slice none 0 0) _ rfl rfl (append64_none _ none 0 0 (Nat.le_refl _)) ?_)
            | (at_builtin; refine wpList_append_own _ rfl _ _ 43 rfl w.heap.size 22 i0 (.int .u64 0) 1 8 Try.underlying43 hi hz0 hz1 hz2 rfl (by decide) (.slice none 0 0) 0 [] rfl (World.ownsRow_nil _ _ _ _) ⟨wr.heap.size, 0, none⟩ 1 1 [.int .u64 p] rfl rfl ?c1 ?c2 ?c3 ?c4 ?c5 ?_))
          case c2 => rfl
          case c3 => (try unfold maxLen); omega
          case c5 => have := hbr.size; (try simp); omega
          intro v' w2 hown' hgrow _
          have hb2 : Below w.heap.size w w2 := (hbr.alloc (by have := hbr.size; omega) _).grown hgrow (by have := hbr.size; simp; omega) (fun j hj => by cases hj)
          rcases Lays.own hown' with ⟨_, h0, _⟩ | ⟨g2, cap2, rfl, _, _⟩
          · exact absurd h0 (by omega)
          have hcap : 0 + 1 ≤ cap2 := by
            rcases hown'.2 with ⟨hv, _⟩ | ⟨_, _, _, hv, _, _, hn, _⟩
            · cases hv
            · injection hv with _ _ h3; omega
          have HO := Lib.hid hown'
          have HPN : Hid (PagesTo l (k + 1) [p]) := Lib.hid (pages_more (kk := 0) HPG.out HP.out HIP.out (Nat.le_refl _) (fun j hj => absurd hj (by omega)) (fun hj => absurd hj (by simp)))
          clear hown' hgrow hown
          go_wp2_with (at_builtin; refine wpList_append_run rfl _ _ _ rfl (.slice (some ⟨g2, 0, none⟩) (0 + 1) cap2) (.slice none 0 0) (.slice (some ⟨g2, 0, none⟩) (0 + 1) cap2) _ rfl rfl (append64_none _ _ _ _ hcap) ?_)
          go_roundw
          case rel => exact ⟨k + 1, [p], by omega, by go_num, HO.out, HPN.out, hb2⟩
          case measure => simp [intOf]; omega
      · subst hs
        have hnc : ps.length ≤ cap ∧ cap ≤ maxLen := by
          rcases hown.2 with ⟨hv, _⟩ | ⟨_, _, _, hv, _, _, hn, hm2, _⟩
          · cases hv
          · injection hv with _ _ h3; exact ⟨by omega, by omega⟩
        obtain ⟨hn1, hn2⟩ := hnc
        unfold maxLen at hn2
        have hgl := hls.lt
        go_wp2
        go_loop [6] (fun i => ∃ kk : Nat, kk ≤ ps.length ∧ i = .int .i64 kk ∧ ∀ j, j < kk → ps.getD j 0 < p) (fun i => ps.length - (intOf i).toNat)
        case atStart => exact ⟨0, Nat.zero_le _, rfl, fun j hj => absurd hj (by omega)⟩
        case round =>
          obtain ⟨kk, hkk, rfl, hno⟩ := hrel
          have HNO := Lib.hid hno
          have HOWN := Lib.hid hown
          have HLS := Lib.hid hls
          clear hno hown hls
          by_cases hk2 : kk < ps.length
          · obtain ⟨u, hu⟩ : ∃ u, ps.getD kk 0 = u := ⟨_, rfl⟩
            have hcell : wr.cell? ⟨gs, kk, none⟩ = some (.int .u64 u) := HLS.out.cell (by rw [← hu]; simp [List.getD, hk2])
            have HU := Lib.hid hu
            clear hu
            by_cases hup : u < p
            · go_wp2
              go_round
              case rel => exact ⟨kk + 1, by omega, by go_num, fun j hj => (by
                by_cases hjk : j < kk
                · exact HNO.out j hjk
                · obtain rfl : j = kk := by omega
                  rw [HU.out]; exact hup)⟩
              case measure => simp [intOf]; omega
            · by_cases heq : u = p
              · have hee : (u == p) = true := by simpa using heq
                have HE := Lib.hid heq
                clear heq
                go_wp2
                go_roundw
                case rel => exact ⟨k + 1, ps, by omega, by go_num, HOWN.out, pages_have HPG.out (by rw [HP.out, ← HE.out, ← HU.out]; simp [List.getD, hk2]), hbr⟩
                case measure => simp [intOf]; omega
              · have hee : (u == p) = false := by simpa using heq
                have hlt2 : p < u := by omega
                clear heq
                have hck : ¬ cap = kk := by omega
                have hl1 : ((ps.take kk).map (Value.int .u64)).length = kk * 1 := by simp; omega
                go_wp2_with (at_builtin; refine wpList_append_own _ rfl _ _ 43 rfl wr.heap.size 22 i0 (.int .u64 0) 1 8 Try.underlying43 hi hz0 hz1 hz2 rfl (by decide) (.slice none 0 0) 0 [] rfl (World.ownsRow_nil _ _ _ _) ⟨gs, 0, none⟩ kk cap ((ps.take kk).map (Value.int .u64)) rfl hl1 (take_cells HLS.out) (ints_one _ _) (by unfold maxLen; omega) (by omega) (Nat.le_refl _) ?_)
                intro v1 w1 hown1 hgrow1 _
                have B1 : Below wr.heap.size wr w1 := (Below.refl _ _).grown hgrow1 (Nat.le_refl _) (fun j hj => by cases hj)
                have hs1 := B1.size
                obtain ⟨A1, m1, C1, rfl⟩ := own_slice hown1
                have HO1 := Lib.hid hown1
                clear hgrow1 hown1
                go_wp2_with (at_builtin; refine wpList_append_own _ rfl _ _ 43 rfl wr.heap.size 22 i0 (.int .u64 0) 1 8 Try.underlying43 hi hz0 hz1 hz2 rfl (by decide) (.slice A1 m1 C1) kk _ rfl (HO1.out.alloc _) ⟨w1.heap.size, 0, none⟩ 1 1 [.int .u64 p] rfl rfl (one_cell _ _ _) (by simp [Value.oneCell']) (by unfold maxLen; omega) (by omega) (by rw [World.size_alloc]; omega) ?_)
                intro v2 w2 hown2 hgrow2 _
                have B2 : Below wr.heap.size wr w2 := (B1.alloc hs1 _).grown hgrow2 (by rw [World.size_alloc]; omega) (fun j hj => (HO1.out.lt j hj).1)
                have HO2 := Lib.hid hown2
                obtain ⟨A2, m2, C2, rfl⟩ := own_slice hown2
                have hs2 := B2.size
                have HL2 := Lib.hid (HLS.out.keeps (Only.of_below (fun _ => False) B2) id)
                clear hown2 hgrow2
                have hl3 : ((ps.drop kk).map (Value.int .u64)).length = (ps.length - kk) * 1 := by simp
                go_wp2_with (at_builtin; refine wpList_append_own _ rfl _ _ 43 rfl wr.heap.size 22 i0 (.int .u64 0) 1 8 Try.underlying43 hi hz0 hz1 hz2 rfl (by decide) (.slice A2 m2 C2) (kk + 1) _ rfl HO2.out ⟨gs, kk, none⟩ (ps.length - kk) (cap - kk) ((ps.drop kk).map (Value.int .u64)) rfl hl3 (drop_cells HL2.out) (ints_one _ _) (by unfold maxLen; omega) (by omega) (by omega) ?_)
                intro v3 w3 hown3 hgrow3 _
                have B3 : Below wr.heap.size wr w3 := B2.grown hgrow3 (by omega) (fun j hj => (HO2.out.lt j hj).1)
                have R3 : w3.ownsRow w.heap.size 22 1 v3 (ps.take kk ++ [p] ++ ps.drop kk).length ((ps.take kk ++ [p] ++ ps.drop kk).map (Value.int .u64)) := by
                  have h0 := own_mono hown3 hbr.size
                  have e1 : (ps.take kk ++ [p] ++ ps.drop kk).length = kk + 1 + (ps.length - kk) := by simp; omega
                  rw [e1]
                  simpa using h0
                have HPN : Hid (PagesTo l (k + 1) (ps.take kk ++ [p] ++ ps.drop kk)) := Lib.hid (pages_more HPG.out HP.out HIP.out hkk HNO.out (fun _ => by rw [HU.out]; exact hlt2))
                have HR3 := Lib.hid R3
                have HB3 := Lib.hid (hbr.trans (B3.mono hbr.size))
                clear hown3 hgrow3 R3
                go_wp2
                go_roundw
                case rel => exact ⟨k + 1, _, by omega, by go_num, HR3.out, HPN.out, HB3.out⟩
                case measure => simp [intOf]; omega
          · obtain rfl : kk = ps.length := by omega
            by_cases hck : cap = ps.length
            · subst hck
              have hl1 : (ps.map (Value.int .u64)).length = ps.length * 1 := by simp
              go_wp2_with (at_builtin; refine wpList_append_own _ rfl _ _ 43 rfl wr.heap.size 22 i0 (.int .u64 0) 1 8 Try.underlying43 hi hz0 hz1 hz2 rfl (by decide) (.slice none 0 0) 0 [] rfl (World.ownsRow_nil _ _ _ _) ⟨gs, 0, none⟩ ps.length ps.length (ps.map (Value.int .u64)) rfl hl1 (row_cells HLS.out) (ints_one _ _) (by unfold maxLen; omega) (by omega) (Nat.le_refl _) ?_)
              intro v1 w1 hown1 hgrow1 _
              have B1 : Below wr.heap.size wr w1 := (Below.refl _ _).grown hgrow1 (Nat.le_refl _) (fun j hj => by cases hj)
              have hs1 := B1.size
              obtain ⟨A1, m1, C1, rfl⟩ := own_slice hown1
              have HO1 := Lib.hid hown1
              clear hgrow1 hown1
              go_wp2_with (at_builtin; refine wpList_append_own _ rfl _ _ 43 rfl wr.heap.size 22 i0 (.int .u64 0) 1 8 Try.underlying43 hi hz0 hz1 hz2 rfl (by decide) (.slice A1 m1 C1) ps.length _ rfl (HO1.out.alloc _) ⟨w1.heap.size, 0, none⟩ 1 1 [.int .u64 p] rfl rfl (one_cell _ _ _) (by simp [Value.oneCell']) (by unfold maxLen; omega) (by omega) (by rw [World.size_alloc]; omega) ?_)
              intro v2 w2 hown2 hgrow2 _
              have B2 : Below wr.heap.size wr w2 := (B1.alloc hs1 _).grown hgrow2 (by rw [World.size_alloc]; omega) (fun j hj => (HO1.out.lt j hj).1)
              have HO2 := Lib.hid hown2
              obtain ⟨A2, m2, C2, rfl⟩ := own_slice hown2
              have hs2 := B2.size
              have HL2 := Lib.hid (HLS.out.keeps (Only.of_below (fun _ => False) B2) id)
              clear hown2 hgrow2
              go_wp2_with (at_builtin; refine wpList_append_own _ rfl _ _ 43 rfl wr.heap.size 22 i0 (.int .u64 0) 1 8 Try.underlying43 hi hz0 hz1 hz2 rfl (by decide) (.slice A2 m2 C2) (ps.length + 1) _ rfl HO2.out ⟨gs, 0, none⟩ 0 0 [] rfl rfl (fun j u hj => by simp at hj) (fun u hu => by simp at hu) (by unfold maxLen; omega) (by omega) (by omega) ?_)
              intro v3 w3 hown3 hgrow3 _
              have B3 : Below wr.heap.size wr w3 := B2.grown hgrow3 (by omega) (fun j hj => (HO2.out.lt j hj).1)
              have R3 : w3.ownsRow w.heap.size 22 1 v3 (ps ++ [p]).length ((ps ++ [p]).map (Value.int .u64)) := by
                have h0 := own_mono hown3 hbr.size
                have e1 : (ps ++ [p]).length = ps.length + 1 := by simp
                rw [e1]
                simpa using h0
              have HPN : Hid (PagesTo l (k + 1) (ps ++ [p])) := Lib.hid (by have := pages_more HPG.out HP.out HIP.out hkk HNO.out (fun hj => absurd hj (by omega)); rwa [List.take_length, List.drop_length, List.append_nil] at this)
              have HR3 := Lib.hid R3
              have HB3 := Lib.hid (hbr.trans (B3.mono hbr.size))
              clear hown3 hgrow3 R3
              go_wp2
              go_roundw
              case rel => exact ⟨k + 1, _, by omega, by go_num, HR3.out, HPN.out, HB3.out⟩
              case measure => simp [intOf]; omega
            · skip
              have hl1 : (ps.map (Value.int .u64)).length = ps.length * 1 := by simp
              go_wp2_with (at_builtin; refine wpList_append_own _ rfl _ _ 43 rfl wr.heap.size 22 i0 (.int .u64 0) 1 8 Try.underlying43 hi hz0 hz1 hz2 rfl (by decide) (.slice none 0 0) 0 [] rfl (World.ownsRow_nil _ _ _ _) ⟨gs, 0, none⟩ ps.length cap (ps.map (Value.int .u64)) rfl hl1 (row_cells HLS.out) (ints_one _ _) (by unfold maxLen; omega) (by omega) (Nat.le_refl _) ?_)
              intro v1 w1 hown1 hgrow1 _
              have B1 : Below wr.heap.size wr w1 := (Below.refl _ _).grown hgrow1 (Nat.le_refl _) (fun j hj => by cases hj)
              have hs1 := B1.size
              obtain ⟨A1, m1, C1, rfl⟩ := own_slice hown1
              have HO1 := Lib.hid hown1
              clear hgrow1 hown1
              go_wp2_with (at_builtin; refine wpList_append_own _ rfl _ _ 43 rfl wr.heap.size 22 i0 (.int .u64 0) 1 8 Try.underlying43 hi hz0 hz1 hz2 rfl (by decide) (.slice A1 m1 C1) ps.length _ rfl (HO1.out.alloc _) ⟨w1.heap.size, 0, none⟩ 1 1 [.int .u64 p] rfl rfl (one_cell _ _ _) (by simp [Value.oneCell']) (by unfold maxLen; omega) (by omega) (by rw [World.size_alloc]; omega) ?_)
              intro v2 w2 hown2 hgrow2 _
              have B2 : Below wr.heap.size wr w2 := (B1.alloc hs1 _).grown hgrow2 (by rw [World.size_alloc]; omega) (fun j hj => (HO1.out.lt j hj).1)
              have HO2 := Lib.hid hown2
              obtain ⟨A2, m2, C2, rfl⟩ := own_slice hown2
              have hs2 := B2.size
              have HL2 := Lib.hid (HLS.out.keeps (Only.of_below (fun _ => False) B2) id)
              clear hown2 hgrow2
              go_wp2_with (at_builtin; refine wpList_append_own _ rfl _ _ 43 rfl wr.heap.size 22 i0 (.int .u64 0) 1 8 Try.underlying43 hi hz0 hz1 hz2 rfl (by decide) (.slice A2 m2 C2) (ps.length + 1) _ rfl HO2.out ⟨gs, ps.length, none⟩ 0 (cap - ps.length) [] rfl rfl (fun j u hj => by simp at hj) (fun u hu => by simp at hu) (by unfold maxLen; omega) (by omega) (by omega) ?_)
              intro v3 w3 hown3 hgrow3 _
              have B3 : Below wr.heap.size wr w3 := B2.grown hgrow3 (by omega) (fun j hj => (HO2.out.lt j hj).1)
              have R3 : w3.ownsRow w.heap.size 22 1 v3 (ps ++ [p]).length ((ps ++ [p]).map (Value.int .u64)) := by
                have h0 := own_mono hown3 hbr.size
                have e1 : (ps ++ [p]).length = ps.length + 1 := by simp
                rw [e1]
                simpa using h0
              have HPN : Hid (PagesTo l (k + 1) (ps ++ [p])) := Lib.hid (by have := pages_more HPG.out HP.out HIP.out hkk HNO.out (fun hj => absurd hj (by omega)); rwa [List.take_length, List.drop_length, List.append_nil] at this)
              have HR3 := Lib.hid R3
              have HB3 := Lib.hid (hbr.trans (B3.mono hbr.size))
              clear hown3 hgrow3 R3
              go_wp2
              go_roundw
              case rel => exact ⟨k + 1, _, by omega, by go_num, HR3.out, HPN.out, HB3.out⟩
              case measure => simp [intOf]; omega

    · obtain rfl : k = l.length := by omega
      obtain ⟨A, n', C, rfl⟩ := own_slice hown
      have HO := Lib.hid hown
      have HPG := Lib.hid hpg
      clear hown hpg
      go_wp2
      go_ret
      exact ⟨hbr, _, _, _, ps, rfl, HO.out, HPG.out.1, pages_all HFI.out HLO.out HPG.out⟩

end Go.Proofs.Ytoghdkhlliehoaa
