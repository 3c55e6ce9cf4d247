/- Layer 11: the document's Check, by its ways (written by gen_cnj.py). -/
import Derived.Test.YtcnalabhcalfnaaCnH
namespace Go.Proofs.Ytcnalabhcalfnaa
open Go.RowKit
set_option linter.unusedVariables false
set_option maxRecDepth 100000

set_option maxHeartbeats 4000000 in
theorem ref_hi (t : HS) (ok : HOk t) (no : Int) (h0 : 0 ≤ no) (h4 : no < 4096) (p : Int) (v : Bool) (hp : t.n 33 = p) (hv : t.v = v) (hk : knownN no = true) (hh : 3072 ≤ no) (w : World) :
    Calls Try.prog 18 #[hartV t, .int .i64 no, .bool true] w fun e w' => e = .returned (.int .i64 2) ∧ Below w.heap.size w w' := by
  have HN := Lib.hid fun w => refName_any no w
  have hne : ¬ nameN no = ⟨#[]⟩ := (knownN_iff no).1 hk
  have hq3 : (nameN no).toList.isEmpty = false := by
    cases e : (nameN no).toList with
    | nil => exact absurd (data_inj (by rw [← ByteArray.toList_eq, e])) hne
    | cons _ _ => rfl
  have hq1 : ¬ (nameN no).toList = [] := by intro e; rw [e] at hq3; cases hq3
  have hq2 : (!(nameN no).toList.isEmpty) = true := by rw [hq3]; rfl
  clear hne hk
  generalize nameN no = nm at *
  have c33 := hRow_p t
  have c34 := hRow_v t
  rw [hp] at c33
  rw [hv] at c34

  go_enter Try.func18, Try.ntmps18
  go_wp2_with ((with_reducible refine (HN.out _).mono ?_); rintro e1 w1 ⟨rfl, rfl⟩)
  go_ret
  exact ⟨rfl, (Below.refl _ _).alloc (Nat.le_refl _) _⟩

set_option maxHeartbeats 4000000 in
theorem ref_c0u (t : HS) (ok : HOk t) (p : Int) (v : Bool) (hp : t.n 33 = p) (hv : t.v = v) (hk : knownN 3072 = true) (n0 : (p != 0) = false) (e0 : (p == 0) = true) (m h s : Bool) (hm : bitZ (t.n 44) 0 = m) (hh : bitZ (t.n 62) 0 = h) (hs : bitZ (t.n 52) 0 = s) (w : World) :
    Calls Try.prog 18 #[hartV t, .int .i64 3072, .bool false] w fun e w' => e = .returned (.int .i64 (ctrB true v m h s)) ∧ Below w.heap.size w w' := by
  have HN := Lib.hid fun w => refName_any 3072 w
  have hne : ¬ nameN 3072 = ⟨#[]⟩ := (knownN_iff 3072).1 hk
  have hq3 : (nameN 3072).toList.isEmpty = false := by
    cases e : (nameN 3072).toList with
    | nil => exact absurd (data_inj (by rw [← ByteArray.toList_eq, e])) hne
    | cons _ _ => rfl
  have hq1 : ¬ (nameN 3072).toList = [] := by intro e; rw [e] at hq3; cases hq3
  have hq2 : (!(nameN 3072).toList.isEmpty) = true := by rw [hq3]; rfl
  clear hne hk
  generalize nameN 3072 = nm at *
  have c33 := hRow_p t
  have c34 := hRow_v t
  rw [hp] at c33
  rw [hv] at c34
  have c44 := hRow_u t 44 (by omega) (by omega)
  have c62 := hRow_u t 62 (by omega) (by omega)
  have c52 := hRow_u t 52 (by omega) (by omega)
  have b44 : (bits .and .u64 (t.n 44) 1 == 0) = !m := by rw [← hm]; exact and_bit 0 (by omega)
  have b62 : (bits .and .u64 (t.n 62) 1 == 0) = !h := by rw [← hh]; exact and_bit 0 (by omega)
  have b52 : (bits .and .u64 (t.n 52) 1 == 0) = !s := by rw [← hs]; exact and_bit 0 (by omega)
  clear hm hh hs hp hv ok
  generalize t.n 44 = x44 at *
  generalize t.n 62 = x62 at *
  generalize t.n 52 = x52 at *

  cases v <;> cases m <;> cases h <;> cases s
  all_goals
    go_enter Try.func18, Try.ntmps18
    go_wp2_with ((with_reducible refine (HN.out _).mono ?_); rintro e1 w1 ⟨rfl, rfl⟩)
    go_ret
    exact ⟨rfl, (Below.refl _ _).alloc (Nat.le_refl _) _⟩

set_option maxHeartbeats 4000000 in
theorem ref_c0s (t : HS) (ok : HOk t) (p : Int) (v : Bool) (hp : t.n 33 = p) (hv : t.v = v) (hk : knownN 3072 = true) (n0 : (p != 0) = true) (n1 : (p != 1) = false) (e0 : (p == 0) = false) (m h s : Bool) (hm : bitZ (t.n 44) 0 = m) (hh : bitZ (t.n 62) 0 = h) (hs : bitZ (t.n 52) 0 = s) (w : World) :
    Calls Try.prog 18 #[hartV t, .int .i64 3072, .bool false] w fun e w' => e = .returned (.int .i64 (ctrB false v m h s)) ∧ Below w.heap.size w w' := by
  have HN := Lib.hid fun w => refName_any 3072 w
  have hne : ¬ nameN 3072 = ⟨#[]⟩ := (knownN_iff 3072).1 hk
  have hq3 : (nameN 3072).toList.isEmpty = false := by
    cases e : (nameN 3072).toList with
    | nil => exact absurd (data_inj (by rw [← ByteArray.toList_eq, e])) hne
    | cons _ _ => rfl
  have hq1 : ¬ (nameN 3072).toList = [] := by intro e; rw [e] at hq3; cases hq3
  have hq2 : (!(nameN 3072).toList.isEmpty) = true := by rw [hq3]; rfl
  clear hne hk
  generalize nameN 3072 = nm at *
  have c33 := hRow_p t
  have c34 := hRow_v t
  rw [hp] at c33
  rw [hv] at c34
  have c44 := hRow_u t 44 (by omega) (by omega)
  have c62 := hRow_u t 62 (by omega) (by omega)
  have c52 := hRow_u t 52 (by omega) (by omega)
  have b44 : (bits .and .u64 (t.n 44) 1 == 0) = !m := by rw [← hm]; exact and_bit 0 (by omega)
  have b62 : (bits .and .u64 (t.n 62) 1 == 0) = !h := by rw [← hh]; exact and_bit 0 (by omega)
  have b52 : (bits .and .u64 (t.n 52) 1 == 0) = !s := by rw [← hs]; exact and_bit 0 (by omega)
  clear hm hh hs hp hv ok
  generalize t.n 44 = x44 at *
  generalize t.n 62 = x62 at *
  generalize t.n 52 = x52 at *

  cases v <;> cases m <;> cases h <;> cases s
  all_goals
    go_enter Try.func18, Try.ntmps18
    go_wp2_with ((with_reducible refine (HN.out _).mono ?_); rintro e1 w1 ⟨rfl, rfl⟩)
    go_ret
    exact ⟨rfl, (Below.refl _ _).alloc (Nat.le_refl _) _⟩

set_option maxHeartbeats 4000000 in
theorem ref_c1u (t : HS) (ok : HOk t) (p : Int) (v : Bool) (hp : t.n 33 = p) (hv : t.v = v) (hk : knownN 3073 = true) (n0 : (p != 0) = false) (e0 : (p == 0) = true) (m h s : Bool) (hm : bitZ (t.n 44) 1 = m) (hh : bitZ (t.n 62) 1 = h) (hs : bitZ (t.n 52) 1 = s) (w : World) :
    Calls Try.prog 18 #[hartV t, .int .i64 3073, .bool false] w fun e w' => e = .returned (.int .i64 (ctrB true v m h s)) ∧ Below w.heap.size w w' := by
  have HN := Lib.hid fun w => refName_any 3073 w
  have hne : ¬ nameN 3073 = ⟨#[]⟩ := (knownN_iff 3073).1 hk
  have hq3 : (nameN 3073).toList.isEmpty = false := by
    cases e : (nameN 3073).toList with
    | nil => exact absurd (data_inj (by rw [← ByteArray.toList_eq, e])) hne
    | cons _ _ => rfl
  have hq1 : ¬ (nameN 3073).toList = [] := by intro e; rw [e] at hq3; cases hq3
  have hq2 : (!(nameN 3073).toList.isEmpty) = true := by rw [hq3]; rfl
  clear hne hk
  generalize nameN 3073 = nm at *
  have c33 := hRow_p t
  have c34 := hRow_v t
  rw [hp] at c33
  rw [hv] at c34
  have c44 := hRow_u t 44 (by omega) (by omega)
  have c62 := hRow_u t 62 (by omega) (by omega)
  have c52 := hRow_u t 52 (by omega) (by omega)
  have b44 : (bits .and .u64 (t.n 44) 2 == 0) = !m := by rw [← hm]; exact and_bit 1 (by omega)
  have b62 : (bits .and .u64 (t.n 62) 2 == 0) = !h := by rw [← hh]; exact and_bit 1 (by omega)
  have b52 : (bits .and .u64 (t.n 52) 2 == 0) = !s := by rw [← hs]; exact and_bit 1 (by omega)
  clear hm hh hs hp hv ok
  generalize t.n 44 = x44 at *
  generalize t.n 62 = x62 at *
  generalize t.n 52 = x52 at *

  cases v <;> cases m <;> cases h <;> cases s
  all_goals
    go_enter Try.func18, Try.ntmps18
    go_wp2_with ((with_reducible refine (HN.out _).mono ?_); rintro e1 w1 ⟨rfl, rfl⟩)
    go_ret
    exact ⟨rfl, (Below.refl _ _).alloc (Nat.le_refl _) _⟩

set_option maxHeartbeats 4000000 in
theorem ref_c1s (t : HS) (ok : HOk t) (p : Int) (v : Bool) (hp : t.n 33 = p) (hv : t.v = v) (hk : knownN 3073 = true) (n0 : (p != 0) = true) (n1 : (p != 1) = false) (e0 : (p == 0) = false) (m h s : Bool) (hm : bitZ (t.n 44) 1 = m) (hh : bitZ (t.n 62) 1 = h) (hs : bitZ (t.n 52) 1 = s) (w : World) :
    Calls Try.prog 18 #[hartV t, .int .i64 3073, .bool false] w fun e w' => e = .returned (.int .i64 (ctrB false v m h s)) ∧ Below w.heap.size w w' := by
  have HN := Lib.hid fun w => refName_any 3073 w
  have hne : ¬ nameN 3073 = ⟨#[]⟩ := (knownN_iff 3073).1 hk
  have hq3 : (nameN 3073).toList.isEmpty = false := by
    cases e : (nameN 3073).toList with
    | nil => exact absurd (data_inj (by rw [← ByteArray.toList_eq, e])) hne
    | cons _ _ => rfl
  have hq1 : ¬ (nameN 3073).toList = [] := by intro e; rw [e] at hq3; cases hq3
  have hq2 : (!(nameN 3073).toList.isEmpty) = true := by rw [hq3]; rfl
  clear hne hk
  generalize nameN 3073 = nm at *
  have c33 := hRow_p t
  have c34 := hRow_v t
  rw [hp] at c33
  rw [hv] at c34
  have c44 := hRow_u t 44 (by omega) (by omega)
  have c62 := hRow_u t 62 (by omega) (by omega)
  have c52 := hRow_u t 52 (by omega) (by omega)
  have b44 : (bits .and .u64 (t.n 44) 2 == 0) = !m := by rw [← hm]; exact and_bit 1 (by omega)
  have b62 : (bits .and .u64 (t.n 62) 2 == 0) = !h := by rw [← hh]; exact and_bit 1 (by omega)
  have b52 : (bits .and .u64 (t.n 52) 2 == 0) = !s := by rw [← hs]; exact and_bit 1 (by omega)
  clear hm hh hs hp hv ok
  generalize t.n 44 = x44 at *
  generalize t.n 62 = x62 at *
  generalize t.n 52 = x52 at *

  cases v <;> cases m <;> cases h <;> cases s
  all_goals
    go_enter Try.func18, Try.ntmps18
    go_wp2_with ((with_reducible refine (HN.out _).mono ?_); rintro e1 w1 ⟨rfl, rfl⟩)
    go_ret
    exact ⟨rfl, (Below.refl _ _).alloc (Nat.le_refl _) _⟩

set_option maxHeartbeats 4000000 in
theorem ref_c2u (t : HS) (ok : HOk t) (p : Int) (v : Bool) (hp : t.n 33 = p) (hv : t.v = v) (hk : knownN 3074 = true) (n0 : (p != 0) = false) (e0 : (p == 0) = true) (m h s : Bool) (hm : bitZ (t.n 44) 2 = m) (hh : bitZ (t.n 62) 2 = h) (hs : bitZ (t.n 52) 2 = s) (w : World) :
    Calls Try.prog 18 #[hartV t, .int .i64 3074, .bool false] w fun e w' => e = .returned (.int .i64 (ctrB true v m h s)) ∧ Below w.heap.size w w' := by
  have HN := Lib.hid fun w => refName_any 3074 w
  have hne : ¬ nameN 3074 = ⟨#[]⟩ := (knownN_iff 3074).1 hk
  have hq3 : (nameN 3074).toList.isEmpty = false := by
    cases e : (nameN 3074).toList with
    | nil => exact absurd (data_inj (by rw [← ByteArray.toList_eq, e])) hne
    | cons _ _ => rfl
  have hq1 : ¬ (nameN 3074).toList = [] := by intro e; rw [e] at hq3; cases hq3
  have hq2 : (!(nameN 3074).toList.isEmpty) = true := by rw [hq3]; rfl
  clear hne hk
  generalize nameN 3074 = nm at *
  have c33 := hRow_p t
  have c34 := hRow_v t
  rw [hp] at c33
  rw [hv] at c34
  have c44 := hRow_u t 44 (by omega) (by omega)
  have c62 := hRow_u t 62 (by omega) (by omega)
  have c52 := hRow_u t 52 (by omega) (by omega)
  have b44 : (bits .and .u64 (t.n 44) 4 == 0) = !m := by rw [← hm]; exact and_bit 2 (by omega)
  have b62 : (bits .and .u64 (t.n 62) 4 == 0) = !h := by rw [← hh]; exact and_bit 2 (by omega)
  have b52 : (bits .and .u64 (t.n 52) 4 == 0) = !s := by rw [← hs]; exact and_bit 2 (by omega)
  clear hm hh hs hp hv ok
  generalize t.n 44 = x44 at *
  generalize t.n 62 = x62 at *
  generalize t.n 52 = x52 at *

  cases v <;> cases m <;> cases h <;> cases s
  all_goals
    go_enter Try.func18, Try.ntmps18
    go_wp2_with ((with_reducible refine (HN.out _).mono ?_); rintro e1 w1 ⟨rfl, rfl⟩)
    go_ret
    exact ⟨rfl, (Below.refl _ _).alloc (Nat.le_refl _) _⟩

set_option maxHeartbeats 4000000 in
theorem ref_c2s (t : HS) (ok : HOk t) (p : Int) (v : Bool) (hp : t.n 33 = p) (hv : t.v = v) (hk : knownN 3074 = true) (n0 : (p != 0) = true) (n1 : (p != 1) = false) (e0 : (p == 0) = false) (m h s : Bool) (hm : bitZ (t.n 44) 2 = m) (hh : bitZ (t.n 62) 2 = h) (hs : bitZ (t.n 52) 2 = s) (w : World) :
    Calls Try.prog 18 #[hartV t, .int .i64 3074, .bool false] w fun e w' => e = .returned (.int .i64 (ctrB false v m h s)) ∧ Below w.heap.size w w' := by
  have HN := Lib.hid fun w => refName_any 3074 w
  have hne : ¬ nameN 3074 = ⟨#[]⟩ := (knownN_iff 3074).1 hk
  have hq3 : (nameN 3074).toList.isEmpty = false := by
    cases e : (nameN 3074).toList with
    | nil => exact absurd (data_inj (by rw [← ByteArray.toList_eq, e])) hne
    | cons _ _ => rfl
  have hq1 : ¬ (nameN 3074).toList = [] := by intro e; rw [e] at hq3; cases hq3
  have hq2 : (!(nameN 3074).toList.isEmpty) = true := by rw [hq3]; rfl
  clear hne hk
  generalize nameN 3074 = nm at *
  have c33 := hRow_p t
  have c34 := hRow_v t
  rw [hp] at c33
  rw [hv] at c34
  have c44 := hRow_u t 44 (by omega) (by omega)
  have c62 := hRow_u t 62 (by omega) (by omega)
  have c52 := hRow_u t 52 (by omega) (by omega)
  have b44 : (bits .and .u64 (t.n 44) 4 == 0) = !m := by rw [← hm]; exact and_bit 2 (by omega)
  have b62 : (bits .and .u64 (t.n 62) 4 == 0) = !h := by rw [← hh]; exact and_bit 2 (by omega)
  have b52 : (bits .and .u64 (t.n 52) 4 == 0) = !s := by rw [← hs]; exact and_bit 2 (by omega)
  clear hm hh hs hp hv ok
  generalize t.n 44 = x44 at *
  generalize t.n 62 = x62 at *
  generalize t.n 52 = x52 at *

  cases v <;> cases m <;> cases h <;> cases s
  all_goals
    go_enter Try.func18, Try.ntmps18
    go_wp2_with ((with_reducible refine (HN.out _).mono ?_); rintro e1 w1 ⟨rfl, rfl⟩)
    go_ret
    exact ⟨rfl, (Below.refl _ _).alloc (Nat.le_refl _) _⟩

set_option maxHeartbeats 4000000 in
theorem ref_mr (t : HS) (ok : HOk t) (no : Int) (h0 : 0 ≤ no) (h4 : no < 4096) (p : Int) (v : Bool) (hp : t.n 33 = p) (hv : t.v = v) (hk : knownN no = true) (n0 : (p != 0) = true) (n1 : (p != 1) = true) (w : World) :
    Calls Try.prog 18 #[hartV t, .int .i64 no, .bool false] w fun e w' => e = .returned (.int .i64 0) ∧ Below w.heap.size w w' := by
  have HN := Lib.hid fun w => refName_any no w
  have hne : ¬ nameN no = ⟨#[]⟩ := (knownN_iff no).1 hk
  have hq3 : (nameN no).toList.isEmpty = false := by
    cases e : (nameN no).toList with
    | nil => exact absurd (data_inj (by rw [← ByteArray.toList_eq, e])) hne
    | cons _ _ => rfl
  have hq1 : ¬ (nameN no).toList = [] := by intro e; rw [e] at hq3; cases hq3
  have hq2 : (!(nameN no).toList.isEmpty) = true := by rw [hq3]; rfl
  clear hne hk
  generalize nameN no = nm at *
  have c33 := hRow_p t
  have c34 := hRow_v t
  rw [hp] at c33
  rw [hv] at c34
  clear hp hv ok
  go_enter Try.func18, Try.ntmps18
  go_wp2_with ((with_reducible refine (HN.out _).mono ?_); rintro e1 w1 ⟨rfl, rfl⟩)
  go_ret
  exact ⟨rfl, (Below.refl _ _).alloc (Nat.le_refl _) _⟩

set_option maxHeartbeats 4000000 in
theorem ref_lru (t : HS) (ok : HOk t) (no : Int) (h0 : 0 ≤ no) (h4 : no < 4096) (p : Int) (v : Bool) (hp : t.n 33 = p) (hv : t.v = v) (hk : knownN no = true) (n0 : (p != 0) = false) (e0 : (p == 0) = true) (ct0 : (no == 3072) = false) (ct1 : (no == 3073) = false) (ct2 : (no == 3074) = false) (l3 l0 : Bool) (hl3 : (no / 256 % 4 == 3) = l3) (hl0 : (no / 256 % 4 == 0) = l0) (hl : (l3 || l0) = true) (w : World) :
    Calls Try.prog 18 #[hartV t, .int .i64 no, .bool false] w fun e w' => e = .returned (.int .i64 2) ∧ Below w.heap.size w w' := by
  have HN := Lib.hid fun w => refName_any no w
  have hne : ¬ nameN no = ⟨#[]⟩ := (knownN_iff no).1 hk
  have hq3 : (nameN no).toList.isEmpty = false := by
    cases e : (nameN no).toList with
    | nil => exact absurd (data_inj (by rw [← ByteArray.toList_eq, e])) hne
    | cons _ _ => rfl
  have hq1 : ¬ (nameN no).toList = [] := by intro e; rw [e] at hq3; cases hq3
  have hq2 : (!(nameN no).toList.isEmpty) = true := by rw [hq3]; rfl
  clear hne hk
  generalize nameN no = nm at *
  have c33 := hRow_p t
  have c34 := hRow_v t
  rw [hp] at c33
  rw [hv] at c34
  clear hp hv ok
  cases l3 <;> cases l0 <;> first | (exfalso; exact absurd hl (by decide)) | (clear hl)
  all_goals
    go_enter Try.func18, Try.ntmps18
    go_wp2_with ((with_reducible refine (HN.out _).mono ?_); rintro e1 w1 ⟨rfl, rfl⟩)
    go_ret
    exact ⟨rfl, (Below.refl _ _).alloc (Nat.le_refl _) _⟩

set_option maxHeartbeats 4000000 in
theorem ref_gru (t : HS) (ok : HOk t) (no : Int) (h0 : 0 ≤ no) (h4 : no < 4096) (p : Int) (v : Bool) (hp : t.n 33 = p) (hv : t.v = v) (hk : knownN no = true) (n0 : (p != 0) = false) (e0 : (p == 0) = true) (ct0 : (no == 3072) = false) (ct1 : (no == 3073) = false) (ct2 : (no == 3074) = false) (hvv : v = true) (l2 sa vt : Bool) (hl3 : (no / 256 % 4 == 3) = false) (hl0 : (no / 256 % 4 == 0) = false) (hl2 : (no / 256 % 4 == 2) = l2) (hs : (no == 384) = sa) (hvt : bitZ (t.n 58) 20 = vt) (w : World) :
    Calls Try.prog 18 #[hartV t, .int .i64 no, .bool false] w fun e w' => e = .returned (.int .i64 (gstB true l2 sa vt)) ∧ Below w.heap.size w w' := by
  have HN := Lib.hid fun w => refName_any no w
  have hne : ¬ nameN no = ⟨#[]⟩ := (knownN_iff no).1 hk
  have hq3 : (nameN no).toList.isEmpty = false := by
    cases e : (nameN no).toList with
    | nil => exact absurd (data_inj (by rw [← ByteArray.toList_eq, e])) hne
    | cons _ _ => rfl
  have hq1 : ¬ (nameN no).toList = [] := by intro e; rw [e] at hq3; cases hq3
  have hq2 : (!(nameN no).toList.isEmpty) = true := by rw [hq3]; rfl
  clear hne hk
  generalize nameN no = nm at *
  have c33 := hRow_p t
  have c34 := hRow_v t
  rw [hp] at c33
  rw [hv] at c34
  subst hvv
  have c58 := hRow_u t 58 (by omega) (by omega)
  have b58 : (bits .and .u64 (t.n 58 / 1048576) 1 == 1) = vt := by rw [← hvt]; exact has_bit (ok.n _) 20
  clear hp hv ok hvt
  generalize t.n 58 = x58 at *

  cases l2 <;> cases sa <;> cases vt
  all_goals
    go_enter Try.func18, Try.ntmps18
    go_wp2_with ((with_reducible refine (HN.out _).mono ?_); rintro e1 w1 ⟨rfl, rfl⟩)
    go_ret
    exact ⟨rfl, (Below.refl _ _).alloc (Nat.le_refl _) _⟩

set_option maxHeartbeats 4000000 in
theorem ref_hru (t : HS) (ok : HOk t) (no : Int) (h0 : 0 ≤ no) (h4 : no < 4096) (p : Int) (v : Bool) (hp : t.n 33 = p) (hv : t.v = v) (hk : knownN no = true) (n0 : (p != 0) = false) (e0 : (p == 0) = true) (ct0 : (no == 3072) = false) (ct1 : (no == 3073) = false) (ct2 : (no == 3074) = false) (hvv : v = false) (sa hg tv : Bool) (hl3 : (no / 256 % 4 == 3) = false) (hl0 : (no / 256 % 4 == 0) = false) (hs : (no == 384) = sa) (hhg : (no == 1664) = hg) (htv : bitZ (t.n 38) 20 = tv) (w : World) :
    Calls Try.prog 18 #[hartV t, .int .i64 no, .bool false] w fun e w' => e = .returned (.int .i64 (hstB true sa hg tv)) ∧ Below w.heap.size w w' := by
  have HN := Lib.hid fun w => refName_any no w
  have hne : ¬ nameN no = ⟨#[]⟩ := (knownN_iff no).1 hk
  have hq3 : (nameN no).toList.isEmpty = false := by
    cases e : (nameN no).toList with
    | nil => exact absurd (data_inj (by rw [← ByteArray.toList_eq, e])) hne
    | cons _ _ => rfl
  have hq1 : ¬ (nameN no).toList = [] := by intro e; rw [e] at hq3; cases hq3
  have hq2 : (!(nameN no).toList.isEmpty) = true := by rw [hq3]; rfl
  clear hne hk
  generalize nameN no = nm at *
  have c33 := hRow_p t
  have c34 := hRow_v t
  rw [hp] at c33
  rw [hv] at c34
  subst hvv
  have c38 := hRow_u t 38 (by omega) (by omega)
  have b38 : (bits .and .u64 (t.n 38 / 1048576) 1 == 1) = tv := by rw [← htv]; exact has_bit (ok.n _) 20
  clear hp hv ok htv
  generalize t.n 38 = x38 at *

  cases sa <;> cases hg <;> cases tv
  all_goals
    go_enter Try.func18, Try.ntmps18
    go_wp2_with ((with_reducible refine (HN.out _).mono ?_); rintro e1 w1 ⟨rfl, rfl⟩)
    go_ret
    exact ⟨rfl, (Below.refl _ _).alloc (Nat.le_refl _) _⟩

set_option maxHeartbeats 4000000 in
theorem ref_lrs (t : HS) (ok : HOk t) (no : Int) (h0 : 0 ≤ no) (h4 : no < 4096) (p : Int) (v : Bool) (hp : t.n 33 = p) (hv : t.v = v) (hk : knownN no = true) (n0 : (p != 0) = true) (n1 : (p != 1) = false) (e0 : (p == 0) = false) (ct0 : (no == 3072) = false) (ct1 : (no == 3073) = false) (ct2 : (no == 3074) = false) (l3 l0 : Bool) (hl3 : (no / 256 % 4 == 3) = l3) (hl0 : (no / 256 % 4 == 0) = l0) (hl : (l3 || l0) = true) (w : World) :
    Calls Try.prog 18 #[hartV t, .int .i64 no, .bool false] w fun e w' => e = .returned (.int .i64 2) ∧ Below w.heap.size w w' := by
  have HN := Lib.hid fun w => refName_any no w
  have hne : ¬ nameN no = ⟨#[]⟩ := (knownN_iff no).1 hk
  have hq3 : (nameN no).toList.isEmpty = false := by
    cases e : (nameN no).toList with
    | nil => exact absurd (data_inj (by rw [← ByteArray.toList_eq, e])) hne
    | cons _ _ => rfl
  have hq1 : ¬ (nameN no).toList = [] := by intro e; rw [e] at hq3; cases hq3
  have hq2 : (!(nameN no).toList.isEmpty) = true := by rw [hq3]; rfl
  clear hne hk
  generalize nameN no = nm at *
  have c33 := hRow_p t
  have c34 := hRow_v t
  rw [hp] at c33
  rw [hv] at c34
  clear hp hv ok
  cases l3 <;> cases l0 <;> first | (exfalso; exact absurd hl (by decide)) | (clear hl)
  all_goals
    go_enter Try.func18, Try.ntmps18
    go_wp2_with ((with_reducible refine (HN.out _).mono ?_); rintro e1 w1 ⟨rfl, rfl⟩)
    go_ret
    exact ⟨rfl, (Below.refl _ _).alloc (Nat.le_refl _) _⟩

set_option maxHeartbeats 4000000 in
theorem ref_grs (t : HS) (ok : HOk t) (no : Int) (h0 : 0 ≤ no) (h4 : no < 4096) (p : Int) (v : Bool) (hp : t.n 33 = p) (hv : t.v = v) (hk : knownN no = true) (n0 : (p != 0) = true) (n1 : (p != 1) = false) (e0 : (p == 0) = false) (ct0 : (no == 3072) = false) (ct1 : (no == 3073) = false) (ct2 : (no == 3074) = false) (hvv : v = true) (l2 sa vt : Bool) (hl3 : (no / 256 % 4 == 3) = false) (hl0 : (no / 256 % 4 == 0) = false) (hl2 : (no / 256 % 4 == 2) = l2) (hs : (no == 384) = sa) (hvt : bitZ (t.n 58) 20 = vt) (w : World) :
    Calls Try.prog 18 #[hartV t, .int .i64 no, .bool false] w fun e w' => e = .returned (.int .i64 (gstB false l2 sa vt)) ∧ Below w.heap.size w w' := by
  have HN := Lib.hid fun w => refName_any no w
  have hne : ¬ nameN no = ⟨#[]⟩ := (knownN_iff no).1 hk
  have hq3 : (nameN no).toList.isEmpty = false := by
    cases e : (nameN no).toList with
    | nil => exact absurd (data_inj (by rw [← ByteArray.toList_eq, e])) hne
    | cons _ _ => rfl
  have hq1 : ¬ (nameN no).toList = [] := by intro e; rw [e] at hq3; cases hq3
  have hq2 : (!(nameN no).toList.isEmpty) = true := by rw [hq3]; rfl
  clear hne hk
  generalize nameN no = nm at *
  have c33 := hRow_p t
  have c34 := hRow_v t
  rw [hp] at c33
  rw [hv] at c34
  subst hvv
  have c58 := hRow_u t 58 (by omega) (by omega)
  have b58 : (bits .and .u64 (t.n 58 / 1048576) 1 == 1) = vt := by rw [← hvt]; exact has_bit (ok.n _) 20
  clear hp hv ok hvt
  generalize t.n 58 = x58 at *

  cases l2 <;> cases sa <;> cases vt
  all_goals
    go_enter Try.func18, Try.ntmps18
    go_wp2_with ((with_reducible refine (HN.out _).mono ?_); rintro e1 w1 ⟨rfl, rfl⟩)
    go_ret
    exact ⟨rfl, (Below.refl _ _).alloc (Nat.le_refl _) _⟩

set_option maxHeartbeats 4000000 in
theorem ref_hrs (t : HS) (ok : HOk t) (no : Int) (h0 : 0 ≤ no) (h4 : no < 4096) (p : Int) (v : Bool) (hp : t.n 33 = p) (hv : t.v = v) (hk : knownN no = true) (n0 : (p != 0) = true) (n1 : (p != 1) = false) (e0 : (p == 0) = false) (ct0 : (no == 3072) = false) (ct1 : (no == 3073) = false) (ct2 : (no == 3074) = false) (hvv : v = false) (sa hg tv : Bool) (hl3 : (no / 256 % 4 == 3) = false) (hl0 : (no / 256 % 4 == 0) = false) (hs : (no == 384) = sa) (hhg : (no == 1664) = hg) (htv : bitZ (t.n 38) 20 = tv) (w : World) :
    Calls Try.prog 18 #[hartV t, .int .i64 no, .bool false] w fun e w' => e = .returned (.int .i64 (hstB false sa hg tv)) ∧ Below w.heap.size w w' := by
  have HN := Lib.hid fun w => refName_any no w
  have hne : ¬ nameN no = ⟨#[]⟩ := (knownN_iff no).1 hk
  have hq3 : (nameN no).toList.isEmpty = false := by
    cases e : (nameN no).toList with
    | nil => exact absurd (data_inj (by rw [← ByteArray.toList_eq, e])) hne
    | cons _ _ => rfl
  have hq1 : ¬ (nameN no).toList = [] := by intro e; rw [e] at hq3; cases hq3
  have hq2 : (!(nameN no).toList.isEmpty) = true := by rw [hq3]; rfl
  clear hne hk
  generalize nameN no = nm at *
  have c33 := hRow_p t
  have c34 := hRow_v t
  rw [hp] at c33
  rw [hv] at c34
  subst hvv
  have c38 := hRow_u t 38 (by omega) (by omega)
  have b38 : (bits .and .u64 (t.n 38 / 1048576) 1 == 1) = tv := by rw [← htv]; exact has_bit (ok.n _) 20
  clear hp hv ok htv
  generalize t.n 38 = x38 at *

  cases sa <;> cases hg <;> cases tv
  all_goals
    go_enter Try.func18, Try.ntmps18
    go_wp2_with ((with_reducible refine (HN.out _).mono ?_); rintro e1 w1 ⟨rfl, rfl⟩)
    go_ret
    exact ⟨rfl, (Below.refl _ _).alloc (Nat.le_refl _) _⟩

set_option maxHeartbeats 4000000 in
theorem ref_mw (t : HS) (ok : HOk t) (no : Int) (h0 : 0 ≤ no) (h4 : no < 4096) (p : Int) (v : Bool) (hp : t.n 33 = p) (hv : t.v = v) (hk : knownN no = true) (hh : no < 3072) (n0 : (p != 0) = true) (n1 : (p != 1) = true) (w : World) :
    Calls Try.prog 18 #[hartV t, .int .i64 no, .bool true] w fun e w' => e = .returned (.int .i64 0) ∧ Below w.heap.size w w' := by
  have HN := Lib.hid fun w => refName_any no w
  have hne : ¬ nameN no = ⟨#[]⟩ := (knownN_iff no).1 hk
  have hq3 : (nameN no).toList.isEmpty = false := by
    cases e : (nameN no).toList with
    | nil => exact absurd (data_inj (by rw [← ByteArray.toList_eq, e])) hne
    | cons _ _ => rfl
  have hq1 : ¬ (nameN no).toList = [] := by intro e; rw [e] at hq3; cases hq3
  have hq2 : (!(nameN no).toList.isEmpty) = true := by rw [hq3]; rfl
  clear hne hk
  generalize nameN no = nm at *
  have c33 := hRow_p t
  have c34 := hRow_v t
  rw [hp] at c33
  rw [hv] at c34
  clear hp hv ok
  go_enter Try.func18, Try.ntmps18
  go_wp2_with ((with_reducible refine (HN.out _).mono ?_); rintro e1 w1 ⟨rfl, rfl⟩)
  go_ret
  exact ⟨rfl, (Below.refl _ _).alloc (Nat.le_refl _) _⟩

set_option maxHeartbeats 4000000 in
theorem ref_lwu (t : HS) (ok : HOk t) (no : Int) (h0 : 0 ≤ no) (h4 : no < 4096) (p : Int) (v : Bool) (hp : t.n 33 = p) (hv : t.v = v) (hk : knownN no = true) (hh : no < 3072) (n0 : (p != 0) = false) (e0 : (p == 0) = true) (ct0 : (no == 3072) = false) (ct1 : (no == 3073) = false) (ct2 : (no == 3074) = false) (l3 l0 : Bool) (hl3 : (no / 256 % 4 == 3) = l3) (hl0 : (no / 256 % 4 == 0) = l0) (hl : (l3 || l0) = true) (w : World) :
    Calls Try.prog 18 #[hartV t, .int .i64 no, .bool true] w fun e w' => e = .returned (.int .i64 2) ∧ Below w.heap.size w w' := by
  have HN := Lib.hid fun w => refName_any no w
  have hne : ¬ nameN no = ⟨#[]⟩ := (knownN_iff no).1 hk
  have hq3 : (nameN no).toList.isEmpty = false := by
    cases e : (nameN no).toList with
    | nil => exact absurd (data_inj (by rw [← ByteArray.toList_eq, e])) hne
    | cons _ _ => rfl
  have hq1 : ¬ (nameN no).toList = [] := by intro e; rw [e] at hq3; cases hq3
  have hq2 : (!(nameN no).toList.isEmpty) = true := by rw [hq3]; rfl
  clear hne hk
  generalize nameN no = nm at *
  have c33 := hRow_p t
  have c34 := hRow_v t
  rw [hp] at c33
  rw [hv] at c34
  clear hp hv ok
  cases l3 <;> cases l0 <;> first | (exfalso; exact absurd hl (by decide)) | (clear hl)
  all_goals
    go_enter Try.func18, Try.ntmps18
    go_wp2_with ((with_reducible refine (HN.out _).mono ?_); rintro e1 w1 ⟨rfl, rfl⟩)
    go_ret
    exact ⟨rfl, (Below.refl _ _).alloc (Nat.le_refl _) _⟩

set_option maxHeartbeats 4000000 in
theorem ref_gwu (t : HS) (ok : HOk t) (no : Int) (h0 : 0 ≤ no) (h4 : no < 4096) (p : Int) (v : Bool) (hp : t.n 33 = p) (hv : t.v = v) (hk : knownN no = true) (hh : no < 3072) (n0 : (p != 0) = false) (e0 : (p == 0) = true) (ct0 : (no == 3072) = false) (ct1 : (no == 3073) = false) (ct2 : (no == 3074) = false) (hvv : v = true) (l2 sa vt : Bool) (hl3 : (no / 256 % 4 == 3) = false) (hl0 : (no / 256 % 4 == 0) = false) (hl2 : (no / 256 % 4 == 2) = l2) (hs : (no == 384) = sa) (hvt : bitZ (t.n 58) 20 = vt) (w : World) :
    Calls Try.prog 18 #[hartV t, .int .i64 no, .bool true] w fun e w' => e = .returned (.int .i64 (gstB true l2 sa vt)) ∧ Below w.heap.size w w' := by
  have HN := Lib.hid fun w => refName_any no w
  have hne : ¬ nameN no = ⟨#[]⟩ := (knownN_iff no).1 hk
  have hq3 : (nameN no).toList.isEmpty = false := by
    cases e : (nameN no).toList with
    | nil => exact absurd (data_inj (by rw [← ByteArray.toList_eq, e])) hne
    | cons _ _ => rfl
  have hq1 : ¬ (nameN no).toList = [] := by intro e; rw [e] at hq3; cases hq3
  have hq2 : (!(nameN no).toList.isEmpty) = true := by rw [hq3]; rfl
  clear hne hk
  generalize nameN no = nm at *
  have c33 := hRow_p t
  have c34 := hRow_v t
  rw [hp] at c33
  rw [hv] at c34
  subst hvv
  have c58 := hRow_u t 58 (by omega) (by omega)
  have b58 : (bits .and .u64 (t.n 58 / 1048576) 1 == 1) = vt := by rw [← hvt]; exact has_bit (ok.n _) 20
  clear hp hv ok hvt
  generalize t.n 58 = x58 at *

  cases l2 <;> cases sa <;> cases vt
  all_goals
    go_enter Try.func18, Try.ntmps18
    go_wp2_with ((with_reducible refine (HN.out _).mono ?_); rintro e1 w1 ⟨rfl, rfl⟩)
    go_ret
    exact ⟨rfl, (Below.refl _ _).alloc (Nat.le_refl _) _⟩

set_option maxHeartbeats 4000000 in
theorem ref_hwu (t : HS) (ok : HOk t) (no : Int) (h0 : 0 ≤ no) (h4 : no < 4096) (p : Int) (v : Bool) (hp : t.n 33 = p) (hv : t.v = v) (hk : knownN no = true) (hh : no < 3072) (n0 : (p != 0) = false) (e0 : (p == 0) = true) (ct0 : (no == 3072) = false) (ct1 : (no == 3073) = false) (ct2 : (no == 3074) = false) (hvv : v = false) (sa hg tv : Bool) (hl3 : (no / 256 % 4 == 3) = false) (hl0 : (no / 256 % 4 == 0) = false) (hs : (no == 384) = sa) (hhg : (no == 1664) = hg) (htv : bitZ (t.n 38) 20 = tv) (w : World) :
    Calls Try.prog 18 #[hartV t, .int .i64 no, .bool true] w fun e w' => e = .returned (.int .i64 (hstB true sa hg tv)) ∧ Below w.heap.size w w' := by
  have HN := Lib.hid fun w => refName_any no w
  have hne : ¬ nameN no = ⟨#[]⟩ := (knownN_iff no).1 hk
  have hq3 : (nameN no).toList.isEmpty = false := by
    cases e : (nameN no).toList with
    | nil => exact absurd (data_inj (by rw [← ByteArray.toList_eq, e])) hne
    | cons _ _ => rfl
  have hq1 : ¬ (nameN no).toList = [] := by intro e; rw [e] at hq3; cases hq3
  have hq2 : (!(nameN no).toList.isEmpty) = true := by rw [hq3]; rfl
  clear hne hk
  generalize nameN no = nm at *
  have c33 := hRow_p t
  have c34 := hRow_v t
  rw [hp] at c33
  rw [hv] at c34
  subst hvv
  have c38 := hRow_u t 38 (by omega) (by omega)
  have b38 : (bits .and .u64 (t.n 38 / 1048576) 1 == 1) = tv := by rw [← htv]; exact has_bit (ok.n _) 20
  clear hp hv ok htv
  generalize t.n 38 = x38 at *

  cases sa <;> cases hg <;> cases tv
  all_goals
    go_enter Try.func18, Try.ntmps18
    go_wp2_with ((with_reducible refine (HN.out _).mono ?_); rintro e1 w1 ⟨rfl, rfl⟩)
    go_ret
    exact ⟨rfl, (Below.refl _ _).alloc (Nat.le_refl _) _⟩

set_option maxHeartbeats 4000000 in
theorem ref_lws (t : HS) (ok : HOk t) (no : Int) (h0 : 0 ≤ no) (h4 : no < 4096) (p : Int) (v : Bool) (hp : t.n 33 = p) (hv : t.v = v) (hk : knownN no = true) (hh : no < 3072) (n0 : (p != 0) = true) (n1 : (p != 1) = false) (e0 : (p == 0) = false) (ct0 : (no == 3072) = false) (ct1 : (no == 3073) = false) (ct2 : (no == 3074) = false) (l3 l0 : Bool) (hl3 : (no / 256 % 4 == 3) = l3) (hl0 : (no / 256 % 4 == 0) = l0) (hl : (l3 || l0) = true) (w : World) :
    Calls Try.prog 18 #[hartV t, .int .i64 no, .bool true] w fun e w' => e = .returned (.int .i64 2) ∧ Below w.heap.size w w' := by
  have HN := Lib.hid fun w => refName_any no w
  have hne : ¬ nameN no = ⟨#[]⟩ := (knownN_iff no).1 hk
  have hq3 : (nameN no).toList.isEmpty = false := by
    cases e : (nameN no).toList with
    | nil => exact absurd (data_inj (by rw [← ByteArray.toList_eq, e])) hne
    | cons _ _ => rfl
  have hq1 : ¬ (nameN no).toList = [] := by intro e; rw [e] at hq3; cases hq3
  have hq2 : (!(nameN no).toList.isEmpty) = true := by rw [hq3]; rfl
  clear hne hk
  generalize nameN no = nm at *
  have c33 := hRow_p t
  have c34 := hRow_v t
  rw [hp] at c33
  rw [hv] at c34
  clear hp hv ok
  cases l3 <;> cases l0 <;> first | (exfalso; exact absurd hl (by decide)) | (clear hl)
  all_goals
    go_enter Try.func18, Try.ntmps18
    go_wp2_with ((with_reducible refine (HN.out _).mono ?_); rintro e1 w1 ⟨rfl, rfl⟩)
    go_ret
    exact ⟨rfl, (Below.refl _ _).alloc (Nat.le_refl _) _⟩

set_option maxHeartbeats 4000000 in
theorem ref_gws (t : HS) (ok : HOk t) (no : Int) (h0 : 0 ≤ no) (h4 : no < 4096) (p : Int) (v : Bool) (hp : t.n 33 = p) (hv : t.v = v) (hk : knownN no = true) (hh : no < 3072) (n0 : (p != 0) = true) (n1 : (p != 1) = false) (e0 : (p == 0) = false) (ct0 : (no == 3072) = false) (ct1 : (no == 3073) = false) (ct2 : (no == 3074) = false) (hvv : v = true) (l2 sa vt : Bool) (hl3 : (no / 256 % 4 == 3) = false) (hl0 : (no / 256 % 4 == 0) = false) (hl2 : (no / 256 % 4 == 2) = l2) (hs : (no == 384) = sa) (hvt : bitZ (t.n 58) 20 = vt) (w : World) :
    Calls Try.prog 18 #[hartV t, .int .i64 no, .bool true] w fun e w' => e = .returned (.int .i64 (gstB false l2 sa vt)) ∧ Below w.heap.size w w' := by
  have HN := Lib.hid fun w => refName_any no w
  have hne : ¬ nameN no = ⟨#[]⟩ := (knownN_iff no).1 hk
  have hq3 : (nameN no).toList.isEmpty = false := by
    cases e : (nameN no).toList with
    | nil => exact absurd (data_inj (by rw [← ByteArray.toList_eq, e])) hne
    | cons _ _ => rfl
  have hq1 : ¬ (nameN no).toList = [] := by intro e; rw [e] at hq3; cases hq3
  have hq2 : (!(nameN no).toList.isEmpty) = true := by rw [hq3]; rfl
  clear hne hk
  generalize nameN no = nm at *
  have c33 := hRow_p t
  have c34 := hRow_v t
  rw [hp] at c33
  rw [hv] at c34
  subst hvv
  have c58 := hRow_u t 58 (by omega) (by omega)
  have b58 : (bits .and .u64 (t.n 58 / 1048576) 1 == 1) = vt := by rw [← hvt]; exact has_bit (ok.n _) 20
  clear hp hv ok hvt
  generalize t.n 58 = x58 at *

  cases l2 <;> cases sa <;> cases vt
  all_goals
    go_enter Try.func18, Try.ntmps18
    go_wp2_with ((with_reducible refine (HN.out _).mono ?_); rintro e1 w1 ⟨rfl, rfl⟩)
    go_ret
    exact ⟨rfl, (Below.refl _ _).alloc (Nat.le_refl _) _⟩

set_option maxHeartbeats 4000000 in
theorem ref_hws (t : HS) (ok : HOk t) (no : Int) (h0 : 0 ≤ no) (h4 : no < 4096) (p : Int) (v : Bool) (hp : t.n 33 = p) (hv : t.v = v) (hk : knownN no = true) (hh : no < 3072) (n0 : (p != 0) = true) (n1 : (p != 1) = false) (e0 : (p == 0) = false) (ct0 : (no == 3072) = false) (ct1 : (no == 3073) = false) (ct2 : (no == 3074) = false) (hvv : v = false) (sa hg tv : Bool) (hl3 : (no / 256 % 4 == 3) = false) (hl0 : (no / 256 % 4 == 0) = false) (hs : (no == 384) = sa) (hhg : (no == 1664) = hg) (htv : bitZ (t.n 38) 20 = tv) (w : World) :
    Calls Try.prog 18 #[hartV t, .int .i64 no, .bool true] w fun e w' => e = .returned (.int .i64 (hstB false sa hg tv)) ∧ Below w.heap.size w w' := by
  have HN := Lib.hid fun w => refName_any no w
  have hne : ¬ nameN no = ⟨#[]⟩ := (knownN_iff no).1 hk
  have hq3 : (nameN no).toList.isEmpty = false := by
    cases e : (nameN no).toList with
    | nil => exact absurd (data_inj (by rw [← ByteArray.toList_eq, e])) hne
    | cons _ _ => rfl
  have hq1 : ¬ (nameN no).toList = [] := by intro e; rw [e] at hq3; cases hq3
  have hq2 : (!(nameN no).toList.isEmpty) = true := by rw [hq3]; rfl
  clear hne hk
  generalize nameN no = nm at *
  have c33 := hRow_p t
  have c34 := hRow_v t
  rw [hp] at c33
  rw [hv] at c34
  subst hvv
  have c38 := hRow_u t 38 (by omega) (by omega)
  have b38 : (bits .and .u64 (t.n 38 / 1048576) 1 == 1) = tv := by rw [← htv]; exact has_bit (ok.n _) 20
  clear hp hv ok htv
  generalize t.n 38 = x38 at *

  cases sa <;> cases hg <;> cases tv
  all_goals
    go_enter Try.func18, Try.ntmps18
    go_wp2_with ((with_reducible refine (HN.out _).mono ?_); rintro e1 w1 ⟨rfl, rfl⟩)
    go_ret
    exact ⟨rfl, (Below.refl _ _).alloc (Nat.le_refl _) _⟩

theorem ref_no (t : HS) (no : Int) (wr : Bool) (hk : knownN no = false) (w : World) :
    Calls Try.prog 18 #[hartV t, .int .i64 no, .bool wr] w fun e w' => e = .returned (.int .i64 2) ∧ Below w.heap.size w w' := by
  have HN : Hid (∀ w, Calls Try.prog 11 #[.int .i64 no] w fun e w' => e = .returned (.string ⟨#[]⟩) ∧ w = w') := Lib.hid fun w => by
    have e : nameN no = ⟨#[]⟩ := Classical.byContradiction fun h => by
      have := (knownN_iff no).2 h; rw [hk] at this; cases this
    have := refName_any no w
    rw [e] at this; exact this
  clear hk
  go_enter Try.func18, Try.ntmps18
  go_wp2_with ((with_reducible refine (HN.out _).mono ?_); rintro e1 w1 ⟨rfl, rfl⟩)
  go_ret
  exact ⟨rfl, (Below.refl _ _).alloc (Nat.le_refl _) _⟩
end Go.Proofs.Ytcnalabhcalfnaa
