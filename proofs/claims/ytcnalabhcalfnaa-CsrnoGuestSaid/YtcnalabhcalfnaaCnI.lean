/- Layer 11: the program's Check, by its ways (written by gen_cni.py). -/
import Derived.Test.YtcnalabhcalfnaaCnH
namespace Go.Proofs.Ytcnalabhcalfnaa
open Go.RowKit
set_option linter.unusedVariables false
set_option maxRecDepth 100000

set_option maxHeartbeats 2000000 in
theorem check_ro (t : HS) (no : Int) (h0 : 0 ≤ no) (h4 : no < 4096) (p : Int) (v : Bool) (hp : t.n 33 = p) (hv : t.v = v) (hk : knownN no = true) (hro : roB no = true) (w : World) :
    Calls Try.prog 17 #[hartV t, .int .i64 no, .bool true] w fun e w' => e = .returned (.int .i64 2) ∧ Below w.heap.size w w' := by
  have HK : Hid (∀ w, Calls Try.prog 12 #[.int .i64 no] w fun e w' => e = .returned (.bool true) ∧ Below w.heap.size w w') := Lib.hid fun w => by
    have := known_any no w
    rw [hk] at this; exact this
  have HRO := Lib.hid fun w => onlyRead_any no h0 w
  have HCT := Lib.hid fun w => isCounter_any no w
  have HL := Lib.hid fun w => level_any no h0 w
  clear hk
  generalize roB no = ro at *
  subst hro
  generalize ctB no = ct at *
  generalize lvZ no = lv at *
  have HX := HL
  go_enter Try.func17, Try.ntmps17
  go_wp2_with (first
    | (go_at_call 12; (with_reducible refine (HK.out _).mono ?_); rintro e1 w1 ⟨rfl, hb1⟩; have HR := Lib.hid ((HartB.new w t).below hb1); have HB := Lib.hid (((Below.refl _ _).alloc (Nat.le_refl _) _).trans (hb1.mono (by simp))); have d33 := HR.out.p; have d34 := HR.out.v; rw [hp] at d33; rw [hv] at d34; clear hb1)
    | ((with_reducible refine (HRO.out _).mono ?_); rintro e1 w2 ⟨rfl, rfl⟩)
    | ((with_reducible refine (HCT.out _).mono ?_); rintro e1 w2 ⟨rfl, rfl⟩)
    | ((with_reducible refine (HL.out _).mono ?_); rintro e1 w2 ⟨rfl, rfl⟩)
    | (refine wpList_load_row rfl _ _ rfl w.heap.size rfl 32 _ _ _ HR.out Try.underlying32 rfl (size_hart.trans (by rw [varr_size])) ?_)
    | ((with_reducible refine (HX.out _).mono ?_); rintro e1 w2 ⟨rfl, hb2⟩; have HB2 := Lib.hid (HB.out.trans (hb2.mono HB.out.size)); clear hb2))
  go_ret
  first | exact ⟨rfl, HB2.out⟩ | exact ⟨rfl, HB.out⟩

set_option maxHeartbeats 2000000 in
theorem check_mr (t : HS) (no : Int) (h0 : 0 ≤ no) (h4 : no < 4096) (p : Int) (v : Bool) (hp : t.n 33 = p) (hv : t.v = v) (hk : knownN no = true) (n0 : (p != 0) = true) (n1 : (p != 1) = true) (w : World) :
    Calls Try.prog 17 #[hartV t, .int .i64 no, .bool false] w fun e w' => e = .returned (.int .i64 0) ∧ Below w.heap.size w w' := by
  have HK : Hid (∀ w, Calls Try.prog 12 #[.int .i64 no] w fun e w' => e = .returned (.bool true) ∧ Below w.heap.size w w') := Lib.hid fun w => by
    have := known_any no w
    rw [hk] at this; exact this
  have HRO := Lib.hid fun w => onlyRead_any no h0 w
  have HCT := Lib.hid fun w => isCounter_any no w
  have HL := Lib.hid fun w => level_any no h0 w
  clear hk
  generalize roB no = ro at *
  generalize ctB no = ct at *
  generalize lvZ no = lv at *
  have HX := HL
  go_enter Try.func17, Try.ntmps17
  go_wp2_with (first
    | (go_at_call 12; (with_reducible refine (HK.out _).mono ?_); rintro e1 w1 ⟨rfl, hb1⟩; have HR := Lib.hid ((HartB.new w t).below hb1); have HB := Lib.hid (((Below.refl _ _).alloc (Nat.le_refl _) _).trans (hb1.mono (by simp))); have d33 := HR.out.p; have d34 := HR.out.v; rw [hp] at d33; rw [hv] at d34; clear hb1)
    | ((with_reducible refine (HRO.out _).mono ?_); rintro e1 w2 ⟨rfl, rfl⟩)
    | ((with_reducible refine (HCT.out _).mono ?_); rintro e1 w2 ⟨rfl, rfl⟩)
    | ((with_reducible refine (HL.out _).mono ?_); rintro e1 w2 ⟨rfl, rfl⟩)
    | (refine wpList_load_row rfl _ _ rfl w.heap.size rfl 32 _ _ _ HR.out Try.underlying32 rfl (size_hart.trans (by rw [varr_size])) ?_)
    | ((with_reducible refine (HX.out _).mono ?_); rintro e1 w2 ⟨rfl, hb2⟩; have HB2 := Lib.hid (HB.out.trans (hb2.mono HB.out.size)); clear hb2))
  go_ret
  first | exact ⟨rfl, HB2.out⟩ | exact ⟨rfl, HB.out⟩

set_option maxHeartbeats 2000000 in
theorem check_cru (t : HS) (no : Int) (h0 : 0 ≤ no) (h4 : no < 4096) (p : Int) (v : Bool) (x : Int) (hp : t.n 33 = p) (hv : t.v = v) (hk : knownN no = true) (n0 : (p != 0) = false) (hct : ctB no = true) (hx : ∀ w, Calls Try.prog 23 #[hartV t, .int .i64 (no - 3072)] w fun e w' => e = .returned (.int .i64 x) ∧ Below w.heap.size w w') (w : World) :
    Calls Try.prog 17 #[hartV t, .int .i64 no, .bool false] w fun e w' => e = .returned (.int .i64 x) ∧ Below w.heap.size w w' := by
  have HK : Hid (∀ w, Calls Try.prog 12 #[.int .i64 no] w fun e w' => e = .returned (.bool true) ∧ Below w.heap.size w w') := Lib.hid fun w => by
    have := known_any no w
    rw [hk] at this; exact this
  have HRO := Lib.hid fun w => onlyRead_any no h0 w
  have HCT := Lib.hid fun w => isCounter_any no w
  have HL := Lib.hid fun w => level_any no h0 w
  clear hk
  generalize roB no = ro at *
  generalize ctB no = ct at *
  subst hct
  generalize lvZ no = lv at *
  have HX := Lib.hid hx
  clear hx
  go_enter Try.func17, Try.ntmps17
  go_wp2_with (first
    | (go_at_call 12; (with_reducible refine (HK.out _).mono ?_); rintro e1 w1 ⟨rfl, hb1⟩; have HR := Lib.hid ((HartB.new w t).below hb1); have HB := Lib.hid (((Below.refl _ _).alloc (Nat.le_refl _) _).trans (hb1.mono (by simp))); have d33 := HR.out.p; have d34 := HR.out.v; rw [hp] at d33; rw [hv] at d34; clear hb1)
    | ((with_reducible refine (HRO.out _).mono ?_); rintro e1 w2 ⟨rfl, rfl⟩)
    | ((with_reducible refine (HCT.out _).mono ?_); rintro e1 w2 ⟨rfl, rfl⟩)
    | ((with_reducible refine (HL.out _).mono ?_); rintro e1 w2 ⟨rfl, rfl⟩)
    | (refine wpList_load_row rfl _ _ rfl w.heap.size rfl 32 _ _ _ HR.out Try.underlying32 rfl (size_hart.trans (by rw [varr_size])) ?_)
    | ((with_reducible refine (HX.out _).mono ?_); rintro e1 w2 ⟨rfl, hb2⟩; have HB2 := Lib.hid (HB.out.trans (hb2.mono HB.out.size)); clear hb2))
  go_ret
  first | exact ⟨rfl, HB2.out⟩ | exact ⟨rfl, HB.out⟩

set_option maxHeartbeats 2000000 in
theorem check_lru (t : HS) (no : Int) (h0 : 0 ≤ no) (h4 : no < 4096) (p : Int) (v : Bool) (hp : t.n 33 = p) (hv : t.v = v) (hk : knownN no = true) (n0 : (p != 0) = false) (hct : ctB no = false) (l1 : (lvZ no != 1) = true) (l2 : (lvZ no != 2) = true) (w : World) :
    Calls Try.prog 17 #[hartV t, .int .i64 no, .bool false] w fun e w' => e = .returned (.int .i64 2) ∧ Below w.heap.size w w' := by
  have HK : Hid (∀ w, Calls Try.prog 12 #[.int .i64 no] w fun e w' => e = .returned (.bool true) ∧ Below w.heap.size w w') := Lib.hid fun w => by
    have := known_any no w
    rw [hk] at this; exact this
  have HRO := Lib.hid fun w => onlyRead_any no h0 w
  have HCT := Lib.hid fun w => isCounter_any no w
  have HL := Lib.hid fun w => level_any no h0 w
  clear hk
  generalize roB no = ro at *
  generalize ctB no = ct at *
  subst hct
  generalize lvZ no = lv at *
  have HX := HL
  go_enter Try.func17, Try.ntmps17
  go_wp2_with (first
    | (go_at_call 12; (with_reducible refine (HK.out _).mono ?_); rintro e1 w1 ⟨rfl, hb1⟩; have HR := Lib.hid ((HartB.new w t).below hb1); have HB := Lib.hid (((Below.refl _ _).alloc (Nat.le_refl _) _).trans (hb1.mono (by simp))); have d33 := HR.out.p; have d34 := HR.out.v; rw [hp] at d33; rw [hv] at d34; clear hb1)
    | ((with_reducible refine (HRO.out _).mono ?_); rintro e1 w2 ⟨rfl, rfl⟩)
    | ((with_reducible refine (HCT.out _).mono ?_); rintro e1 w2 ⟨rfl, rfl⟩)
    | ((with_reducible refine (HL.out _).mono ?_); rintro e1 w2 ⟨rfl, rfl⟩)
    | (refine wpList_load_row rfl _ _ rfl w.heap.size rfl 32 _ _ _ HR.out Try.underlying32 rfl (size_hart.trans (by rw [varr_size])) ?_)
    | ((with_reducible refine (HX.out _).mono ?_); rintro e1 w2 ⟨rfl, hb2⟩; have HB2 := Lib.hid (HB.out.trans (hb2.mono HB.out.size)); clear hb2))
  go_ret
  first | exact ⟨rfl, HB2.out⟩ | exact ⟨rfl, HB.out⟩

set_option maxHeartbeats 2000000 in
theorem check_gru1 (t : HS) (no : Int) (h0 : 0 ≤ no) (h4 : no < 4096) (p : Int) (v : Bool) (x : Int) (hp : t.n 33 = p) (hv : t.v = v) (hk : knownN no = true) (n0 : (p != 0) = false) (hct : ctB no = false) (l1 : (lvZ no != 1) = false) (hvv : v = true) (hx : ∀ w, Calls Try.prog 25 #[hartV t, .int .i64 no] w fun e w' => e = .returned (.int .i64 x) ∧ Below w.heap.size w w') (w : World) :
    Calls Try.prog 17 #[hartV t, .int .i64 no, .bool false] w fun e w' => e = .returned (.int .i64 x) ∧ Below w.heap.size w w' := by
  have HK : Hid (∀ w, Calls Try.prog 12 #[.int .i64 no] w fun e w' => e = .returned (.bool true) ∧ Below w.heap.size w w') := Lib.hid fun w => by
    have := known_any no w
    rw [hk] at this; exact this
  have HRO := Lib.hid fun w => onlyRead_any no h0 w
  have HCT := Lib.hid fun w => isCounter_any no w
  have HL := Lib.hid fun w => level_any no h0 w
  clear hk
  generalize roB no = ro at *
  generalize ctB no = ct at *
  subst hct
  subst hvv
  generalize lvZ no = lv at *
  have HX := Lib.hid hx
  clear hx
  go_enter Try.func17, Try.ntmps17
  go_wp2_with (first
    | (go_at_call 12; (with_reducible refine (HK.out _).mono ?_); rintro e1 w1 ⟨rfl, hb1⟩; have HR := Lib.hid ((HartB.new w t).below hb1); have HB := Lib.hid (((Below.refl _ _).alloc (Nat.le_refl _) _).trans (hb1.mono (by simp))); have d33 := HR.out.p; have d34 := HR.out.v; rw [hp] at d33; rw [hv] at d34; clear hb1)
    | ((with_reducible refine (HRO.out _).mono ?_); rintro e1 w2 ⟨rfl, rfl⟩)
    | ((with_reducible refine (HCT.out _).mono ?_); rintro e1 w2 ⟨rfl, rfl⟩)
    | ((with_reducible refine (HL.out _).mono ?_); rintro e1 w2 ⟨rfl, rfl⟩)
    | (refine wpList_load_row rfl _ _ rfl w.heap.size rfl 32 _ _ _ HR.out Try.underlying32 rfl (size_hart.trans (by rw [varr_size])) ?_)
    | ((with_reducible refine (HX.out _).mono ?_); rintro e1 w2 ⟨rfl, hb2⟩; have HB2 := Lib.hid (HB.out.trans (hb2.mono HB.out.size)); clear hb2))
  go_ret
  first | exact ⟨rfl, HB2.out⟩ | exact ⟨rfl, HB.out⟩

set_option maxHeartbeats 2000000 in
theorem check_hru1 (t : HS) (no : Int) (h0 : 0 ≤ no) (h4 : no < 4096) (p : Int) (v : Bool) (x : Int) (hp : t.n 33 = p) (hv : t.v = v) (hk : knownN no = true) (n0 : (p != 0) = false) (hct : ctB no = false) (l1 : (lvZ no != 1) = false) (hvv : v = false) (hx : ∀ w, Calls Try.prog 26 #[hartV t, .int .i64 no] w fun e w' => e = .returned (.int .i64 x) ∧ Below w.heap.size w w') (w : World) :
    Calls Try.prog 17 #[hartV t, .int .i64 no, .bool false] w fun e w' => e = .returned (.int .i64 x) ∧ Below w.heap.size w w' := by
  have HK : Hid (∀ w, Calls Try.prog 12 #[.int .i64 no] w fun e w' => e = .returned (.bool true) ∧ Below w.heap.size w w') := Lib.hid fun w => by
    have := known_any no w
    rw [hk] at this; exact this
  have HRO := Lib.hid fun w => onlyRead_any no h0 w
  have HCT := Lib.hid fun w => isCounter_any no w
  have HL := Lib.hid fun w => level_any no h0 w
  clear hk
  generalize roB no = ro at *
  generalize ctB no = ct at *
  subst hct
  subst hvv
  generalize lvZ no = lv at *
  have HX := Lib.hid hx
  clear hx
  go_enter Try.func17, Try.ntmps17
  go_wp2_with (first
    | (go_at_call 12; (with_reducible refine (HK.out _).mono ?_); rintro e1 w1 ⟨rfl, hb1⟩; have HR := Lib.hid ((HartB.new w t).below hb1); have HB := Lib.hid (((Below.refl _ _).alloc (Nat.le_refl _) _).trans (hb1.mono (by simp))); have d33 := HR.out.p; have d34 := HR.out.v; rw [hp] at d33; rw [hv] at d34; clear hb1)
    | ((with_reducible refine (HRO.out _).mono ?_); rintro e1 w2 ⟨rfl, rfl⟩)
    | ((with_reducible refine (HCT.out _).mono ?_); rintro e1 w2 ⟨rfl, rfl⟩)
    | ((with_reducible refine (HL.out _).mono ?_); rintro e1 w2 ⟨rfl, rfl⟩)
    | (refine wpList_load_row rfl _ _ rfl w.heap.size rfl 32 _ _ _ HR.out Try.underlying32 rfl (size_hart.trans (by rw [varr_size])) ?_)
    | ((with_reducible refine (HX.out _).mono ?_); rintro e1 w2 ⟨rfl, hb2⟩; have HB2 := Lib.hid (HB.out.trans (hb2.mono HB.out.size)); clear hb2))
  go_ret
  first | exact ⟨rfl, HB2.out⟩ | exact ⟨rfl, HB.out⟩

set_option maxHeartbeats 2000000 in
theorem check_gru2 (t : HS) (no : Int) (h0 : 0 ≤ no) (h4 : no < 4096) (p : Int) (v : Bool) (x : Int) (hp : t.n 33 = p) (hv : t.v = v) (hk : knownN no = true) (n0 : (p != 0) = false) (hct : ctB no = false) (l1 : (lvZ no != 1) = true) (l2 : (lvZ no != 2) = false) (hvv : v = true) (hx : ∀ w, Calls Try.prog 25 #[hartV t, .int .i64 no] w fun e w' => e = .returned (.int .i64 x) ∧ Below w.heap.size w w') (w : World) :
    Calls Try.prog 17 #[hartV t, .int .i64 no, .bool false] w fun e w' => e = .returned (.int .i64 x) ∧ Below w.heap.size w w' := by
  have HK : Hid (∀ w, Calls Try.prog 12 #[.int .i64 no] w fun e w' => e = .returned (.bool true) ∧ Below w.heap.size w w') := Lib.hid fun w => by
    have := known_any no w
    rw [hk] at this; exact this
  have HRO := Lib.hid fun w => onlyRead_any no h0 w
  have HCT := Lib.hid fun w => isCounter_any no w
  have HL := Lib.hid fun w => level_any no h0 w
  clear hk
  generalize roB no = ro at *
  generalize ctB no = ct at *
  subst hct
  subst hvv
  generalize lvZ no = lv at *
  have HX := Lib.hid hx
  clear hx
  go_enter Try.func17, Try.ntmps17
  go_wp2_with (first
    | (go_at_call 12; (with_reducible refine (HK.out _).mono ?_); rintro e1 w1 ⟨rfl, hb1⟩; have HR := Lib.hid ((HartB.new w t).below hb1); have HB := Lib.hid (((Below.refl _ _).alloc (Nat.le_refl _) _).trans (hb1.mono (by simp))); have d33 := HR.out.p; have d34 := HR.out.v; rw [hp] at d33; rw [hv] at d34; clear hb1)
    | ((with_reducible refine (HRO.out _).mono ?_); rintro e1 w2 ⟨rfl, rfl⟩)
    | ((with_reducible refine (HCT.out _).mono ?_); rintro e1 w2 ⟨rfl, rfl⟩)
    | ((with_reducible refine (HL.out _).mono ?_); rintro e1 w2 ⟨rfl, rfl⟩)
    | (refine wpList_load_row rfl _ _ rfl w.heap.size rfl 32 _ _ _ HR.out Try.underlying32 rfl (size_hart.trans (by rw [varr_size])) ?_)
    | ((with_reducible refine (HX.out _).mono ?_); rintro e1 w2 ⟨rfl, hb2⟩; have HB2 := Lib.hid (HB.out.trans (hb2.mono HB.out.size)); clear hb2))
  go_ret
  first | exact ⟨rfl, HB2.out⟩ | exact ⟨rfl, HB.out⟩

set_option maxHeartbeats 2000000 in
theorem check_hru2 (t : HS) (no : Int) (h0 : 0 ≤ no) (h4 : no < 4096) (p : Int) (v : Bool) (x : Int) (hp : t.n 33 = p) (hv : t.v = v) (hk : knownN no = true) (n0 : (p != 0) = false) (hct : ctB no = false) (l1 : (lvZ no != 1) = true) (l2 : (lvZ no != 2) = false) (hvv : v = false) (hx : ∀ w, Calls Try.prog 26 #[hartV t, .int .i64 no] w fun e w' => e = .returned (.int .i64 x) ∧ Below w.heap.size w w') (w : World) :
    Calls Try.prog 17 #[hartV t, .int .i64 no, .bool false] w fun e w' => e = .returned (.int .i64 x) ∧ Below w.heap.size w w' := by
  have HK : Hid (∀ w, Calls Try.prog 12 #[.int .i64 no] w fun e w' => e = .returned (.bool true) ∧ Below w.heap.size w w') := Lib.hid fun w => by
    have := known_any no w
    rw [hk] at this; exact this
  have HRO := Lib.hid fun w => onlyRead_any no h0 w
  have HCT := Lib.hid fun w => isCounter_any no w
  have HL := Lib.hid fun w => level_any no h0 w
  clear hk
  generalize roB no = ro at *
  generalize ctB no = ct at *
  subst hct
  subst hvv
  generalize lvZ no = lv at *
  have HX := Lib.hid hx
  clear hx
  go_enter Try.func17, Try.ntmps17
  go_wp2_with (first
    | (go_at_call 12; (with_reducible refine (HK.out _).mono ?_); rintro e1 w1 ⟨rfl, hb1⟩; have HR := Lib.hid ((HartB.new w t).below hb1); have HB := Lib.hid (((Below.refl _ _).alloc (Nat.le_refl _) _).trans (hb1.mono (by simp))); have d33 := HR.out.p; have d34 := HR.out.v; rw [hp] at d33; rw [hv] at d34; clear hb1)
    | ((with_reducible refine (HRO.out _).mono ?_); rintro e1 w2 ⟨rfl, rfl⟩)
    | ((with_reducible refine (HCT.out _).mono ?_); rintro e1 w2 ⟨rfl, rfl⟩)
    | ((with_reducible refine (HL.out _).mono ?_); rintro e1 w2 ⟨rfl, rfl⟩)
    | (refine wpList_load_row rfl _ _ rfl w.heap.size rfl 32 _ _ _ HR.out Try.underlying32 rfl (size_hart.trans (by rw [varr_size])) ?_)
    | ((with_reducible refine (HX.out _).mono ?_); rintro e1 w2 ⟨rfl, hb2⟩; have HB2 := Lib.hid (HB.out.trans (hb2.mono HB.out.size)); clear hb2))
  go_ret
  first | exact ⟨rfl, HB2.out⟩ | exact ⟨rfl, HB.out⟩

set_option maxHeartbeats 2000000 in
theorem check_crs (t : HS) (no : Int) (h0 : 0 ≤ no) (h4 : no < 4096) (p : Int) (v : Bool) (x : Int) (hp : t.n 33 = p) (hv : t.v = v) (hk : knownN no = true) (n0 : (p != 0) = true) (n1 : (p != 1) = false) (hct : ctB no = true) (hx : ∀ w, Calls Try.prog 23 #[hartV t, .int .i64 (no - 3072)] w fun e w' => e = .returned (.int .i64 x) ∧ Below w.heap.size w w') (w : World) :
    Calls Try.prog 17 #[hartV t, .int .i64 no, .bool false] w fun e w' => e = .returned (.int .i64 x) ∧ Below w.heap.size w w' := by
  have HK : Hid (∀ w, Calls Try.prog 12 #[.int .i64 no] w fun e w' => e = .returned (.bool true) ∧ Below w.heap.size w w') := Lib.hid fun w => by
    have := known_any no w
    rw [hk] at this; exact this
  have HRO := Lib.hid fun w => onlyRead_any no h0 w
  have HCT := Lib.hid fun w => isCounter_any no w
  have HL := Lib.hid fun w => level_any no h0 w
  clear hk
  generalize roB no = ro at *
  generalize ctB no = ct at *
  subst hct
  generalize lvZ no = lv at *
  have HX := Lib.hid hx
  clear hx
  go_enter Try.func17, Try.ntmps17
  go_wp2_with (first
    | (go_at_call 12; (with_reducible refine (HK.out _).mono ?_); rintro e1 w1 ⟨rfl, hb1⟩; have HR := Lib.hid ((HartB.new w t).below hb1); have HB := Lib.hid (((Below.refl _ _).alloc (Nat.le_refl _) _).trans (hb1.mono (by simp))); have d33 := HR.out.p; have d34 := HR.out.v; rw [hp] at d33; rw [hv] at d34; clear hb1)
    | ((with_reducible refine (HRO.out _).mono ?_); rintro e1 w2 ⟨rfl, rfl⟩)
    | ((with_reducible refine (HCT.out _).mono ?_); rintro e1 w2 ⟨rfl, rfl⟩)
    | ((with_reducible refine (HL.out _).mono ?_); rintro e1 w2 ⟨rfl, rfl⟩)
    | (refine wpList_load_row rfl _ _ rfl w.heap.size rfl 32 _ _ _ HR.out Try.underlying32 rfl (size_hart.trans (by rw [varr_size])) ?_)
    | ((with_reducible refine (HX.out _).mono ?_); rintro e1 w2 ⟨rfl, hb2⟩; have HB2 := Lib.hid (HB.out.trans (hb2.mono HB.out.size)); clear hb2))
  go_ret
  first | exact ⟨rfl, HB2.out⟩ | exact ⟨rfl, HB.out⟩

set_option maxHeartbeats 2000000 in
theorem check_lrs (t : HS) (no : Int) (h0 : 0 ≤ no) (h4 : no < 4096) (p : Int) (v : Bool) (hp : t.n 33 = p) (hv : t.v = v) (hk : knownN no = true) (n0 : (p != 0) = true) (n1 : (p != 1) = false) (hct : ctB no = false) (l1 : (lvZ no != 1) = true) (l2 : (lvZ no != 2) = true) (w : World) :
    Calls Try.prog 17 #[hartV t, .int .i64 no, .bool false] w fun e w' => e = .returned (.int .i64 2) ∧ Below w.heap.size w w' := by
  have HK : Hid (∀ w, Calls Try.prog 12 #[.int .i64 no] w fun e w' => e = .returned (.bool true) ∧ Below w.heap.size w w') := Lib.hid fun w => by
    have := known_any no w
    rw [hk] at this; exact this
  have HRO := Lib.hid fun w => onlyRead_any no h0 w
  have HCT := Lib.hid fun w => isCounter_any no w
  have HL := Lib.hid fun w => level_any no h0 w
  clear hk
  generalize roB no = ro at *
  generalize ctB no = ct at *
  subst hct
  generalize lvZ no = lv at *
  have HX := HL
  go_enter Try.func17, Try.ntmps17
  go_wp2_with (first
    | (go_at_call 12; (with_reducible refine (HK.out _).mono ?_); rintro e1 w1 ⟨rfl, hb1⟩; have HR := Lib.hid ((HartB.new w t).below hb1); have HB := Lib.hid (((Below.refl _ _).alloc (Nat.le_refl _) _).trans (hb1.mono (by simp))); have d33 := HR.out.p; have d34 := HR.out.v; rw [hp] at d33; rw [hv] at d34; clear hb1)
    | ((with_reducible refine (HRO.out _).mono ?_); rintro e1 w2 ⟨rfl, rfl⟩)
    | ((with_reducible refine (HCT.out _).mono ?_); rintro e1 w2 ⟨rfl, rfl⟩)
    | ((with_reducible refine (HL.out _).mono ?_); rintro e1 w2 ⟨rfl, rfl⟩)
    | (refine wpList_load_row rfl _ _ rfl w.heap.size rfl 32 _ _ _ HR.out Try.underlying32 rfl (size_hart.trans (by rw [varr_size])) ?_)
    | ((with_reducible refine (HX.out _).mono ?_); rintro e1 w2 ⟨rfl, hb2⟩; have HB2 := Lib.hid (HB.out.trans (hb2.mono HB.out.size)); clear hb2))
  go_ret
  first | exact ⟨rfl, HB2.out⟩ | exact ⟨rfl, HB.out⟩

set_option maxHeartbeats 2000000 in
theorem check_grs1 (t : HS) (no : Int) (h0 : 0 ≤ no) (h4 : no < 4096) (p : Int) (v : Bool) (x : Int) (hp : t.n 33 = p) (hv : t.v = v) (hk : knownN no = true) (n0 : (p != 0) = true) (n1 : (p != 1) = false) (hct : ctB no = false) (l1 : (lvZ no != 1) = false) (hvv : v = true) (hx : ∀ w, Calls Try.prog 25 #[hartV t, .int .i64 no] w fun e w' => e = .returned (.int .i64 x) ∧ Below w.heap.size w w') (w : World) :
    Calls Try.prog 17 #[hartV t, .int .i64 no, .bool false] w fun e w' => e = .returned (.int .i64 x) ∧ Below w.heap.size w w' := by
  have HK : Hid (∀ w, Calls Try.prog 12 #[.int .i64 no] w fun e w' => e = .returned (.bool true) ∧ Below w.heap.size w w') := Lib.hid fun w => by
    have := known_any no w
    rw [hk] at this; exact this
  have HRO := Lib.hid fun w => onlyRead_any no h0 w
  have HCT := Lib.hid fun w => isCounter_any no w
  have HL := Lib.hid fun w => level_any no h0 w
  clear hk
  generalize roB no = ro at *
  generalize ctB no = ct at *
  subst hct
  subst hvv
  generalize lvZ no = lv at *
  have HX := Lib.hid hx
  clear hx
  go_enter Try.func17, Try.ntmps17
  go_wp2_with (first
    | (go_at_call 12; (with_reducible refine (HK.out _).mono ?_); rintro e1 w1 ⟨rfl, hb1⟩; have HR := Lib.hid ((HartB.new w t).below hb1); have HB := Lib.hid (((Below.refl _ _).alloc (Nat.le_refl _) _).trans (hb1.mono (by simp))); have d33 := HR.out.p; have d34 := HR.out.v; rw [hp] at d33; rw [hv] at d34; clear hb1)
    | ((with_reducible refine (HRO.out _).mono ?_); rintro e1 w2 ⟨rfl, rfl⟩)
    | ((with_reducible refine (HCT.out _).mono ?_); rintro e1 w2 ⟨rfl, rfl⟩)
    | ((with_reducible refine (HL.out _).mono ?_); rintro e1 w2 ⟨rfl, rfl⟩)
    | (refine wpList_load_row rfl _ _ rfl w.heap.size rfl 32 _ _ _ HR.out Try.underlying32 rfl (size_hart.trans (by rw [varr_size])) ?_)
    | ((with_reducible refine (HX.out _).mono ?_); rintro e1 w2 ⟨rfl, hb2⟩; have HB2 := Lib.hid (HB.out.trans (hb2.mono HB.out.size)); clear hb2))
  go_ret
  first | exact ⟨rfl, HB2.out⟩ | exact ⟨rfl, HB.out⟩

set_option maxHeartbeats 2000000 in
theorem check_hrs1 (t : HS) (no : Int) (h0 : 0 ≤ no) (h4 : no < 4096) (p : Int) (v : Bool) (x : Int) (hp : t.n 33 = p) (hv : t.v = v) (hk : knownN no = true) (n0 : (p != 0) = true) (n1 : (p != 1) = false) (hct : ctB no = false) (l1 : (lvZ no != 1) = false) (hvv : v = false) (hx : ∀ w, Calls Try.prog 26 #[hartV t, .int .i64 no] w fun e w' => e = .returned (.int .i64 x) ∧ Below w.heap.size w w') (w : World) :
    Calls Try.prog 17 #[hartV t, .int .i64 no, .bool false] w fun e w' => e = .returned (.int .i64 x) ∧ Below w.heap.size w w' := by
  have HK : Hid (∀ w, Calls Try.prog 12 #[.int .i64 no] w fun e w' => e = .returned (.bool true) ∧ Below w.heap.size w w') := Lib.hid fun w => by
    have := known_any no w
    rw [hk] at this; exact this
  have HRO := Lib.hid fun w => onlyRead_any no h0 w
  have HCT := Lib.hid fun w => isCounter_any no w
  have HL := Lib.hid fun w => level_any no h0 w
  clear hk
  generalize roB no = ro at *
  generalize ctB no = ct at *
  subst hct
  subst hvv
  generalize lvZ no = lv at *
  have HX := Lib.hid hx
  clear hx
  go_enter Try.func17, Try.ntmps17
  go_wp2_with (first
    | (go_at_call 12; (with_reducible refine (HK.out _).mono ?_); rintro e1 w1 ⟨rfl, hb1⟩; have HR := Lib.hid ((HartB.new w t).below hb1); have HB := Lib.hid (((Below.refl _ _).alloc (Nat.le_refl _) _).trans (hb1.mono (by simp))); have d33 := HR.out.p; have d34 := HR.out.v; rw [hp] at d33; rw [hv] at d34; clear hb1)
    | ((with_reducible refine (HRO.out _).mono ?_); rintro e1 w2 ⟨rfl, rfl⟩)
    | ((with_reducible refine (HCT.out _).mono ?_); rintro e1 w2 ⟨rfl, rfl⟩)
    | ((with_reducible refine (HL.out _).mono ?_); rintro e1 w2 ⟨rfl, rfl⟩)
    | (refine wpList_load_row rfl _ _ rfl w.heap.size rfl 32 _ _ _ HR.out Try.underlying32 rfl (size_hart.trans (by rw [varr_size])) ?_)
    | ((with_reducible refine (HX.out _).mono ?_); rintro e1 w2 ⟨rfl, hb2⟩; have HB2 := Lib.hid (HB.out.trans (hb2.mono HB.out.size)); clear hb2))
  go_ret
  first | exact ⟨rfl, HB2.out⟩ | exact ⟨rfl, HB.out⟩

set_option maxHeartbeats 2000000 in
theorem check_grs2 (t : HS) (no : Int) (h0 : 0 ≤ no) (h4 : no < 4096) (p : Int) (v : Bool) (x : Int) (hp : t.n 33 = p) (hv : t.v = v) (hk : knownN no = true) (n0 : (p != 0) = true) (n1 : (p != 1) = false) (hct : ctB no = false) (l1 : (lvZ no != 1) = true) (l2 : (lvZ no != 2) = false) (hvv : v = true) (hx : ∀ w, Calls Try.prog 25 #[hartV t, .int .i64 no] w fun e w' => e = .returned (.int .i64 x) ∧ Below w.heap.size w w') (w : World) :
    Calls Try.prog 17 #[hartV t, .int .i64 no, .bool false] w fun e w' => e = .returned (.int .i64 x) ∧ Below w.heap.size w w' := by
  have HK : Hid (∀ w, Calls Try.prog 12 #[.int .i64 no] w fun e w' => e = .returned (.bool true) ∧ Below w.heap.size w w') := Lib.hid fun w => by
    have := known_any no w
    rw [hk] at this; exact this
  have HRO := Lib.hid fun w => onlyRead_any no h0 w
  have HCT := Lib.hid fun w => isCounter_any no w
  have HL := Lib.hid fun w => level_any no h0 w
  clear hk
  generalize roB no = ro at *
  generalize ctB no = ct at *
  subst hct
  subst hvv
  generalize lvZ no = lv at *
  have HX := Lib.hid hx
  clear hx
  go_enter Try.func17, Try.ntmps17
  go_wp2_with (first
    | (go_at_call 12; (with_reducible refine (HK.out _).mono ?_); rintro e1 w1 ⟨rfl, hb1⟩; have HR := Lib.hid ((HartB.new w t).below hb1); have HB := Lib.hid (((Below.refl _ _).alloc (Nat.le_refl _) _).trans (hb1.mono (by simp))); have d33 := HR.out.p; have d34 := HR.out.v; rw [hp] at d33; rw [hv] at d34; clear hb1)
    | ((with_reducible refine (HRO.out _).mono ?_); rintro e1 w2 ⟨rfl, rfl⟩)
    | ((with_reducible refine (HCT.out _).mono ?_); rintro e1 w2 ⟨rfl, rfl⟩)
    | ((with_reducible refine (HL.out _).mono ?_); rintro e1 w2 ⟨rfl, rfl⟩)
    | (refine wpList_load_row rfl _ _ rfl w.heap.size rfl 32 _ _ _ HR.out Try.underlying32 rfl (size_hart.trans (by rw [varr_size])) ?_)
    | ((with_reducible refine (HX.out _).mono ?_); rintro e1 w2 ⟨rfl, hb2⟩; have HB2 := Lib.hid (HB.out.trans (hb2.mono HB.out.size)); clear hb2))
  go_ret
  first | exact ⟨rfl, HB2.out⟩ | exact ⟨rfl, HB.out⟩

set_option maxHeartbeats 2000000 in
theorem check_hrs2 (t : HS) (no : Int) (h0 : 0 ≤ no) (h4 : no < 4096) (p : Int) (v : Bool) (x : Int) (hp : t.n 33 = p) (hv : t.v = v) (hk : knownN no = true) (n0 : (p != 0) = true) (n1 : (p != 1) = false) (hct : ctB no = false) (l1 : (lvZ no != 1) = true) (l2 : (lvZ no != 2) = false) (hvv : v = false) (hx : ∀ w, Calls Try.prog 26 #[hartV t, .int .i64 no] w fun e w' => e = .returned (.int .i64 x) ∧ Below w.heap.size w w') (w : World) :
    Calls Try.prog 17 #[hartV t, .int .i64 no, .bool false] w fun e w' => e = .returned (.int .i64 x) ∧ Below w.heap.size w w' := by
  have HK : Hid (∀ w, Calls Try.prog 12 #[.int .i64 no] w fun e w' => e = .returned (.bool true) ∧ Below w.heap.size w w') := Lib.hid fun w => by
    have := known_any no w
    rw [hk] at this; exact this
  have HRO := Lib.hid fun w => onlyRead_any no h0 w
  have HCT := Lib.hid fun w => isCounter_any no w
  have HL := Lib.hid fun w => level_any no h0 w
  clear hk
  generalize roB no = ro at *
  generalize ctB no = ct at *
  subst hct
  subst hvv
  generalize lvZ no = lv at *
  have HX := Lib.hid hx
  clear hx
  go_enter Try.func17, Try.ntmps17
  go_wp2_with (first
    | (go_at_call 12; (with_reducible refine (HK.out _).mono ?_); rintro e1 w1 ⟨rfl, hb1⟩; have HR := Lib.hid ((HartB.new w t).below hb1); have HB := Lib.hid (((Below.refl _ _).alloc (Nat.le_refl _) _).trans (hb1.mono (by simp))); have d33 := HR.out.p; have d34 := HR.out.v; rw [hp] at d33; rw [hv] at d34; clear hb1)
    | ((with_reducible refine (HRO.out _).mono ?_); rintro e1 w2 ⟨rfl, rfl⟩)
    | ((with_reducible refine (HCT.out _).mono ?_); rintro e1 w2 ⟨rfl, rfl⟩)
    | ((with_reducible refine (HL.out _).mono ?_); rintro e1 w2 ⟨rfl, rfl⟩)
    | (refine wpList_load_row rfl _ _ rfl w.heap.size rfl 32 _ _ _ HR.out Try.underlying32 rfl (size_hart.trans (by rw [varr_size])) ?_)
    | ((with_reducible refine (HX.out _).mono ?_); rintro e1 w2 ⟨rfl, hb2⟩; have HB2 := Lib.hid (HB.out.trans (hb2.mono HB.out.size)); clear hb2))
  go_ret
  first | exact ⟨rfl, HB2.out⟩ | exact ⟨rfl, HB.out⟩

set_option maxHeartbeats 2000000 in
theorem check_mw (t : HS) (no : Int) (h0 : 0 ≤ no) (h4 : no < 4096) (p : Int) (v : Bool) (hp : t.n 33 = p) (hv : t.v = v) (hk : knownN no = true) (hro : roB no = false) (n0 : (p != 0) = true) (n1 : (p != 1) = true) (w : World) :
    Calls Try.prog 17 #[hartV t, .int .i64 no, .bool true] w fun e w' => e = .returned (.int .i64 0) ∧ Below w.heap.size w w' := by
  have HK : Hid (∀ w, Calls Try.prog 12 #[.int .i64 no] w fun e w' => e = .returned (.bool true) ∧ Below w.heap.size w w') := Lib.hid fun w => by
    have := known_any no w
    rw [hk] at this; exact this
  have HRO := Lib.hid fun w => onlyRead_any no h0 w
  have HCT := Lib.hid fun w => isCounter_any no w
  have HL := Lib.hid fun w => level_any no h0 w
  clear hk
  generalize roB no = ro at *
  subst hro
  generalize ctB no = ct at *
  generalize lvZ no = lv at *
  have HX := HL
  go_enter Try.func17, Try.ntmps17
  go_wp2_with (first
    | (go_at_call 12; (with_reducible refine (HK.out _).mono ?_); rintro e1 w1 ⟨rfl, hb1⟩; have HR := Lib.hid ((HartB.new w t).below hb1); have HB := Lib.hid (((Below.refl _ _).alloc (Nat.le_refl _) _).trans (hb1.mono (by simp))); have d33 := HR.out.p; have d34 := HR.out.v; rw [hp] at d33; rw [hv] at d34; clear hb1)
    | ((with_reducible refine (HRO.out _).mono ?_); rintro e1 w2 ⟨rfl, rfl⟩)
    | ((with_reducible refine (HCT.out _).mono ?_); rintro e1 w2 ⟨rfl, rfl⟩)
    | ((with_reducible refine (HL.out _).mono ?_); rintro e1 w2 ⟨rfl, rfl⟩)
    | (refine wpList_load_row rfl _ _ rfl w.heap.size rfl 32 _ _ _ HR.out Try.underlying32 rfl (size_hart.trans (by rw [varr_size])) ?_)
    | ((with_reducible refine (HX.out _).mono ?_); rintro e1 w2 ⟨rfl, hb2⟩; have HB2 := Lib.hid (HB.out.trans (hb2.mono HB.out.size)); clear hb2))
  go_ret
  first | exact ⟨rfl, HB2.out⟩ | exact ⟨rfl, HB.out⟩

set_option maxHeartbeats 2000000 in
theorem check_cwu (t : HS) (no : Int) (h0 : 0 ≤ no) (h4 : no < 4096) (p : Int) (v : Bool) (x : Int) (hp : t.n 33 = p) (hv : t.v = v) (hk : knownN no = true) (hro : roB no = false) (n0 : (p != 0) = false) (hct : ctB no = true) (hx : ∀ w, Calls Try.prog 23 #[hartV t, .int .i64 (no - 3072)] w fun e w' => e = .returned (.int .i64 x) ∧ Below w.heap.size w w') (w : World) :
    Calls Try.prog 17 #[hartV t, .int .i64 no, .bool true] w fun e w' => e = .returned (.int .i64 x) ∧ Below w.heap.size w w' := by
  have HK : Hid (∀ w, Calls Try.prog 12 #[.int .i64 no] w fun e w' => e = .returned (.bool true) ∧ Below w.heap.size w w') := Lib.hid fun w => by
    have := known_any no w
    rw [hk] at this; exact this
  have HRO := Lib.hid fun w => onlyRead_any no h0 w
  have HCT := Lib.hid fun w => isCounter_any no w
  have HL := Lib.hid fun w => level_any no h0 w
  clear hk
  generalize roB no = ro at *
  subst hro
  generalize ctB no = ct at *
  subst hct
  generalize lvZ no = lv at *
  have HX := Lib.hid hx
  clear hx
  go_enter Try.func17, Try.ntmps17
  go_wp2_with (first
    | (go_at_call 12; (with_reducible refine (HK.out _).mono ?_); rintro e1 w1 ⟨rfl, hb1⟩; have HR := Lib.hid ((HartB.new w t).below hb1); have HB := Lib.hid (((Below.refl _ _).alloc (Nat.le_refl _) _).trans (hb1.mono (by simp))); have d33 := HR.out.p; have d34 := HR.out.v; rw [hp] at d33; rw [hv] at d34; clear hb1)
    | ((with_reducible refine (HRO.out _).mono ?_); rintro e1 w2 ⟨rfl, rfl⟩)
    | ((with_reducible refine (HCT.out _).mono ?_); rintro e1 w2 ⟨rfl, rfl⟩)
    | ((with_reducible refine (HL.out _).mono ?_); rintro e1 w2 ⟨rfl, rfl⟩)
    | (refine wpList_load_row rfl _ _ rfl w.heap.size rfl 32 _ _ _ HR.out Try.underlying32 rfl (size_hart.trans (by rw [varr_size])) ?_)
    | ((with_reducible refine (HX.out _).mono ?_); rintro e1 w2 ⟨rfl, hb2⟩; have HB2 := Lib.hid (HB.out.trans (hb2.mono HB.out.size)); clear hb2))
  go_ret
  first | exact ⟨rfl, HB2.out⟩ | exact ⟨rfl, HB.out⟩

set_option maxHeartbeats 2000000 in
theorem check_lwu (t : HS) (no : Int) (h0 : 0 ≤ no) (h4 : no < 4096) (p : Int) (v : Bool) (hp : t.n 33 = p) (hv : t.v = v) (hk : knownN no = true) (hro : roB no = false) (n0 : (p != 0) = false) (hct : ctB no = false) (l1 : (lvZ no != 1) = true) (l2 : (lvZ no != 2) = true) (w : World) :
    Calls Try.prog 17 #[hartV t, .int .i64 no, .bool true] w fun e w' => e = .returned (.int .i64 2) ∧ Below w.heap.size w w' := by
  have HK : Hid (∀ w, Calls Try.prog 12 #[.int .i64 no] w fun e w' => e = .returned (.bool true) ∧ Below w.heap.size w w') := Lib.hid fun w => by
    have := known_any no w
    rw [hk] at this; exact this
  have HRO := Lib.hid fun w => onlyRead_any no h0 w
  have HCT := Lib.hid fun w => isCounter_any no w
  have HL := Lib.hid fun w => level_any no h0 w
  clear hk
  generalize roB no = ro at *
  subst hro
  generalize ctB no = ct at *
  subst hct
  generalize lvZ no = lv at *
  have HX := HL
  go_enter Try.func17, Try.ntmps17
  go_wp2_with (first
    | (go_at_call 12; (with_reducible refine (HK.out _).mono ?_); rintro e1 w1 ⟨rfl, hb1⟩; have HR := Lib.hid ((HartB.new w t).below hb1); have HB := Lib.hid (((Below.refl _ _).alloc (Nat.le_refl _) _).trans (hb1.mono (by simp))); have d33 := HR.out.p; have d34 := HR.out.v; rw [hp] at d33; rw [hv] at d34; clear hb1)
    | ((with_reducible refine (HRO.out _).mono ?_); rintro e1 w2 ⟨rfl, rfl⟩)
    | ((with_reducible refine (HCT.out _).mono ?_); rintro e1 w2 ⟨rfl, rfl⟩)
    | ((with_reducible refine (HL.out _).mono ?_); rintro e1 w2 ⟨rfl, rfl⟩)
    | (refine wpList_load_row rfl _ _ rfl w.heap.size rfl 32 _ _ _ HR.out Try.underlying32 rfl (size_hart.trans (by rw [varr_size])) ?_)
    | ((with_reducible refine (HX.out _).mono ?_); rintro e1 w2 ⟨rfl, hb2⟩; have HB2 := Lib.hid (HB.out.trans (hb2.mono HB.out.size)); clear hb2))
  go_ret
  first | exact ⟨rfl, HB2.out⟩ | exact ⟨rfl, HB.out⟩

set_option maxHeartbeats 2000000 in
theorem check_gwu1 (t : HS) (no : Int) (h0 : 0 ≤ no) (h4 : no < 4096) (p : Int) (v : Bool) (x : Int) (hp : t.n 33 = p) (hv : t.v = v) (hk : knownN no = true) (hro : roB no = false) (n0 : (p != 0) = false) (hct : ctB no = false) (l1 : (lvZ no != 1) = false) (hvv : v = true) (hx : ∀ w, Calls Try.prog 25 #[hartV t, .int .i64 no] w fun e w' => e = .returned (.int .i64 x) ∧ Below w.heap.size w w') (w : World) :
    Calls Try.prog 17 #[hartV t, .int .i64 no, .bool true] w fun e w' => e = .returned (.int .i64 x) ∧ Below w.heap.size w w' := by
  have HK : Hid (∀ w, Calls Try.prog 12 #[.int .i64 no] w fun e w' => e = .returned (.bool true) ∧ Below w.heap.size w w') := Lib.hid fun w => by
    have := known_any no w
    rw [hk] at this; exact this
  have HRO := Lib.hid fun w => onlyRead_any no h0 w
  have HCT := Lib.hid fun w => isCounter_any no w
  have HL := Lib.hid fun w => level_any no h0 w
  clear hk
  generalize roB no = ro at *
  subst hro
  generalize ctB no = ct at *
  subst hct
  subst hvv
  generalize lvZ no = lv at *
  have HX := Lib.hid hx
  clear hx
  go_enter Try.func17, Try.ntmps17
  go_wp2_with (first
    | (go_at_call 12; (with_reducible refine (HK.out _).mono ?_); rintro e1 w1 ⟨rfl, hb1⟩; have HR := Lib.hid ((HartB.new w t).below hb1); have HB := Lib.hid (((Below.refl _ _).alloc (Nat.le_refl _) _).trans (hb1.mono (by simp))); have d33 := HR.out.p; have d34 := HR.out.v; rw [hp] at d33; rw [hv] at d34; clear hb1)
    | ((with_reducible refine (HRO.out _).mono ?_); rintro e1 w2 ⟨rfl, rfl⟩)
    | ((with_reducible refine (HCT.out _).mono ?_); rintro e1 w2 ⟨rfl, rfl⟩)
    | ((with_reducible refine (HL.out _).mono ?_); rintro e1 w2 ⟨rfl, rfl⟩)
    | (refine wpList_load_row rfl _ _ rfl w.heap.size rfl 32 _ _ _ HR.out Try.underlying32 rfl (size_hart.trans (by rw [varr_size])) ?_)
    | ((with_reducible refine (HX.out _).mono ?_); rintro e1 w2 ⟨rfl, hb2⟩; have HB2 := Lib.hid (HB.out.trans (hb2.mono HB.out.size)); clear hb2))
  go_ret
  first | exact ⟨rfl, HB2.out⟩ | exact ⟨rfl, HB.out⟩

set_option maxHeartbeats 2000000 in
theorem check_hwu1 (t : HS) (no : Int) (h0 : 0 ≤ no) (h4 : no < 4096) (p : Int) (v : Bool) (x : Int) (hp : t.n 33 = p) (hv : t.v = v) (hk : knownN no = true) (hro : roB no = false) (n0 : (p != 0) = false) (hct : ctB no = false) (l1 : (lvZ no != 1) = false) (hvv : v = false) (hx : ∀ w, Calls Try.prog 26 #[hartV t, .int .i64 no] w fun e w' => e = .returned (.int .i64 x) ∧ Below w.heap.size w w') (w : World) :
    Calls Try.prog 17 #[hartV t, .int .i64 no, .bool true] w fun e w' => e = .returned (.int .i64 x) ∧ Below w.heap.size w w' := by
  have HK : Hid (∀ w, Calls Try.prog 12 #[.int .i64 no] w fun e w' => e = .returned (.bool true) ∧ Below w.heap.size w w') := Lib.hid fun w => by
    have := known_any no w
    rw [hk] at this; exact this
  have HRO := Lib.hid fun w => onlyRead_any no h0 w
  have HCT := Lib.hid fun w => isCounter_any no w
  have HL := Lib.hid fun w => level_any no h0 w
  clear hk
  generalize roB no = ro at *
  subst hro
  generalize ctB no = ct at *
  subst hct
  subst hvv
  generalize lvZ no = lv at *
  have HX := Lib.hid hx
  clear hx
  go_enter Try.func17, Try.ntmps17
  go_wp2_with (first
    | (go_at_call 12; (with_reducible refine (HK.out _).mono ?_); rintro e1 w1 ⟨rfl, hb1⟩; have HR := Lib.hid ((HartB.new w t).below hb1); have HB := Lib.hid (((Below.refl _ _).alloc (Nat.le_refl _) _).trans (hb1.mono (by simp))); have d33 := HR.out.p; have d34 := HR.out.v; rw [hp] at d33; rw [hv] at d34; clear hb1)
    | ((with_reducible refine (HRO.out _).mono ?_); rintro e1 w2 ⟨rfl, rfl⟩)
    | ((with_reducible refine (HCT.out _).mono ?_); rintro e1 w2 ⟨rfl, rfl⟩)
    | ((with_reducible refine (HL.out _).mono ?_); rintro e1 w2 ⟨rfl, rfl⟩)
    | (refine wpList_load_row rfl _ _ rfl w.heap.size rfl 32 _ _ _ HR.out Try.underlying32 rfl (size_hart.trans (by rw [varr_size])) ?_)
    | ((with_reducible refine (HX.out _).mono ?_); rintro e1 w2 ⟨rfl, hb2⟩; have HB2 := Lib.hid (HB.out.trans (hb2.mono HB.out.size)); clear hb2))
  go_ret
  first | exact ⟨rfl, HB2.out⟩ | exact ⟨rfl, HB.out⟩

set_option maxHeartbeats 2000000 in
theorem check_gwu2 (t : HS) (no : Int) (h0 : 0 ≤ no) (h4 : no < 4096) (p : Int) (v : Bool) (x : Int) (hp : t.n 33 = p) (hv : t.v = v) (hk : knownN no = true) (hro : roB no = false) (n0 : (p != 0) = false) (hct : ctB no = false) (l1 : (lvZ no != 1) = true) (l2 : (lvZ no != 2) = false) (hvv : v = true) (hx : ∀ w, Calls Try.prog 25 #[hartV t, .int .i64 no] w fun e w' => e = .returned (.int .i64 x) ∧ Below w.heap.size w w') (w : World) :
    Calls Try.prog 17 #[hartV t, .int .i64 no, .bool true] w fun e w' => e = .returned (.int .i64 x) ∧ Below w.heap.size w w' := by
  have HK : Hid (∀ w, Calls Try.prog 12 #[.int .i64 no] w fun e w' => e = .returned (.bool true) ∧ Below w.heap.size w w') := Lib.hid fun w => by
    have := known_any no w
    rw [hk] at this; exact this
  have HRO := Lib.hid fun w => onlyRead_any no h0 w
  have HCT := Lib.hid fun w => isCounter_any no w
  have HL := Lib.hid fun w => level_any no h0 w
  clear hk
  generalize roB no = ro at *
  subst hro
  generalize ctB no = ct at *
  subst hct
  subst hvv
  generalize lvZ no = lv at *
  have HX := Lib.hid hx
  clear hx
  go_enter Try.func17, Try.ntmps17
  go_wp2_with (first
    | (go_at_call 12; (with_reducible refine (HK.out _).mono ?_); rintro e1 w1 ⟨rfl, hb1⟩; have HR := Lib.hid ((HartB.new w t).below hb1); have HB := Lib.hid (((Below.refl _ _).alloc (Nat.le_refl _) _).trans (hb1.mono (by simp))); have d33 := HR.out.p; have d34 := HR.out.v; rw [hp] at d33; rw [hv] at d34; clear hb1)
    | ((with_reducible refine (HRO.out _).mono ?_); rintro e1 w2 ⟨rfl, rfl⟩)
    | ((with_reducible refine (HCT.out _).mono ?_); rintro e1 w2 ⟨rfl, rfl⟩)
    | ((with_reducible refine (HL.out _).mono ?_); rintro e1 w2 ⟨rfl, rfl⟩)
    | (refine wpList_load_row rfl _ _ rfl w.heap.size rfl 32 _ _ _ HR.out Try.underlying32 rfl (size_hart.trans (by rw [varr_size])) ?_)
    | ((with_reducible refine (HX.out _).mono ?_); rintro e1 w2 ⟨rfl, hb2⟩; have HB2 := Lib.hid (HB.out.trans (hb2.mono HB.out.size)); clear hb2))
  go_ret
  first | exact ⟨rfl, HB2.out⟩ | exact ⟨rfl, HB.out⟩

set_option maxHeartbeats 2000000 in
theorem check_hwu2 (t : HS) (no : Int) (h0 : 0 ≤ no) (h4 : no < 4096) (p : Int) (v : Bool) (x : Int) (hp : t.n 33 = p) (hv : t.v = v) (hk : knownN no = true) (hro : roB no = false) (n0 : (p != 0) = false) (hct : ctB no = false) (l1 : (lvZ no != 1) = true) (l2 : (lvZ no != 2) = false) (hvv : v = false) (hx : ∀ w, Calls Try.prog 26 #[hartV t, .int .i64 no] w fun e w' => e = .returned (.int .i64 x) ∧ Below w.heap.size w w') (w : World) :
    Calls Try.prog 17 #[hartV t, .int .i64 no, .bool true] w fun e w' => e = .returned (.int .i64 x) ∧ Below w.heap.size w w' := by
  have HK : Hid (∀ w, Calls Try.prog 12 #[.int .i64 no] w fun e w' => e = .returned (.bool true) ∧ Below w.heap.size w w') := Lib.hid fun w => by
    have := known_any no w
    rw [hk] at this; exact this
  have HRO := Lib.hid fun w => onlyRead_any no h0 w
  have HCT := Lib.hid fun w => isCounter_any no w
  have HL := Lib.hid fun w => level_any no h0 w
  clear hk
  generalize roB no = ro at *
  subst hro
  generalize ctB no = ct at *
  subst hct
  subst hvv
  generalize lvZ no = lv at *
  have HX := Lib.hid hx
  clear hx
  go_enter Try.func17, Try.ntmps17
  go_wp2_with (first
    | (go_at_call 12; (with_reducible refine (HK.out _).mono ?_); rintro e1 w1 ⟨rfl, hb1⟩; have HR := Lib.hid ((HartB.new w t).below hb1); have HB := Lib.hid (((Below.refl _ _).alloc (Nat.le_refl _) _).trans (hb1.mono (by simp))); have d33 := HR.out.p; have d34 := HR.out.v; rw [hp] at d33; rw [hv] at d34; clear hb1)
    | ((with_reducible refine (HRO.out _).mono ?_); rintro e1 w2 ⟨rfl, rfl⟩)
    | ((with_reducible refine (HCT.out _).mono ?_); rintro e1 w2 ⟨rfl, rfl⟩)
    | ((with_reducible refine (HL.out _).mono ?_); rintro e1 w2 ⟨rfl, rfl⟩)
    | (refine wpList_load_row rfl _ _ rfl w.heap.size rfl 32 _ _ _ HR.out Try.underlying32 rfl (size_hart.trans (by rw [varr_size])) ?_)
    | ((with_reducible refine (HX.out _).mono ?_); rintro e1 w2 ⟨rfl, hb2⟩; have HB2 := Lib.hid (HB.out.trans (hb2.mono HB.out.size)); clear hb2))
  go_ret
  first | exact ⟨rfl, HB2.out⟩ | exact ⟨rfl, HB.out⟩

set_option maxHeartbeats 2000000 in
theorem check_cws (t : HS) (no : Int) (h0 : 0 ≤ no) (h4 : no < 4096) (p : Int) (v : Bool) (x : Int) (hp : t.n 33 = p) (hv : t.v = v) (hk : knownN no = true) (hro : roB no = false) (n0 : (p != 0) = true) (n1 : (p != 1) = false) (hct : ctB no = true) (hx : ∀ w, Calls Try.prog 23 #[hartV t, .int .i64 (no - 3072)] w fun e w' => e = .returned (.int .i64 x) ∧ Below w.heap.size w w') (w : World) :
    Calls Try.prog 17 #[hartV t, .int .i64 no, .bool true] w fun e w' => e = .returned (.int .i64 x) ∧ Below w.heap.size w w' := by
  have HK : Hid (∀ w, Calls Try.prog 12 #[.int .i64 no] w fun e w' => e = .returned (.bool true) ∧ Below w.heap.size w w') := Lib.hid fun w => by
    have := known_any no w
    rw [hk] at this; exact this
  have HRO := Lib.hid fun w => onlyRead_any no h0 w
  have HCT := Lib.hid fun w => isCounter_any no w
  have HL := Lib.hid fun w => level_any no h0 w
  clear hk
  generalize roB no = ro at *
  subst hro
  generalize ctB no = ct at *
  subst hct
  generalize lvZ no = lv at *
  have HX := Lib.hid hx
  clear hx
  go_enter Try.func17, Try.ntmps17
  go_wp2_with (first
    | (go_at_call 12; (with_reducible refine (HK.out _).mono ?_); rintro e1 w1 ⟨rfl, hb1⟩; have HR := Lib.hid ((HartB.new w t).below hb1); have HB := Lib.hid (((Below.refl _ _).alloc (Nat.le_refl _) _).trans (hb1.mono (by simp))); have d33 := HR.out.p; have d34 := HR.out.v; rw [hp] at d33; rw [hv] at d34; clear hb1)
    | ((with_reducible refine (HRO.out _).mono ?_); rintro e1 w2 ⟨rfl, rfl⟩)
    | ((with_reducible refine (HCT.out _).mono ?_); rintro e1 w2 ⟨rfl, rfl⟩)
    | ((with_reducible refine (HL.out _).mono ?_); rintro e1 w2 ⟨rfl, rfl⟩)
    | (refine wpList_load_row rfl _ _ rfl w.heap.size rfl 32 _ _ _ HR.out Try.underlying32 rfl (size_hart.trans (by rw [varr_size])) ?_)
    | ((with_reducible refine (HX.out _).mono ?_); rintro e1 w2 ⟨rfl, hb2⟩; have HB2 := Lib.hid (HB.out.trans (hb2.mono HB.out.size)); clear hb2))
  go_ret
  first | exact ⟨rfl, HB2.out⟩ | exact ⟨rfl, HB.out⟩

set_option maxHeartbeats 2000000 in
theorem check_lws (t : HS) (no : Int) (h0 : 0 ≤ no) (h4 : no < 4096) (p : Int) (v : Bool) (hp : t.n 33 = p) (hv : t.v = v) (hk : knownN no = true) (hro : roB no = false) (n0 : (p != 0) = true) (n1 : (p != 1) = false) (hct : ctB no = false) (l1 : (lvZ no != 1) = true) (l2 : (lvZ no != 2) = true) (w : World) :
    Calls Try.prog 17 #[hartV t, .int .i64 no, .bool true] w fun e w' => e = .returned (.int .i64 2) ∧ Below w.heap.size w w' := by
  have HK : Hid (∀ w, Calls Try.prog 12 #[.int .i64 no] w fun e w' => e = .returned (.bool true) ∧ Below w.heap.size w w') := Lib.hid fun w => by
    have := known_any no w
    rw [hk] at this; exact this
  have HRO := Lib.hid fun w => onlyRead_any no h0 w
  have HCT := Lib.hid fun w => isCounter_any no w
  have HL := Lib.hid fun w => level_any no h0 w
  clear hk
  generalize roB no = ro at *
  subst hro
  generalize ctB no = ct at *
  subst hct
  generalize lvZ no = lv at *
  have HX := HL
  go_enter Try.func17, Try.ntmps17
  go_wp2_with (first
    | (go_at_call 12; (with_reducible refine (HK.out _).mono ?_); rintro e1 w1 ⟨rfl, hb1⟩; have HR := Lib.hid ((HartB.new w t).below hb1); have HB := Lib.hid (((Below.refl _ _).alloc (Nat.le_refl _) _).trans (hb1.mono (by simp))); have d33 := HR.out.p; have d34 := HR.out.v; rw [hp] at d33; rw [hv] at d34; clear hb1)
    | ((with_reducible refine (HRO.out _).mono ?_); rintro e1 w2 ⟨rfl, rfl⟩)
    | ((with_reducible refine (HCT.out _).mono ?_); rintro e1 w2 ⟨rfl, rfl⟩)
    | ((with_reducible refine (HL.out _).mono ?_); rintro e1 w2 ⟨rfl, rfl⟩)
    | (refine wpList_load_row rfl _ _ rfl w.heap.size rfl 32 _ _ _ HR.out Try.underlying32 rfl (size_hart.trans (by rw [varr_size])) ?_)
    | ((with_reducible refine (HX.out _).mono ?_); rintro e1 w2 ⟨rfl, hb2⟩; have HB2 := Lib.hid (HB.out.trans (hb2.mono HB.out.size)); clear hb2))
  go_ret
  first | exact ⟨rfl, HB2.out⟩ | exact ⟨rfl, HB.out⟩

set_option maxHeartbeats 2000000 in
theorem check_gws1 (t : HS) (no : Int) (h0 : 0 ≤ no) (h4 : no < 4096) (p : Int) (v : Bool) (x : Int) (hp : t.n 33 = p) (hv : t.v = v) (hk : knownN no = true) (hro : roB no = false) (n0 : (p != 0) = true) (n1 : (p != 1) = false) (hct : ctB no = false) (l1 : (lvZ no != 1) = false) (hvv : v = true) (hx : ∀ w, Calls Try.prog 25 #[hartV t, .int .i64 no] w fun e w' => e = .returned (.int .i64 x) ∧ Below w.heap.size w w') (w : World) :
    Calls Try.prog 17 #[hartV t, .int .i64 no, .bool true] w fun e w' => e = .returned (.int .i64 x) ∧ Below w.heap.size w w' := by
  have HK : Hid (∀ w, Calls Try.prog 12 #[.int .i64 no] w fun e w' => e = .returned (.bool true) ∧ Below w.heap.size w w') := Lib.hid fun w => by
    have := known_any no w
    rw [hk] at this; exact this
  have HRO := Lib.hid fun w => onlyRead_any no h0 w
  have HCT := Lib.hid fun w => isCounter_any no w
  have HL := Lib.hid fun w => level_any no h0 w
  clear hk
  generalize roB no = ro at *
  subst hro
  generalize ctB no = ct at *
  subst hct
  subst hvv
  generalize lvZ no = lv at *
  have HX := Lib.hid hx
  clear hx
  go_enter Try.func17, Try.ntmps17
  go_wp2_with (first
    | (go_at_call 12; (with_reducible refine (HK.out _).mono ?_); rintro e1 w1 ⟨rfl, hb1⟩; have HR := Lib.hid ((HartB.new w t).below hb1); have HB := Lib.hid (((Below.refl _ _).alloc (Nat.le_refl _) _).trans (hb1.mono (by simp))); have d33 := HR.out.p; have d34 := HR.out.v; rw [hp] at d33; rw [hv] at d34; clear hb1)
    | ((with_reducible refine (HRO.out _).mono ?_); rintro e1 w2 ⟨rfl, rfl⟩)
    | ((with_reducible refine (HCT.out _).mono ?_); rintro e1 w2 ⟨rfl, rfl⟩)
    | ((with_reducible refine (HL.out _).mono ?_); rintro e1 w2 ⟨rfl, rfl⟩)
    | (refine wpList_load_row rfl _ _ rfl w.heap.size rfl 32 _ _ _ HR.out Try.underlying32 rfl (size_hart.trans (by rw [varr_size])) ?_)
    | ((with_reducible refine (HX.out _).mono ?_); rintro e1 w2 ⟨rfl, hb2⟩; have HB2 := Lib.hid (HB.out.trans (hb2.mono HB.out.size)); clear hb2))
  go_ret
  first | exact ⟨rfl, HB2.out⟩ | exact ⟨rfl, HB.out⟩

set_option maxHeartbeats 2000000 in
theorem check_hws1 (t : HS) (no : Int) (h0 : 0 ≤ no) (h4 : no < 4096) (p : Int) (v : Bool) (x : Int) (hp : t.n 33 = p) (hv : t.v = v) (hk : knownN no = true) (hro : roB no = false) (n0 : (p != 0) = true) (n1 : (p != 1) = false) (hct : ctB no = false) (l1 : (lvZ no != 1) = false) (hvv : v = false) (hx : ∀ w, Calls Try.prog 26 #[hartV t, .int .i64 no] w fun e w' => e = .returned (.int .i64 x) ∧ Below w.heap.size w w') (w : World) :
    Calls Try.prog 17 #[hartV t, .int .i64 no, .bool true] w fun e w' => e = .returned (.int .i64 x) ∧ Below w.heap.size w w' := by
  have HK : Hid (∀ w, Calls Try.prog 12 #[.int .i64 no] w fun e w' => e = .returned (.bool true) ∧ Below w.heap.size w w') := Lib.hid fun w => by
    have := known_any no w
    rw [hk] at this; exact this
  have HRO := Lib.hid fun w => onlyRead_any no h0 w
  have HCT := Lib.hid fun w => isCounter_any no w
  have HL := Lib.hid fun w => level_any no h0 w
  clear hk
  generalize roB no = ro at *
  subst hro
  generalize ctB no = ct at *
  subst hct
  subst hvv
  generalize lvZ no = lv at *
  have HX := Lib.hid hx
  clear hx
  go_enter Try.func17, Try.ntmps17
  go_wp2_with (first
    | (go_at_call 12; (with_reducible refine (HK.out _).mono ?_); rintro e1 w1 ⟨rfl, hb1⟩; have HR := Lib.hid ((HartB.new w t).below hb1); have HB := Lib.hid (((Below.refl _ _).alloc (Nat.le_refl _) _).trans (hb1.mono (by simp))); have d33 := HR.out.p; have d34 := HR.out.v; rw [hp] at d33; rw [hv] at d34; clear hb1)
    | ((with_reducible refine (HRO.out _).mono ?_); rintro e1 w2 ⟨rfl, rfl⟩)
    | ((with_reducible refine (HCT.out _).mono ?_); rintro e1 w2 ⟨rfl, rfl⟩)
    | ((with_reducible refine (HL.out _).mono ?_); rintro e1 w2 ⟨rfl, rfl⟩)
    | (refine wpList_load_row rfl _ _ rfl w.heap.size rfl 32 _ _ _ HR.out Try.underlying32 rfl (size_hart.trans (by rw [varr_size])) ?_)
    | ((with_reducible refine (HX.out _).mono ?_); rintro e1 w2 ⟨rfl, hb2⟩; have HB2 := Lib.hid (HB.out.trans (hb2.mono HB.out.size)); clear hb2))
  go_ret
  first | exact ⟨rfl, HB2.out⟩ | exact ⟨rfl, HB.out⟩

set_option maxHeartbeats 2000000 in
theorem check_gws2 (t : HS) (no : Int) (h0 : 0 ≤ no) (h4 : no < 4096) (p : Int) (v : Bool) (x : Int) (hp : t.n 33 = p) (hv : t.v = v) (hk : knownN no = true) (hro : roB no = false) (n0 : (p != 0) = true) (n1 : (p != 1) = false) (hct : ctB no = false) (l1 : (lvZ no != 1) = true) (l2 : (lvZ no != 2) = false) (hvv : v = true) (hx : ∀ w, Calls Try.prog 25 #[hartV t, .int .i64 no] w fun e w' => e = .returned (.int .i64 x) ∧ Below w.heap.size w w') (w : World) :
    Calls Try.prog 17 #[hartV t, .int .i64 no, .bool true] w fun e w' => e = .returned (.int .i64 x) ∧ Below w.heap.size w w' := by
  have HK : Hid (∀ w, Calls Try.prog 12 #[.int .i64 no] w fun e w' => e = .returned (.bool true) ∧ Below w.heap.size w w') := Lib.hid fun w => by
    have := known_any no w
    rw [hk] at this; exact this
  have HRO := Lib.hid fun w => onlyRead_any no h0 w
  have HCT := Lib.hid fun w => isCounter_any no w
  have HL := Lib.hid fun w => level_any no h0 w
  clear hk
  generalize roB no = ro at *
  subst hro
  generalize ctB no = ct at *
  subst hct
  subst hvv
  generalize lvZ no = lv at *
  have HX := Lib.hid hx
  clear hx
  go_enter Try.func17, Try.ntmps17
  go_wp2_with (first
    | (go_at_call 12; (with_reducible refine (HK.out _).mono ?_); rintro e1 w1 ⟨rfl, hb1⟩; have HR := Lib.hid ((HartB.new w t).below hb1); have HB := Lib.hid (((Below.refl _ _).alloc (Nat.le_refl _) _).trans (hb1.mono (by simp))); have d33 := HR.out.p; have d34 := HR.out.v; rw [hp] at d33; rw [hv] at d34; clear hb1)
    | ((with_reducible refine (HRO.out _).mono ?_); rintro e1 w2 ⟨rfl, rfl⟩)
    | ((with_reducible refine (HCT.out _).mono ?_); rintro e1 w2 ⟨rfl, rfl⟩)
    | ((with_reducible refine (HL.out _).mono ?_); rintro e1 w2 ⟨rfl, rfl⟩)
    | (refine wpList_load_row rfl _ _ rfl w.heap.size rfl 32 _ _ _ HR.out Try.underlying32 rfl (size_hart.trans (by rw [varr_size])) ?_)
    | ((with_reducible refine (HX.out _).mono ?_); rintro e1 w2 ⟨rfl, hb2⟩; have HB2 := Lib.hid (HB.out.trans (hb2.mono HB.out.size)); clear hb2))
  go_ret
  first | exact ⟨rfl, HB2.out⟩ | exact ⟨rfl, HB.out⟩

set_option maxHeartbeats 2000000 in
theorem check_hws2 (t : HS) (no : Int) (h0 : 0 ≤ no) (h4 : no < 4096) (p : Int) (v : Bool) (x : Int) (hp : t.n 33 = p) (hv : t.v = v) (hk : knownN no = true) (hro : roB no = false) (n0 : (p != 0) = true) (n1 : (p != 1) = false) (hct : ctB no = false) (l1 : (lvZ no != 1) = true) (l2 : (lvZ no != 2) = false) (hvv : v = false) (hx : ∀ w, Calls Try.prog 26 #[hartV t, .int .i64 no] w fun e w' => e = .returned (.int .i64 x) ∧ Below w.heap.size w w') (w : World) :
    Calls Try.prog 17 #[hartV t, .int .i64 no, .bool true] w fun e w' => e = .returned (.int .i64 x) ∧ Below w.heap.size w w' := by
  have HK : Hid (∀ w, Calls Try.prog 12 #[.int .i64 no] w fun e w' => e = .returned (.bool true) ∧ Below w.heap.size w w') := Lib.hid fun w => by
    have := known_any no w
    rw [hk] at this; exact this
  have HRO := Lib.hid fun w => onlyRead_any no h0 w
  have HCT := Lib.hid fun w => isCounter_any no w
  have HL := Lib.hid fun w => level_any no h0 w
  clear hk
  generalize roB no = ro at *
  subst hro
  generalize ctB no = ct at *
  subst hct
  subst hvv
  generalize lvZ no = lv at *
  have HX := Lib.hid hx
  clear hx
  go_enter Try.func17, Try.ntmps17
  go_wp2_with (first
    | (go_at_call 12; (with_reducible refine (HK.out _).mono ?_); rintro e1 w1 ⟨rfl, hb1⟩; have HR := Lib.hid ((HartB.new w t).below hb1); have HB := Lib.hid (((Below.refl _ _).alloc (Nat.le_refl _) _).trans (hb1.mono (by simp))); have d33 := HR.out.p; have d34 := HR.out.v; rw [hp] at d33; rw [hv] at d34; clear hb1)
    | ((with_reducible refine (HRO.out _).mono ?_); rintro e1 w2 ⟨rfl, rfl⟩)
    | ((with_reducible refine (HCT.out _).mono ?_); rintro e1 w2 ⟨rfl, rfl⟩)
    | ((with_reducible refine (HL.out _).mono ?_); rintro e1 w2 ⟨rfl, rfl⟩)
    | (refine wpList_load_row rfl _ _ rfl w.heap.size rfl 32 _ _ _ HR.out Try.underlying32 rfl (size_hart.trans (by rw [varr_size])) ?_)
    | ((with_reducible refine (HX.out _).mono ?_); rintro e1 w2 ⟨rfl, hb2⟩; have HB2 := Lib.hid (HB.out.trans (hb2.mono HB.out.size)); clear hb2))
  go_ret
  first | exact ⟨rfl, HB2.out⟩ | exact ⟨rfl, HB.out⟩

theorem check_no (t : HS) (no : Int) (wr : Bool) (hk : knownN no = false) (w : World) :
    Calls Try.prog 17 #[hartV t, .int .i64 no, .bool wr] w fun e w' => e = .returned (.int .i64 2) ∧ Below w.heap.size w w' := by
  have HK : Hid (∀ w, Calls Try.prog 12 #[.int .i64 no] w fun e w' => e = .returned (.bool false) ∧ Below w.heap.size w w') := Lib.hid fun w => by
    have := known_any no w
    rw [hk] at this; exact this
  clear hk
  go_enter Try.func17, Try.ntmps17
  go_wp2_with ((with_reducible refine (HK.out _).mono ?_); rintro e1 w1 ⟨rfl, hb1⟩; have HB := Lib.hid (((Below.refl _ _).alloc (Nat.le_refl _) _).trans (hb1.mono (by simp))); clear hb1)
  go_ret
  exact ⟨rfl, HB.out⟩
end Go.Proofs.Ytcnalabhcalfnaa
