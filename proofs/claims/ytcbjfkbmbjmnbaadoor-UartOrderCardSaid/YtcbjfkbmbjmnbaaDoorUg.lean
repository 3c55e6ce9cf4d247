/- Layer 6: the program's uart: Write. -/
import Derived.Test.YtcbjfkbmbjmnbaaDoorUf
namespace Go.Proofs.YtcbjfkbmbjmnbaaDoor
open Go.RowKit
set_option linter.unusedVariables false

theorem find_at (w : World) (b : Nat) (F : Nat → Prop) (t : US) (vi vo : Value) (h : HP w b F t vi vo) (off n : Int) (ho : In64 off) (z : Int) (hz : (plK t off n : Int) = z) (h10 : z < 10) :
    Calls Tryd.prog 26 #[.pointer (some ⟨b, 0, none⟩), .int .u64 off, .int .i64 n] w fun e w' => e = .returned (.tuple #[.int .i64 z, .bool true]) ∧ w = w' :=
  (find_any w b F t vi vo h off n ho).mono fun e w' ⟨hw, hq⟩ => by
    rcases hq with ⟨_, he⟩ | ⟨hk, _⟩
    · exact ⟨by rw [he, hz], hw⟩
    · omega
theorem find_out (w : World) (b : Nat) (F : Nat → Prop) (t : US) (vi vo : Value) (h : HP w b F t vi vo) (off n : Int) (ho : In64 off) (hz : plK t off n = 10) :
    Calls Tryd.prog 26 #[.pointer (some ⟨b, 0, none⟩), .int .u64 off, .int .i64 n] w fun e w' => e = .returned (.tuple #[.int .i64 0, .bool false]) ∧ w = w' :=
  (find_any w b F t vi vo h off n ho).mono fun e w' ⟨hw, hq⟩ => by
    rcases hq with ⟨hk, _⟩ | ⟨_, he⟩
    · omega
    · exact ⟨he, hw⟩
theorem bitP_1 (x : Int) (r : Bool) (hr : decide (x / 2 % 2 = 1) = r) (h0 : 0 ≤ x) (h1 : x < 256) (w : World) : Calls Tryd.prog 29 #[.int .u8 x, .int .i64 1] w fun e w' => e = .returned (.bool r) ∧ w = w' := by
  subst hr
  exact bitP_any x 1 (by decide) (by decide) h0 h1 w
theorem wrT_ok {t : US} (h : t.ok) (x : Int) (h0 : 0 ≤ x) (h1 : x < 256) (k : Nat) : (wrT t x k).ok := by
  unfold wrT
  split
  · exact sendT_ok h x
  · exact ⟨h.li, h.lo, ⟨by show 0 ≤ x % 16; omega, by show x % 16 < 16; omega⟩, h.fcr, h.lcr, h.mcr, h.scr, h.dl, h.dm⟩
  · refine ⟨?_, h.lo, h.ier, ⟨by show 0 ≤ x % 2; omega, by show x % 2 < 2; omega⟩, h.lcr, h.mcr, h.scr, h.dl, h.dm⟩
    show (if x / 2 % 2 = 1 then [] else t.inn).length ≤ 16
    split
    · simp
    · exact h.li
  · exact ⟨h.li, h.lo, h.ier, h.fcr, ⟨h0, h1⟩, h.mcr, h.scr, h.dl, h.dm⟩
  · exact ⟨h.li, h.lo, h.ier, h.fcr, h.lcr, ⟨by show 0 ≤ x % 32; omega, by show x % 32 < 32; omega⟩, h.scr, h.dl, h.dm⟩
  · exact ⟨h.li, h.lo, h.ier, h.fcr, h.lcr, h.mcr, ⟨h0, h1⟩, h.dl, h.dm⟩
  · exact ⟨h.li, h.lo, h.ier, h.fcr, h.lcr, h.mcr, h.scr, ⟨h0, h1⟩, h.dm⟩
  · exact ⟨h.li, h.lo, h.ier, h.fcr, h.lcr, h.mcr, h.scr, h.dl, ⟨h0, h1⟩⟩
  · exact h
theorem ierT_1 {t : US} {x : Int} (h : ¬ t.ier / 2 % 2 = 1) (h2 : x / 2 % 2 = 1) : ierT t x = { { t with sent := true } with ier := x % 16 } := by unfold ierT; rw [if_pos ⟨by omega, h2⟩]
theorem ierT_0 {t : US} {x : Int} (h : ¬ (¬ t.ier / 2 % 2 = 1 ∧ x / 2 % 2 = 1)) : ierT t x = { t with ier := x % 16 } := by unfold ierT; rw [if_neg (fun h2 => h ⟨by omega, h2.2⟩)]
theorem fcrT_1 {t : US} {x : Int} (h : x / 2 % 2 = 1) : fcrT t x = { { t with inn := [] } with fcr := x % 2 } := by unfold fcrT; rw [if_pos h]
theorem fcrT_0 {t : US} {x : Int} (h : ¬ x / 2 % 2 = 1) : fcrT t x = { t with fcr := x % 2 } := by unfold fcrT; rw [if_neg h]

theorem htb2 {w w' : World} {F : Nat → Prop} (h : Tab w) (hnt : ¬ F 0) (o : Only F w w') : Tab w' := h.keeps o hnt

set_option maxRecDepth 100000 in
set_option maxHeartbeats 4000000 in
theorem write_0 (w : World) (b : Nat) (F : Nat → Prop) (t : US) (vi vo : Value) (h : HP w b F t vi vo) (htb : Tab w) (hnt : ¬ F 0) (off n v : Int) (ho : In64 off) (hv : In64 v) (hk : plK t off n = 0) :
    Calls Tryd.prog 12 #[.pointer (some ⟨b, 0, none⟩), .int .u64 off, .int .i64 n, .int .u64 v] w (TellU w b F (.bool true) (wrT t (v % 256) 0)) := by
  have HFIND := Lib.hid (find_at w b F t vi vo h off n ho 0 (by rw [hk]; rfl) (by decide))
  have hw : IntKind.u8.wrap v = v % 256 := wrap8 v hv.1
  have x0 : 0 ≤ v % 256 := by omega
  have x1 : v % 256 < 256 := by omega
  have hw' : IntKind.u8.wrap (v % 256) = v % 256 := by rw [wrap8 _ x0]; omega
  generalize v % 256 = x at *
  have hand := and8_0 x0 x1
  have OK := Lib.hid (wrT_ok h.ok x x0 x1 0)
  have HT := Lib.hid htb
  have HW := Lib.hid hw
  have H := Lib.hid h
  clear hk ho hv htb
  have HSEND := Lib.hid (send_any w b F t vi vo h x ⟨x0, x1⟩)
  clear h hw
  have hw := HW.out
  go_enter Tryd.func12, Tryd.ntmps12
  go_upto_region 14 with (first
    | (go_at_call 26; refine (HFIND.out).mono ?_; rintro e w' ⟨rfl, rfl⟩)
    | (go_at_call 27; refine (HSEND.out).mono ?_; rintro e w1 ⟨⟨u, rfl⟩, ho, F1, hF1, vi1, vo1, h1⟩; have H1 := Lib.hid h1; have HO1 := Lib.hid ho; have HF1 := Lib.hid hF1; clear h1 ho hF1))
  have HT1 := Lib.hid (HT.out.keeps HO1.out hnt)
  have HD := Lib.hid (H1.out.keeps (T := fun _ => False) ((Only.refl _ w1).drewN 1) fun _ _ => id)
  have HOD := Lib.hid ((HO1.out).drewN 1)
  have fk := HD.out.free 4
  have dk := HD.out.pregs
  have hand2 := hand
  have f1 := H1.out.free 4
  have c1 := H1.out.pregs
  have ck : w1.cell? ⟨0, 0, none⟩ = some (.int .u8 0) := HT1.out.cell 0 rfl
  obtain ⟨r4, r5, r6, r7, r8, r9, r10, r11, r12, r13⟩ := dk
  obtain ⟨q4, q5, q6, q7, q8, q9, q10, q11, q12, q13⟩ := c1
  go_still_tail 10, (by kernel_rfl)
  change wpList _ _ _ _ _ (World.drewN w1 1)
  clear q4 q5 q6 q7 q8 q9 q10 q11 q12 q13 ck f1
  generalize World.drewN w1 1 = w2 at *
  go_wp2
  go_ret
  exact ⟨rfl, EndU.step HOD.out HF1.out (EndU.set HD.out 4 (.int .u8 0) rfl rfl OK.out rfl)⟩

set_option maxRecDepth 100000 in
set_option maxHeartbeats 4000000 in
theorem write_1 (w : World) (b : Nat) (F : Nat → Prop) (t : US) (vi vo : Value) (h : HP w b F t vi vo) (htb : Tab w) (hnt : ¬ F 0) (off n v : Int) (ho : In64 off) (hv : In64 v) (hk : plK t off n = 1) :
    Calls Tryd.prog 12 #[.pointer (some ⟨b, 0, none⟩), .int .u64 off, .int .i64 n, .int .u64 v] w (TellU w b F (.bool true) (wrT t (v % 256) 1)) := by
  have HFIND := Lib.hid (find_at w b F t vi vo h off n ho 1 (by rw [hk]; rfl) (by decide))
  have hw : IntKind.u8.wrap v = v % 256 := wrap8 v hv.1
  have x0 : 0 ≤ v % 256 := by omega
  have x1 : v % 256 < 256 := by omega
  have hw' : IntKind.u8.wrap (v % 256) = v % 256 := by rw [wrap8 _ x0]; omega
  generalize v % 256 = x at *
  have hand := and8_15 x0 x1
  have OK := Lib.hid (wrT_ok h.ok x x0 x1 1)
  have HT := Lib.hid htb
  have HW := Lib.hid hw
  have H := Lib.hid h
  clear hk ho hv htb
  have h11 := hasV_sent t
  have H1 := Lib.hid (h.set 3 (.bool true) (t' := { t with sent := true }) rfl rfl (ok_sent h.ok true) rfl)
  have HO1 := Lib.hid ((Only.refl F w).setCell (p := ⟨b, 3, none⟩) (.inl h.fb) (.bool true))
  have HT1 := Lib.hid (htb2 HT.out hnt HO1.out)
  have HF1 : Hid (∀ i, F i → F i ∨ w.heap.size ≤ i) := Lib.hid fun i hi => .inl hi
  have f3 := h.free 3
  have c3 := h.cell 3 (v := .bool t.sent) rfl
  clear h hw
  have hw := HW.out
  change Calls _ _ _ _ (TellU w b F (.bool true) (ierT t x))
  by_cases hA : t.ier / 2 % 2 = 1
  · have hT := ierT_0 (t := t) (x := x) (fun h => h.1 hA)
    have OK2 : Hid (ierT t x).ok := OK
    rw [decide_eq_true hA] at h11
    rw [hT] at OK2 ⊢
    clear hT OK hA H1 HO1 HT1
    have OK := OK2
    go_enter Tryd.func12, Tryd.ntmps12
    go_upto_region 14 with (first
      | (go_at_call 26; refine (HFIND.out).mono ?_; rintro e w' ⟨rfl, rfl⟩)
      | (go_at_call 28; refine (has_any _ b F _ vi vo H.out _ _ (by decide) (by decide)).mono ?_; rintro e w' ⟨rfl, rfl⟩))
    have HO1 := Lib.hid (Only.refl F w)
    have HD := Lib.hid (H.out.keeps (T := fun _ => False) ((Only.refl _ w).drewN 1) fun _ _ => id)
    have HOD := Lib.hid ((HO1.out).drewN 1)
    have fk := HD.out.free 5
    have dk := HD.out.pregs
    have hand2 := hand
    have f1 := H.out.free 5
    have c1 := H.out.pregs
    have ck : w.cell? ⟨0, 1, none⟩ = some (.int .u8 15) := HT.out.cell 1 rfl
    obtain ⟨r4, r5, r6, r7, r8, r9, r10, r11, r12, r13⟩ := dk
    obtain ⟨q4, q5, q6, q7, q8, q9, q10, q11, q12, q13⟩ := c1
    go_still_tail 10, (by kernel_rfl)
    change wpList _ _ _ _ _ (World.drewN w 1)
    clear q4 q5 q6 q7 q8 q9 q10 q11 q12 q13 ck f1
    generalize World.drewN w 1 = w2 at *
    go_wp2
    go_ret
    exact ⟨rfl, EndU.step HOD.out HF1.out (EndU.set HD.out 5 (.int .u8 (x % 16)) rfl rfl OK.out rfl)⟩
  · rw [decide_eq_false hA] at h11
    by_cases hB : x / 2 % 2 = 1
    · have hT := ierT_1 (t := t) (x := x) hA hB
      have OK2 : Hid (ierT t x).ok := OK
      have hb : decide (x / 2 % 2 = 1) = true := decide_eq_true hB
      have HBIT := Lib.hid (bitP_1 x true hb x0 x1)
      rw [hT] at OK2 ⊢
      clear hT OK hA hB hb
      have OK := OK2
      go_enter Tryd.func12, Tryd.ntmps12
      go_upto_region 14 with (first
        | (go_at_call 26; refine (HFIND.out).mono ?_; rintro e w' ⟨rfl, rfl⟩)
        | (go_at_call 28; refine (has_any _ b F _ vi vo H.out _ _ (by decide) (by decide)).mono ?_; rintro e w' ⟨rfl, rfl⟩)
        | (go_at_call 29; refine (HBIT.out _).mono ?_; rintro e w' ⟨rfl, rfl⟩))
      generalize w.setCell ⟨b, 3, none⟩ (.bool true) = w1 at *
      clear f3 c3
      have HD := Lib.hid (H1.out.keeps (T := fun _ => False) ((Only.refl _ w1).drewN 1) fun _ _ => id)
      have HOD := Lib.hid ((HO1.out).drewN 1)
      have fk := HD.out.free 5
      have dk := HD.out.pregs
      have hand2 := hand
      have f1 := H1.out.free 5
      have c1 := H1.out.pregs
      have ck : w1.cell? ⟨0, 1, none⟩ = some (.int .u8 15) := HT1.out.cell 1 rfl
      obtain ⟨r4, r5, r6, r7, r8, r9, r10, r11, r12, r13⟩ := dk
      obtain ⟨q4, q5, q6, q7, q8, q9, q10, q11, q12, q13⟩ := c1
      go_still_tail 10, (by kernel_rfl)
      change wpList _ _ _ _ _ (World.drewN w1 1)
      clear q4 q5 q6 q7 q8 q9 q10 q11 q12 q13 ck f1
      generalize World.drewN w1 1 = w2 at *
      go_wp2
      go_ret
      exact ⟨rfl, EndU.step HOD.out HF1.out (EndU.set HD.out 5 (.int .u8 (x % 16)) rfl rfl OK.out rfl)⟩
    · have hT := ierT_0 (t := t) (x := x) (fun h => hB h.2)
      have OK2 : Hid (ierT t x).ok := OK
      have hb : decide (x / 2 % 2 = 1) = false := decide_eq_false hB
      have HBIT := Lib.hid (bitP_1 x false hb x0 x1)
      rw [hT] at OK2 ⊢
      clear hT OK hA hB hb H1 HO1 HT1
      have OK := OK2
      go_enter Tryd.func12, Tryd.ntmps12
      go_upto_region 14 with (first
        | (go_at_call 26; refine (HFIND.out).mono ?_; rintro e w' ⟨rfl, rfl⟩)
        | (go_at_call 28; refine (has_any _ b F _ vi vo H.out _ _ (by decide) (by decide)).mono ?_; rintro e w' ⟨rfl, rfl⟩)
        | (go_at_call 29; refine (HBIT.out _).mono ?_; rintro e w' ⟨rfl, rfl⟩))
      have HO1 := Lib.hid (Only.refl F w)
      have HD := Lib.hid (H.out.keeps (T := fun _ => False) ((Only.refl _ w).drewN 1) fun _ _ => id)
      have HOD := Lib.hid ((HO1.out).drewN 1)
      have fk := HD.out.free 5
      have dk := HD.out.pregs
      have hand2 := hand
      have f1 := H.out.free 5
      have c1 := H.out.pregs
      have ck : w.cell? ⟨0, 1, none⟩ = some (.int .u8 15) := HT.out.cell 1 rfl
      obtain ⟨r4, r5, r6, r7, r8, r9, r10, r11, r12, r13⟩ := dk
      obtain ⟨q4, q5, q6, q7, q8, q9, q10, q11, q12, q13⟩ := c1
      go_still_tail 10, (by kernel_rfl)
      change wpList _ _ _ _ _ (World.drewN w 1)
      clear q4 q5 q6 q7 q8 q9 q10 q11 q12 q13 ck f1
      generalize World.drewN w 1 = w2 at *
      go_wp2
      go_ret
      exact ⟨rfl, EndU.step HOD.out HF1.out (EndU.set HD.out 5 (.int .u8 (x % 16)) rfl rfl OK.out rfl)⟩

set_option maxRecDepth 100000 in
set_option maxHeartbeats 4000000 in
theorem write_2 (w : World) (b : Nat) (F : Nat → Prop) (t : US) (vi vo : Value) (h : HP w b F t vi vo) (htb : Tab w) (hnt : ¬ F 0) (off n v : Int) (ho : In64 off) (hv : In64 v) (hk : plK t off n = 2) :
    Calls Tryd.prog 12 #[.pointer (some ⟨b, 0, none⟩), .int .u64 off, .int .i64 n, .int .u64 v] w (TellU w b F (.bool true) (wrT t (v % 256) 2)) := by
  have HFIND := Lib.hid (find_at w b F t vi vo h off n ho 2 (by rw [hk]; rfl) (by decide))
  have hw : IntKind.u8.wrap v = v % 256 := wrap8 v hv.1
  have x0 : 0 ≤ v % 256 := by omega
  have x1 : v % 256 < 256 := by omega
  have hw' : IntKind.u8.wrap (v % 256) = v % 256 := by rw [wrap8 _ x0]; omega
  generalize v % 256 = x at *
  have hand := and8_1 x0 x1
  have OK := Lib.hid (wrT_ok h.ok x x0 x1 2)
  have HT := Lib.hid htb
  have HW := Lib.hid hw
  have H := Lib.hid h
  clear hk ho hv htb
  have hli := h.ok.li
  have E1 : Hid (EndU cellsP 52 w b F { t with inn := [] } (w.setCell ⟨b, 0, none⟩ (.slice none 0 0))) := Lib.hid (EndU.turnIn (t' := { t with inn := [] }) h (Only.refl _ w) (RowB.nil w) (fun g hg => by cases hg) rfl (ok_inn h.ok (by simp)) rfl)
  have f0 := h.free 0
  have c0 := h.cell 0 (v := vi) rfl
  clear h hw
  have hw := HW.out
  change Calls _ _ _ _ (TellU w b F (.bool true) (fcrT t x))
  by_cases hB : x / 2 % 2 = 1
  · have hT := fcrT_1 (t := t) (x := x) hB
    have OK2 : Hid (fcrT t x).ok := OK
    have hb : decide (x / 2 % 2 = 1) = true := decide_eq_true hB
    have HBIT := Lib.hid (bitP_1 x true hb x0 x1)
    rw [hT] at OK2 ⊢
    clear hT OK hB hb hli
    have OK := OK2
    go_enter Tryd.func12, Tryd.ntmps12
    go_upto_region 14 with (first
      | (go_at_call 26; refine (HFIND.out).mono ?_; rintro e w' ⟨rfl, rfl⟩)
      | (go_at_call 29; refine (HBIT.out _).mono ?_; rintro e w' ⟨rfl, rfl⟩))
    obtain ⟨ho, F1, hF1, vi1, vo1, h1⟩ := E1.out
    generalize w.setCell ⟨b, 0, none⟩ (.slice none 0 0) = w1 at *
    have H1 := Lib.hid h1
    have HO1 := Lib.hid ho
    have HF1 := Lib.hid hF1
    have HT1 := Lib.hid (htb2 HT.out hnt ho)
    clear h1 ho hF1 E1 f0 c0
    have HD := Lib.hid (H1.out.keeps (T := fun _ => False) ((Only.refl _ w1).drewN 1) fun _ _ => id)
    have HOD := Lib.hid ((HO1.out).drewN 1)
    have fk := HD.out.free 6
    have dk := HD.out.pregs
    have hand2 := hand
    have f1 := H1.out.free 6
    have c1 := H1.out.pregs
    have ck : w1.cell? ⟨0, 2, none⟩ = some (.int .u8 1) := HT1.out.cell 2 rfl
    obtain ⟨r4, r5, r6, r7, r8, r9, r10, r11, r12, r13⟩ := dk
    obtain ⟨q4, q5, q6, q7, q8, q9, q10, q11, q12, q13⟩ := c1
    go_still_tail 10, (by kernel_rfl)
    change wpList _ _ _ _ _ (World.drewN w1 1)
    clear q4 q5 q6 q7 q8 q9 q10 q11 q12 q13 ck f1
    generalize World.drewN w1 1 = w2 at *
    go_wp2
    go_ret
    exact ⟨rfl, EndU.step HOD.out HF1.out (EndU.set HD.out 6 (.int .u8 (x % 2)) rfl rfl OK.out rfl)⟩
  · have hT := fcrT_0 (t := t) (x := x) hB
    have OK2 : Hid (fcrT t x).ok := OK
    have hb : decide (x / 2 % 2 = 1) = false := decide_eq_false hB
    have HBIT := Lib.hid (bitP_1 x false hb x0 x1)
    rw [hT] at OK2 ⊢
    clear hT OK hB hb hli E1 f0 c0
    have OK := OK2
    have HO1 := Lib.hid (Only.refl F w)
    have HF1 : Hid (∀ i, F i → F i ∨ w.heap.size ≤ i) := Lib.hid fun i hi => .inl hi
    go_enter Tryd.func12, Tryd.ntmps12
    go_upto_region 14 with (first
      | (go_at_call 26; refine (HFIND.out).mono ?_; rintro e w' ⟨rfl, rfl⟩)
      | (go_at_call 29; refine (HBIT.out _).mono ?_; rintro e w' ⟨rfl, rfl⟩))
    have HD := Lib.hid (H.out.keeps (T := fun _ => False) ((Only.refl _ w).drewN 1) fun _ _ => id)
    have HOD := Lib.hid ((HO1.out).drewN 1)
    have fk := HD.out.free 6
    have dk := HD.out.pregs
    have hand2 := hand
    have f1 := H.out.free 6
    have c1 := H.out.pregs
    have ck : w.cell? ⟨0, 2, none⟩ = some (.int .u8 1) := HT.out.cell 2 rfl
    obtain ⟨r4, r5, r6, r7, r8, r9, r10, r11, r12, r13⟩ := dk
    obtain ⟨q4, q5, q6, q7, q8, q9, q10, q11, q12, q13⟩ := c1
    go_still_tail 10, (by kernel_rfl)
    change wpList _ _ _ _ _ (World.drewN w 1)
    clear q4 q5 q6 q7 q8 q9 q10 q11 q12 q13 ck f1
    generalize World.drewN w 1 = w2 at *
    go_wp2
    go_ret
    exact ⟨rfl, EndU.step HOD.out HF1.out (EndU.set HD.out 6 (.int .u8 (x % 2)) rfl rfl OK.out rfl)⟩

set_option maxRecDepth 100000 in
set_option maxHeartbeats 4000000 in
theorem write_3 (w : World) (b : Nat) (F : Nat → Prop) (t : US) (vi vo : Value) (h : HP w b F t vi vo) (htb : Tab w) (hnt : ¬ F 0) (off n v : Int) (ho : In64 off) (hv : In64 v) (hk : plK t off n = 3) :
    Calls Tryd.prog 12 #[.pointer (some ⟨b, 0, none⟩), .int .u64 off, .int .i64 n, .int .u64 v] w (TellU w b F (.bool true) (wrT t (v % 256) 3)) := by
  have HFIND := Lib.hid (find_at w b F t vi vo h off n ho 3 (by rw [hk]; rfl) (by decide))
  have hw : IntKind.u8.wrap v = v % 256 := wrap8 v hv.1
  have x0 : 0 ≤ v % 256 := by omega
  have x1 : v % 256 < 256 := by omega
  have hw' : IntKind.u8.wrap (v % 256) = v % 256 := by rw [wrap8 _ x0]; omega
  generalize v % 256 = x at *
  have hand := and8_255 x0 x1
  have OK := Lib.hid (wrT_ok h.ok x x0 x1 3)
  have HT := Lib.hid htb
  have HW := Lib.hid hw
  have H := Lib.hid h
  clear hk ho hv htb
  clear h hw
  have hw := HW.out
  have HO1 := Lib.hid (Only.refl F w)
  have HF1 : Hid (∀ i, F i → F i ∨ w.heap.size ≤ i) := Lib.hid fun i hi => .inl hi
  go_enter Tryd.func12, Tryd.ntmps12
  go_upto_region 14 with (go_at_call 26; refine (HFIND.out).mono ?_; rintro e w' ⟨rfl, rfl⟩)
  have HD := Lib.hid (H.out.keeps (T := fun _ => False) ((Only.refl _ w).drewN 1) fun _ _ => id)
  have HOD := Lib.hid ((HO1.out).drewN 1)
  have fk := HD.out.free 7
  have dk := HD.out.pregs
  have hand2 := hand
  have f1 := H.out.free 7
  have c1 := H.out.pregs
  have ck : w.cell? ⟨0, 3, none⟩ = some (.int .u8 255) := HT.out.cell 3 rfl
  obtain ⟨r4, r5, r6, r7, r8, r9, r10, r11, r12, r13⟩ := dk
  obtain ⟨q4, q5, q6, q7, q8, q9, q10, q11, q12, q13⟩ := c1
  go_still_tail 10, (by kernel_rfl)
  change wpList _ _ _ _ _ (World.drewN w 1)
  clear q4 q5 q6 q7 q8 q9 q10 q11 q12 q13 ck f1
  generalize World.drewN w 1 = w2 at *
  go_wp2
  go_ret
  exact ⟨rfl, EndU.step HOD.out HF1.out (EndU.set HD.out 7 (.int .u8 x) rfl rfl OK.out rfl)⟩

set_option maxRecDepth 100000 in
set_option maxHeartbeats 4000000 in
theorem write_4 (w : World) (b : Nat) (F : Nat → Prop) (t : US) (vi vo : Value) (h : HP w b F t vi vo) (htb : Tab w) (hnt : ¬ F 0) (off n v : Int) (ho : In64 off) (hv : In64 v) (hk : plK t off n = 4) :
    Calls Tryd.prog 12 #[.pointer (some ⟨b, 0, none⟩), .int .u64 off, .int .i64 n, .int .u64 v] w (TellU w b F (.bool true) (wrT t (v % 256) 4)) := by
  have HFIND := Lib.hid (find_at w b F t vi vo h off n ho 4 (by rw [hk]; rfl) (by decide))
  have hw : IntKind.u8.wrap v = v % 256 := wrap8 v hv.1
  have x0 : 0 ≤ v % 256 := by omega
  have x1 : v % 256 < 256 := by omega
  have hw' : IntKind.u8.wrap (v % 256) = v % 256 := by rw [wrap8 _ x0]; omega
  generalize v % 256 = x at *
  have hand := and8_31 x0 x1
  have OK := Lib.hid (wrT_ok h.ok x x0 x1 4)
  have HT := Lib.hid htb
  have HW := Lib.hid hw
  have H := Lib.hid h
  clear hk ho hv htb
  clear h hw
  have hw := HW.out
  have HO1 := Lib.hid (Only.refl F w)
  have HF1 : Hid (∀ i, F i → F i ∨ w.heap.size ≤ i) := Lib.hid fun i hi => .inl hi
  go_enter Tryd.func12, Tryd.ntmps12
  go_upto_region 14 with (go_at_call 26; refine (HFIND.out).mono ?_; rintro e w' ⟨rfl, rfl⟩)
  have HD := Lib.hid (H.out.keeps (T := fun _ => False) ((Only.refl _ w).drewN 1) fun _ _ => id)
  have HOD := Lib.hid ((HO1.out).drewN 1)
  have fk := HD.out.free 8
  have dk := HD.out.pregs
  have hand2 := hand
  have f1 := H.out.free 8
  have c1 := H.out.pregs
  have ck : w.cell? ⟨0, 4, none⟩ = some (.int .u8 31) := HT.out.cell 4 rfl
  obtain ⟨r4, r5, r6, r7, r8, r9, r10, r11, r12, r13⟩ := dk
  obtain ⟨q4, q5, q6, q7, q8, q9, q10, q11, q12, q13⟩ := c1
  go_still_tail 10, (by kernel_rfl)
  change wpList _ _ _ _ _ (World.drewN w 1)
  clear q4 q5 q6 q7 q8 q9 q10 q11 q12 q13 ck f1
  generalize World.drewN w 1 = w2 at *
  go_wp2
  go_ret
  exact ⟨rfl, EndU.step HOD.out HF1.out (EndU.set HD.out 8 (.int .u8 (x % 32)) rfl rfl OK.out rfl)⟩

set_option maxRecDepth 100000 in
set_option maxHeartbeats 4000000 in
theorem write_5 (w : World) (b : Nat) (F : Nat → Prop) (t : US) (vi vo : Value) (h : HP w b F t vi vo) (htb : Tab w) (hnt : ¬ F 0) (off n v : Int) (ho : In64 off) (hv : In64 v) (hk : plK t off n = 5) :
    Calls Tryd.prog 12 #[.pointer (some ⟨b, 0, none⟩), .int .u64 off, .int .i64 n, .int .u64 v] w (TellU w b F (.bool true) (wrT t (v % 256) 5)) := by
  have HFIND := Lib.hid (find_at w b F t vi vo h off n ho 5 (by rw [hk]; rfl) (by decide))
  have hw : IntKind.u8.wrap v = v % 256 := wrap8 v hv.1
  have x0 : 0 ≤ v % 256 := by omega
  have x1 : v % 256 < 256 := by omega
  have hw' : IntKind.u8.wrap (v % 256) = v % 256 := by rw [wrap8 _ x0]; omega
  generalize v % 256 = x at *
  have hand := and8_0 x0 x1
  have OK := Lib.hid (wrT_ok h.ok x x0 x1 5)
  have HT := Lib.hid htb
  have HW := Lib.hid hw
  have H := Lib.hid h
  clear hk ho hv htb
  clear h hw
  have hw := HW.out
  have HO1 := Lib.hid (Only.refl F w)
  have HF1 : Hid (∀ i, F i → F i ∨ w.heap.size ≤ i) := Lib.hid fun i hi => .inl hi
  go_enter Tryd.func12, Tryd.ntmps12
  go_upto_region 14 with (go_at_call 26; refine (HFIND.out).mono ?_; rintro e w' ⟨rfl, rfl⟩)
  have HD := Lib.hid (H.out.keeps (T := fun _ => False) ((Only.refl _ w).drewN 1) fun _ _ => id)
  have HOD := Lib.hid ((HO1.out).drewN 1)
  have fk := HD.out.free 9
  have dk := HD.out.pregs
  have hand2 := hand
  have f1 := H.out.free 9
  have c1 := H.out.pregs
  have ck : w.cell? ⟨0, 5, none⟩ = some (.int .u8 0) := HT.out.cell 5 rfl
  obtain ⟨r4, r5, r6, r7, r8, r9, r10, r11, r12, r13⟩ := dk
  obtain ⟨q4, q5, q6, q7, q8, q9, q10, q11, q12, q13⟩ := c1
  go_still_tail 10, (by kernel_rfl)
  change wpList _ _ _ _ _ (World.drewN w 1)
  clear q4 q5 q6 q7 q8 q9 q10 q11 q12 q13 ck f1
  generalize World.drewN w 1 = w2 at *
  go_wp2
  go_ret
  exact ⟨rfl, EndU.step HOD.out HF1.out (EndU.set HD.out 9 (.int .u8 0) rfl rfl OK.out rfl)⟩

set_option maxRecDepth 100000 in
set_option maxHeartbeats 4000000 in
theorem write_6 (w : World) (b : Nat) (F : Nat → Prop) (t : US) (vi vo : Value) (h : HP w b F t vi vo) (htb : Tab w) (hnt : ¬ F 0) (off n v : Int) (ho : In64 off) (hv : In64 v) (hk : plK t off n = 6) :
    Calls Tryd.prog 12 #[.pointer (some ⟨b, 0, none⟩), .int .u64 off, .int .i64 n, .int .u64 v] w (TellU w b F (.bool true) (wrT t (v % 256) 6)) := by
  have HFIND := Lib.hid (find_at w b F t vi vo h off n ho 6 (by rw [hk]; rfl) (by decide))
  have hw : IntKind.u8.wrap v = v % 256 := wrap8 v hv.1
  have x0 : 0 ≤ v % 256 := by omega
  have x1 : v % 256 < 256 := by omega
  have hw' : IntKind.u8.wrap (v % 256) = v % 256 := by rw [wrap8 _ x0]; omega
  generalize v % 256 = x at *
  have hand := and8_0 x0 x1
  have OK := Lib.hid (wrT_ok h.ok x x0 x1 6)
  have HT := Lib.hid htb
  have HW := Lib.hid hw
  have H := Lib.hid h
  clear hk ho hv htb
  clear h hw
  have hw := HW.out
  have HO1 := Lib.hid (Only.refl F w)
  have HF1 : Hid (∀ i, F i → F i ∨ w.heap.size ≤ i) := Lib.hid fun i hi => .inl hi
  go_enter Tryd.func12, Tryd.ntmps12
  go_upto_region 14 with (go_at_call 26; refine (HFIND.out).mono ?_; rintro e w' ⟨rfl, rfl⟩)
  have HD := Lib.hid (H.out.keeps (T := fun _ => False) ((Only.refl _ w).drewN 1) fun _ _ => id)
  have HOD := Lib.hid ((HO1.out).drewN 1)
  have fk := HD.out.free 10
  have dk := HD.out.pregs
  have hand2 := hand
  have f1 := H.out.free 10
  have c1 := H.out.pregs
  have ck : w.cell? ⟨0, 6, none⟩ = some (.int .u8 0) := HT.out.cell 6 rfl
  obtain ⟨r4, r5, r6, r7, r8, r9, r10, r11, r12, r13⟩ := dk
  obtain ⟨q4, q5, q6, q7, q8, q9, q10, q11, q12, q13⟩ := c1
  go_still_tail 10, (by kernel_rfl)
  change wpList _ _ _ _ _ (World.drewN w 1)
  clear q4 q5 q6 q7 q8 q9 q10 q11 q12 q13 ck f1
  generalize World.drewN w 1 = w2 at *
  go_wp2
  go_ret
  exact ⟨rfl, EndU.step HOD.out HF1.out (EndU.set HD.out 10 (.int .u8 0) rfl rfl OK.out rfl)⟩

set_option maxRecDepth 100000 in
set_option maxHeartbeats 4000000 in
theorem write_7 (w : World) (b : Nat) (F : Nat → Prop) (t : US) (vi vo : Value) (h : HP w b F t vi vo) (htb : Tab w) (hnt : ¬ F 0) (off n v : Int) (ho : In64 off) (hv : In64 v) (hk : plK t off n = 7) :
    Calls Tryd.prog 12 #[.pointer (some ⟨b, 0, none⟩), .int .u64 off, .int .i64 n, .int .u64 v] w (TellU w b F (.bool true) (wrT t (v % 256) 7)) := by
  have HFIND := Lib.hid (find_at w b F t vi vo h off n ho 7 (by rw [hk]; rfl) (by decide))
  have hw : IntKind.u8.wrap v = v % 256 := wrap8 v hv.1
  have x0 : 0 ≤ v % 256 := by omega
  have x1 : v % 256 < 256 := by omega
  have hw' : IntKind.u8.wrap (v % 256) = v % 256 := by rw [wrap8 _ x0]; omega
  generalize v % 256 = x at *
  have hand := and8_255 x0 x1
  have OK := Lib.hid (wrT_ok h.ok x x0 x1 7)
  have HT := Lib.hid htb
  have HW := Lib.hid hw
  have H := Lib.hid h
  clear hk ho hv htb
  clear h hw
  have hw := HW.out
  have HO1 := Lib.hid (Only.refl F w)
  have HF1 : Hid (∀ i, F i → F i ∨ w.heap.size ≤ i) := Lib.hid fun i hi => .inl hi
  go_enter Tryd.func12, Tryd.ntmps12
  go_upto_region 14 with (go_at_call 26; refine (HFIND.out).mono ?_; rintro e w' ⟨rfl, rfl⟩)
  have HD := Lib.hid (H.out.keeps (T := fun _ => False) ((Only.refl _ w).drewN 1) fun _ _ => id)
  have HOD := Lib.hid ((HO1.out).drewN 1)
  have fk := HD.out.free 11
  have dk := HD.out.pregs
  have hand2 := hand
  have f1 := H.out.free 11
  have c1 := H.out.pregs
  have ck : w.cell? ⟨0, 7, none⟩ = some (.int .u8 255) := HT.out.cell 7 rfl
  obtain ⟨r4, r5, r6, r7, r8, r9, r10, r11, r12, r13⟩ := dk
  obtain ⟨q4, q5, q6, q7, q8, q9, q10, q11, q12, q13⟩ := c1
  go_still_tail 10, (by kernel_rfl)
  change wpList _ _ _ _ _ (World.drewN w 1)
  clear q4 q5 q6 q7 q8 q9 q10 q11 q12 q13 ck f1
  generalize World.drewN w 1 = w2 at *
  go_wp2
  go_ret
  exact ⟨rfl, EndU.step HOD.out HF1.out (EndU.set HD.out 11 (.int .u8 x) rfl rfl OK.out rfl)⟩

set_option maxRecDepth 100000 in
set_option maxHeartbeats 4000000 in
theorem write_8 (w : World) (b : Nat) (F : Nat → Prop) (t : US) (vi vo : Value) (h : HP w b F t vi vo) (htb : Tab w) (hnt : ¬ F 0) (off n v : Int) (ho : In64 off) (hv : In64 v) (hk : plK t off n = 8) :
    Calls Tryd.prog 12 #[.pointer (some ⟨b, 0, none⟩), .int .u64 off, .int .i64 n, .int .u64 v] w (TellU w b F (.bool true) (wrT t (v % 256) 8)) := by
  have HFIND := Lib.hid (find_at w b F t vi vo h off n ho 8 (by rw [hk]; rfl) (by decide))
  have hw : IntKind.u8.wrap v = v % 256 := wrap8 v hv.1
  have x0 : 0 ≤ v % 256 := by omega
  have x1 : v % 256 < 256 := by omega
  have hw' : IntKind.u8.wrap (v % 256) = v % 256 := by rw [wrap8 _ x0]; omega
  generalize v % 256 = x at *
  have hand := and8_255 x0 x1
  have OK := Lib.hid (wrT_ok h.ok x x0 x1 8)
  have HT := Lib.hid htb
  have HW := Lib.hid hw
  have H := Lib.hid h
  clear hk ho hv htb
  clear h hw
  have hw := HW.out
  have HO1 := Lib.hid (Only.refl F w)
  have HF1 : Hid (∀ i, F i → F i ∨ w.heap.size ≤ i) := Lib.hid fun i hi => .inl hi
  go_enter Tryd.func12, Tryd.ntmps12
  go_upto_region 14 with (go_at_call 26; refine (HFIND.out).mono ?_; rintro e w' ⟨rfl, rfl⟩)
  have HD := Lib.hid (H.out.keeps (T := fun _ => False) ((Only.refl _ w).drewN 1) fun _ _ => id)
  have HOD := Lib.hid ((HO1.out).drewN 1)
  have fk := HD.out.free 12
  have dk := HD.out.pregs
  have hand2 := hand
  have f1 := H.out.free 12
  have c1 := H.out.pregs
  have ck : w.cell? ⟨0, 8, none⟩ = some (.int .u8 255) := HT.out.cell 8 rfl
  obtain ⟨r4, r5, r6, r7, r8, r9, r10, r11, r12, r13⟩ := dk
  obtain ⟨q4, q5, q6, q7, q8, q9, q10, q11, q12, q13⟩ := c1
  go_still_tail 10, (by kernel_rfl)
  change wpList _ _ _ _ _ (World.drewN w 1)
  clear q4 q5 q6 q7 q8 q9 q10 q11 q12 q13 ck f1
  generalize World.drewN w 1 = w2 at *
  go_wp2
  go_ret
  exact ⟨rfl, EndU.step HOD.out HF1.out (EndU.set HD.out 12 (.int .u8 x) rfl rfl OK.out rfl)⟩

set_option maxRecDepth 100000 in
set_option maxHeartbeats 4000000 in
theorem write_9 (w : World) (b : Nat) (F : Nat → Prop) (t : US) (vi vo : Value) (h : HP w b F t vi vo) (htb : Tab w) (hnt : ¬ F 0) (off n v : Int) (ho : In64 off) (hv : In64 v) (hk : plK t off n = 9) :
    Calls Tryd.prog 12 #[.pointer (some ⟨b, 0, none⟩), .int .u64 off, .int .i64 n, .int .u64 v] w (TellU w b F (.bool true) (wrT t (v % 256) 9)) := by
  have HFIND := Lib.hid (find_at w b F t vi vo h off n ho 9 (by rw [hk]; rfl) (by decide))
  have hw : IntKind.u8.wrap v = v % 256 := wrap8 v hv.1
  have x0 : 0 ≤ v % 256 := by omega
  have x1 : v % 256 < 256 := by omega
  have hw' : IntKind.u8.wrap (v % 256) = v % 256 := by rw [wrap8 _ x0]; omega
  generalize v % 256 = x at *
  have hand := and8_255 x0 x1
  have OK := Lib.hid (wrT_ok h.ok x x0 x1 9)
  have HT := Lib.hid htb
  have HW := Lib.hid hw
  have H := Lib.hid h
  clear hk ho hv htb
  clear h hw
  have hw := HW.out
  have HO1 := Lib.hid (Only.refl F w)
  have HF1 : Hid (∀ i, F i → F i ∨ w.heap.size ≤ i) := Lib.hid fun i hi => .inl hi
  go_enter Tryd.func12, Tryd.ntmps12
  go_upto_region 14 with (go_at_call 26; refine (HFIND.out).mono ?_; rintro e w' ⟨rfl, rfl⟩)
  have HD := Lib.hid (H.out.keeps (T := fun _ => False) ((Only.refl _ w).drewN 1) fun _ _ => id)
  have HOD := Lib.hid ((HO1.out).drewN 1)
  have fk := HD.out.free 13
  have dk := HD.out.pregs
  have hand2 := hand
  have f1 := H.out.free 13
  have c1 := H.out.pregs
  have ck : w.cell? ⟨0, 9, none⟩ = some (.int .u8 255) := HT.out.cell 9 rfl
  obtain ⟨r4, r5, r6, r7, r8, r9, r10, r11, r12, r13⟩ := dk
  obtain ⟨q4, q5, q6, q7, q8, q9, q10, q11, q12, q13⟩ := c1
  go_still_tail 10, (by kernel_rfl)
  change wpList _ _ _ _ _ (World.drewN w 1)
  clear q4 q5 q6 q7 q8 q9 q10 q11 q12 q13 ck f1
  generalize World.drewN w 1 = w2 at *
  go_wp2
  go_ret
  exact ⟨rfl, EndU.step HOD.out HF1.out (EndU.set HD.out 13 (.int .u8 x) rfl rfl OK.out rfl)⟩

end Go.Proofs.YtcbjfkbmbjmnbaaDoor
