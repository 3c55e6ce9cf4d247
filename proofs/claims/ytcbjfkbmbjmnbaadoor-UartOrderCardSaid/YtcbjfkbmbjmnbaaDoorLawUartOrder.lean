/- The law UartOrder, walked. -/
import Derived.Test.YtcbjfkbmbjmnbaaDoorUx
import Derived.Test.YtcbjfkbmbjmnbaaDoorUj
import Derived.Deep.CutRange
import Derived.Deep.CutBlock
namespace Go.Proofs.YtcbjfkbmbjmnbaaDoor
open Go.RowKit
set_option linter.unusedVariables false

theorem ordWrite (w0 w : World) (b : Nat) (F : Nat → Prop) (t : US) (vi : Value) (xs : List Int) (vo : Value) (ys : List Int) (bx : Nat) (x : ActV) (h : OrdX w0 w b F t vi xs vo ys bx x) (off n v : Int) (r : Bool) (t' : US) (ho : In64 off) (hv : In64 v) (hr : okK (plK t off n) = r) (ht : wrT t (v % 256) (plK t off n) = t') :
    Calls Tryd.prog 12 #[.pointer (some ⟨b, 0, none⟩), .int .u64 off, .int .i64 n, .int .u64 v] w fun e w' => e = .returned (.bool r) ∧ ∃ F', OrdX w0 w' b F' t' vi xs vo ys bx x := by
  subst hr ht
  exact (write_any w b F t h.o.own.obj h.o.own.tab h.o.own.nt off n v ho hv).mono fun e w' ⟨he, k⟩ => ⟨he, h.turn k⟩
theorem ordRead (w0 w : World) (b : Nat) (F : Nat → Prop) (t : US) (vi : Value) (xs : List Int) (vo : Value) (ys : List Int) (bx : Nat) (x : ActV) (h : OrdX w0 w b F t vi xs vo ys bx x) (off n : Int) (X : Int) (r : Bool) (t' : US) (ho : In64 off) (hr : okK (plK t off n) = r) (hX : rdX t (plK t off n) = X) (ht : rdT t (plK t off n) = t') :
    Calls Tryd.prog 16 #[.pointer (some ⟨b, 0, none⟩), .int .u64 off, .int .i64 n] w fun e w' => e = .returned (.tuple #[.int .u64 X, .bool r]) ∧ ∃ F', OrdX w0 w' b F' t' vi xs vo ys bx x := by
  subst hr hX ht
  exact (read_any w b F t h.o.own.obj off n ho).mono fun e w' ⟨he, k⟩ => ⟨he, h.turn k⟩
theorem ordFeed (w0 w : World) (b : Nat) (F : Nat → Prop) (t : US) (vi : Value) (xs : List Int) (vo : Value) (ys : List Int) (bx : Nat) (x : ActV) (h : OrdX w0 w b F t vi xs vo ys bx x) (y : Int) (r : Bool) (t' : US) (hy : 0 ≤ y ∧ y < 256) (hr : feedK t = r) (ht : feedT t y = t') :
    Calls Tryd.prog 10 #[.pointer (some ⟨b, 0, none⟩), .int .u8 y] w fun e w' => e = .returned (.bool r) ∧ ∃ F', OrdX w0 w' b F' t' vi xs vo ys bx x := by
  subst hr ht
  obtain ⟨ui, uo, hp⟩ := h.o.own.obj
  exact (feed_any w b F t ui uo hp y hy).mono fun e w' ⟨he, k⟩ => ⟨he, h.turn k⟩
theorem act_at0 {w : World} {b : Nat} {x : ActV} (h : ActAt w ⟨b, 0, none⟩ x) : w.cell? ⟨b, 0, none⟩ = some (.int .i64 x.d) ∧ w.cell? ⟨b, 1, none⟩ = some (.int .u64 x.a) ∧ w.cell? ⟨b, 2, none⟩ = some (.int .i64 x.n) ∧ w.cell? ⟨b, 3, none⟩ = some (.int .u64 x.v) := by
  obtain ⟨h0, h1, h2, h3, _⟩ := act_at h
  simp only [Nat.zero_add] at h1 h2 h3
  exact ⟨h0, h1, h2, h3⟩
theorem ord_to {w0 w : World} {b : Nat} {F : Nat → Prop} {t : US} {vi vo : Value} {xs ys : List Int} (h : Ord w0 w b F t vi xs vo ys) (hi : xs = t.inn) (ho : ys = t.out) : Ord w0 w b F t vi t.inn vo t.out := hi ▸ ho ▸ h
structure FinO (wz : World) (b : Nat) (pn : Nat) (vout : Value) (s : ByteArray) : Prop where
  wa : ∀ wx, Below wz.heap.size wz wx → Calls Tryd.prog 15 #[.pointer (some ⟨b, 0, none⟩)] wx fun e w' => e = .returned (.int .i64 (pn : Int)) ∧ wx = w'
  oa : ∀ wx, Below wz.heap.size wz wx → Calls Tryd.prog 14 #[.pointer (some ⟨b, 0, none⟩)] wx fun e w' => ∃ a n c, e = .returned (.slice a n c) ∧ Below wx.heap.size wx w' ∧ ∀ wy, Below w'.heap.size w' wy → (convert 28 9 (.slice a n c)).run Tryd.prog wy = .ok (.string s) wy
  cr : ∀ wx, Below wz.heap.size wz wx → (convert 28 9 vout).run Tryd.prog wx = .ok (.string s) wx
theorem fin_of {w0 wz : World} {b : Nat} {F : Nat → Prop} {t : US} {a : Option Addr} {pn c : Nat} {vout : Value} (h : Ord w0 wz b F t (.slice a pn c) t.inn vout t.out) : FinO wz b pn vout (strOfNums t.out) := by
  have hlo := h.own.obj.ok.lo
  refine ⟨fun wx hx => ?_, fun wx hx => ?_, fun wx hx => (h.ro.below hx).conv⟩
  · obtain ⟨ui, uo, hp⟩ := h.own.obj.below hx
    obtain ⟨a2, c2, hv, _⟩ := h.ri.reads
    injection hv with _ hn _
    rw [hn]
    exact waiting_any wx b F t ui uo hp
  · exact (out_any wx b F t (h.own.obj.below hx)).mono fun e w' ⟨a, c, he, k, hr, _⟩ => ⟨a, _, c, he, k, fun wy hy => conv_row (hr.below hy) (by omega)⟩
theorem rdT_same {t : US} {k : Nat} (hk : ¬ k = 0) : (rdT t k).inn = t.inn ∧ (rdT t k).out = t.out := by
  unfold rdT; split
  · exact absurd rfl hk
  · exact ⟨rfl, rfl⟩
  · exact ⟨rfl, rfl⟩
  · exact ⟨rfl, rfl⟩
theorem wrT_same {t : US} {x : Int} {k : Nat} (h0 : ¬ k = 0) (h2 : ¬ k = 2) : (wrT t x k).inn = t.inn ∧ (wrT t x k).out = t.out := by
  unfold wrT; split
  · exact absurd rfl h0
  · exact ⟨rfl, rfl⟩
  · exact absurd rfl h2
  all_goals exact ⟨rfl, rfl⟩
theorem pl_gen {t : US} {a : Int} (h0 : 0 ≤ a) (h8 : a < 8) : plK t a 1 < 10 := by unfold plK; rw [if_pos ⟨rfl, h0, h8⟩]; split <;> omega
theorem pl_ne0 {t : US} {a : Int} (h0 : 0 ≤ a) (h8 : a < 8) (h : ¬ a = 0 ∨ 128 ≤ t.lcr) : ¬ plK t a 1 = 0 := by
  unfold plK; rw [if_pos ⟨rfl, h0, h8⟩]; split <;> omega
theorem pl_ne2 {t : US} {a : Int} (h0 : 0 ≤ a) (h8 : a < 8) (h : ¬ a = 2) : ¬ plK t a 1 = 2 := by
  unfold plK; rw [if_pos ⟨rfl, h0, h8⟩]; split <;> omega
theorem rdX_any {t : US} {k : Nat} {w : World} {b : Nat} {F : Nat → Prop} (h : UP w b F t) : 0 ≤ rdX t k ∧ rdX t k < 256 := by obtain ⟨_, _, h⟩ := h; exact rdX_bd h.ok h.ri.byt k

set_option maxRecDepth 100000 in
set_option maxHeartbeats 32000000 in
theorem uartOrder_walk (l : Value) (xs : List ActV) (w : World) (hl : ActsIn w.heap.size w l xs) (ht : Tab w) :
    Calls Tryd.prog 7 #[l] w fun e w' => e = .returned (.bool true) ∧ Below w.heap.size w w' := by
  have HL := Lib.hid hl
  have HT0 := Lib.hid ht
  obtain ⟨al, cl, rfl, hll, _⟩ := hl
  have hll2 : xs.length ≤ 9223372036854775807 := by unfold maxLen at hll; omega
  clear hll ht
  by_cases hx60 : 200 < xs.length
  · have hd : decide ((200 : Int) < (xs.length : Int)) = true := by rw [decide_eq_true_eq]; omega
    go_enter Tryd.func7, Tryd.ntmps7
    go_wp2_with fail
    refine (awake_any _ HT0.out).mono ?_
    rintro e w1 ⟨rfl, hb⟩
    have HB := Lib.hid hb
    clear hb
    go_wp2
    go_ret
    exact ⟨rfl, HB.out⟩
  have hd : decide ((200 : Int) < (xs.length : Int)) = false := by rw [decide_eq_false_iff_not]; omega
  have HX200 : Hid (xs.length ≤ 200) := Lib.hid (by omega)
  clear hx60
  go_enter Tryd.func7, Tryd.ntmps7
  go_wp2_with fail
  refine (awake_any _ HT0.out).mono ?_
  rintro e w1 ⟨rfl, hb⟩
  have HB := Lib.hid hb
  clear hb
  go_wp2_with fail
  refine (ownNew w _ HT0.out HB.out).mono ?_
  rintro e w2 ⟨b, rfl, F, ho⟩
  have HO := Lib.hid ho
  clear ho
  go_wp2
  go_loopw [4, 5, 6] (fun vi vo i wr => ∃ k : Nat, k ≤ xs.length ∧ i = .int .i64 k ∧ ∃ F t, Ord w wr b F t vi t.inn vo t.out ∧ t.out.length ≤ k) (fun _ _ i _ => xs.length - (intOf i).toNat)
  case atStart => exact ⟨0, Nat.zero_le _, rfl, F, u0, ⟨HO.out, RowO.nil _, RowO.nil _, fun g hg => by simp [Value.ownBlock] at hg, fun g hg => by simp [Value.ownBlock] at hg, fun g hg => by simp [Value.ownBlock] at hg⟩, Nat.le_refl _⟩
  case round =>
    obtain ⟨k, hk, rfl, F, t, hT, hlk⟩ := hrel
    have hbr := hT.own.bel
    by_cases hlt : k < xs.length
    · obtain ⟨ai, ci, rfl, hci, hcm, hri⟩ := hT.ri.reads
      obtain ⟨ao, co, rfl, _, _, _⟩ := hT.ro.reads
      have HOW := Lib.hid hT
      have HLK := Lib.hid hlk
      have HCI := Lib.hid hci
      have HRI := Lib.hid hri
      obtain ⟨_, _, hv, _, hx⟩ := HL.out.below hbr
      injection hv with hv1 hv2 hv3
      subst hv1 hv3
      rcases hx with hx | ⟨bb, off, rfl, hbb, hc⟩
      · rw [hx] at hlt; simp at hlt
      obtain ⟨c0, c1, c2, c3, r0, r1, r2, r3⟩ := act_at (hc k hlt)
      have HXM := Lib.hid (OrdX.made hT r0 r1 r2 r3)
      have HA : Hid (0 ≤ xs[k].a) := Lib.hid r1.1
      have R1 := Lib.hid r1
      have R3 := Lib.hid r3
      have hvw : IntKind.u8.wrap xs[k].v = xs[k].v % 256 := wrap8 _ r3.1
      have HBY : Hid (0 ≤ xs[k].v % 256 ∧ xs[k].v % 256 < 256) := Lib.hid (by omega)
      have HV0 : Hid (0 ≤ xs[k].v) := Lib.hid r3.1
      have HLO : Hid (t.out.length < 65536) := Lib.hid (by have := HX200.out; omega)
      have HLI : Hid (t.inn.length ≤ 16) := Lib.hid hT.own.obj.ok.li
      have HBYT : Hid (Byt t.inn) := Lib.hid hT.ri.1
      clear hc hbr hv2 r0 r1 r2 r3 hT hlk hri hci hcm
      generalize xs[k] = x at *
      obtain ⟨xd, xa, xn, xv⟩ := x
      simp only at c0 c1 c2 c3 HXM HA R1 R3 hvw HBY HV0
      go_wp2_with fail
      generalize wr.alloc (.cells #[.int .i64 xd, .int .u64 xa, .int .i64 xn, .int .u64 xv] 40) = w1 at *
      obtain ⟨bx, hbx⟩ : ∃ bx, wr.heap.size = bx := ⟨_, rfl⟩
      rw [hbx] at HXM ⊢
      clear hbx c0 c1 c2 c3 HOW
      have hp3 : plK t 3 1 = 3 := plK_off (by omega) (by omega) (fun h => by omega)
      have HK3 : Hid (okK (plK t 3 1) = true ∧ rdX t (plK t 3 1) = t.lcr ∧ rdT t (plK t 3 1) = t) := Lib.hid (by rw [hp3]; exact ⟨rfl, rfl, rfl⟩)
      (with_reducible refine (ordRead w w1 b F t _ _ _ _ bx _ HXM.out 3 1 t.lcr true t in64_of HK3.out.1 HK3.out.2.1 HK3.out.2.2).mono ?_)
      rintro e w2 ⟨rfl, F, hX⟩
      have HX := Lib.hid hX
      clear hX HXM hp3 HK3
      obtain ⟨d0, d1, d2, d3⟩ := act_at0 HX.out.hx
      simp only at d0 d1 d2 d3
      have hA0 := HA.out
      have hV0 := HV0.out
      go_upto_block 2 with (fail)
      obtain ⟨lb, hlb⟩ : ∃ lb, decide (128 ≤ t.lcr) = lb := ⟨_, rfl⟩
      rw [hlb]
      have HLB := Lib.hid hlb
      have hqt : xv.tdiv 2 = xv / 2 := Int.tdiv_eq_ediv_of_nonneg hV0
      have hqw : IntKind.u64.wrap (xv / 2) = xv / 2 := by rw [IntKind.wrap_u64]; have := R3.out.2; omega
      clear hlb
      go_cut [4, 5, 11, 12, 13] from 43 to 179 (fun vi vo _ _ _ wx => ∃ F t9, Ord w wx b F t9 vi t9.inn vo t9.out ∧ t9.out.length ≤ k + 1)
      case first =>
        by_cases hd0 : xd = 0
        · subst hd0
          as_aux_lemma =>
            by_cases hn : xn = 1
            · subst hn
              by_cases h8 : xa < 8
              · by_cases ha0 : xa = 0
                · by_cases hL : 128 ≤ t.lcr
                  · subst ha0
                    obtain rfl : lb = true := by rw [← HLB.out]; exact decide_eq_true hL
                    clear HLB
                    have hkp : ¬ plK t 0 1 = 0 := pl_ne0 (by omega) (by omega) (.inr hL)
                    have hkl : plK t 0 1 < 10 := pl_gen (by omega) (by omega)
                    have hk2 : ¬ plK t 0 1 = 2 := pl_ne2 (by omega) (by omega) (by omega)
                    obtain ⟨t9, h9⟩ : ∃ t9 : US, wrT t (xv % 256) (plK t 0 1) = t9 := ⟨_, rfl⟩
                    have HT : Hid (t.inn = t9.inn ∧ t.out = t9.out) := Lib.hid (by rw [← h9]; exact ⟨(wrT_same hkp hk2).1.symm, (wrT_same hkp hk2).2.symm⟩)
                    have H9 := Lib.hid h9
                    clear h9
                    have HK : Hid (okK (plK t 0 1) = true) := Lib.hid (decide_eq_true hkl)
                    clear hkp hkl hk2
                    go_wp2_with fail
                    (with_reducible refine (ordWrite w w2 b F t _ _ _ _ bx _ HX.out 0 1 xv true t9 R1.out R3.out HK.out H9.out).mono ?_)
                    rintro e w3 ⟨rfl, F, hX⟩
                    replace HX := Lib.hid hX
                    clear hX d0 d1 d2 d3
                    obtain ⟨d0, d1, d2, d3⟩ := act_at0 HX.out.hx
                    simp only at d0 d1 d2 d3
                    have HOZ := Lib.hid (ord_to HX.out.o HT.out.1 HT.out.2)
                    have HLZ : Hid (t9.out.length ≤ k + 1) := Lib.hid (by rw [← HT.out.2]; have := HLK.out; omega)
                    clear HX HT HK H9
                    go_wp2
                    go_meet
                    exact ⟨F, t9, HOZ.out, HLZ.out⟩
                  · subst ha0
                    obtain rfl : lb = false := by rw [← HLB.out]; exact decide_eq_false hL
                    clear HLB
                    have hkk : plK t 0 1 = 0 := plK_off (by omega) (by omega) (fun h => by omega)
                    obtain ⟨t9, h9⟩ : ∃ t9 : US, wrT t (xv % 256) (plK t 0 1) = t9 := ⟨_, rfl⟩
                    have HT : Hid (t.inn = t9.inn ∧ t.out ++ [xv % 256] = t9.out) := Lib.hid (by rw [← h9]; exact by rw [hkk]; exact ⟨rfl, by show _ = (sendT t (xv % 256)).out; unfold sendT; rw [if_pos HLO.out]⟩)
                    have H9 := Lib.hid h9
                    clear h9
                    have HK : Hid (okK (plK t 0 1) = true) := Lib.hid (by rw [hkk]; rfl)
                    clear hkk
                    go_wp2_with fail
                    (with_reducible refine (ordWrite w w2 b F t _ _ _ _ bx _ HX.out 0 1 xv true t9 R1.out R3.out HK.out H9.out).mono ?_)
                    rintro e w3 ⟨rfl, F, hX⟩
                    replace HX := Lib.hid hX
                    clear hX d0 d1 d2 d3
                    obtain ⟨d0, d1, d2, d3⟩ := act_at0 HX.out.hx
                    simp only at d0 d1 d2 d3
                    obtain ⟨a3, c3, w4, hrun, hX⟩ := HX.out.pushO (by have := HLO.out; omega) (xv % 256) HBY.out
                    have HRUN := Lib.hid hrun
                    replace HX := Lib.hid hX
                    have hx4 := HX.out.hx
                    obtain ⟨f0, f1, f2, f3⟩ := act_at0 hx4
                    simp only at f0 f1 f2 f3
                    clear hrun hX hx4
                    have HOZ := Lib.hid (ord_to HX.out.o HT.out.1 HT.out.2)
                    have HLZ : Hid (t9.out.length ≤ k + 1) := Lib.hid (by rw [← HT.out.2, List.length_append]; have := HLK.out; simp; omega)
                    have hL2 : t.lcr < 128 := by omega
                    clear hL HX HT HK H9
                    go_wp2_with ((at_builtin; refine wpList_append_run rfl _ _ _ rfl (.slice ao t.out.length co) (.slice (some ⟨w3.heap.size, 0, none⟩) 1 1) (.slice a3 (t.out.length + 1) c3) w4 rfl rfl HRUN.out ?_))
                    go_meet
                    exact ⟨F, t9, HOZ.out, HLZ.out⟩
                · by_cases ha2 : xa = 2
                  · by_cases hbit : xv / 2 % 2 = 1
                    · subst ha2
                      have hkk : plK t 2 1 = 2 := plK_off (by omega) (by omega) (fun h => by omega)
                      have hm : xv % 256 / 2 % 2 = 1 := by omega
                      obtain ⟨t9, h9⟩ : ∃ t9 : US, wrT t (xv % 256) (plK t 2 1) = t9 := ⟨_, rfl⟩
                      have HT : Hid (([] : List Int) = t9.inn ∧ t.out = t9.out) := Lib.hid (by rw [← h9]; exact by rw [hkk]; exact ⟨by show _ = (fcrT t (xv % 256)).inn; unfold fcrT; rw [if_pos hm], rfl⟩)
                      have H9 := Lib.hid h9
                      clear h9
                      have HK : Hid (okK (plK t 2 1) = true) := Lib.hid (by rw [hkk]; rfl)
                      clear hkk hm
                      go_wp2_with fail
                      (with_reducible refine (ordWrite w w2 b F t _ _ _ _ bx _ HX.out 2 1 xv true t9 R1.out R3.out HK.out H9.out).mono ?_)
                      rintro e w3 ⟨rfl, F, hX⟩
                      replace HX := Lib.hid hX
                      clear hX d0 d1 d2 d3
                      obtain ⟨d0, d1, d2, d3⟩ := act_at0 HX.out.hx
                      simp only at d0 d1 d2 d3
                      replace HX := Lib.hid HX.out.nilI
                      have HOZ := Lib.hid (ord_to HX.out.o HT.out.1 HT.out.2)
                      have HLZ : Hid (t9.out.length ≤ k + 1) := Lib.hid (by rw [← HT.out.2]; have := HLK.out; omega)
                      clear HX HT HK H9
                      go_wp2
                      go_meet
                      exact ⟨F, t9, HOZ.out, HLZ.out⟩
                    · subst ha2
                      have hkk : plK t 2 1 = 2 := plK_off (by omega) (by omega) (fun h => by omega)
                      have hm : ¬ xv % 256 / 2 % 2 = 1 := by omega
                      have hb2 : (xv / 2 % 2 == 1) = false := by simpa using hbit
                      obtain ⟨t9, h9⟩ : ∃ t9 : US, wrT t (xv % 256) (plK t 2 1) = t9 := ⟨_, rfl⟩
                      have HT : Hid (t.inn = t9.inn ∧ t.out = t9.out) := Lib.hid (by rw [← h9]; exact by rw [hkk]; exact ⟨by show _ = (fcrT t (xv % 256)).inn; unfold fcrT; rw [if_neg hm], rfl⟩)
                      have H9 := Lib.hid h9
                      clear h9
                      have HK : Hid (okK (plK t 2 1) = true) := Lib.hid (by rw [hkk]; rfl)
                      clear hkk hm hbit
                      go_wp2_with fail
                      (with_reducible refine (ordWrite w w2 b F t _ _ _ _ bx _ HX.out 2 1 xv true t9 R1.out R3.out HK.out H9.out).mono ?_)
                      rintro e w3 ⟨rfl, F, hX⟩
                      replace HX := Lib.hid hX
                      clear hX d0 d1 d2 d3
                      obtain ⟨d0, d1, d2, d3⟩ := act_at0 HX.out.hx
                      simp only at d0 d1 d2 d3
                      have HOZ := Lib.hid (ord_to HX.out.o HT.out.1 HT.out.2)
                      have HLZ : Hid (t9.out.length ≤ k + 1) := Lib.hid (by rw [← HT.out.2]; have := HLK.out; omega)
                      clear HX HT HK H9
                      go_wp2
                      go_meet
                      exact ⟨F, t9, HOZ.out, HLZ.out⟩
                  · have ha0b : (xa == 0) = false := by simpa using ha0
                    have ha2b : (xa == 2) = false := by simpa using ha2
                    have hkp : ¬ plK t xa 1 = 0 := pl_ne0 hA0 h8 (.inl ha0)
                    have hkl : plK t xa 1 < 10 := pl_gen (by omega) (by omega)
                    have hk2 : ¬ plK t xa 1 = 2 := pl_ne2 (by omega) (by omega) (by omega)
                    obtain ⟨t9, h9⟩ : ∃ t9 : US, wrT t (xv % 256) (plK t xa 1) = t9 := ⟨_, rfl⟩
                    have HT : Hid (t.inn = t9.inn ∧ t.out = t9.out) := Lib.hid (by rw [← h9]; exact ⟨(wrT_same hkp hk2).1.symm, (wrT_same hkp hk2).2.symm⟩)
                    have H9 := Lib.hid h9
                    clear h9
                    have HK : Hid (okK (plK t xa 1) = true) := Lib.hid (decide_eq_true hkl)
                    clear hkp hkl hk2 ha0 ha2
                    go_wp2_with fail
                    (with_reducible refine (ordWrite w w2 b F t _ _ _ _ bx _ HX.out xa 1 xv true t9 R1.out R3.out HK.out H9.out).mono ?_)
                    rintro e w3 ⟨rfl, F, hX⟩
                    replace HX := Lib.hid hX
                    clear hX d0 d1 d2 d3
                    obtain ⟨d0, d1, d2, d3⟩ := act_at0 HX.out.hx
                    simp only at d0 d1 d2 d3
                    have HOZ := Lib.hid (ord_to HX.out.o HT.out.1 HT.out.2)
                    have HLZ : Hid (t9.out.length ≤ k + 1) := Lib.hid (by rw [← HT.out.2]; have := HLK.out; omega)
                    clear HX HT HK H9
                    go_wp2
                    go_meet
                    exact ⟨F, t9, HOZ.out, HLZ.out⟩
              · have h8b : (8 : Int) ≤ xa := by omega
                have hkk : plK t xa 1 = 10 := plK_none (fun h => h8 h.2.2)
                obtain ⟨t9, h9⟩ : ∃ t9 : US, wrT t (xv % 256) (plK t xa 1) = t9 := ⟨_, rfl⟩
                have HT : Hid (t.inn = t9.inn ∧ t.out = t9.out) := Lib.hid (by rw [← h9]; exact by rw [hkk]; exact ⟨rfl, rfl⟩)
                have H9 := Lib.hid h9
                clear h9
                have HK : Hid (okK (plK t xa 1) = false) := Lib.hid (by rw [hkk]; rfl)
                clear hkk h8
                go_wp2_with fail
                (with_reducible refine (ordWrite w w2 b F t _ _ _ _ bx _ HX.out xa 1 xv false t9 R1.out R3.out HK.out H9.out).mono ?_)
                rintro e w3 ⟨rfl, F, hX⟩
                replace HX := Lib.hid hX
                clear hX d0 d1 d2 d3
                obtain ⟨d0, d1, d2, d3⟩ := act_at0 HX.out.hx
                simp only at d0 d1 d2 d3
                have HOZ := Lib.hid (ord_to HX.out.o HT.out.1 HT.out.2)
                have HLZ : Hid (t9.out.length ≤ k + 1) := Lib.hid (by rw [← HT.out.2]; have := HLK.out; omega)
                clear HX HT HK H9
                go_wp2
                go_meet
                exact ⟨F, t9, HOZ.out, HLZ.out⟩
            · have hb1 : (xn == 1) = false := by simpa using hn
              have hkk : plK t xa xn = 10 := plK_none (fun h => hn h.1)
              obtain ⟨t9, h9⟩ : ∃ t9 : US, wrT t (xv % 256) (plK t xa xn) = t9 := ⟨_, rfl⟩
              have HT : Hid (t.inn = t9.inn ∧ t.out = t9.out) := Lib.hid (by rw [← h9]; exact by rw [hkk]; exact ⟨rfl, rfl⟩)
              have H9 := Lib.hid h9
              clear h9
              have HK : Hid (okK (plK t xa xn) = false) := Lib.hid (by rw [hkk]; rfl)
              clear hkk hn
              go_wp2_with fail
              (with_reducible refine (ordWrite w w2 b F t _ _ _ _ bx _ HX.out xa xn xv false t9 R1.out R3.out HK.out H9.out).mono ?_)
              rintro e w3 ⟨rfl, F, hX⟩
              replace HX := Lib.hid hX
              clear hX d0 d1 d2 d3
              obtain ⟨d0, d1, d2, d3⟩ := act_at0 HX.out.hx
              simp only at d0 d1 d2 d3
              have HOZ := Lib.hid (ord_to HX.out.o HT.out.1 HT.out.2)
              have HLZ : Hid (t9.out.length ≤ k + 1) := Lib.hid (by rw [← HT.out.2]; have := HLK.out; omega)
              clear HX HT HK H9
              go_wp2
              go_meet
              exact ⟨F, t9, HOZ.out, HLZ.out⟩
        · by_cases hd1 : xd = 1
          · subst hd1
            as_aux_lemma =>
              by_cases hn : xn = 1
              · subst hn
                by_cases h8 : xa < 8
                · by_cases ha0 : xa = 0
                  · by_cases hL : 128 ≤ t.lcr
                    · subst ha0
                      obtain rfl : lb = true := by rw [← HLB.out]; exact decide_eq_true hL
                      clear HLB
                      have hkp : ¬ plK t 0 1 = 0 := pl_ne0 (by omega) (by omega) (.inr hL)
                      have hkl : plK t 0 1 < 10 := pl_gen (by omega) (by omega)
                      obtain ⟨t9, h9⟩ : ∃ t9 : US, rdT t (plK t 0 1) = t9 := ⟨_, rfl⟩
                      have HT : Hid (t.inn = t9.inn ∧ t.out = t9.out) := Lib.hid (by rw [← h9]; exact ⟨(rdT_same hkp).1.symm, (rdT_same hkp).2.symm⟩)
                      have H9 := Lib.hid h9
                      clear h9
                      obtain ⟨X, hX9⟩ : ∃ X, rdX t (plK t 0 1) = X := ⟨_, rfl⟩
                      have hxb : 0 ≤ X ∧ X < 256 := by rw [← hX9]; exact rdX_any HX.out.o.own.obj
                      obtain ⟨q0, q1⟩ := hxb
                      have hq : decide ((255 : Int) < X) = false := by rw [decide_eq_false_iff_not]; omega
                      have HK : Hid (okK (plK t 0 1) = true ∧ rdX t (plK t 0 1) = X) := Lib.hid ⟨decide_eq_true hkl, hX9⟩
                      clear hkp hkl hX9 q0 q1
                      go_wp2_with fail
                      (with_reducible refine (ordRead w w2 b F t _ _ _ _ bx _ HX.out 0 1 X true t9 R1.out HK.out.1 HK.out.2 H9.out).mono ?_)
                      rintro e w3 ⟨rfl, F, hX⟩
                      replace HX := Lib.hid hX
                      clear hX d0 d1 d2 d3
                      obtain ⟨d0, d1, d2, d3⟩ := act_at0 HX.out.hx
                      simp only at d0 d1 d2 d3
                      have HOZ := Lib.hid (ord_to HX.out.o HT.out.1 HT.out.2)
                      have HLZ : Hid (t9.out.length ≤ k + 1) := Lib.hid (by rw [← HT.out.2]; have := HLK.out; omega)
                      clear HX HT HK H9
                      go_wp2
                      go_meet
                      exact ⟨F, t9, HOZ.out, HLZ.out⟩
                    · subst ha0
                      obtain rfl : lb = false := by rw [← HLB.out]; exact decide_eq_false hL
                      clear HLB
                      have hkk : plK t 0 1 = 0 := plK_off (by omega) (by omega) (fun h => by omega)
                      by_cases hin : 0 < t.inn.length
                      · obtain ⟨z, zs, hzz⟩ : ∃ z zs, t.inn = z :: zs := by
                          cases hc : t.inn with
                          | nil => rw [hc] at hin; simp at hin
                          | cons z zs => exact ⟨z, zs, rfl⟩
                        have hzl : t.inn.length = zs.length + 1 := by rw [hzz]; rfl
                        have hzb : 0 ≤ z ∧ z < 256 := HBYT.out z (by rw [hzz]; simp)
                        obtain ⟨z0, z1⟩ := hzb
                        rcases HRI.out with ⟨_, _, h0⟩ | ⟨g, d, rfl, _, _⟩
                        · rw [hzz] at h0; cases h0
                        obtain ⟨t9, h9⟩ : ∃ t9 : US, rdT t (plK t 0 1) = t9 := ⟨_, rfl⟩
                        have HT : Hid (zs = t9.inn ∧ t.out = t9.out) := Lib.hid (by rw [← h9]; exact by rw [hkk]; exact ⟨by show zs = t.inn.tail; rw [hzz]; rfl, rfl⟩)
                        have H9 := Lib.hid h9
                        clear h9
                        have HK : Hid (okK (plK t 0 1) = true ∧ rdX t (plK t 0 1) = z) := Lib.hid (by rw [hkk]; exact ⟨rfl, by show t.inn.getD 0 0 = z; rw [hzz]; rfl⟩)
                        have hnci : zs.length + 1 ≤ ci := by have := HCI.out; omega
                        have hcut := fun wr => run_rest wr g d (zs.length + 1) ci (by omega) hnci
                        rw [show zs.length + 1 - 1 = zs.length by omega] at hcut
                        have hq : decide ((255 : Int) < z) = false := by rw [decide_eq_false_iff_not]; omega
                        have HX1 : Hid (OrdX w w2 b F t (.slice (some ⟨g, d, none⟩) (zs.length + 1) ci) (z :: zs) (.slice ao t.out.length co) t.out bx ⟨1, 0, 1, xv⟩) := Lib.hid (by have h := HX.out; rw [hzl, hzz] at h; exact h)
                        replace HX := HX1
                        clear HX1
                        rw [hzl]
                        obtain ⟨m, hm⟩ : ∃ m, zs.length = m := ⟨_, rfl⟩
                        rw [hm] at hcut HX ⊢
                        have HM := Lib.hid hm
                        clear hkk hin hzz hzl hnci hm
                        go_wp2_with fail
                        (with_reducible refine (ordRead w w2 b F t _ _ _ _ bx _ HX.out 0 1 z true t9 R1.out HK.out.1 HK.out.2 H9.out).mono ?_)
                        rintro e w3 ⟨rfl, F, hX⟩
                        replace HX := Lib.hid hX
                        clear hX d0 d1 d2 d3
                        obtain ⟨d0, d1, d2, d3⟩ := act_at0 HX.out.hx
                        simp only at d0 d1 d2 d3
                        obtain ⟨a8, c8, hv8, _, _, hr8⟩ := HX.out.o.ri.reads
                        injection hv8 with ha8 hn8 hc8
                        clear hn8
                        subst ha8 hc8
                        rcases hr8 with ⟨h8n, _, _⟩ | ⟨g8, d8, h8e, _, hcz⟩
                        · cases h8n
                        injection h8e with h8e
                        injection h8e with hg8 hd8 _
                        subst hg8 hd8
                        have cz := hcz 0 (by simp)
                        simp only [Nat.add_zero, List.getD_cons_zero] at cz
                        clear hcz
                        have HX2 := Lib.hid HX.out.cutI
                        rw [HM.out] at HX2
                        have hL2 : t.lcr < 128 := by omega
                        clear hL HX
                        have HX := HX2
                        clear HX2
                        generalize (if ci = 1 then d else d + 1) = d9 at *
                        generalize ci - 1 = c9 at *
                        have HOZ := Lib.hid (ord_to HX.out.o HT.out.1 HT.out.2)
                        have HLZ : Hid (t9.out.length ≤ k + 1) := Lib.hid (by rw [← HT.out.2]; have := HLK.out; omega)
                        clear HX HT HK H9
                        go_wp2
                        go_meet
                        exact ⟨F, t9, HOZ.out, HLZ.out⟩
                      · have hL2 : t.lcr < 128 := by omega
                        clear hL
                        have hzi : t.inn = [] := List.eq_nil_of_length_eq_zero (by omega)
                        have hz0 : t.inn.length = 0 := by omega
                        obtain ⟨t9, h9⟩ : ∃ t9 : US, rdT t (plK t 0 1) = t9 := ⟨_, rfl⟩
                        have HT : Hid (t.inn = t9.inn ∧ t.out = t9.out) := Lib.hid (by rw [← h9]; exact by rw [hkk]; exact ⟨by show t.inn = t.inn.tail; rw [hzi]; rfl, rfl⟩)
                        have H9 := Lib.hid h9
                        clear h9
                        have HK : Hid (okK (plK t 0 1) = true ∧ rdX t (plK t 0 1) = 0) := Lib.hid (by rw [hkk]; exact ⟨rfl, by show t.inn.getD 0 0 = 0; rw [hzi]; rfl⟩)
                        clear hkk hin hzi
                        go_wp2_with fail
                        (with_reducible refine (ordRead w w2 b F t _ _ _ _ bx _ HX.out 0 1 0 true t9 R1.out HK.out.1 HK.out.2 H9.out).mono ?_)
                        rintro e w3 ⟨rfl, F, hX⟩
                        replace HX := Lib.hid hX
                        clear hX d0 d1 d2 d3
                        obtain ⟨d0, d1, d2, d3⟩ := act_at0 HX.out.hx
                        simp only at d0 d1 d2 d3
                        have HOZ := Lib.hid (ord_to HX.out.o HT.out.1 HT.out.2)
                        have HLZ : Hid (t9.out.length ≤ k + 1) := Lib.hid (by rw [← HT.out.2]; have := HLK.out; omega)
                        clear HT HK H9
                        obtain ⟨nn, hnn⟩ : ∃ nn, t.inn.length = nn := ⟨_, rfl⟩
                        rw [hnn] at hz0 HX HOZ ⊢
                        clear hnn HX
                        subst hz0
                        go_wp2
                        go_meet
                        exact ⟨F, t9, HOZ.out, HLZ.out⟩
                  · have ha0b : (xa == 0) = false := by simpa using ha0
                    have hkp : ¬ plK t xa 1 = 0 := pl_ne0 hA0 h8 (.inl ha0)
                    have hkl : plK t xa 1 < 10 := pl_gen (by omega) (by omega)
                    obtain ⟨t9, h9⟩ : ∃ t9 : US, rdT t (plK t xa 1) = t9 := ⟨_, rfl⟩
                    have HT : Hid (t.inn = t9.inn ∧ t.out = t9.out) := Lib.hid (by rw [← h9]; exact ⟨(rdT_same hkp).1.symm, (rdT_same hkp).2.symm⟩)
                    have H9 := Lib.hid h9
                    clear h9
                    obtain ⟨X, hX9⟩ : ∃ X, rdX t (plK t xa 1) = X := ⟨_, rfl⟩
                    have hxb : 0 ≤ X ∧ X < 256 := by rw [← hX9]; exact rdX_any HX.out.o.own.obj
                    obtain ⟨q0, q1⟩ := hxb
                    have hq : decide ((255 : Int) < X) = false := by rw [decide_eq_false_iff_not]; omega
                    have HK : Hid (okK (plK t xa 1) = true ∧ rdX t (plK t xa 1) = X) := Lib.hid ⟨decide_eq_true hkl, hX9⟩
                    clear hkp hkl hX9 q0 q1 ha0
                    go_wp2_with fail
                    (with_reducible refine (ordRead w w2 b F t _ _ _ _ bx _ HX.out xa 1 X true t9 R1.out HK.out.1 HK.out.2 H9.out).mono ?_)
                    rintro e w3 ⟨rfl, F, hX⟩
                    replace HX := Lib.hid hX
                    clear hX d0 d1 d2 d3
                    obtain ⟨d0, d1, d2, d3⟩ := act_at0 HX.out.hx
                    simp only at d0 d1 d2 d3
                    have HOZ := Lib.hid (ord_to HX.out.o HT.out.1 HT.out.2)
                    have HLZ : Hid (t9.out.length ≤ k + 1) := Lib.hid (by rw [← HT.out.2]; have := HLK.out; omega)
                    clear HX HT HK H9
                    go_wp2
                    go_meet
                    exact ⟨F, t9, HOZ.out, HLZ.out⟩
                · have h8b : (8 : Int) ≤ xa := by omega
                  have hkk : plK t xa 1 = 10 := plK_none (fun h => h8 h.2.2)
                  obtain ⟨t9, h9⟩ : ∃ t9 : US, rdT t (plK t xa 1) = t9 := ⟨_, rfl⟩
                  have HT : Hid (t.inn = t9.inn ∧ t.out = t9.out) := Lib.hid (by rw [← h9]; exact by rw [hkk]; exact ⟨rfl, rfl⟩)
                  have H9 := Lib.hid h9
                  clear h9
                  have HK : Hid (okK (plK t xa 1) = false ∧ rdX t (plK t xa 1) = 0) := Lib.hid (by rw [hkk]; exact ⟨rfl, rfl⟩)
                  clear hkk h8
                  go_wp2_with fail
                  (with_reducible refine (ordRead w w2 b F t _ _ _ _ bx _ HX.out xa 1 0 false t9 R1.out HK.out.1 HK.out.2 H9.out).mono ?_)
                  rintro e w3 ⟨rfl, F, hX⟩
                  replace HX := Lib.hid hX
                  clear hX d0 d1 d2 d3
                  obtain ⟨d0, d1, d2, d3⟩ := act_at0 HX.out.hx
                  simp only at d0 d1 d2 d3
                  have HOZ := Lib.hid (ord_to HX.out.o HT.out.1 HT.out.2)
                  have HLZ : Hid (t9.out.length ≤ k + 1) := Lib.hid (by rw [← HT.out.2]; have := HLK.out; omega)
                  clear HX HT HK H9
                  go_wp2
                  go_meet
                  exact ⟨F, t9, HOZ.out, HLZ.out⟩
              · have hb1 : (xn == 1) = false := by simpa using hn
                have hkk : plK t xa xn = 10 := plK_none (fun h => hn h.1)
                obtain ⟨t9, h9⟩ : ∃ t9 : US, rdT t (plK t xa xn) = t9 := ⟨_, rfl⟩
                have HT : Hid (t.inn = t9.inn ∧ t.out = t9.out) := Lib.hid (by rw [← h9]; exact by rw [hkk]; exact ⟨rfl, rfl⟩)
                have H9 := Lib.hid h9
                clear h9
                have HK : Hid (okK (plK t xa xn) = false ∧ rdX t (plK t xa xn) = 0) := Lib.hid (by rw [hkk]; exact ⟨rfl, rfl⟩)
                clear hkk hn
                go_wp2_with fail
                (with_reducible refine (ordRead w w2 b F t _ _ _ _ bx _ HX.out xa xn 0 false t9 R1.out HK.out.1 HK.out.2 H9.out).mono ?_)
                rintro e w3 ⟨rfl, F, hX⟩
                replace HX := Lib.hid hX
                clear hX d0 d1 d2 d3
                obtain ⟨d0, d1, d2, d3⟩ := act_at0 HX.out.hx
                simp only at d0 d1 d2 d3
                have HOZ := Lib.hid (ord_to HX.out.o HT.out.1 HT.out.2)
                have HLZ : Hid (t9.out.length ≤ k + 1) := Lib.hid (by rw [← HT.out.2]; have := HLK.out; omega)
                clear HX HT HK H9
                go_wp2
                go_meet
                exact ⟨F, t9, HOZ.out, HLZ.out⟩
          · by_cases hd2 : xd = 2
            · subst hd2
              as_aux_lemma =>
                by_cases h16 : t.inn.length < 16
                · obtain ⟨t9, h9⟩ : ∃ t9 : US, feedT t (xv % 256) = t9 := ⟨_, rfl⟩
                  have HT : Hid (t.inn ++ [xv % 256] = t9.inn ∧ t.out = t9.out) := Lib.hid (by rw [← h9]; exact by unfold feedT; rw [if_neg (by omega)]; exact ⟨rfl, rfl⟩)
                  have H9 := Lib.hid h9
                  clear h9
                  have HK : Hid (feedK t = true) := Lib.hid (decide_eq_true h16)
                  have h16b : decide ((t.inn.length : Int) < 16) = true := by rw [decide_eq_true_eq]; omega
                  clear h16
                  go_wp2_with fail
                  (with_reducible refine (ordFeed w w2 b F t _ _ _ _ bx _ HX.out (xv % 256) true t9 HBY.out HK.out H9.out).mono ?_)
                  rintro e w3 ⟨rfl, F, hX⟩
                  replace HX := Lib.hid hX
                  clear hX d0 d1 d2 d3
                  obtain ⟨d0, d1, d2, d3⟩ := act_at0 HX.out.hx
                  simp only at d0 d1 d2 d3
                  obtain ⟨a3, c3, w4, hrun, hX⟩ := HX.out.pushI (by have := HLI.out; omega) (xv % 256) HBY.out
                  have HRUN := Lib.hid hrun
                  replace HX := Lib.hid hX
                  clear hrun hX
                  have HOZ := Lib.hid (ord_to HX.out.o HT.out.1 HT.out.2)
                  have HLZ : Hid (t9.out.length ≤ k + 1) := Lib.hid (by rw [← HT.out.2]; have := HLK.out; omega)
                  clear HX HT HK H9
                  go_wp2_with ((at_builtin; refine wpList_append_run rfl _ _ _ rfl (.slice ai t.inn.length ci) (.slice (some ⟨w3.heap.size, 0, none⟩) 1 1) (.slice a3 (t.inn.length + 1) c3) w4 rfl rfl HRUN.out ?_))
                  go_meet
                  exact ⟨F, t9, HOZ.out, HLZ.out⟩
                · obtain ⟨t9, h9⟩ : ∃ t9 : US, feedT t (xv % 256) = t9 := ⟨_, rfl⟩
                  have HT : Hid (t.inn = t9.inn ∧ t.out = t9.out) := Lib.hid (by rw [← h9]; exact by have := HLI.out; unfold feedT; rw [if_pos (by omega)]; exact ⟨rfl, rfl⟩)
                  have H9 := Lib.hid h9
                  clear h9
                  have HK : Hid (feedK t = false) := Lib.hid (decide_eq_false h16)
                  have h16b : decide ((t.inn.length : Int) < 16) = false := by rw [decide_eq_false_iff_not]; omega
                  clear h16
                  go_wp2_with fail
                  (with_reducible refine (ordFeed w w2 b F t _ _ _ _ bx _ HX.out (xv % 256) false t9 HBY.out HK.out H9.out).mono ?_)
                  rintro e w3 ⟨rfl, F, hX⟩
                  replace HX := Lib.hid hX
                  clear hX d0 d1 d2 d3
                  obtain ⟨d0, d1, d2, d3⟩ := act_at0 HX.out.hx
                  simp only at d0 d1 d2 d3
                  have HOZ := Lib.hid (ord_to HX.out.o HT.out.1 HT.out.2)
                  have HLZ : Hid (t9.out.length ≤ k + 1) := Lib.hid (by rw [← HT.out.2]; have := HLK.out; omega)
                  clear HX HT HK H9
                  go_wp2
                  go_meet
                  exact ⟨F, t9, HOZ.out, HLZ.out⟩
            · have b0 : (xd == 0) = false := by simpa using hd0
              have b1 : (xd == 1) = false := by simpa using hd1
              have b2 : (xd == 2) = false := by simpa using hd2
              clear hd0 hd1 hd2
              have HOZ := Lib.hid HX.out.o
              have HLZ : Hid (t.out.length ≤ k + 1) := Lib.hid (by have := HLK.out; omega)
              clear HX
              go_wp2
              go_meet
              exact ⟨F, t, HOZ.out, HLZ.out⟩
      case rest =>
        as_aux_lemma =>
          obtain ⟨F, t9, hO, hlz⟩ := hcut
          have HOZ := Lib.hid hO
          have HLZ := Lib.hid hlz
          obtain ⟨a9, n9, rfl, _, _, _⟩ := hO.ri.reads
          obtain ⟨e9, m9, rfl, _, _, _⟩ := hO.ro.reads
          have FIN := Lib.hid (fin_of HOZ.out)
          clear hO hlz HX d0 d1 d2 d3
          go_wp2_with fail
          refine wp_region_held_drew (S := fun wx => Below wc.heap.size wc wx) (by kernel_rfl) ((Below.refl _ _).drew) (fun hHeld0 => ?_)
          have HS := Lib.hid hHeld0
          clear hHeld0
          refine takeD (i := 0) (some 180) (v := ?_) rfl rfl (by kernel_rfl) (by kernel_rfl) (by kernel_rfl) (fun _ _ _ h => h) (by rfl) HS.out ?_ ?_
          rotate_left
          · intro wx hSx
            clear hSx
            go_simp
            try (with_reducible rfl)
          simp only [Act.put, List.setIfInBounds_toArray, List.set_cons_zero, List.set_cons_succ]
          refine takeD (i := 2) (some 182) (v := ?_) rfl rfl (by kernel_rfl) (by kernel_rfl) (by kernel_rfl) (fun _ _ _ h => h) (by rfl) HS.out ?_ ?_
          rotate_left
          · intro wx hSx
            clear hSx
            go_simp
            try (with_reducible rfl)
          simp only [Act.put, List.setIfInBounds_toArray, List.set_cons_zero, List.set_cons_succ]
          refine takeD (i := 3) (some 183) (v := ?_) rfl rfl (by kernel_rfl) (by kernel_rfl) (by kernel_rfl) (fun _ _ _ h => h) (by rfl) HS.out ?_ ?_
          rotate_left
          · intro wx hSx
            clear hSx
            go_simp
            try (with_reducible rfl)
          simp only [Act.put, List.setIfInBounds_toArray, List.set_cons_zero, List.set_cons_succ]
          refine wpAnyH_ready (rs := [1]) (by kernel_rfl) (by simp) ?_
          refine AllReadyH.cons rfl (fun K hK => ?_) AllReadyH.nil
          go_simp
          (with_reducible refine (FIN.out.wa _ HS.out).mono ?_)
          rintro e wq ⟨rfl, rfl⟩
          go_simp
          refine hK.out _ _ ?_ (fun hHeld => ?_)
          · exact HS.out
          clear hHeld hK K
          try simp only [Act.put, List.setIfInBounds_toArray, List.set_cons_zero, List.set_cons_succ]
          refine takeD (i := 4) (some 184) (v := ?_) rfl rfl (by kernel_rfl) (by kernel_rfl) (by kernel_rfl) (fun _ _ _ h => h) (by rfl) HS.out ?_ ?_
          rotate_left
          · intro wx hSx
            clear hSx
            go_simp
            try (with_reducible rfl)
          simp only [Act.put, List.setIfInBounds_toArray, List.set_cons_zero, List.set_cons_succ]
          refine takeD (i := 5) (some 185) (v := ?_) rfl rfl (by kernel_rfl) (by kernel_rfl) (by kernel_rfl) (fun _ _ _ h => h) (by rfl) HS.out ?_ ?_
          rotate_left
          · intro wx hSx
            clear hSx
            go_simp
            try (with_reducible rfl)
          simp only [Act.put, List.setIfInBounds_toArray, List.set_cons_zero, List.set_cons_succ]
          refine takeD (i := 6) (some 186) (v := ?_) rfl rfl (by kernel_rfl) (by kernel_rfl) (by kernel_rfl) (fun _ _ _ h => h) (by rfl) HS.out ?_ ?_
          rotate_left
          · intro wx hSx
            clear hSx
            go_simp
            try (with_reducible rfl)
          simp only [Act.put, List.setIfInBounds_toArray, List.set_cons_zero, List.set_cons_succ]
          refine takeD (i := 9) (some 189) (v := ?_) rfl rfl (by kernel_rfl) (by kernel_rfl) (by kernel_rfl) (fun _ _ _ h => h) (by rfl) HS.out ?_ ?_
          rotate_left
          · intro wx hSx
            clear hSx
            go_simp
            try (with_reducible rfl)
          simp only [Act.put, List.setIfInBounds_toArray, List.set_cons_zero, List.set_cons_succ]
          refine takeD (i := 10) (some 190) (v := ?_) rfl rfl (by kernel_rfl) (by kernel_rfl) (by kernel_rfl) (fun _ _ _ h => h) (by rfl) HS.out ?_ ?_
          rotate_left
          · intro wx hSx
            have hcv := FIN.out.cr wx hSx
            clear hSx
            go_simp
            try (with_reducible rfl)
          simp only [Act.put, List.setIfInBounds_toArray, List.set_cons_zero, List.set_cons_succ]
          refine wpAnyH_ready (rs := [7]) (by kernel_rfl) (by simp) ?_
          refine AllReadyH.cons rfl (fun K hK => ?_) AllReadyH.nil
          go_simp
          (with_reducible refine (FIN.out.oa _ HS.out).mono ?_)
          rintro e w9 ⟨a5, n5, c5, rfl, hb5, hcv5⟩
          have HB5 : Hid (Below wc.heap.size wc w9) := Lib.hid (HS.out.trans (hb5.mono HS.out.size))
          have HCV := Lib.hid hcv5
          clear hb5 hcv5
          go_simp
          refine hK.out _ _ ?_ (fun hHeld => ?_)
          · exact HB5.out
          clear hHeld hK K
          try simp only [Act.put, List.setIfInBounds_toArray, List.set_cons_zero, List.set_cons_succ]
          replace HS := HB5
          refine wpAnyH_more (T := fun wx => Below w9.heap.size w9 wx) (fun wx hx => HB5.out.trans (hx.mono HB5.out.size)) _ _ _ _ ?_
          replace HS : Hid (Below w9.heap.size w9 w9) := Lib.hid (Below.refl _ _)
          refine takeD (i := 8) (some 188) (v := ?_) rfl rfl (by kernel_rfl) (by kernel_rfl) (by kernel_rfl) (fun _ _ _ h => h) (by rfl) HS.out ?_ ?_
          rotate_left
          · intro wx hSx
            have hcv := HCV.out wx hSx
            clear hSx
            go_simp
            try (with_reducible rfl)
          simp only [Act.put, List.setIfInBounds_toArray, List.set_cons_zero, List.set_cons_succ]
          refine takeD (i := 11) (some 191) (v := ?_) rfl rfl (by kernel_rfl) (by kernel_rfl) (by kernel_rfl) (fun _ _ _ h => h) (by rfl) HS.out ?_ ?_
          rotate_left
          · intro wx hSx
            clear hSx
            go_simp
            try (with_reducible rfl)
          simp only [Act.put, List.setIfInBounds_toArray, List.set_cons_zero, List.set_cons_succ]
          refine takeD (i := 12) (some 192) (v := ?_) rfl rfl (by kernel_rfl) (by kernel_rfl) (by kernel_rfl) (fun _ _ _ h => h) (by rfl) HS.out ?_ ?_
          rotate_left
          · intro wx hSx
            clear hSx
            go_simp
            try (with_reducible rfl)
          simp only [Act.put, List.setIfInBounds_toArray, List.set_cons_zero, List.set_cons_succ]
          refine wpAnyH_done (by kernel_rfl) ?_ _
          go_wp2
          exact ⟨⟨k + 1, by omega, by go_num, F, t9, HOZ.out.below HB5.out, HLZ.out⟩, by simp [intOf]; omega⟩
    · obtain rfl : k = xs.length := by omega
      have HBR := Lib.hid hbr
      clear hbr hT
      go_wp2
      go_ret
      exact ⟨rfl, HBR.out⟩

end Go.Proofs.YtcbjfkbmbjmnbaaDoor
