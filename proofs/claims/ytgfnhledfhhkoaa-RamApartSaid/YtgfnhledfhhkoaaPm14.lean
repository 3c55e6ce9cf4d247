/- The program's memory of layer 3: whether two pages, two maps of pages, two memories are the same. -/
import Derived.Test.YtgfnhledfhhkoaaPk5
import Derived.StillTailTactics
import Derived.Deep.RegionHeld3
import Derived.Deep.DrawnRows
namespace Go.Proofs.Ytgfnhledfhhkoaa
open Go.RowKit Go.Maps
set_option linter.unusedVariables false

section
variable {P : Program} {ops : Array Oper} {rest : List Oper} {o : Oper} {a : Act} {w : World} {Q : Act → Prop}
theorem wpStill_load_u (hw : Region.wanted o (yielded ops a.tmps) = true) (ty : TypeId) (x : Operand) (ho : o.op = .load ty x) (g : Nat) (hx : a.eval x = .pointer (some ⟨g, 0, none⟩)) (t : TypeId) (n : Nat) (f : Nat → Int) (e : TypeId)
    (hg : w.heap[g]? = some (.cells (uarr n f) t (0, 0))) (hu : P.underlying ty = some (.array n e)) (hi : (P.info? ty).map (·.size) = some n) (h : wpStill P ops w Q rest (a.put o.dst (.agg (uarr n f)))) : wpStill P ops w Q (o :: rest) a := by
  simp only [wpStill, hw, if_true]
  unfold Oper.still execOp
  simp only [ho, hx, Instr.loadAt, Instr.sureAddr, Sem.run_bind, Sem.run_pure, Result.andThen_ok, run_loadVar_row w g t ty (uarr n f) (0, 0) (.array n e) hg hu rfl (by rw [uarr_size]; exact hi)]
  exact ⟨rfl, h⟩
theorem wpStill_eql_u (hw : Region.wanted o (yielded ops a.tmps) = true) (t ty : TypeId) (x y : Operand) (ho : o.op = .binOp .eql t x y ty) (e : TypeId) (n : Nat) (f g : Nat → Int)
    (hx : a.eval x = .agg (uarr n f)) (hy : a.eval y = .agg (uarr n g)) (ht : P.underlying t = some (.array n e)) (hs : (sizeOf e).run P w = .ok 1 w) (ha : (isAgg e).run P w = .ok false w) (he : P.underlying e = some (.int .u8))
    (hm : P.eqGuardType P.depth t = false) (h : wpStill P ops w Q rest (a.put o.dst (.bool (alike n f g)))) : wpStill P ops w Q (o :: rest) a := by
  simp only [wpStill, hw, if_true]
  unfold Oper.still execOp
  simp only [ho, hx, hy, Sem.run_bind, run_eqGuard_agg w .eql t x y _ _ hm, run_eql_bytes w ht hs ha he f g, Result.andThen_ok, Sem.run_pure]
  exact ⟨rfl, h⟩
end

set_option maxRecDepth 100000 in
set_option maxHeartbeats 1000000 in
theorem samePage_any {w : World} {g g' : Nat} {f f' : Nat → Int} (h : HoldsU w g 76 4096 f) (h' : HoldsU w g' 76 4096 f') :
    Calls Try.prog 42 #[.pointer (some ⟨g, 0, none⟩), .pointer (some ⟨g', 0, none⟩)] w fun e w' => e = .returned (.bool (alike 4096 f f')) ∧ w' = w.drew := by
  have H := Lib.hid h
  have H' := Lib.hid h'
  clear h h'
  go_enter Try.func42, Try.ntmps42
  go_wp2_with fail
  refine wp_region_still_lit (by kernel_rfl) (by kernel_rfl) ?_
  still_step
  still_step
  refine wpStill_load_u rfl _ _ rfl g rfl 76 4096 f 5 H.out Try.underlying76 size4096 ?_
  still_step
  still_step
  refine wpStill_load_u rfl _ _ rfl g' rfl 76 4096 f' 5 H'.out Try.underlying76 size4096 ?_
  refine wpStill_eql_u rfl 76 _ _ _ rfl 5 4096 f f' rfl rfl Try.underlying76 (Try.sizeOf5 _) (Try.isAgg5 _) Try.underlying5 guard4096 ?_
  still_step
  refine wpStill_nil ?_
  go_wp2
  go_ret
  exact ⟨rfl, rfl⟩

theorem PgMap.look_ok {P : Program} {t k e : TypeId} {w : World} {mb : Nat} {pg : Int → Option Nat} (h : PgMap P k w mb pg) (T : PgT P t k e) {q : Int} (hq : In64 q) :
    (Instr.lookup t (.map (some mb)) (.int .u64 q) true).run P w = .ok (.tuple #[ptrTo (pg q), .bool (pg q).isSome]) w := by
  obtain ⟨n, D, h1, h2, h3⟩ := h
  obtain ⟨v, ps, hr, hv⟩ := h1.look_ok (int_keyed T.hk) T.ht (T.hz w) (ptrElem_to none) (keyOf_int_mk T.hk (wf_u64 hq))
  obtain ⟨o, rfl, ho⟩ := ptrElem_inv hv
  injection ho with ho _
  rw [h2 q] at ho
  have e := encP_inj ho
  rw [hr, e]
  have : Maps.has D (.int .u64 q) = o.isSome := by
    cases c : Maps.has D (.int .u64 q) with
    | true =>
      obtain ⟨q', _, e1, hne⟩ := h3 _ c
      injection e1 with _ e1
      subst e1
      rw [e] at hne
      cases o with
      | none => exact absurd rfl hne
      | some g => rfl
    | false =>
      have := Maps.atKey_of_not_has (H := Unit) (D := D) c (encP none)
      rw [h2 q, e] at this
      cases o with
      | none => rfl
      | some g => exact absurd (encP_inj this) (by simp)
  rw [this]

theorem nodup_sub {l1 l2 : List Int} (h : l1.Nodup) (hs : ∀ x ∈ l1, x ∈ l2) : l1.length ≤ l2.length := by
  induction l1 generalizing l2 with
  | nil => simp
  | cons a l1 ih =>
    rw [List.nodup_cons] at h
    have h1 := List.length_erase_of_mem (hs a (by simp))
    have h2 := ih (l2 := l2.erase a) h.2 fun x hx => (List.mem_erase_of_ne (fun e => h.1 (by rw [← e]; exact hx))).2 (hs x (by simp [hx]))
    have h3 := List.length_pos_of_mem (hs a (by simp))
    simp only [List.length_cons]
    omega
theorem nodup_all {l1 l2 : List Int} (h : l1.Nodup) (hs : ∀ x ∈ l1, x ∈ l2) (hl : l2.length ≤ l1.length) : ∀ x ∈ l2, x ∈ l1 := by
  intro x hx
  by_cases c : x ∈ l1
  · exact c
  · have := nodup_sub (l1 := x :: l1) (l2 := l2) (List.nodup_cons.2 ⟨c, h⟩) fun y hy => by
      rcases List.mem_cons.1 hy with rfl | hy
      · exact hx
      · exact hs y hy
    simp only [List.length_cons] at this
    omega

/-- A map's numbers as a list, as long as the map. -/
theorem keys_list {w : World} {mb n : Nat} {D : DataW Unit} (h : w.ownsMap Try.prog 26 ptrElem mb n D) (h3 : ∀ kl, Maps.has D kl = true → ∃ q, kl = .int .u64 q) : ∃ ss, AllU D ss ∧ ss.length = Maps.size D := by
  obtain ⟨l, rfl, hp, hk⟩ := h.entries (int_keyed Try.underlying26)
  have hkey : ∀ p ∈ l, ∃ q, p.1 = .int .u64 q := fun p hpm => h3 p.1 (by
    show (l.any fun r => r.1.sameKey p.1) = true
    rw [List.any_eq_true]
    exact ⟨p, hpm, WideAt.sameKey_self (hk p hpm)⟩)
  let f : Lit × DataW Unit → Int := fun p => match p.1 with | .int _ q => q | _ => 0
  refine ⟨l.map f, ⟨?_, fun x => ?_⟩, by simp [Maps.size]⟩
  · rw [List.Nodup, List.pairwise_map]
    refine List.Pairwise.imp_of_mem ?_ hp
    intro a b ha hb hne he
    obtain ⟨q1, e1⟩ := hkey a ha
    obtain ⟨q2, e2⟩ := hkey b hb
    apply hne
    simp only [f, e1, e2] at he
    rw [e1, e2, he]
  · rw [List.mem_map]
    show _ ↔ (l.any fun r => r.1.sameKey (.int .u64 x)) = true
    rw [List.any_eq_true]
    constructor
    · rintro ⟨p, hpm, rfl⟩
      obtain ⟨q, e⟩ := hkey p hpm
      exact ⟨p, hpm, by simp only [f, e]; rw [sameKey_u64]; simp⟩
    · rintro ⟨p, hpm, hs⟩
      obtain ⟨q, e⟩ := hkey p hpm
      rw [e, sameKey_u64] at hs
      exact ⟨p, hpm, by simp only [f, e]; simpa using hs⟩

end Go.Proofs.Ytgfnhledfhhkoaa
namespace Go.Proofs.Ytgfnhledfhhkoaa
open Go.RowKit Go.Maps
set_option linter.unusedVariables false

/-- What is told of two memories that are the same or not. -/
def SameTold (w : World) (p : Prop) (e : Ending) (w' : World) : Prop := Below w.heap.size w w' ∧ ∃ r : Bool, e = .returned (.bool r) ∧ (r = true ↔ p)

/-- The pages that have been asked for are alike. -/
def Alikes (D : DataW Unit) (left : Lit → Bool) (pb : Int → Option Nat) (ma mb : Int → Int) : Prop :=
  ∀ q, Maps.has D (.int .u64 q) = true → left (.int .u64 q) = false → pb q ≠ none ∧ ∀ k : Nat, k < 4096 → ma (q * 4096 + k) = mb (q * 4096 + k)

set_option maxRecDepth 100000 in
set_option maxHeartbeats 4000000 in
theorem equalFunc_any {w : World} {b1 m1 b2 m2 : Nat} {S1 S2 : Nat → Prop} {base1 size1 base2 size2 : Int} {ma mb : Int → Int} {pa pb : Int → Option Nat} (hp : Parts w b1 m1 S1 base1 size1 ma pa) (hq : Parts w b2 m2 S2 base2 size2 mb pb) :
    Calls Try.prog 41 #[.map (some m1), .map (some m2), .func (.func 42) #[] #[]] w (SameTold w (∀ y, ma y = mb y)) := by
  obtain ⟨n1, D1, hown1, h12, h13⟩ := hp.ok.map
  obtain ⟨n2, D2, hown2, h22, h23⟩ := hq.ok.map
  obtain ⟨ss1, hS1, hl1⟩ := keys_list hown1 fun kl h => by obtain ⟨q, _, e, _⟩ := h13 kl h; exact ⟨q, e⟩
  obtain ⟨ss2, hS2, hl2⟩ := keys_list hown2 fun kl h => by obtain ⟨q, _, e, _⟩ := h23 kl h; exact ⟨q, e⟩
  have hlen1 := fun ty => hown1.len Try.underlying62 ty
  have hlen2 := fun ty => hown2.len Try.underlying62 ty
  rw [← hl1] at hlen1
  rw [← hl2] at hlen2
  have HP := Lib.hid hp
  have HQ := Lib.hid hq
  have H12 := Lib.hid h12
  have H13 := Lib.hid h13
  have HS1 := Lib.hid hS1
  have HS2 := Lib.hid hS2
  have HA1 := Lib.hid (has_page hp h12 h13)
  have HA2 := Lib.hid (has_page hq h22 h23)
  clear hp hq h12 h13 h22 h23 hS1 hS2 hl1 hl2
  by_cases hne : ss1.length = ss2.length
  · have HL := Lib.hid hne
    have hb : ((ss1.length : Int) != (ss2.length : Int)) = false := by rw [hne]; simp
    clear hne
    go_enter Try.func41, Try.ntmps41
    go_wp2_with (at_range; refine wpList_range_own _ rfl _ 62 rfl 26 74 (int_keyed Try.underlying26) Try.underlying62 ptrElem m1 n1 D1 rfl hown1 ?_; intro w0 hrg0 hg0 hs0)
    try go_frame
    have hstart : w0.ranges Try.prog 26 ptrElem m1 w.heap.size n1 D1 (Maps.has D1) (Maps.size D1) ∧ Below w.heap.size w w0 ∧ Alikes D1 (Maps.has D1) pb ma mb := ⟨hrg0, (Below.refl _ w).grown hg0 (Nat.le_refl _) (fun _ h => by cases h), fun q h1 h2 => by rw [h1] at h2; cases h2⟩
    have HST := Lib.hid hstart
    clear hstart hrg0 hg0 hs0 hlen1 hlen2 hb
    go_loopw [7] (fun _ wr => ∃ left cnt, wr.ranges Try.prog 26 ptrElem m1 w.heap.size n1 D1 left cnt ∧ Below w.heap.size w wr ∧ Alikes D1 left pb ma mb) (fun _ wr => wr.rangeLeft m1 w.heap.size)
    case atStart => exact ⟨_, _, HST.out⟩
    case round =>
      obtain ⟨left, cnt, hrg, hbel, hal⟩ := hrel
      have HBEL := Lib.hid hbel
      have HAL := Lib.hid hal
      clear hbel hal
      go_wp2_with (at_next; refine wpList_next_ranges _ rfl _ rfl 26 (int_keyed Try.underlying26) ptrElem (Value.int .u64) ptrTo (fun key kl hk => (by obtain ⟨x, hx, _⟩ := Maps.keyOf_int_inv Try.underlying26 hk; exact ⟨x, hx⟩)) (fun v y hv => (by obtain ⟨o, ho, _⟩ := ptrElem_inv hv; exact ⟨o, ho⟩)) m1 w.heap.size n1 D1 left cnt rfl hrg ?_ ?_)
      · intro h0 hl0
        have hall : ∀ y, ma y = mb y := by
          have hsub : ∀ x ∈ ss1, x ∈ ss2 := fun x hx => by
            have h1 := (HS1.out.2 x).1 hx
            obtain ⟨h2, h3⟩ := HAL.out x h1 (hl0 _)
            obtain ⟨y, hy, e⟩ := (HA1.out x).1 h1
            refine (HS2.out.2 x).2 ((HA2.out x).2 ⟨y, ?_, e⟩)
            have := h3 (y % 4096).toNat (by omega)
            rw [show x * 4096 + ((y % 4096).toNat : Int) = y by omega] at this
            rw [← this]; exact hy
          have hsup := nodup_all HS1.out.1 hsub (by have := HL.out; omega)
          intro y
          by_cases c : ma y = 0
          · by_cases d : mb y = 0
            · rw [c, d]
            · have h1 := hsup _ ((HS2.out.2 _).2 ((HA2.out (y / 4096)).2 ⟨y, d, rfl⟩))
              obtain ⟨_, h3⟩ := HAL.out _ ((HS1.out.2 _).1 h1) (hl0 _)
              have := h3 (y % 4096).toNat (by omega)
              rw [show y / 4096 * 4096 + ((y % 4096).toNat : Int) = y by omega] at this
              exact this
          · obtain ⟨_, h3⟩ := HAL.out _ ((HA1.out (y / 4096)).2 ⟨y, c, rfl⟩) (hl0 _)
            have := h3 (y % 4096).toNat (by omega)
            rw [show y / 4096 * 4096 + ((y % 4096).toNat : Int) = y by omega] at this
            exact this
        have HEND : Hid (SameTold w (∀ y, ma y = mb y) (.returned (.bool true)) wr) := Lib.hid ⟨HBEL.out, true, rfl, fun _ => hall, fun _ => rfl⟩
        clear h0 hl0 hall hrg
        go_wp2
        go_ret
        exact HEND.out
      · intro x c kl yd yp w1 cnt1 hkey hlk hv hat hrg1 hlt hg1 hs1 hen
        obtain ⟨hx64, rfl, g0, rfl, epg⟩ := entry_is H12.out H13.out hkey hv hat
        simp only [ptrTo] at hen ⊢
        have hb1 : Below w.heap.size w w1 := HBEL.out.grown hg1 HBEL.out.size (fun k h => by cases h; exact Nat.le_refl _)
        have hp1 := HP.out.below hb1
        have hq1 := HQ.out.below hb1
        have hlook := hq1.ok.map.look_ok pgT hx64
        have hpage1 : HoldsU w1 g0 76 4096 (fun k => ma (x * 4096 + k)) := (hp1.ok.page x g0 epg).1
        have HLT := Lib.hid hlt
        have HLE := Lib.hid hrg.left_eq
        have HB1 := Lib.hid hb1
        have HP1 := Lib.hid hpage1
        have HR1 := Lib.hid hrg1
        have HNE := Lib.hid (hp1.ok.page x g0 epg).2.2.2.2
        cases epb : pb x with
        | none =>
          have HEND : Hid (SameTold w (∀ y, ma y = mb y) (.returned (.bool false)) w1) := by
            refine Lib.hid ⟨HB1.out, false, rfl, (fun h => by cases h), fun h => ?_⟩
            obtain ⟨k, hk, hy⟩ := HNE.out
            rw [h, hq1.ok.gone x epb k hk] at hy
            exact absurd rfl hy
          rw [epb] at hlook
          simp only [ptrTo, Option.isSome] at hlook
          clear hkey hlk hv hat hrg1 hlt hg1 hs1 hb1 hp1 hq1 hpage1 hrg epg epb
          go_wp2
          go_ret
          exact HEND.out
        | some g2 =>
          have hpage2 : HoldsU w1 g2 76 4096 (fun k => mb (x * 4096 + k)) := (hq1.ok.page x g2 epb).1
          have HP2 := Lib.hid hpage2
          have hdr : Below w1.heap.size w1 w1.drew := (Below.refl _ _).drew
          have hb2 := hb1.trans (hdr.mono hb1.size)
          rw [epb] at hlook
          simp only [ptrTo, Option.isSome] at hlook
          cases ha : alike 4096 (fun k => ma (x * 4096 + k)) (fun k => mb (x * 4096 + k)) with
          | false =>
            have HA := Lib.hid ha
            have HEND : Hid (SameTold w (∀ y, ma y = mb y) (.returned (.bool false)) w1.drew) := by
              refine Lib.hid ⟨hb2, false, rfl, (fun h => by cases h), fun h => ?_⟩
              rw [alike_iff.2 fun k _ => h _] at ha
              cases ha
            clear hkey hlk hv hat hrg1 hlt hg1 hs1 hb1 hp1 hq1 hpage1 hpage2 hrg epg epb ha hb2 hdr
            go_wp2_with (go_at_call 42; refine (samePage_any HP1.out HP2.out).mono ?_; rintro e w2 ⟨rfl, rfl⟩; rw [HA.out])
            go_ret
            exact HEND.out
          | true =>
            have HA := Lib.hid ha
            have HNX : Hid (w1.drew.ranges Try.prog 26 ptrElem m1 w.heap.size n1 D1 (fun z => left z && !z.sameKey (.int .u64 x)) cnt1 ∧ Below w.heap.size w w1.drew ∧ Alikes D1 (fun z => left z && !z.sameKey (.int .u64 x)) pb ma mb) := by
              refine Lib.hid ⟨hrg1.kept (row := none) ⟨rfl, rfl, rfl, Nat.le_refl _, fun _ _ _ => rfl⟩ (by simp) (by simp), hb2, fun q h1 h2 => ?_⟩
              by_cases e : q = x
              · subst e
                exact ⟨by rw [epb]; simp, alike_iff.1 ha⟩
              · refine HAL.out q h1 ?_
                have : (q == x) = false := by simpa using e
                simpa [sameKey_u64, this] using h2
            clear hkey hlk hv hat hrg1 hlt hg1 hs1 hb1 hp1 hq1 hpage1 hpage2 hrg epg epb ha hb2 hdr
            go_wp2_with (go_at_call 42; refine (samePage_any HP1.out HP2.out).mono ?_; rintro e w2 ⟨rfl, rfl⟩; rw [HA.out])
            refine ⟨⟨_, _, HNX.out⟩, ?_⟩
            rw [HNX.out.1.left_eq, HLE.out]
            exact HLT.out
  · have hb : ((ss1.length : Int) != (ss2.length : Int)) = true := by simp; omega
    have HEND : Hid (SameTold w (∀ y, ma y = mb y) (.returned (.bool false)) w) := by
      refine Lib.hid ⟨Below.refl _ _, false, rfl, (fun h => by cases h), fun h => ?_⟩
      refine absurd ?_ hne
      have e : ∀ x, x ∈ ss1 ↔ x ∈ ss2 := fun x => by
        rw [HS1.out.2, HS2.out.2, HA1.out, HA2.out]
        constructor
        · rintro ⟨y, hy, e⟩; exact ⟨y, by rw [← h]; exact hy, e⟩
        · rintro ⟨y, hy, e⟩; exact ⟨y, by rw [h]; exact hy, e⟩
      have h1 := nodup_sub HS1.out.1 fun x hx => (e x).1 hx
      have h2 := nodup_sub HS2.out.1 fun x hx => (e x).2 hx
      omega
    clear hne hown1 hown2
    go_enter Try.func41, Try.ntmps41
    go_wp2
    go_ret
    exact HEND.out

end Go.Proofs.Ytgfnhledfhhkoaa
namespace Go.Proofs.Ytgfnhledfhhkoaa
open Go.RowKit Go.Maps
set_option linter.unusedVariables false

theorem progSame_nil (w : World) : Calls Try.prog 26 #[.pointer none, .pointer none] w fun e w' => e = .returned (.bool true) ∧ w = w' := by
  go_enter Try.func26, Try.ntmps26
  go_wp2
  go_ret
  exact ⟨rfl, rfl⟩
theorem progSame_left (b : Nat) (w : World) : Calls Try.prog 26 #[.pointer none, .pointer (some ⟨b, 0, none⟩)] w fun e w' => e = .returned (.bool false) ∧ w = w' := by
  have heq : ∀ w, (binOp .eql 22 (.pointer none) (.pointer (some ⟨b, 0, none⟩))).run Try.prog w = .ok (.bool false) w := fun w => by
    have h : ∀ d, (Op.equalIn (d + 1) 22 (.pointer none) (.pointer (some ⟨b, 0, none⟩))).run Try.prog w = .ok false w := fun d => by
      simp [Op.equalIn, run_underlying Try.underlying22]
    have h2 : (Op.equal 22 (.pointer none) (.pointer (some ⟨b, 0, none⟩))).run Try.prog w = .ok false w := h 9999
    simp only [binOp]
    simp [h2]
  go_enter Try.func26, Try.ntmps26
  go_wp2
  go_ret
  exact ⟨rfl, rfl⟩
theorem progSame_right (b : Nat) (w : World) : Calls Try.prog 26 #[.pointer (some ⟨b, 0, none⟩), .pointer none] w fun e w' => e = .returned (.bool false) ∧ w = w' := by
  go_enter Try.func26, Try.ntmps26
  go_wp2
  go_ret
  exact ⟨rfl, rfl⟩

set_option maxRecDepth 100000 in
set_option maxHeartbeats 2000000 in
theorem progSame_base {w : World} {b1 b2 : Nat} {S1 S2 : Nat → Prop} {base1 size1 base2 size2 : Int} {ma mb : Int → Int} (h : ProgMem w b1 S1 base1 size1 ma) (k : ProgMem w b2 S2 base2 size2 mb) (e1 : ¬ base1 = base2) :
    Calls Try.prog 26 #[.pointer (some ⟨b1, 0, none⟩), .pointer (some ⟨b2, 0, none⟩)] w (SameTold w (base1 = base2 ∧ size1 = size2 ∧ ∀ y, ma y = mb y)) := by
  obtain ⟨m1, pa, hp⟩ := h.parts
  obtain ⟨m2, pb, hq⟩ := k.parts
  obtain ⟨c0, c1, c2⟩ := ram_cells hp.row
  obtain ⟨d0, d1, d2⟩ := ram_cells hq.row
  clear h k hp hq
  have b1e : (base1 == base2) = false := by simpa using e1
  have HEND : ∀ nq, Hid (SameTold w (base1 = base2 ∧ size1 = size2 ∧ ∀ y, ma y = mb y) (.returned (.bool false)) (w.drewN nq)) := fun nq => Lib.hid ⟨below_drewN (Below.refl _ _) nq, false, rfl, (fun h => by cases h), fun h => absurd h.1 e1⟩
  clear e1
  go_enter Try.func26, Try.ntmps26
  go_wp2_with fail
  go_quiet (fail)
  go_wp2
  go_ret
  exact (HEND nq).out

set_option maxRecDepth 100000 in
set_option maxHeartbeats 2000000 in
theorem progSame_size {w : World} {b1 b2 : Nat} {S1 S2 : Nat → Prop} {base1 size1 base2 size2 : Int} {ma mb : Int → Int} (h : ProgMem w b1 S1 base1 size1 ma) (k : ProgMem w b2 S2 base2 size2 mb) (e1 : base1 = base2) (e2 : ¬ size1 = size2) :
    Calls Try.prog 26 #[.pointer (some ⟨b1, 0, none⟩), .pointer (some ⟨b2, 0, none⟩)] w (SameTold w (base1 = base2 ∧ size1 = size2 ∧ ∀ y, ma y = mb y)) := by
  obtain ⟨m1, pa, hp⟩ := h.parts
  obtain ⟨m2, pb, hq⟩ := k.parts
  obtain ⟨c0, c1, c2⟩ := ram_cells hp.row
  obtain ⟨d0, d1, d2⟩ := ram_cells hq.row
  clear h k hp hq
  have b1e : (base1 == base2) = true := by simpa using e1
  have b2e : (size1 == size2) = false := by simpa using e2
  have HEND : ∀ nq, Hid (SameTold w (base1 = base2 ∧ size1 = size2 ∧ ∀ y, ma y = mb y) (.returned (.bool false)) (w.drewN nq)) := fun nq => Lib.hid ⟨below_drewN (Below.refl _ _) nq, false, rfl, (fun h => by cases h), fun h => absurd h.2.1 e2⟩
  clear e1 e2
  go_enter Try.func26, Try.ntmps26
  go_wp2_with fail
  go_quiet (fail)
  go_wp2
  go_ret
  exact (HEND nq).out

set_option maxRecDepth 100000 in
set_option maxHeartbeats 2000000 in
theorem progSame_both {w : World} {b1 b2 : Nat} {S1 S2 : Nat → Prop} {base1 size1 base2 size2 : Int} {ma mb : Int → Int} (h : ProgMem w b1 S1 base1 size1 ma) (k : ProgMem w b2 S2 base2 size2 mb) (e1 : base1 = base2) (e2 : size1 = size2) :
    Calls Try.prog 26 #[.pointer (some ⟨b1, 0, none⟩), .pointer (some ⟨b2, 0, none⟩)] w (SameTold w (base1 = base2 ∧ size1 = size2 ∧ ∀ y, ma y = mb y)) := by
  obtain ⟨m1, pa, hp⟩ := h.parts
  obtain ⟨m2, pb, hq⟩ := k.parts
  obtain ⟨c0, c1, c2⟩ := ram_cells hp.row
  obtain ⟨d0, d1, d2⟩ := ram_cells hq.row
  have hbd : Below w.heap.size w w.drew := (Below.refl _ _).drew
  have HP := Lib.hid (hp.below hbd)
  have HQ := Lib.hid (hq.below hbd)
  have HB := Lib.hid hbd
  clear h k hp hq hbd
  have HE := Lib.hid (show base1 = base2 ∧ size1 = size2 from ⟨e1, e2⟩)
  have b1e : (base1 == base2) = true := by simpa using e1
  have b2e : (size1 == size2) = true := by simpa using e2
  clear e1 e2
  go_enter Try.func26, Try.ntmps26
  go_wp2_with fail
  go_region_held3 (fun w' => w'.cell? ⟨b1, 0, none⟩ = some (.int .u64 base1) ∧ w'.cell? ⟨b1, 1, none⟩ = some (.int .u64 size1) ∧ w'.cell? ⟨b1, 2, none⟩ = some (.map (some m1)) ∧ w'.cell? ⟨b2, 0, none⟩ = some (.int .u64 base2) ∧ w'.cell? ⟨b2, 1, none⟩ = some (.int .u64 size2) ∧ w'.cell? ⟨b2, 2, none⟩ = some (.map (some m2))) (go_keep)
    (first | (go_at_call 41; refine (equalFunc_any HP.out HQ.out).mono ?_; rintro e w3 ⟨hb, r, rfl, hr⟩; obtain ⟨q0, q1, q2⟩ := ram_cells (HP.out.below hb).row; obtain ⟨q3, q4, q5⟩ := ram_cells (HQ.out.below hb).row))
  rename (_ ∧ _ ∧ _ ∧ _ ∧ _ ∧ _) => hheld
  have HEND : Hid (SameTold w (base1 = base2 ∧ size1 = size2 ∧ ∀ y, ma y = mb y) (.returned (.bool r)) w3) := Lib.hid ⟨HB.out.trans (hb.mono HB.out.size), r, rfl, fun h => ⟨HE.out.1, HE.out.2, hr.1 h⟩, fun h => hr.2 h.2.2⟩
  clear hheld hb hr q0 q1 q2 q3 q4 q5 c0 c1 c2 d0 d1 d2 b1e b2e
  go_wp2
  go_ret
  exact HEND.out

/-- P3.4: Same of two memories. -/
theorem progSame_any {w : World} {b1 b2 : Nat} {S1 S2 : Nat → Prop} {base1 size1 base2 size2 : Int} {ma mb : Int → Int} (h : ProgMem w b1 S1 base1 size1 ma) (k : ProgMem w b2 S2 base2 size2 mb) :
    Calls Try.prog 26 #[.pointer (some ⟨b1, 0, none⟩), .pointer (some ⟨b2, 0, none⟩)] w (SameTold w (base1 = base2 ∧ size1 = size2 ∧ ∀ y, ma y = mb y)) := by
  by_cases e1 : base1 = base2
  · by_cases e2 : size1 = size2
    · exact progSame_both h k e1 e2
    · exact progSame_size h k e1 e2
  · exact progSame_base h k e1

end Go.Proofs.Ytgfnhledfhhkoaa
