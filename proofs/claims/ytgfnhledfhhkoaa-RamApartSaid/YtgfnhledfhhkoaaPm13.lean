/- The program's memory of layer 3: Twin. -/
import Derived.Test.YtgfnhledfhhkoaaPm12
import Derived.Deep.RegionHeld3
import Derived.Deep.DrawnRows
import Derived.Outline
namespace Go.Proofs.Ytgfnhledfhhkoaa
open Go.RowKit Go.Maps
set_option linter.unusedVariables false

/-- m without the pages that are still to come. -/
def maskM (left : Lit → Bool) (m : Int → Int) (y : Int) : Int := if left (.int .u64 (y / 4096)) = true then 0 else m y

/-- What Twin leaves. -/
def ProgTwin (w : World) (base size : Int) (m : Int → Int) (e : Ending) (w' : World) : Prop :=
  Below w.heap.size w w' ∧ ∃ b' S', e = .returned (.pointer (some ⟨b', 0, none⟩)) ∧ (∀ i, S' i → w.heap.size ≤ i) ∧ ProgMem w' b' S' base size m

theorem PgOk.keeps {w w' : World} {b mb : Nat} {S T : Nat → Prop} {m : Int → Int} {pg : Int → Option Nat} (h : PgOk w b mb S m pg) (o : Only T w w') (hs : ∀ i, S i → ¬ T i) : PgOk w' b mb S m pg :=
  ⟨h.map.keeps o (hs _ h.smb), fun q g e => by
    obtain ⟨k1, k2, k3⟩ := h.page q g e
    exact ⟨o.keeps (hs _ k2) k1, k2, k3⟩, h.gone, h.inj, h.sb, h.smb, h.ne, fun i hi => Nat.lt_of_lt_of_le (h.lt i hi) o.size⟩

theorem sameKey_u64 (a b : Int) : (Lit.int .u64 a).sameKey (.int .u64 b) = (a == b) := by rw [Bool.eq_iff_iff]; simp [Lit.sameKey]
theorem maskM_page (left : Lit → Bool) (m : Int → Int) (x : Int) (k : Nat) (hk : k < 4096) : maskM (fun z => left z && !z.sameKey (.int .u64 x)) m (x * 4096 + k) = m (x * 4096 + k) := by
  unfold maskM
  rw [show (x * 4096 + (k : Int)) / 4096 = x by omega]
  simp [sameKey_u64]

/-- Between two rounds. -/
def Twinning (w wr : World) (mb r n : Nat) (D : DataW Unit) (bt mt : Nat) (base size : Int) (m : Int → Int) (left : Lit → Bool) (cnt : Nat) : Prop :=
  wr.ranges Try.prog 26 ptrElem mb r n D left cnt ∧ Below w.heap.size w wr ∧ wr.heap[bt]? = some (.cells #[.int .u64 base, .int .u64 size, .map (some mt)] 64 (0, 0)) ∧
  ∃ S' pt, PgOk wr bt mt S' (maskM left m) pt ∧ (∀ k, S' k → w.heap.size ≤ k) ∧ ¬ S' r

/-- What is read of an entry that has come. -/
theorem entry_is {D : DataW Unit} {pg : Int → Option Nat} (h2 : ∀ q, D.atKey (.int .u64 q) (encP none) = encP (pg q)) (h3 : ∀ kl, Maps.has D kl = true → ∃ q, In64 q ∧ kl = .int .u64 q ∧ pg q ≠ none)
    {x : Int} {c : Option Nat} {kl : Lit} {y : DataW Unit × List MemPlace} (hkey : keyOf Try.prog 26 (.int .u64 x) = some kl) (hv : ptrElem (ptrTo c) = some y) (hat : ∀ zd, D.atKey kl zd = y.1) :
    In64 x ∧ kl = .int .u64 x ∧ ∃ g, c = some g ∧ pg x = some g := by
  obtain ⟨x', e1, rfl, hw⟩ := Maps.keyOf_int_inv Try.underlying26 hkey
  injection e1 with _ e1
  subst e1
  rw [ptrElem_to] at hv
  cases hv
  have e2 : pg x = c := encP_inj ((h2 x).symm.trans (hat _))
  obtain ⟨q, _, e3, e4⟩ := h3 _ (Maps.has_true_of_atKey hat)
  injection e3 with _ e3
  subst e3
  refine ⟨wf_u64_in hw, rfl, ?_⟩
  cases c with
  | none => exact absurd e2 e4
  | some g => exact ⟨g, rfl, e2⟩

theorem mask_start {w : World} {b mb : Nat} {S : Nat → Prop} {base size : Int} {m : Int → Int} {pg : Int → Option Nat} (hp : Parts w b mb S base size m pg) {D : DataW Unit} (h2 : ∀ q, D.atKey (.int .u64 q) (encP none) = encP (pg q)) (y : Int) : (0 : Int) = maskM (Maps.has D) m y := by
  unfold maskM
  cases e : Maps.has D (.int .u64 (y / 4096)) with
  | true => rw [if_pos rfl]
  | false =>
    have := Maps.atKey_of_not_has (H := Unit) (D := D) e (encP none)
    rw [h2] at this
    have h0 := hp.ok.gone _ (encP_inj this) (y % 4096).toNat (by omega)
    rw [show y / 4096 * 4096 + ((y % 4096).toNat : Int) = y by omega] at h0
    rw [h0]; rfl

/-- A page has been copied. -/
theorem Twinning.next {w w1 w4 : World} {b mb r n bt mt : Nat} {S : Nat → Prop} {base size : Int} {m : Int → Int} {pg : Int → Option Nat} {D : DataW Unit} {left : Lit → Bool} {cnt1 g0 : Nat} {x : Int} {S' : Nat → Prop} {pt : Int → Option Nat}
    (hp : Parts w1 b mb S base size m pg) (hok : PgOk w1 bt mt S' (maskM left m) pt) (hS : ∀ k, S' k → w.heap.size ≤ k) (hr : ¬ S' r) (hb1 : Below w.heap.size w w1) (hlk : left (.int .u64 x) = true) (e : pg x = some g0)
    (o4 : Only (fun k => k = mt) w1 w4) (hmap : PgMap Try.prog 26 w4 mt fun y => if y = x then some w1.heap.size else pt y) (hpage : PageAt w4 w1.heap.size m x)
    (hbt : w1.heap[bt]? = some (.cells #[.int .u64 base, .int .u64 size, .map (some mt)] 64 (0, 0))) (hrl : r < w1.heap.size) (hmb : mb < w.heap.size)
    (hrg : w1.ranges Try.prog 26 ptrElem mb r n D (fun z => left z && !z.sameKey (.int .u64 x)) cnt1) :
    Twinning w w4 mb r n D bt mt base size m (fun z => left z && !z.sameKey (.int .u64 x)) cnt1 := by
  have hmt : mt ≠ mb := by have := hS _ hok.smb; omega
  have hmr : mt ≠ r := fun h => hr (h ▸ hok.smb)
  have hg4 : w1.grownBy w4 (some mt) := ⟨o4.os, o4.tape, o4.output, o4.size, fun i hi hn => o4.block i hi (fun h => hn (by rw [h]))⟩
  refine ⟨hrg.kept hg4 (by simpa using hmt.symm) (by simpa using hmr.symm), hb1.trans (o4.below (by rintro k rfl; exact hS _ hok.smb) hb1.size), o4.keeps (fun h => hok.ne h.symm) hbt, _, _, PgOk.laid hok ?_ o4 (Nat.le_refl _) hmap (PageAt.congr hpage fun k hk => ?_) ?_ (fun y hy => ?_), ?_, ?_⟩
  · cases e2 : pt x with
    | none => rfl
    | some g =>
      obtain ⟨_, _, _, _, k, hk, hne⟩ := hok.page x g e2
      refine absurd ?_ hne
      unfold maskM
      rw [show (x * 4096 + (k : Int)) / 4096 = x by omega, if_pos hlk]
  · exact (maskM_page left m x k hk).symm
  · obtain ⟨_, _, _, _, k, hk, hne⟩ := hp.ok.page x g0 e
    exact ⟨k, hk, by rw [maskM_page left m x k hk]; exact hne⟩
  · unfold maskM
    have : (y / 4096 == x) = false := by rw [beq_eq_false_iff_ne]; omega
    simp only [sameKey_u64, this, Bool.not_false, Bool.and_true]
  · rintro k (hk | rfl)
    · exact hS k hk
    · exact hb1.size
  · rintro (hk | hk)
    · exact hr hk
    · omega

theorem PgMap.len {P : Program} {t k e : TypeId} {w : World} {mb : Nat} {pg : Int → Option Nat} (h : PgMap P k w mb pg) (T : PgT P t k e) : ∃ sz : Nat, ∀ (w' : World) ty, w'.heap[mb]? = w.heap[mb]? → (Builtin.len_ #[t] ty #[.map (some mb)]).run P w' = .ok (.int .i64 sz) w' := by
  obtain ⟨n, D, ⟨es, clock, hb, r⟩, _⟩ := h
  exact ⟨_, fun w' ty e => World.ownsMap.len (w := w') ⟨es, clock, by rw [e]; exact hb, r⟩ T.ht ty⟩

theorem step_len {P : Program} {ops : Array Oper} {o : Oper} {a : Act} {w : World} {K : Act → World → Prop} {Q : Exit → Act → World → Prop} {E : Prop} (hgd : o.guard = none) (m : Operand) (t : TypeId)
    (hop : o.op = .call { callee := .builtin .len, args := #[m], argTypes := #[t] }) (v : Value) (hm : a.eval m = v) (x : Value) (hr : (Builtin.len_ #[t] o.type #[v]).run P w = .ok x w) (h : K (a.put o.dst x) w) :
    if Region.wanted o (yielded ops a.tmps) = true then Oper.wp P o a w K Q else E := by
  have hw : Region.wanted o (yielded ops a.tmps) = true := by simp [Region.wanted, hgd]
  rw [if_pos hw]
  unfold Oper.wp
  simp [execOp, hop, resolve, invoke, builtin, hm, hr, Result.andThen]
  exact h

set_option maxRecDepth 100000 in
set_option maxHeartbeats 4000000 in
theorem progTwin_any {w : World} {b : Nat} {S : Nat → Prop} {base size : Int} {m : Int → Int} (h : ProgMem w b S base size m) (hf : Fits base size) :
    Calls Try.prog 18 #[.pointer (some ⟨b, 0, none⟩)] w (ProgTwin w base size m) := by
  obtain ⟨mb, pg, hp⟩ := h.parts
  obtain ⟨c0, c1, c2⟩ := ram_cells hp.row
  obtain ⟨sz, hlen⟩ := hp.ok.map.len pgT
  have hmk : ∀ w, (Instr.makeMap 62 (some (.int .i64 sz))).run Try.prog w = .ok (.map (some w.heap.size)) (w.alloc (.map #[] 0)) := fun w => by
    simp [Instr.makeMap, run_underlying Try.underlying62, asInt, asIntOf, newObj, Result.andThen]
    rfl
  have HL := Lib.hid hlen
  have hmbl : mb < w.heap.size := hp.ok.lt mb hp.ok.smb
  have hL0 : (Builtin.len_ #[62] 3 #[.map (some mb)]).run Try.prog w.drew = .ok (.int .i64 sz) w.drew := hlen _ _ rfl
  have hL1 : ∀ o, (Builtin.len_ #[62] 3 #[.map (some mb)]).run Try.prog (w.alloc o).drew = .ok (.int .i64 sz) (w.alloc o).drew := fun o => hlen _ _ (Below.heap_alloc w o mb hmbl)
  have hL2 : ∀ o o', (Builtin.len_ #[62] 3 #[.map (some mb)]).run Try.prog ((w.alloc o).alloc o').drew = .ok (.int .i64 sz) ((w.alloc o).alloc o').drew := fun o o' => hlen _ _ ((Below.heap_alloc _ o' mb (by simp; omega)).trans (Below.heap_alloc w o mb hmbl))
  clear hmbl
  have HP := Lib.hid hp
  have HF := Lib.hid hf
  clear h hp hf hlen
  go_enter Try.func18, Try.ntmps18
  go_wp2_with fail
  go_region_held3 (fun w' => w'.cell? ⟨b, 0, none⟩ = some (.int .u64 base) ∧ w'.cell? ⟨b, 1, none⟩ = some (.int .u64 size) ∧ w'.cell? ⟨b, 2, none⟩ = some (.map (some mb)) ∧ (Builtin.len_ #[62] 3 #[.map (some mb)]).run Try.prog w' = .ok (.int .i64 sz) w')
    (go_keep)
    (fail)
  rename (_ ∧ _ ∧ _ ∧ _) => hheld
  clear hheld hL0 hL1 hL2 HL hmk c0 c1 c2
  have hb3 : Below w.heap.size w (((w.alloc (.map #[] 0)).alloc (.cells #[.int .u64 base, .int .u64 size, .map (some w.heap.size)] 64)).drew) := (((Below.refl _ _).alloc (Nat.le_refl _) _).alloc (by simp) _).drew
  obtain ⟨mb', pt0, hrow3, hok3, hrest3⟩ : ProgMem (((w.alloc (.map #[] 0)).alloc (.cells #[.int .u64 base, .int .u64 size, .map (some w.heap.size)] 64)).drew) (w.heap.size + 1) (fun i => i = w.heap.size ∨ i = w.heap.size + 1) base size (fun _ => 0) := (newProg_mem (w := w) HP.out.al1 HP.out.al2).keeps (Only.refl (fun _ => False) _ |>.drewN 1) (fun _ _ => id)
  generalize (((w.alloc (.map #[] 0)).alloc (.cells #[.int .u64 base, .int .u64 size, .map (some w.heap.size)] 64)).drew) = w3 at *
  have hp3 := HP.out.below hb3
  obtain ⟨c0, c1, c2⟩ := ram_cells hp3.row
  obtain ⟨n, D, hown, h2, h3⟩ := hp3.ok.map
  have HB3 := Lib.hid hb3
  have HROW := Lib.hid hrow3
  have HOK := Lib.hid hok3
  have HP3 := Lib.hid hp3
  have H2 := Lib.hid h2
  have H3 := Lib.hid h3
  clear hb3 hrow3 hok3 hp3 h2 h3 hrest3
  go_wp2_with (at_range; refine wpList_range_own _ rfl _ 62 rfl 26 74 (int_keyed Try.underlying26) Try.underlying62 ptrElem mb n D rfl hown ?_; intro w0 hrg0 hg0 hs0)
  try go_frame
  have hstart : Twinning w w0 mb w3.heap.size n D (w.heap.size + 1) mb' base size m (Maps.has D) (Maps.size D) := by
    have hsz := HB3.out.size
    have ob : Only (fun _ => False) w3 w0 := ⟨hg0.os, hg0.tape, hg0.output, hg0.size, fun i hi _ => hg0.block i hi (by simp)⟩
    refine ⟨hrg0, HB3.out.trans (ob.below (fun _ h => h.elim) hsz), ob.keeps id HROW.out, _, pt0, (PgOk.keeps HOK.out ob (fun _ _ => id)).congr fun y => mask_start HP3.out H2.out y, ?_, ?_⟩
    · rintro k (rfl | rfl) <;> omega
    · intro hk
      have := HOK.out.lt _ hk
      omega
  have HST := Lib.hid hstart
  clear hstart hrg0 hg0 hs0
  go_loopw [4] (fun _ wr => ∃ left cnt, Twinning w wr mb w3.heap.size n D (w.heap.size + 1) mb' base size m left cnt) (fun _ wr => wr.rangeLeft mb w3.heap.size)
  case atStart => exact ⟨_, _, HST.out⟩
  case round =>
    obtain ⟨left, cnt, hrg, hbel, hbt, S', pt, hok, hS', hr'⟩ := hrel
    have HBT := Lib.hid hbt
    have HBEL := Lib.hid hbel
    have HOK1 := Lib.hid hok
    have HS1 := Lib.hid hS'
    have HR1 := Lib.hid hr'
    clear hbt hbel hok hS' hr'
    go_wp2_with (at_next; refine wpList_next_ranges _ rfl _ rfl 26 (int_keyed Try.underlying26) ptrElem (Value.int .u64) ptrTo (fun key kl hk => (by obtain ⟨x, hx, _⟩ := Maps.keyOf_int_inv Try.underlying26 hk; exact ⟨x, hx⟩)) (fun v y hv => (by obtain ⟨o, ho, _⟩ := ptrElem_inv hv; exact ⟨o, ho⟩)) mb w3.heap.size n D left cnt rfl hrg ?_ ?_)
    · intro h0 hl0
      have hm : maskM left m = m := by funext y; unfold maskM; rw [hl0]; rfl
      have HEND : Hid (ProgTwin w base size m (.returned (.pointer (some ⟨w.heap.size + 1, 0, none⟩))) wr) := by
        have hok := HOK1.out
        rw [hm] at hok
        exact Lib.hid ⟨HBEL.out, _, S', rfl, HS1.out, mb', pt, HBT.out, hok, HP.out.bytey, HP.out.sup, HP.out.al1, HP.out.al2⟩
      clear h0 hl0 hm hrg
      go_wp2
      go_ret
      exact HEND.out
    · intro x c kl yd yp w1 cnt1 hkey hlk hv hat hrg1 hlt hg1 hs1 hen
      obtain ⟨hx64, rfl, g0, rfl, epg⟩ := entry_is H2.out H3.out hkey hv hat
      simp only [ptrTo] at hen ⊢
      have ob1 : Only (fun k => k = w3.heap.size) wr w1 := ⟨hg1.os, hg1.tape, hg1.output, hg1.size, fun i hi hn => hg1.block i hi (fun h => hn (by injection h))⟩
      have hsz3 := HB3.out.size
      have hb1 : Below w.heap.size w w1 := HBEL.out.trans (ob1.below (by rintro k rfl; exact hsz3) HBEL.out.size)
      have hp1 := HP.out.below hb1
      have hpage : HoldsU w1 g0 76 4096 (fun k => m (x * 4096 + k)) := (hp1.ok.page x g0 epg).1
      have hok1 := HOK1.out.keeps ob1 (fun i hi h => HR1.out (h ▸ hi))
      have hbt1 := ob1.keeps (fun h => HR1.out (h ▸ HOK1.out.sb)) HBT.out
      have hnewb : HoldsU (w1.alloc (.cells Try.zeroCells76 76)) w1.heap.size 76 4096 (fun _ => 0) := by
        show _ = _
        rw [heap_alloc_new, zero4096]
      have hb2 : Below w1.heap.size w1 (w1.alloc (.cells Try.zeroCells76 76)) := (Below.refl _ _).alloc (Nat.le_refl _) _
      have hrow2 := hnewb.setRow (fun k => m (x * 4096 + k))
      have hb2' : Below w1.heap.size w1 ((w1.alloc (.cells Try.zeroCells76 76)).setRow w1.heap.size (uarr 4096 fun k => m (x * 4096 + k))) := below_setRow hb2 (Nat.le_refl _) _
      have ho2 := Only.of_below (fun _ => False) hb2'
      have hbt2 := ho2.keeps id hbt1
      obtain ⟨e0, e1, e2⟩ := ram_cells hbt2
      have hok2 := hok1.keeps ho2 (fun _ _ => id)
      have hNp : ∀ q, pt q ≠ none → base / 4096 ≤ q ∧ q < base / 4096 + (16384 : Nat) := pages_in hok1 HF.out (fun y hy => HP.out.sup y (fun h0 => hy (by unfold maskM; split <;> first | rfl | exact h0))) HP.out.al1 HP.out.al2
      obtain ⟨w4, hput, hmap4, hturn⟩ := hok2.map.put pgT hNp (by unfold maxLen; omega) hx64 w1.heap.size
      have HNB := Lib.hid hnewb
      have HPG := Lib.hid hpage
      have HNX : Hid (Twinning w w4 mb w3.heap.size n D (w.heap.size + 1) mb' base size m (fun z => left z && !z.sameKey (.int .u64 x)) cnt1) := by
        have o4 := mapTurned_only (S := fun k => k = mb') hturn rfl
        have hlt1 : w1.heap.size ≠ mb' := by have := hok1.lt _ hok1.smb; omega
        refine Lib.hid (Twinning.next hp1 hok1 HS1.out HR1.out hb1 hlk epg ((Only.of_below (fun k => k = mb') hb2').trans o4) hmap4 ?_ hbt1 ?_ ?_ hrg1)
        · exact HoldsU.keeps hrow2 o4 hlt1
        · have := hrg.lt; have := hg1.size; omega
        · exact HP.out.ok.lt _ HP.out.ok.smb
      have HLT := Lib.hid hlt
      have HLE := Lib.hid hrg.left_eq
      clear hkey hlk hv hat hrg1 hlt hg1 hs1 ob1 hsz3 hb1 hp1 hpage hok1 hbt1 hnewb hb2 hrow2 hb2' ho2 hbt2 hok2 hNp hmap4 hturn hrg epg
      go_wp2_with (first
        | (refine wpList_load_u rfl _ _ rfl g0 rfl 76 4096 (fun k => m (x * 4096 + k)) 5 HPG.out Try.underlying76 size4096 ?_)
        | (refine wpList_store_row rfl _ _ _ rfl w1.heap.size _ rfl rfl 76 _ HNB.out ?_ (by rw [uarr_size, uarr_size]) (uarr_one _ _) ?_; · exact size4096.trans (by rw [uarr_size])))
      refine ⟨⟨_, _, HNX.out⟩, ?_⟩
      rw [HNX.out.1.left_eq, HLE.out]
      exact HLT.out

end Go.Proofs.Ytgfnhledfhhkoaa
