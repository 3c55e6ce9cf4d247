/- Joined: Pm4 Pm5 Pm6 Pm7 Pm8 Pm9 Pm10 Pm11 Pm12 Pm13 -/
import Derived.Test.YtoghdkhlliehoaaPm3
import Derived.Test.YtoghdkhlliehoaaLawsG
import Derived.Outline
import Derived.StillTailTactics
import Derived.Laws.MakeOwn
import Derived.Deep.RegionHeld3
import Derived.Deep.DrawnRows
namespace Go.Proofs.Ytoghdkhlliehoaa
open Go.RowKit Go.Maps
set_option linter.unusedVariables false
set_option maxRecDepth 100000

theorem zero4096 : Try.zeroCells61 = uarr 4096 fun _ => 0 := by kernel_rfl
theorem size4096 : (Try.prog.info? 61).map (·.size) = some 4096 := by kernel_rfl
theorem built4096 : Try.prog.built 61 [] = some (uarr 4096 fun _ => 0) := by kernel_rfl
theorem guard4096 : Try.prog.eqGuardType Try.prog.depth 61 = false := by kernel_rfl
theorem size_u8 : (Try.prog.info? 5).map (·.size) = some 1 := by kernel_rfl

theorem putF_eq (m : Int → Int) (x : Int) (xs : List Int) (y : Int) : putF m x xs y = if x ≤ y ∧ y < x + xs.length then xs.getD (y - x).toNat 0 else m y := by
  by_cases h : x ≤ y ∧ y < x + xs.length
  · rw [if_pos h]
    have := putF_at (m := m) (x := x) (xs := xs) (i := (y - x).toNat) (by omega)
    rw [show x + ((y - x).toNat : Int) = y by omega] at this
    exact this
  · rw [if_neg h]; exact putF_out (by omega)
theorem putF_bytey {m : Int → Int} (hm : Bytey m) (x : Int) {xs : List Int} (hx : Bytes255 xs) : Bytey (putF m x xs) := by
  intro y
  rw [putF_eq]
  split
  · exact hx _ (by omega)
  · exact hm y

section
variable {w w' : World} {b mb g : Nat} {S : Nat → Prop} {m m' : Int → Int} {pg : Int → Option Nat} {i : Int}

theorem PageAt.congr (h : PageAt w g m i) (e : ∀ k : Nat, k < 4096 → m (i * 4096 + k) = m' (i * 4096 + k)) : PageAt w g m' i := by
  unfold PageAt at *; rw [h, uarr_congr e]
theorem PgOk.wrote (h : PgOk w b mb S m pg) (e : pg i = some g) (o : Only (fun k => k = g) w w') (hp : PageAt w' g m' i) (hne : ∃ k : Nat, k < 4096 ∧ ¬ m' (i * 4096 + k) = 0)
    (hout : ∀ y, y < i * 4096 ∨ i * 4096 + 4096 ≤ y → m' y = m y) : PgOk w' b mb S m' pg := by
  obtain ⟨_, k2, k3, k4, _⟩ := h.page i g e
  refine ⟨h.map.keeps o (fun h => k4 h.symm), fun q g' e' => ?_, fun q e' k hk => ?_, h.inj, h.sb, h.smb, h.ne, fun k hk => Nat.lt_of_lt_of_le (h.lt k hk) o.size⟩
  · by_cases c : q = i
    · subst c
      rw [e] at e'; cases e'
      exact ⟨hp, k2, k3, k4, hne⟩
    · obtain ⟨j1, j2, j3, j4, k, hk, j5⟩ := h.page q g' e'
      have hg : g' ≠ g := fun hh => c (h.inj q i g (hh ▸ e') e)
      refine ⟨PageAt.congr (show PageAt w' g' m q from o.keeps hg j1) fun k hk => (hout _ (by omega)).symm, j2, j3, j4, k, hk, ?_⟩
      rw [hout _ (by omega)]; exact j5
  · have c : q ≠ i := fun hh => by rw [hh, e] at e'; cases e'
    rw [hout _ (by omega)]; exact h.gone q e' k hk
theorem PgOk.laid (h : PgOk w b mb S m pg) (e : pg i = none) (o : Only (fun k => k = mb) w w') (hg : w.heap.size ≤ g) (hmap : PgMap Try.prog 22 w' mb fun y => if y = i then some g else pg y) (hp : PageAt w' g m' i)
    (hne : ∃ k : Nat, k < 4096 ∧ ¬ m' (i * 4096 + k) = 0) (hout : ∀ y, y < i * 4096 ∨ i * 4096 + 4096 ≤ y → m' y = m y) : PgOk w' b mb (fun k => S k ∨ k = g) m' fun y => if y = i then some g else pg y := by
  have hgl : g < w'.heap.size := (Array.getElem?_eq_some_iff.1 hp).1
  have hb := h.lt b h.sb
  have hm := h.lt mb h.smb
  refine ⟨hmap, fun q g' e' => ?_, fun q e' k hk => ?_, fun q q' g' e1 e2 => ?_, .inl h.sb, .inl h.smb, h.ne, fun k hk => ?_⟩
  · by_cases c : q = i
    · subst c
      simp only [if_true] at e'
      cases e'
      exact ⟨hp, .inr rfl, by omega, by omega, hne⟩
    · simp only [if_neg c] at e'
      obtain ⟨j1, j2, j3, j4, k, hk, j5⟩ := h.page q g' e'
      refine ⟨PageAt.congr (show PageAt w' g' m q from o.keeps j4 j1) fun k hk => (hout _ (by omega)).symm, .inl j2, j3, j4, k, hk, ?_⟩
      rw [hout _ (by omega)]; exact j5
  · have c : q ≠ i := fun hh => by simp only [hh, if_true] at e'; cases e'
    simp only [if_neg c] at e'
    rw [hout _ (by omega)]; exact h.gone q e' k hk
  · by_cases c : q = i
    · by_cases d : q' = i
      · rw [c, d]
      · simp only [if_pos c] at e1
        simp only [if_neg d] at e2
        cases e1
        have := h.lt _ (h.page q' g e2).2.1; omega
    · by_cases d : q' = i
      · simp only [if_pos d] at e2
        simp only [if_neg c] at e1
        cases e2
        have := h.lt _ (h.page q g e1).2.1; omega
      · simp only [if_neg c] at e1
        simp only [if_neg d] at e2
        exact h.inj q q' g' e1 e2
  · rcases hk with hk | rfl
    · exact Nat.lt_of_lt_of_le (h.lt k hk) o.size
    · exact hgl
theorem PgOk.struck (h : PgOk w b mb S m pg) (e : pg i = some g) (o : Only (fun k => k = g ∨ k = mb) w w') (hmap : PgMap Try.prog 22 w' mb fun y => if y = i then none else pg y)
    (hz : ∀ k : Nat, k < 4096 → m' (i * 4096 + k) = 0) (hout : ∀ y, y < i * 4096 ∨ i * 4096 + 4096 ≤ y → m' y = m y) : PgOk w' b mb S m' fun y => if y = i then none else pg y := by
  refine ⟨hmap, fun q g' e' => ?_, fun q e' k hk => ?_, fun q q' g' e1 e2 => ?_, h.sb, h.smb, h.ne, fun k hk => Nat.lt_of_lt_of_le (h.lt k hk) o.size⟩
  · have c : q ≠ i := fun hh => by simp only [hh, if_true] at e'; cases e'
    simp only [if_neg c] at e'
    obtain ⟨j1, j2, j3, j4, k, hk, j5⟩ := h.page q g' e'
    have hg : g' ≠ g := fun hh => c (h.inj q i g (hh ▸ e') e)
    refine ⟨PageAt.congr (show PageAt w' g' m q from o.keeps (fun hh => by rcases hh with hh | hh; exact hg hh; exact j4 hh) j1) fun k hk => (hout _ (by omega)).symm, j2, j3, j4, k, hk, ?_⟩
    rw [hout _ (by omega)]; exact j5
  · by_cases c : q = i
    · subst c; exact hz k hk
    · simp only [if_neg c] at e'
      rw [hout _ (by omega)]; exact h.gone q e' k hk
  · have c : q ≠ i := fun hh => by simp only [hh, if_true] at e1; cases e1
    have d : q' ≠ i := fun hh => by simp only [hh, if_true] at e2; cases e2
    simp only [if_neg c] at e1
    simp only [if_neg d] at e2
    exact h.inj q q' g' e1 e2
theorem PgOk.congr (h : PgOk w b mb S m pg) (e : ∀ y, m y = m' y) : PgOk w b mb S m' pg := by
  obtain rfl : m = m' := funext e; exact h
end

/-- What a call leaves that tells nothing. -/
def StoreEnd (w : World) (b : Nat) (S : Nat → Prop) (base size : Int) (m : Int → Int) (e : Ending) (w' : World) : Prop :=
  (∃ u, e = .returned u) ∧ Only S w w' ∧ ∃ S', (∀ k, S' k → S k ∨ w.heap.size ≤ k) ∧ ProgMem w' b S' base size m

/-- What is asked of the bytes and their place. -/
structure InPage (base size : Int) (i : Int) (at_ : Nat) (xs : List Int) : Prop where
  lo : base ≤ i * 4096 + at_
  hi : i * 4096 + at_ + xs.length ≤ base + size
  page : at_ + xs.length ≤ 4096
  bytes : Bytes255 xs
  ne : xs ≠ []

theorem InPage.out {base size i : Int} {at_ : Nat} {xs : List Int} (h : InPage base size i at_ xs) (m : Int → Int) : ∀ y, y < i * 4096 ∨ i * 4096 + 4096 ≤ y → putF m (i * 4096 + at_) xs y = m y := by
  intro y hy
  have := h.page
  exact putF_out (by omega)
theorem InPage.over {base size i : Int} {at_ : Nat} {xs : List Int} (h : InPage base size i at_ xs) (m : Int → Int) (k : Nat) (hk : k < 4096) : overU (fun k => m (i * 4096 + k)) at_ xs k = putF m (i * 4096 + at_) xs (i * 4096 + k) := by
  rw [putF_eq]
  unfold overU
  by_cases c : at_ ≤ k ∧ k < at_ + xs.length
  · rw [if_pos c, if_pos (by omega)]; congr 1; omega
  · rw [if_neg c, if_neg (by omega)]
theorem InPage.support {base size i : Int} {at_ : Nat} {xs : List Int} (h : InPage base size i at_ xs) {m : Int → Int} (hm : ∀ y, ¬ m y = 0 → base ≤ y ∧ y < base + size) : ∀ y, ¬ putF m (i * 4096 + at_) xs y = 0 → base ≤ y ∧ y < base + size := by
  intro y hy
  have h1 := h.lo
  have h2 := h.hi
  rw [putF_eq] at hy
  split at hy
  · omega
  · exact hm y hy
/-- Bytes that are not all 0 leave no page of noughts. -/
theorem InPage.left {base size i : Int} {at_ : Nat} {xs : List Int} (h : InPage base size i at_ xs) (m : Int → Int) (hn : noughts xs = false) : ∃ k : Nat, k < 4096 ∧ ¬ putF m (i * 4096 + at_) xs (i * 4096 + k) = 0 := by
  have h1 := h.page
  have : ¬ ∀ j, j < xs.length → xs.getD j 0 = 0 := fun hh => by rw [noughts_iff.2 hh] at hn; cases hn
  obtain ⟨j, hj⟩ := Classical.not_forall.1 this
  obtain ⟨hj, hne⟩ := Classical.not_imp.1 hj
  refine ⟨at_ + j, by omega, ?_⟩
  have := putF_at (m := m) (x := i * 4096 + at_) hj
  rw [show i * 4096 + ((at_ + j : Nat) : Int) = i * 4096 + at_ + j by omega, this]
  exact hne

end Go.Proofs.Ytoghdkhlliehoaa

namespace Go.Proofs.Ytoghdkhlliehoaa
open Go.RowKit Go.Maps
set_option linter.unusedVariables false
set_option maxRecDepth 100000

/-- The memory's parts, as they stand in a world. -/
structure Parts (w : World) (b mb : Nat) (S : Nat → Prop) (base size : Int) (m : Int → Int) (pg : Int → Option Nat) : Prop where
  row : w.heap[b]? = some (.cells #[.int .u64 base, .int .u64 size, .map (some mb)] 53 (0, 0))
  ok : PgOk w b mb S m pg
  bytey : Bytey m
  sup : ∀ y, ¬ m y = 0 → base ≤ y ∧ y < base + size
  al1 : base % 4096 = 0
  al2 : size % 4096 = 0
theorem Parts.mem {w : World} {b mb : Nat} {S : Nat → Prop} {base size : Int} {m : Int → Int} {pg : Int → Option Nat} (h : Parts w b mb S base size m pg) : ProgMem w b S base size m := ⟨mb, pg, h.row, h.ok, h.bytey, h.sup, h.al1, h.al2⟩
theorem ProgMem.parts {w : World} {b : Nat} {S : Nat → Prop} {base size : Int} {m : Int → Int} (h : ProgMem w b S base size m) : ∃ mb pg, Parts w b mb S base size m pg := by
  obtain ⟨mb, pg, h1, h2, h3, h4, h5, h6⟩ := h; exact ⟨mb, pg, h1, h2, h3, h4, h5, h6⟩
theorem Parts.keeps {w w' : World} {b mb : Nat} {S T : Nat → Prop} {base size : Int} {m : Int → Int} {pg : Int → Option Nat} (h : Parts w b mb S base size m pg) (o : Only T w w') (hs : ∀ i, S i → ¬ T i) : Parts w' b mb S base size m pg :=
  ⟨o.keeps (hs _ h.ok.sb) h.row, ⟨h.ok.map.keeps o (hs _ h.ok.smb), fun q g e => by
    obtain ⟨k1, k2, k3⟩ := h.ok.page q g e
    exact ⟨o.keeps (hs _ k2) k1, k2, k3⟩, h.ok.gone, h.ok.inj, h.ok.sb, h.ok.smb, h.ok.ne, fun i hi => Nat.lt_of_lt_of_le (h.ok.lt i hi) o.size⟩, h.bytey, h.sup, h.al1, h.al2⟩
theorem Parts.below {w w' : World} {b mb : Nat} {S : Nat → Prop} {base size : Int} {m : Int → Int} {pg : Int → Option Nat} (h : Parts w b mb S base size m pg) (o : Below w.heap.size w w') : Parts w' b mb S base size m pg :=
  h.keeps (Only.of_below (fun _ => False) o) (fun _ _ => id)

section
variable {w : World} {b mb gs off c : Nat} {S : Nat → Prop} {base size : Int} {m : Int → Int} {pg : Int → Option Nat} (i : Int) (at_ : Nat) (xs : List Int)

set_option maxHeartbeats 1000000 in
theorem storeIn_a (h : Parts w b mb S base size m pg) (hi : In64 i) (hv : ReadsIn .u8 gs w (.slice (some ⟨gs, off, none⟩) xs.length c) xs) (hx : InPage base size i at_ xs) (e : pg i = none) (hn : noughts xs = true) :
    Calls Try.prog 43 #[.pointer (some ⟨b, 0, none⟩), .int .u64 i, .int .i64 at_, .slice (some ⟨gs, off, none⟩) xs.length c] w (StoreEnd w b S base size (putF m (i * 4096 + at_) xs)) := by
  have HP := Lib.hid h
  have HV := Lib.hid hv
  have HX := Lib.hid hx
  have HN := Lib.hid hn
  have HE := Lib.hid e
  clear h hv hx hn e
  go_enter Try.func43, Try.ntmps43
  go_wp2_with fail
  refine (isNought_any gs _ xs _ HV.out HX.out.bytes HX.out.ne).mono ?_
  rintro ee w1 ⟨rfl, hb1⟩
  rw [HN.out]
  have hp := HP.out.below hb1
  obtain ⟨c0, c1, c2⟩ := ram_cells hp.row
  have hl := hp.ok.map.look pgT hi
  rw [HE.out] at hl
  simp only [ptrTo] at hl
  have HB := Lib.hid hb1
  have HQ := Lib.hid hp
  clear hb1 hp
  go_wp2
  go_end0
  refine ⟨⟨_, rfl⟩, Only.of_below _ HB.out, S, fun k hk => .inl hk, HQ.out.row |> fun r => ?_⟩
  have hm : ∀ y, putF m (i * 4096 + at_) xs y = m y := fun y => by
    rw [putF_eq]
    split
    · have h0 := noughts_iff.1 HN.out (y - (i * 4096 + at_)).toNat (by omega)
      have h1 := HQ.out.ok.gone i HE.out (y - i * 4096).toNat (by have := HX.out.page; omega)
      rw [show i * 4096 + ((y - i * 4096).toNat : Int) = y by omega] at h1
      rw [h0, h1]
    · rfl
  have : putF m (i * 4096 + at_) xs = m := funext hm
  rw [this]
  exact HQ.out.mem

/-- The source's bytes, in a later world. -/
theorem src_keeps {w w' : World} {gs off c : Nat} {xs : List Int} (hv : ReadsIn .u8 gs w (.slice (some ⟨gs, off, none⟩) xs.length c) xs) {T : Nat → Prop} (o : Only T w w') (hs : ¬ T gs) : ∀ j, j < xs.length → w'.cell? ((⟨gs, off, none⟩ : Addr).add j) = some (.int .u8 (xs.getD j 0)) := by
  intro j hj
  obtain ⟨a, cc, h1, h2, h3⟩ := hv.keeps o hs
  injection h1 with h1 _ _
  subst h1
  rcases h3 with h3 | ⟨off', h4, _, h5⟩
  · rw [h3] at hj; simp at hj
  · injection h4 with h4; injection h4 with _ h4
    subst h4
    rw [add_none]; exact h5 j hj

theorem pages_16384 (h : Parts w b mb S base size m pg) (hf : Fits base size) : ∀ q, pg q ≠ none → base / 4096 ≤ q ∧ q < base / 4096 + (16384 : Nat) := pages_in h.ok hf h.sup h.al1 h.al2

set_option maxRecDepth 100000 in
set_option maxHeartbeats 2000000 in
theorem storeIn_b (h : Parts w b mb S base size m pg) (hf : Fits base size) (hi : In64 i) (hv : ReadsIn .u8 gs w (.slice (some ⟨gs, off, none⟩) xs.length c) xs) (hs : ¬ S gs) (hx : InPage base size i at_ xs) (e : pg i = none) (hn : noughts xs = false) :
    Calls Try.prog 43 #[.pointer (some ⟨b, 0, none⟩), .int .u64 i, .int .i64 at_, .slice (some ⟨gs, off, none⟩) xs.length c] w (StoreEnd w b S base size (putF m (i * 4096 + at_) xs)) := by
  have HP := Lib.hid h
  have HG := Lib.hid hs
  have HV := Lib.hid hv
  have HX := Lib.hid hx
  have HN := Lib.hid hn
  have HE := Lib.hid e
  have HF := Lib.hid (pages_16384 h hf)
  have hpage := hx.page
  have hlen : 0 < xs.length := List.length_pos_iff.2 hx.ne
  clear h hv hx hn e hf hs
  go_enter Try.func43, Try.ntmps43
  go_wp2_with fail
  refine (isNought_any gs _ xs _ HV.out HX.out.bytes HX.out.ne).mono ?_
  rintro ee w1 ⟨rfl, hb1⟩
  rw [HN.out]
  have hp := HP.out.below hb1
  obtain ⟨c0, c1, c2⟩ := ram_cells hp.row
  have hl := hp.ok.map.look pgT hi
  rw [HE.out] at hl
  simp only [ptrTo] at hl
  have hb2 : Below w1.heap.size w1 (w1.alloc (.cells Try.zeroCells61 61)) := (Below.refl _ _).alloc (Nat.le_refl _) _
  have hp2 := hp.below hb2
  obtain ⟨d0, d1, d2⟩ := ram_cells hp2.row
  obtain ⟨w2, hput, hmap, hturn⟩ := hp2.ok.map.put pgT HF.out (by unfold maxLen; omega) hi w1.heap.size
  have ho2 := mapTurned_only (S := fun k => k = mb) hturn rfl
  have hbz : w1.heap.size < (w1.alloc (.cells Try.zeroCells61 61)).heap.size := by simp
  have hnew : HoldsU w2 w1.heap.size 61 4096 (fun _ => 0) := by
    refine HoldsU.keeps (S := fun k => k = mb) (w := w1.alloc (.cells Try.zeroCells61 61)) ?_ ho2 (by have := hp.ok.lt mb hp.ok.smb; omega)
    show _ = _
    rw [heap_alloc_new, zero4096]
  have hbel : Only (fun k => k = mb) w1 w2 := (Only.of_below _ hb2).trans ho2
  have hsrc : ∀ j, j < xs.length → w2.cell? ((⟨gs, off, none⟩ : Addr).add j) = some (.int .u8 (xs.getD j 0)) := by
    exact src_keeps HV.out ((Only.of_below (fun k => k = mb) hb1).trans hbel) (fun e => HG.out (e ▸ HP.out.ok.smb))
  have HSL := fun w => run_slice_from (w := w) Try.underlying61 (Try.sizeOf5 w) w1.heap.size at_ (by omega)
  have HB1 := Lib.hid hb1
  have HP1 := Lib.hid hp
  have HO := Lib.hid hbel
  have HMAP := Lib.hid hmap
  have HNEW := Lib.hid hnew
  have HSRC := Lib.hid hsrc
  have HS2 := Lib.hid (mapTurned_size hturn)
  clear hb1 hp hbel hmap hnew hsrc hp2 hb2 ho2 hturn hbz
  go_wp2_with (refine wpList_copy_u rfl (.tmp 31) (.tmp 32) 38 38 rfl 5 Try.underlying38 size_u8 w1.heap.size at_ _ _ ⟨gs, off, none⟩ _ _ rfl rfl 4096 (fun _ => 0) 61 HNEW.out xs ?_ HSRC.out (by omega) ?_)
  · show xs.length = min xs.length (4096 - at_)
    omega
  have h3 := HoldsU.setRow HNEW.out (overU (fun _ => 0) at_ xs)
  have ho3 : Only (fun k => k = w1.heap.size) w2 (w2.setRow w1.heap.size (uarr 4096 (overU (fun _ => 0) at_ xs))) := (Only.refl (fun k => k = w1.heap.size) w2).setRow (.inl rfl) _
  have HEND : Hid (StoreEnd w b S base size (putF m (i * 4096 + at_) xs) (.returned (.tuple #[])) (w2.setRow w1.heap.size (uarr 4096 (overU (fun _ => 0) at_ xs)))) := by
    refine Lib.hid ⟨⟨_, rfl⟩, ?_, fun k => S k ∨ k = w1.heap.size, fun k hk => ?_, ?_⟩
    · refine (((Only.of_below S HB1.out).step HO.out ?_).step ho3 ?_)
      · rintro k rfl; exact .inl HP.out.ok.smb
      · rintro k rfl; exact .inr HB1.out.size
    · rcases hk with hk | rfl
      · exact .inl hk
      · exact .inr HB1.out.size
    · have hpg : PageAt (w2.setRow w1.heap.size (uarr 4096 (overU (fun _ => 0) at_ xs))) w1.heap.size (putF m (i * 4096 + at_) xs) i := by
        refine HoldsU.congr h3 fun k hk => ?_
        rw [← HX.out.over m k hk]
        unfold overU
        split
        · rfl
        · exact (HP1.out.ok.gone i HE.out k hk).symm
      have hne : w1.heap.size ≠ mb := by have := HP1.out.ok.lt mb HP1.out.ok.smb; omega
      have hneb : w1.heap.size ≠ b := by have := HP1.out.ok.lt b HP1.out.ok.sb; omega
      have o4 : Only (fun k => k = mb) w1 (w2.setRow w1.heap.size (uarr 4096 (overU (fun _ => 0) at_ xs))) := HO.out.step ho3 (by rintro k rfl; exact .inr (Nat.le_refl _))
      have := PgOk.laid HP1.out.ok HE.out o4 (Nat.le_refl _) (HMAP.out.keeps ho3 (fun h => hne h.symm)) hpg (HX.out.left m HN.out) (HX.out.out m)
      exact ⟨mb, _, o4.keeps (fun h => HP1.out.ok.ne h.symm) HP1.out.row, this, putF_bytey HP1.out.bytey _ HX.out.bytes, HX.out.support HP1.out.sup, HP1.out.al1, HP1.out.al2⟩
  clear h3 ho3
  go_wp2
  go_end0
  exact HEND.out

end
end Go.Proofs.Ytoghdkhlliehoaa

/- The program's memory of layer 3: storeIn, where the page is there, bytes that are not all 0. -/
namespace Go.Proofs.Ytoghdkhlliehoaa
open Go.RowKit Go.Maps
set_option linter.unusedVariables false
set_option maxRecDepth 100000

section
variable {w : World} {b mb gs off c : Nat} {S : Nat → Prop} {base size : Int} {m : Int → Int} {pg : Int → Option Nat} (i : Int) (at_ : Nat) (xs : List Int)

theorem Parts.row_keeps {w w' : World} {T : Nat → Prop} (h : Parts w b mb S base size m pg) (o : Only T w w') (hb : ¬ T b) : w'.heap[b]? = some (.cells #[.int .u64 base, .int .u64 size, .map (some mb)] 53 (0, 0)) := o.keeps hb h.row

theorem wrote_end {w w1 w3 : World} {g : Nat} {i : Int} {at_ : Nat} {xs : List Int} (hb1 : Below w.heap.size w w1) (hp : Parts w1 b mb S base size m pg) (e : pg i = some g) (hx : InPage base size i at_ xs)
    (h3 : HoldsU w3 g 61 4096 (overU (fun k => m (i * 4096 + k)) at_ xs)) (o3 : Only (fun k => k = g) w1 w3) (hne : ∃ k : Nat, k < 4096 ∧ ¬ putF m (i * 4096 + at_) xs (i * 4096 + k) = 0) :
    StoreEnd w b S base size (putF m (i * 4096 + at_) xs) (.returned (.tuple #[])) w3 := by
  obtain ⟨_, k2, k3, k4, _⟩ := hp.ok.page i g e
  refine ⟨⟨_, rfl⟩, (Only.of_below S hb1).step o3 (by rintro k rfl; exact .inl k2), S, fun k hk => .inl hk, ?_⟩
  have hpg : PageAt w3 g (putF m (i * 4096 + at_) xs) i := HoldsU.congr h3 fun k hk => hx.over m k hk
  exact ⟨mb, pg, hp.row_keeps o3 (fun h => k3 h.symm), PgOk.wrote hp.ok e o3 hpg hne (hx.out m), putF_bytey hp.bytey _ hx.bytes, hx.support hp.sup, hp.al1, hp.al2⟩

set_option maxRecDepth 100000 in
set_option maxHeartbeats 2000000 in
theorem storeIn_c {g : Nat} (h : Parts w b mb S base size m pg) (hi : In64 i) (hv : ReadsIn .u8 gs w (.slice (some ⟨gs, off, none⟩) xs.length c) xs) (hs : ¬ S gs) (hx : InPage base size i at_ xs) (e : pg i = some g) (hn : noughts xs = false) :
    Calls Try.prog 43 #[.pointer (some ⟨b, 0, none⟩), .int .u64 i, .int .i64 at_, .slice (some ⟨gs, off, none⟩) xs.length c] w (StoreEnd w b S base size (putF m (i * 4096 + at_) xs)) := by
  have HP := Lib.hid h
  have HG := Lib.hid hs
  have HV := Lib.hid hv
  have HX := Lib.hid hx
  have HN := Lib.hid hn
  have HE := Lib.hid e
  have hpage := hx.page
  have hlen : 0 < xs.length := List.length_pos_iff.2 hx.ne
  clear h hv hx hn e hs
  go_enter Try.func43, Try.ntmps43
  go_wp2_with fail
  refine (isNought_any gs _ xs _ HV.out HX.out.bytes HX.out.ne).mono ?_
  rintro ee w1 ⟨rfl, hb1⟩
  rw [HN.out]
  have hp := HP.out.below hb1
  obtain ⟨c0, c1, c2⟩ := ram_cells hp.row
  have hl := hp.ok.map.look pgT hi
  rw [HE.out] at hl
  simp only [ptrTo] at hl
  have hnew : HoldsU w1 g 61 4096 (fun k => m (i * 4096 + k)) := (hp.ok.page i g HE.out).1
  have hsrc : ∀ j, j < xs.length → w1.cell? ((⟨gs, off, none⟩ : Addr).add j) = some (.int .u8 (xs.getD j 0)) := src_keeps HV.out (Only.of_below (fun _ => False) hb1) id
  have HSL := fun w => run_slice_from (w := w) Try.underlying61 (Try.sizeOf5 w) g at_ (by omega)
  have HB1 := Lib.hid hb1
  have HP1 := Lib.hid hp
  have HNEW := Lib.hid hnew
  have HSRC := Lib.hid hsrc
  clear hb1 hp hnew hsrc
  have h3 := HoldsU.setRow HNEW.out (overU (fun k => m (i * 4096 + k)) at_ xs)
  have ho3 : Only (fun k => k = g) w1 (w1.setRow g (uarr 4096 (overU (fun k => m (i * 4096 + k)) at_ xs))) := (Only.refl (fun k => k = g) w1).setRow (.inl rfl) _
  have H3 := Lib.hid h3
  have HO3 := Lib.hid ho3
  clear h3 ho3
  go_wp2_with (refine wpList_copy_u rfl (.tmp 31) (.tmp 32) 38 38 rfl 5 Try.underlying38 size_u8 g at_ _ _ ⟨gs, off, none⟩ _ _ rfl rfl 4096 (fun k => m (i * 4096 + k)) 61 HNEW.out xs ?_ HSRC.out (by omega) ?_)
  · show xs.length = min xs.length (4096 - at_)
    omega
  have HEND : Hid (StoreEnd w b S base size (putF m (i * 4096 + at_) xs) (.returned (.tuple #[])) (w1.setRow g (uarr 4096 (overU (fun k => m (i * 4096 + k)) at_ xs)))) :=
    Lib.hid (wrote_end HB1.out HP1.out HE.out HX.out H3.out HO3.out (HX.out.left m HN.out))
  go_wp2
  go_end0
  exact HEND.out

end
end Go.Proofs.Ytoghdkhlliehoaa

/- The program's memory of layer 3: storeIn, where the page is there, noughts. -/
namespace Go.Proofs.Ytoghdkhlliehoaa
open Go.RowKit Go.Maps
set_option linter.unusedVariables false
set_option maxRecDepth 100000

section
variable {w : World} {b mb gs off c : Nat} {S : Nat → Prop} {base size : Int} {m : Int → Int} {pg : Int → Option Nat} (i : Int) (at_ : Nat) (xs : List Int)

set_option maxRecDepth 100000 in
set_option maxHeartbeats 2000000 in
theorem storeIn_d {g : Nat} (h : Parts w b mb S base size m pg) (hi : In64 i) (hv : ReadsIn .u8 gs w (.slice (some ⟨gs, off, none⟩) xs.length c) xs) (hs : ¬ S gs) (hx : InPage base size i at_ xs) (e : pg i = some g) (hn : noughts xs = true) (hz : alike 4096 (overU (fun k => m (i * 4096 + k)) at_ xs) (fun _ => 0) = false) :
    Calls Try.prog 43 #[.pointer (some ⟨b, 0, none⟩), .int .u64 i, .int .i64 at_, .slice (some ⟨gs, off, none⟩) xs.length c] w (StoreEnd w b S base size (putF m (i * 4096 + at_) xs)) := by
  have HP := Lib.hid h
  have HG := Lib.hid hs
  have HV := Lib.hid hv
  have HX := Lib.hid hx
  have HN := Lib.hid hn
  have HE := Lib.hid e
  have hpage := hx.page
  have hlen : 0 < xs.length := List.length_pos_iff.2 hx.ne
  clear h hv hx hn e hs
  go_enter Try.func43, Try.ntmps43
  go_wp2_with fail
  refine (isNought_any gs _ xs _ HV.out HX.out.bytes HX.out.ne).mono ?_
  rintro ee w1 ⟨rfl, hb1⟩
  rw [HN.out]
  have hp := HP.out.below hb1
  obtain ⟨c0, c1, c2⟩ := ram_cells hp.row
  have hl := hp.ok.map.look pgT hi
  rw [HE.out] at hl
  simp only [ptrTo] at hl
  have hnew : HoldsU w1 g 61 4096 (fun k => m (i * 4096 + k)) := (hp.ok.page i g HE.out).1
  have hsrc : ∀ j, j < xs.length → w1.cell? ((⟨gs, off, none⟩ : Addr).add j) = some (.int .u8 (xs.getD j 0)) := src_keeps HV.out (Only.of_below (fun _ => False) hb1) id
  have HSL := fun w => run_slice_from (w := w) Try.underlying61 (Try.sizeOf5 w) g at_ (by omega)
  have HB1 := Lib.hid hb1
  have HP1 := Lib.hid hp
  have HNEW := Lib.hid hnew
  have HSRC := Lib.hid hsrc
  clear hb1 hp hnew hsrc
  have h3 := HoldsU.setRow HNEW.out (overU (fun k => m (i * 4096 + k)) at_ xs)
  have ho3 : Only (fun k => k = g) w1 (w1.setRow g (uarr 4096 (overU (fun k => m (i * 4096 + k)) at_ xs))) := (Only.refl (fun k => k = g) w1).setRow (.inl rfl) _
  have H3 := Lib.hid h3
  have HO3 := Lib.hid ho3
  clear h3 ho3
  have HQ : Hid (alike 4096 (overU (fun k => m (i * 4096 + k)) at_ xs) (fun _ => 0) = false) := Lib.hid hz
  have HMIN : Hid (xs.length = Nat.min xs.length (4096 - at_)) := Lib.hid (by show xs.length = min xs.length (4096 - at_); omega)
  have HFIT : Hid (at_ + xs.length ≤ 4096) := Lib.hid hpage
  clear hz
  have HEND : Hid (StoreEnd w b S base size (putF m (i * 4096 + at_) xs) (.returned (.tuple #[])) (w1.setRow g (uarr 4096 (overU (fun k => m (i * 4096 + k)) at_ xs)))) :=
    Lib.hid (wrote_end HB1.out HP1.out HE.out HX.out H3.out HO3.out (by
      have : ¬ ∀ k, k < 4096 → overU (fun k => m (i * 4096 + k)) at_ xs k = 0 := fun hh => by
        rw [alike_iff.2 hh] at HQ; exact absurd HQ.out (by simp)
      obtain ⟨k, hk⟩ := Classical.not_forall.1 this
      obtain ⟨hk, hne⟩ := Classical.not_imp.1 hk
      exact ⟨k, hk, by rw [← HX.out.over m k hk]; exact hne⟩))
  go_wp2_with (first
    | (refine wpList_copy_u rfl (.tmp 31) (.tmp 32) 38 38 rfl 5 Try.underlying38 size_u8 g at_ _ _ ⟨gs, off, none⟩ _ _ rfl rfl 4096 (fun k => m (i * 4096 + k)) 61 HNEW.out xs HMIN.out HSRC.out HFIT.out ?_)
    | (refine wpList_load_u rfl _ _ rfl g rfl 61 4096 (overU (fun k => m (i * 4096 + k)) at_ xs) 5 H3.out Try.underlying61 size4096 ?_)
    | (refine wpList_build_u rfl _ rfl 4096 (fun _ => 0) built4096 ?_)
    | (refine wpList_eql_u rfl 61 _ _ _ rfl 5 4096 (overU (fun k => m (i * 4096 + k)) at_ xs) (fun _ => 0) rfl rfl Try.underlying61 (Try.sizeOf5 _) (Try.isAgg5 _) Try.underlying5 guard4096 ?_; rw [HQ.out]))
  go_end0
  exact HEND.out

set_option maxRecDepth 100000 in
set_option maxHeartbeats 2000000 in
theorem storeIn_e {g : Nat} (h : Parts w b mb S base size m pg) (hi : In64 i) (hv : ReadsIn .u8 gs w (.slice (some ⟨gs, off, none⟩) xs.length c) xs) (hs : ¬ S gs) (hx : InPage base size i at_ xs) (e : pg i = some g) (hn : noughts xs = true) (hz : alike 4096 (overU (fun k => m (i * 4096 + k)) at_ xs) (fun _ => 0) = true) :
    Calls Try.prog 43 #[.pointer (some ⟨b, 0, none⟩), .int .u64 i, .int .i64 at_, .slice (some ⟨gs, off, none⟩) xs.length c] w (StoreEnd w b S base size (putF m (i * 4096 + at_) xs)) := by
  have HP := Lib.hid h
  have HG := Lib.hid hs
  have HV := Lib.hid hv
  have HX := Lib.hid hx
  have HN := Lib.hid hn
  have HE := Lib.hid e
  have hpage := hx.page
  have hlen : 0 < xs.length := List.length_pos_iff.2 hx.ne
  clear h hv hx hn e hs
  go_enter Try.func43, Try.ntmps43
  go_wp2_with fail
  refine (isNought_any gs _ xs _ HV.out HX.out.bytes HX.out.ne).mono ?_
  rintro ee w1 ⟨rfl, hb1⟩
  rw [HN.out]
  have hp := HP.out.below hb1
  obtain ⟨c0, c1, c2⟩ := ram_cells hp.row
  have hl := hp.ok.map.look pgT hi
  rw [HE.out] at hl
  simp only [ptrTo] at hl
  have hnew : HoldsU w1 g 61 4096 (fun k => m (i * 4096 + k)) := (hp.ok.page i g HE.out).1
  have hsrc : ∀ j, j < xs.length → w1.cell? ((⟨gs, off, none⟩ : Addr).add j) = some (.int .u8 (xs.getD j 0)) := src_keeps HV.out (Only.of_below (fun _ => False) hb1) id
  have HSL := fun w => run_slice_from (w := w) Try.underlying61 (Try.sizeOf5 w) g at_ (by omega)
  have HB1 := Lib.hid hb1
  have HP1 := Lib.hid hp
  have HNEW := Lib.hid hnew
  have HSRC := Lib.hid hsrc
  clear hb1 hp hnew hsrc
  have h3 := HoldsU.setRow HNEW.out (overU (fun k => m (i * 4096 + k)) at_ xs)
  have ho3 : Only (fun k => k = g) w1 (w1.setRow g (uarr 4096 (overU (fun k => m (i * 4096 + k)) at_ xs))) := (Only.refl (fun k => k = g) w1).setRow (.inl rfl) _
  have H3 := Lib.hid h3
  have HO3 := Lib.hid ho3
  clear h3 ho3
  have HQ : Hid (alike 4096 (overU (fun k => m (i * 4096 + k)) at_ xs) (fun _ => 0) = true) := Lib.hid hz
  have HMIN : Hid (xs.length = Nat.min xs.length (4096 - at_)) := Lib.hid (by show xs.length = min xs.length (4096 - at_); omega)
  have HFIT : Hid (at_ + xs.length ≤ 4096) := Lib.hid hpage
  clear hz
  have hp3 := HP1.out.row_keeps HO3.out (fun h => (HP1.out.ok.page i g HE.out).2.2.1 h.symm)
  obtain ⟨d0, d1, d2⟩ := ram_cells hp3
  have hm3 := HP1.out.ok.map.keeps HO3.out (fun h => (HP1.out.ok.page i g HE.out).2.2.2.1 h.symm)
  obtain ⟨w4, hdel, hmap, hturn⟩ := hm3.drop pgT hi 0
  have HEND : Hid (StoreEnd w b S base size (putF m (i * 4096 + at_) xs) (.returned (.tuple #[])) w4) := by
    have o4 := mapTurned_only (S := fun k => k = mb) hturn rfl
    obtain ⟨_, k2, k3, k4, _⟩ := HP1.out.ok.page i g HE.out
    have o5 : Only (fun k => k = g ∨ k = mb) w1 w4 := (HO3.out.mono (fun k hk => .inl (.inl hk))).step o4 (fun k hk => .inl (.inr hk))
    refine Lib.hid ⟨⟨_, rfl⟩, (Only.of_below S HB1.out).step o5 ?_, S, fun k hk => .inl hk, mb, _, o5.keeps ?_ HP1.out.row, PgOk.struck HP1.out.ok HE.out o5 hmap ?_ (HX.out.out m), putF_bytey HP1.out.bytey _ HX.out.bytes, HX.out.support HP1.out.sup, HP1.out.al1, HP1.out.al2⟩
    · rintro k (rfl | rfl)
      · exact .inl k2
      · exact .inl HP1.out.ok.smb
    · rintro (h | h)
      · exact k3 h.symm
      · exact HP1.out.ok.ne h.symm
    · intro k hk
      rw [← HX.out.over m k hk]
      exact alike_iff.1 HQ.out k hk
  have HD := Lib.hid hp3
  clear hp3 hm3 hmap hturn
  go_wp2_with (first
    | (refine wpList_copy_u rfl (.tmp 31) (.tmp 32) 38 38 rfl 5 Try.underlying38 size_u8 g at_ _ _ ⟨gs, off, none⟩ _ _ rfl rfl 4096 (fun k => m (i * 4096 + k)) 61 HNEW.out xs HMIN.out HSRC.out HFIT.out ?_)
    | (refine wpList_load_u rfl _ _ rfl g rfl 61 4096 (overU (fun k => m (i * 4096 + k)) at_ xs) 5 H3.out Try.underlying61 size4096 ?_)
    | (refine wpList_build_u rfl _ rfl 4096 (fun _ => 0) built4096 ?_)
    | (refine wpList_eql_u rfl 61 _ _ _ rfl 5 4096 (overU (fun k => m (i * 4096 + k)) at_ xs) (fun _ => 0) rfl rfl Try.underlying61 (Try.sizeOf5 _) (Try.isAgg5 _) Try.underlying5 guard4096 ?_; rw [HQ.out]))
  go_end0
  exact HEND.out

end
end Go.Proofs.Ytoghdkhlliehoaa

/- The program's memory of layer 3: bytes written over several pages. -/
namespace Go.Proofs.Ytoghdkhlliehoaa
open Go.RowKit Go.Maps
set_option linter.unusedVariables false
set_option maxRecDepth 100000

theorem storeIn_any {w : World} {b gs : Nat} {S : Nat → Prop} {base size : Int} {m : Int → Int} (i : Int) (at_ : Nat) (xs : List Int) (v : Value) (h : ProgMem w b S base size m) (hf : Fits base size) (hi : In64 i) (hv : ReadsIn .u8 gs w v xs) (hs : ¬ S gs) (hx : InPage base size i at_ xs) :
    Calls Try.prog 43 #[.pointer (some ⟨b, 0, none⟩), .int .u64 i, .int .i64 at_, v] w (StoreEnd w b S base size (putF m (i * 4096 + at_) xs)) := by
  obtain ⟨mb, pg, hp⟩ := h.parts
  have hv2 := hv
  obtain ⟨a, c, rfl, _, h3⟩ := hv2
  obtain ⟨off, rfl, _⟩ := h3.resolve_left hx.ne
  cases hn : noughts xs
  · cases e : pg i with
    | none => exact storeIn_b i at_ xs hp hf hi hv hs hx e hn
    | some g => exact storeIn_c i at_ xs hp hi hv hs hx e hn
  · cases e : pg i with
    | none => exact storeIn_a i at_ xs hp hi hv hx e hn
    | some g =>
      cases hz : alike 4096 (overU (fun k => m (i * 4096 + k)) at_ xs) (fun _ => 0)
      · exact storeIn_d i at_ xs hp hi hv hs hx e hn hz
      · exact storeIn_e i at_ xs hp hi hv hs hx e hn hz

theorem place_at (y q : Int) (r : Nat) (h : y = q * 4096 + r) (hr : r < 4096) (hy : In64 y) (w : World) :
    Calls Try.prog 42 #[.int .u64 y] w fun e w' => e = .returned (.tuple #[.int .u64 q, .int .i64 r]) ∧ w = w' := by
  have h1 : y / 4096 = q := by omega
  have h2 : y % 4096 = r := by omega
  have := place_any y hy w
  rw [h1, h2] at this
  exact this

theorem putF_take (m : Int → Int) (x : Int) (xs : List Int) (k n : Nat) (h : k + n ≤ xs.length) : putF (putF m x (xs.take k)) (x + k) ((xs.drop k).take n) = putF m x (xs.take (k + n)) := by
  funext y
  rw [putF_eq, putF_eq, putF_eq]
  have e1 : ((xs.drop k).take n).length = n := by simp; omega
  have e2 : (xs.take k).length = k := by simp; omega
  have e3 : (xs.take (k + n)).length = k + n := by simp; omega
  rw [e1, e2, e3]
  by_cases a : x + k ≤ y ∧ y < x + k + n
  · rw [if_pos a, if_pos (by omega)]
    have f1 : (y - (x + k)).toNat < n := by omega
    have f2 : (y - x).toNat = k + (y - (x + k)).toNat := by omega
    rw [f2]
    simp [List.getD, List.getElem?_take, f1]
  · rw [if_neg a]
    by_cases c : x ≤ y ∧ y < x + k
    · rw [if_pos c, if_pos (by omega)]
      have f1 : (y - x).toNat < k := by omega
      simp [List.getD, List.getElem?_take, f1, show (y - x).toNat < k + n by omega]
    · rw [if_neg c, if_neg (by omega)]

/-- In the loop: the first k bytes are written. -/
def Storing (w wr : World) (b : Nat) (S : Nat → Prop) (base size : Int) (m : Int → Int) (x : Int) (xs : List Int) (k : Nat) : Prop :=
  Only S w wr ∧ ∃ S', (∀ j, S' j → S j ∨ w.heap.size ≤ j) ∧ ProgMem wr b S' base size (putF m x (xs.take k))
theorem Storing.next {e : Ending} {w wr w' : World} {b : Nat} {S S' : Nat → Prop} {base size : Int} {m : Int → Int} {x : Int} {xs : List Int} {k n : Nat} (h : k + n ≤ xs.length) (ho : Only S w wr) (hS : ∀ j, S' j → S j ∨ w.heap.size ≤ j)
    (hs : StoreEnd wr b S' base size (putF (putF m x (xs.take k)) (x + k) ((xs.drop k).take n)) e w') : Storing w w' b S base size m x xs (k + n) := by
  obtain ⟨_, o2, S2, hS2, hM⟩ := hs
  rw [putF_take m x xs k n h] at hM
  refine ⟨ho.step o2 hS, S2, fun j hj => ?_, hM⟩
  rcases hS2 j hj with hj | hj
  · exact hS j hj
  · exact .inr (Nat.le_trans ho.size hj)

/-- A piece of a slice. -/
theorem ReadsIn.piece {w : World} {gs off c c' : Nat} {xs : List Int} (h : ReadsIn .u8 gs w (.slice (some ⟨gs, off, none⟩) xs.length c) xs) (k n : Nat) (hk : k + n ≤ xs.length) (hn : 0 < n) :
    ReadsIn .u8 gs w (.slice (some ⟨gs, off + k, none⟩) n c') ((xs.drop k).take n) := by
  obtain ⟨a, cc, h1, h2, h3⟩ := h
  injection h1 with h1 _ _
  subst h1
  have e1 : ((xs.drop k).take n).length = n := by simp; omega
  refine ⟨_, c', by rw [e1], by omega, .inr ⟨off + k, rfl, ?_, fun j hj => ?_⟩⟩
  · rcases h3 with h3 | ⟨o, _, h4, _⟩
    · rw [h3] at hk; simp at hk; omega
    · exact h4
  · rcases h3 with h3 | ⟨o, h5, _, h4⟩
    · rw [h3] at hk; simp at hk; omega
    · injection h5 with h5; injection h5 with _ h5
      subst h5
      rw [e1] at hj
      have := h4 (k + j) (by omega)
      rw [show off + k + j = off + (k + j) by omega, this]
      simp [List.getD, List.getElem?_take, hj]

set_option maxRecDepth 100000 in
set_option maxHeartbeats 2000000 in
theorem store_some {w : World} {b gs off c : Nat} {S : Nat → Prop} {base size : Int} {m : Int → Int} (x : Int) (xs : List Int) (h : ProgMem w b S base size m) (hf : Fits base size) (hx0 : base ≤ x) (hx1 : x + xs.length ≤ base + size)
    (hv : ReadsIn .u8 gs w (.slice (some ⟨gs, off, none⟩) xs.length c) xs) (hc : xs.length ≤ c) (hb : Bytes255 xs) (hs : ¬ S gs) :
    Calls Try.prog 32 #[.pointer (some ⟨b, 0, none⟩), .int .u64 x, .slice (some ⟨gs, off, none⟩) xs.length c] w (StoreEnd w b S base size (putF m x xs)) := by
  obtain ⟨f1, f2, f3, f4⟩ := hf
  have HF : Hid (Fits base size) := Lib.hid ⟨f1, f2, f3, f4⟩
  have hml : xs.length ≤ maxLen := by obtain ⟨_, _, h1, h2, _⟩ := hv; exact h2
  unfold maxLen at hml
  have hgs : xs = [] ∨ gs < w.heap.size := by
    obtain ⟨_, _, _, _, h3⟩ := hv
    rcases h3 with h3 | ⟨_, _, h3, _⟩
    · exact .inl h3
    · exact .inr h3
  have HV := Lib.hid hv
  have HB := Lib.hid hb
  have HG := Lib.hid hs
  have HGS := Lib.hid hgs
  have HP : Hid (Storing w w b S base size m x xs 0) := Lib.hid ⟨Only.refl _ _, S, fun j hj => .inl hj, by simpa [putF] using h⟩
  clear hv hb hs h hgs
  go_enter Try.func32, Try.ntmps32
  go_wp2
  go_loopw [1, 2] (fun u v wr => ∃ (k L C : Nat) (A : Option Addr), k + L = xs.length ∧ L ≤ C ∧ u = .int .u64 (x + k) ∧ v = .slice A L C ∧ (0 < L → A = some ⟨gs, off + k, none⟩) ∧ Storing w wr b S base size m x xs k)
    (fun _ v _ => match v with | .slice _ n _ => n | _ => 0)
  case atStart => exact ⟨0, xs.length, c, _, by omega, hc, by rw [Int.natCast_zero, Int.add_zero], rfl, fun _ => rfl, HP.out⟩
  case round =>
    obtain ⟨k, L, C, A, hkL, hLC, rfl, rfl, hA, hst⟩ := hrel
    by_cases h0 : 0 < L
    · obtain rfl := hA h0
      obtain ⟨ho, S', hS', hM⟩ := hst
      obtain ⟨q, r, hqr, hr⟩ : ∃ (q : Int) (r : Nat), x + k = q * 4096 + r ∧ r < 4096 := ⟨(x + k) / 4096, ((x + k) % 4096).toNat, by omega, by omega⟩
      have hgs2 : gs < w.heap.size := by
        rcases HGS.out with h1 | h1
        · rw [h1] at hkL; simp at hkL; omega
        · exact h1
      have hsg : ¬ S' gs := fun hh => by
        rcases hS' gs hh with h1 | h1
        · exact HG.out h1
        · omega
      have hvr := HV.out.keeps ho HG.out
      have HO := Lib.hid ho
      have HS := Lib.hid hS'
      have HM := Lib.hid hM
      have HSG := Lib.hid hsg
      have HVR := Lib.hid hvr
      have HQR := Lib.hid hqr
      have hx64 : x + k ≤ 9223372036854775808 := by omega
      have hxp : 0 ≤ x + k := by omega
      have hqi : Hid (In64 q) := Lib.hid (by unfold In64; omega)
      have hxi : Hid (In64 (x + k)) := Lib.hid (by unfold In64; omega)
      clear ho hS' hM hsg hvr hqr hA
      obtain ⟨n4, hn4⟩ : ∃ n4 : Nat, r + n4 = 4096 := ⟨4096 - r, by omega⟩
      have e4 : (4096 : Int) - r = n4 := by omega
      by_cases hlt : n4 < L
      · have hcap : ¬ C = n4 := by omega
        have hle : n4 ≤ C := by omega
        have hpos : 0 < n4 := by omega
        have emin : min (L : Int) (n4 : Int) = n4 := by omega
        have HIN : Hid (InPage base size q r ((xs.drop k).take n4)) := by
          have e1 : ((xs.drop k).take n4).length = n4 := by simp; omega
          refine Lib.hid ⟨by rw [← HQR.out]; omega, by rw [← HQR.out, e1]; omega, by rw [e1]; omega, fun i hi => ?_, fun hh => by rw [hh] at e1; simp at e1; omega⟩
          rw [e1] at hi
          have := HB.out (k + i) (by omega)
          simpa [List.getD, List.getElem?_take, hi] using this
        have HPC : ∀ c', Hid (ReadsIn .u8 gs wr (.slice (some ⟨gs, off + k, none⟩) n4 c') ((xs.drop k).take n4)) := fun c' => Lib.hid (HVR.out.piece k n4 (by omega) hpos)
        go_wp2_with (first
          | (go_at_call 42; refine (place_at (x + k) q r HQR.out hr hxi.out _).mono ?_; rintro e w2 ⟨rfl, rfl⟩))
        refine (storeIn_any q r ((xs.drop k).take n4) _ HM.out HF.out hqi.out (HPC _).out HSG.out HIN.out).mono ?_
        rintro e w2 hE
        rw [← HQR.out] at hE
        obtain ⟨u, rfl⟩ := hE.1
        have HN := Lib.hid (Storing.next (by omega) HO.out HS.out hE)
        have ex : x + k + n4 ≤ 9223372036854775808 := by omega
        clear hE
        go_wp2
        go_roundw
        case rel => exact ⟨k + n4, L - n4, C - n4, _, by omega, by omega, by rw [Int.natCast_add, Int.add_assoc], rfl, fun _ => by rw [Nat.add_assoc], HN.out⟩
        case measure => simp; omega
      · have hle : L ≤ C := hLC
        have emin : min (L : Int) (n4 : Int) = L := by omega
        have HIN : Hid (InPage base size q r ((xs.drop k).take L)) := by
          have e1 : ((xs.drop k).take L).length = L := by simp; omega
          refine Lib.hid ⟨by rw [← HQR.out]; omega, by rw [← HQR.out, e1]; omega, by rw [e1]; omega, fun i hi => ?_, fun hh => by rw [hh] at e1; simp at e1; omega⟩
          rw [e1] at hi
          have := HB.out (k + i) (by omega)
          simpa [List.getD, List.getElem?_take, hi] using this
        have HPC : ∀ c', Hid (ReadsIn .u8 gs wr (.slice (some ⟨gs, off + k, none⟩) L c') ((xs.drop k).take L)) := fun c' => Lib.hid (HVR.out.piece k L (by omega) h0)
        go_wp2_with (first
          | (go_at_call 42; refine (place_at (x + k) q r HQR.out hr hxi.out _).mono ?_; rintro e w2 ⟨rfl, rfl⟩))
        refine (storeIn_any q r ((xs.drop k).take L) _ HM.out HF.out hqi.out (HPC _).out HSG.out HIN.out).mono ?_
        rintro e w2 hE
        rw [← HQR.out] at hE
        obtain ⟨u, rfl⟩ := hE.1
        have HN := Lib.hid (Storing.next (by omega) HO.out HS.out hE)
        have ex : x + k + L ≤ 9223372036854775808 := by omega
        clear hE
        by_cases hcap : C = L
        · subst hcap
          go_wp2
          go_roundw
          case rel => exact ⟨k + C, 0, 0, some ⟨gs, off + k, none⟩, by omega, by omega, by rw [Int.natCast_add, Int.add_assoc], by simp, fun h => absurd h (by omega), HN.out⟩
          case measure => simp; omega
        · go_wp2
          go_roundw
          case rel => exact ⟨k + L, 0, C - L, some ⟨gs, off + k + L, none⟩, by omega, by omega, by rw [Int.natCast_add, Int.add_assoc], by simp, fun h => absurd h (by omega), HN.out⟩
          case measure => simp; omega
    · obtain rfl : L = 0 := by omega
      obtain rfl : k = xs.length := by omega
      rw [Storing, List.take_length] at hst
      have HST := Lib.hid hst
      clear hst
      go_wp2
      go_end0
      exact ⟨⟨_, rfl⟩, HST.out⟩

end Go.Proofs.Ytoghdkhlliehoaa

namespace Go.Proofs.Ytoghdkhlliehoaa
open Go.RowKit Go.Maps
set_option linter.unusedVariables false
set_option maxRecDepth 100000

/-- The bytes of m from x on, laid over f from off on, k of them. -/
def readU (f : Nat → Int) (off : Nat) (m : Int → Int) (x : Int) (k : Nat) (j : Nat) : Int := if off ≤ j ∧ j < off + k then m (x + ((j - off : Nat) : Int)) else f j
theorem readU_zero (f : Nat → Int) (off : Nat) (m : Int → Int) (x : Int) : readU f off m x 0 = f := by
  funext j; unfold readU; rw [if_neg (by omega)]
theorem readU_step (f : Nat → Int) (off : Nat) (m : Int → Int) (x : Int) (k n : Nat) : overU (readU f off m x k) (off + k) (bytesL m (x + k) n) = readU f off m x (k + n) := by
  funext j
  unfold overU
  rw [bytesL_len]
  by_cases c : off + k ≤ j ∧ j < off + k + n
  · rw [if_pos c, bytesL_get _ _ _ _ (by omega)]
    unfold readU
    rw [if_pos (by omega)]
    congr 1; omega
  · rw [if_neg c]
    unfold readU
    by_cases d : off ≤ j ∧ j < off + k
    · rw [if_pos d, if_pos (by omega)]
    · rw [if_neg d, if_neg (by omega)]
/-- Where the bytes are 0 nothing need be laid. -/
theorem readU_skip {f : Nat → Int} {off : Nat} {m : Int → Int} {x : Int} {k n : Nat} (hf : ∀ j, off ≤ j → j < off + k + n → f j = 0) (hm : ∀ j : Nat, j < n → m (x + k + j) = 0) : readU f off m x (k + n) = readU f off m x k := by
  funext j
  unfold readU
  by_cases d : off ≤ j ∧ j < off + k
  · rw [if_pos d, if_pos (by omega)]
  · rw [if_neg d]
    by_cases c : off ≤ j ∧ j < off + (k + n)
    · rw [if_pos c, hf j (by omega) (by omega)]
      have := hm (j - off - k) (by omega)
      rw [show x + ((j - off : Nat) : Int) = x + k + ((j - off - k : Nat) : Int) by omega, this]
    · rw [if_neg c]

/-- What a call leaves that turns block gd alone. -/
def LoadEnd (w : World) (gd : Nat) (t : TypeId) (n : Nat) (f : Nat → Int) (e : Ending) (w' : World) : Prop :=
  (∃ u, e = .returned u) ∧ Only (fun i => i = gd) w w' ∧ HoldsU w' gd t n f

set_option maxRecDepth 100000 in
set_option maxHeartbeats 4000000 in
theorem load_some {w : World} {b gd off L0 c n : Nat} {t : TypeId} {S : Nat → Prop} {base size : Int} {m : Int → Int} {f : Nat → Int} {a0 : Option Addr} (x : Int) (h : ProgMem w b S base size m) (hf : Fits base size) (hx0 : 0 < L0 → base ≤ x) (hx1 : 0 < L0 → x + L0 ≤ base + size) (hx : In64 x)
    (hd : HoldsU w gd t n f) (ha : 0 < L0 → a0 = some ⟨gd, off, none⟩) (hn : off + L0 ≤ n) (hc : L0 ≤ c) (hL : L0 ≤ 9223372036854775807) (hz : ∀ j, off ≤ j → j < off + L0 → f j = 0) (hs : ¬ S gd) :
    Calls Try.prog 33 #[.pointer (some ⟨b, 0, none⟩), .int .u64 x, .slice a0 L0 c] w (LoadEnd w gd t n (readU f off m x L0)) := by
  obtain ⟨f1, f2, f3, f4⟩ := hf
  obtain ⟨mb, pg, hp⟩ := h.parts
  have HP := Lib.hid hp
  have HG := Lib.hid hs
  have HZ := Lib.hid hz
  have HX0 := Lib.hid hx0
  have HX1 := Lib.hid hx1
  have HD := Lib.hid hd
  have xl := hx.1
  have xh := hx.2
  clear h hp hs hz hd hx hx0 hx1
  go_enter Try.func33, Try.ntmps33
  go_wp2
  go_loopw [1, 2] (fun u v wr => ∃ (k L C : Nat) (A : Option Addr), k + L = L0 ∧ L ≤ C ∧ u = .int .u64 (x + k) ∧ v = .slice A L C ∧ (0 < L → A = some ⟨gd, off + k, none⟩) ∧ Only (fun i => i = gd) w wr ∧ HoldsU wr gd t n (readU f off m x k))
    (fun _ v _ => match v with | .slice _ n _ => n | _ => 0)
  case atStart => exact ⟨0, L0, c, _, by omega, hc, by rw [Int.natCast_zero, Int.add_zero], rfl, ha, Only.refl _ _, by rw [readU_zero]; exact HD.out⟩
  case round =>
    obtain ⟨k, L, C, A, hkL, hLC, rfl, rfl, hA, ho, hr⟩ := hrel
    by_cases h0 : 0 < L
    · obtain rfl := hA h0
      have x0 := HX0.out (by omega)
      have x1 := HX1.out (by omega)
      obtain ⟨q, r, hqr, hr4⟩ : ∃ (q : Int) (r : Nat), x + k = q * 4096 + r ∧ r < 4096 := ⟨(x + k) / 4096, ((x + k) % 4096).toNat, by omega, by omega⟩
      have hp := HP.out.keeps ho (fun i hi e => HG.out (e ▸ hi))
      obtain ⟨c0, c1, c2⟩ := ram_cells hp.row
      have HO := Lib.hid ho
      have HQR := Lib.hid hqr
      have HR := Lib.hid hr
      have HQ := Lib.hid hp
      have hx64 : x + k ≤ 9223372036854775808 := by omega
      have hxp : 0 ≤ x + k := by omega
      have hqi : In64 q := by unfold In64; omega
      have hxi : Hid (In64 (x + k)) := Lib.hid (by unfold In64; omega)
      have hl := hp.ok.map.look pgT hqi
      clear ho hqr hr hp hA hqi
      obtain ⟨n4, hn4⟩ : ∃ n4 : Nat, r + n4 = 4096 := ⟨4096 - r, by omega⟩
      have e4 : (4096 : Int) - r = n4 := by omega
      obtain ⟨d, hd1, hd2, hd3, emin⟩ : ∃ d : Nat, 0 < d ∧ d ≤ L ∧ d ≤ n4 ∧ min (L : Int) (n4 : Int) = d := by
        by_cases hlt : n4 < L
        · exact ⟨n4, by omega, by omega, by omega, by omega⟩
        · exact ⟨L, by omega, by omega, by omega, by omega⟩
      have hdC : d ≤ C := by omega
      have ex : x + k + d ≤ 9223372036854775808 := by omega
      cases hpg : pg q with
      | none =>
        rw [hpg] at hl
        simp only [ptrTo] at hl
        have HN : Hid (HoldsU wr gd t n (readU f off m x (k + d))) := by
          rw [readU_skip (fun j h1 h2 => HZ.out j h1 (by omega)) (fun j hj => by
            have := HQ.out.ok.gone q hpg (r + j) (by omega)
            rw [HQR.out, show q * 4096 + (r : Int) + (j : Int) = q * 4096 + ((r + j : Nat) : Int) by omega]
            exact this)]
          exact Lib.hid HR.out
        clear hpg
        by_cases hcap : C = d
        · go_wp2_with (first
            | (go_at_call 42; refine (place_at (x + k) q r HQR.out hr4 hxi.out _).mono ?_; rintro e w2 ⟨rfl, rfl⟩))
          go_roundw
          case rel => exact ⟨k + d, L - d, C - d, some ⟨gd, off + k, none⟩, by omega, by omega, by rw [Int.natCast_add, Int.add_assoc], by rw [hcap, Nat.sub_self], fun h => absurd h (by omega), HO.out, HN.out⟩
          case measure => simp; omega
        · go_wp2_with (first
            | (go_at_call 42; refine (place_at (x + k) q r HQR.out hr4 hxi.out _).mono ?_; rintro e w2 ⟨rfl, rfl⟩))
          go_roundw
          case rel => exact ⟨k + d, L - d, C - d, some ⟨gd, off + k + d, none⟩, by omega, by omega, by rw [Int.natCast_add, Int.add_assoc], rfl, fun h => by rw [Nat.add_assoc], HO.out, HN.out⟩
          case measure => simp; omega
      | some g =>
        rw [hpg] at hl
        simp only [ptrTo] at hl
        have HPG := Lib.hid (HQ.out.ok.page q g hpg).1
        have HSL := fun w => run_slice_from (w := w) Try.underlying61 (Try.sizeOf5 w) g r hr4
        clear hpg
        have HXL : Hid ((bytesL m (x + k) d).length = Nat.min (4096 - r) d) := Lib.hid (by rw [bytesL_len]; show d = min (4096 - r) d; omega)
        have HSRC : Hid (∀ j, j < (bytesL m (x + k) d).length → wr.drew.cell? ((⟨g, r, none⟩ : Addr).add j) = some (.int .u8 ((bytesL m (x + k) d).getD j 0))) := by
          refine Lib.hid fun j hj => ?_
          rw [bytesL_len] at hj
          rw [add_none, bytesL_get _ _ _ _ hj, HQR.out]
          have := HoldsU.cell (show HoldsU wr.drew g 61 4096 (fun i => m (q * 4096 + i)) from HPG.out) (j := r + j) (by omega)
          rw [show q * 4096 + (r : Int) + (j : Int) = q * 4096 + ((r + j : Nat) : Int) by omega]
          exact this
        have HRD : Hid (HoldsU wr.drew gd t n (readU f off m x k)) := Lib.hid HR.out
        have HFIT : Hid (off + k + (bytesL m (x + k) d).length ≤ n) := Lib.hid (by rw [bytesL_len]; omega)
        have HN : Hid (HoldsU (wr.drew.setRow gd (uarr n (overU (readU f off m x k) (off + k) (bytesL m (x + k) d)))) gd t n (readU f off m x (k + d))) := by
          have := HoldsU.setRow HRD.out (overU (readU f off m x k) (off + k) (bytesL m (x + k) d))
          rw [readU_step] at this ⊢
          exact Lib.hid this
        have HO2 : Hid (Only (fun i => i = gd) w (wr.drew.setRow gd (uarr n (overU (readU f off m x k) (off + k) (bytesL m (x + k) d))))) := Lib.hid ((HO.out.drewN 1).setRow (.inl rfl) _)
        go_wp2_with (first
          | (go_at_call 42; refine (place_at (x + k) q r HQR.out hr4 hxi.out _).mono ?_; rintro e w2 ⟨rfl, rfl⟩))
        go_still_tail 7, (by kernel_rfl)
        change wpList _ _ _ _ _ wr.drew
        refine wpList_copy_u rfl (.tmp 33) (.tmp 37) 38 38 rfl 5 Try.underlying38 size_u8 gd (off + k) d C ⟨g, r, none⟩ (4096 - r) (4096 - r) rfl rfl n (readU f off m x k) t HRD.out (bytesL m (x + k) d) HXL.out HSRC.out HFIT.out ?_
        clear HSRC HRD HXL HFIT
        generalize wr.drew.setRow gd (uarr n (overU (readU f off m x k) (off + k) (bytesL m (x + k) d))) = w9 at *
        generalize (bytesL m (x + k) d).length = nl
        by_cases hcap : C = d
        · go_wp2
          go_roundw
          case rel => exact ⟨k + d, L - d, C - d, some ⟨gd, off + k, none⟩, by omega, by omega, by rw [Int.natCast_add, Int.add_assoc], by rw [hcap, Nat.sub_self], fun h => absurd h (by omega), HO2.out, HN.out⟩
          case measure => simp; omega
        · go_wp2
          go_roundw
          case rel => exact ⟨k + d, L - d, C - d, some ⟨gd, off + k + d, none⟩, by omega, by omega, by rw [Int.natCast_add, Int.add_assoc], rfl, fun h => by rw [Nat.add_assoc], HO2.out, HN.out⟩
          case measure => simp; omega
    · obtain rfl : L = 0 := by omega
      obtain rfl : k = L0 := by omega
      have HO := Lib.hid ho
      have HR := Lib.hid hr
      clear ho hr
      go_wp2
      go_end0
      exact ⟨⟨_, rfl⟩, HO.out, HR.out⟩

end Go.Proofs.Ytoghdkhlliehoaa

namespace Go.Proofs.Ytoghdkhlliehoaa
open Go.RowKit Go.Maps
set_option linter.unusedVariables false
set_option maxRecDepth 100000

theorem okN_cases {n : Int} (h : okN n = true) : ∃ N : Nat, n = N ∧ 0 < N ∧ N ≤ 8 := by
  unfold okN at h
  rw [decide_eq_true_eq] at h
  exact ⟨n.toNat, by omega, by omega, by omega⟩
theorem hasZ_in {base size x : Int} {N : Nat} (h : hasZ base size x N = true) (hN : 0 < N) : base ≤ x ∧ x + N ≤ base + size := by
  unfold hasZ at h
  rw [decide_eq_true_eq] at h
  omega

/-- m between x and x + N, 0 elsewhere. -/
def cutM (m : Int → Int) (x : Int) (N : Nat) (y : Int) : Int := if x ≤ y ∧ y < x + N then m y else 0
theorem cutM_bytey {m : Int → Int} (h : Bytey m) (x : Int) (N : Nat) : Bytey (cutM m x N) := by
  intro y; unfold cutM; split
  · exact h y
  · omega
theorem cutM_read (m : Int → Int) (x : Int) {N : Nat} (h : N ≤ 8) : rdN (cutM m x N) x 8 = rdN m x N := by
  obtain ⟨d, hd⟩ : ∃ d, 8 = N + d := ⟨8 - N, by omega⟩
  rw [hd, rdN_zeros fun i h1 h2 => by unfold cutM; rw [if_neg (by omega)]]
  exact rdN_congr fun y h1 h2 => by unfold cutM; rw [if_pos ⟨h1, h2⟩]
theorem cutM_readU (m : Int → Int) (x : Int) (N : Nat) : readU (fun _ => 0) 0 m x N = fun i : Nat => cutM m x N (x + (i : Int)) := by
  funext j
  unfold readU cutM
  by_cases c : j < N
  · rw [if_pos ⟨by omega, by omega⟩, if_pos (by omega)]; congr 1
  · rw [if_neg (by omega), if_neg (by omega)]

set_option maxRecDepth 100000 in
set_option maxHeartbeats 2000000 in
theorem progRead_any {w : World} {b : Nat} {S : Nat → Prop} {base size : Int} {m : Int → Int} (x n : Int) (h : ProgMem w b S base size m) (hf : Fits base size) (hx : In64 x) (hn : In63 n) :
    Calls Try.prog 17 #[.pointer (some ⟨b, 0, none⟩), .int .u64 x, .int .i64 n] w (ReadEnd w (readV base size m x n)) := by
  have HP := Lib.hid h
  have HF := Lib.hid hf
  have HX := Lib.hid hx
  have HN := Lib.hid hn
  clear h hf hx hn
  cases hk : okN n
  · have H := Lib.hid hk
    have HE : Hid (readV base size m x n = (0, false)) := Lib.hid (by unfold readV; rw [hk]; rfl)
    clear hk
    rw [HE.out]
    go_enter Try.func17, Try.ntmps17
    go_wp2_with (go_at_call 30; refine (isLength_any _ _).mono ?_; rintro e w' ⟨rfl, rfl⟩; rw [H.out])
    go_ret2
    exact ⟨rfl, Below.refl _ _⟩
  · cases hz : hasZ base size x n
    · have H := Lib.hid hk
      have HZ := Lib.hid hz
      have HE : Hid (readV base size m x n = (0, false)) := Lib.hid (by unfold readV; rw [hk, hz]; rfl)
      clear hk hz
      rw [HE.out]
      go_enter Try.func17, Try.ntmps17
      go_wp2_with (first
        | (go_at_call 30; refine (isLength_any _ _).mono ?_; rintro e w' ⟨rfl, rfl⟩; rw [H.out])
        | (go_at_call 26; refine (progHas_any _ _ HP.out HF.out HX.out HN.out).mono ?_; rintro e w' ⟨rfl, rfl⟩; rw [HZ.out]))
      go_ret2
      exact ⟨rfl, Below.refl _ _⟩
    · obtain ⟨N, rfl, hN0, hN8⟩ := okN_cases hk
      have HI := Lib.hid (hasZ_in hz hN0)
      have H := Lib.hid hk
      have HZ := Lib.hid hz
      have HE : Hid (readV base size m x N = (rdN m x N, true)) := Lib.hid (by unfold readV; rw [hk, hz]; rfl)
      clear hk hz
      rw [HE.out]
      have HSL := fun w' => run_slice_upto (w := w') Try.underlying69 (Try.sizeOf5 w') w.heap.size N hN8 (by omega)
      have hb1 : Below w.heap.size w (w.alloc (.cells #[.int .u8 0, .int .u8 0, .int .u8 0, .int .u8 0, .int .u8 0, .int .u8 0, .int .u8 0, .int .u8 0] 69)) := (Below.refl _ _).alloc (Nat.le_refl _) _
      have hu : HoldsU (w.alloc (.cells #[.int .u8 0, .int .u8 0, .int .u8 0, .int .u8 0, .int .u8 0, .int .u8 0, .int .u8 0, .int .u8 0] 69)) w.heap.size 69 8 (fun _ => 0) := heap_alloc_new w _
      have HU := Lib.hid hu
      have HB1 := Lib.hid hb1
      have HP1 := Lib.hid (HP.out.keeps (Only.of_below (fun _ => False) hb1) (fun _ _ => id))
      have HG : Hid (¬ S w.heap.size) := Lib.hid (fun hs => by obtain ⟨mb, pg, hp⟩ := HP.out.parts; have := hp.ok.lt _ hs; omega)
      clear hu hb1
      go_enter Try.func17, Try.ntmps17
      go_wp2_with (first
        | (go_at_call 30; refine (isLength_any _ _).mono ?_; rintro e w' ⟨rfl, rfl⟩; rw [H.out])
        | (go_at_call 26; refine (progHas_any _ _ HP.out HF.out HX.out HN.out).mono ?_; rintro e w' ⟨rfl, rfl⟩; rw [HZ.out]))
      refine (load_some (off := 0) x HP1.out HF.out (fun _ => HI.out.1) (fun _ => HI.out.2) HX.out HU.out (fun _ => rfl) (by omega) (by omega) (by omega) (fun _ _ _ => rfl) HG.out).mono ?_
      rintro e w2 ⟨⟨u, rfl⟩, ho, hr⟩
      rw [cutM_readU] at hr
      have HR := Lib.hid hr
      have HO := Lib.hid (HB1.out.trans (ho.below (B := w.heap.size) (by rintro k rfl; exact Nat.le_refl _) HB1.out.size))
      have HBY : Hid (Bytey (cutM m x N)) := Lib.hid (cutM_bytey (by obtain ⟨mb, pg, hp⟩ := HP.out.parts; exact hp.bytey) x N)
      have HRD := Lib.hid (cutM_read m x hN8)
      clear ho hr
      go_wp2_with (first
        | (refine wpList_load_u rfl _ _ rfl w.heap.size rfl 69 8 (fun i : Nat => cutM m x N (x + (i : Int))) 5 HR.out Try.underlying69 size8 ?_)
        | (go_at_call 34; refine (number_any (cutM m x N) x HBY.out _).mono ?_; rintro e w3 ⟨rfl, hb3⟩; rw [HRD.out]))
      go_ret2
      exact ⟨rfl, HO.out.trans (hb3.mono HO.out.size)⟩

end Go.Proofs.Ytoghdkhlliehoaa

/- The program's memory of layer 3: Write, Put, Bytes. -/
namespace Go.Proofs.Ytoghdkhlliehoaa
open Go.RowKit Go.Maps
set_option linter.unusedVariables false
set_option maxRecDepth 100000

/-- The first N bytes of a word. -/
def leL (v : Int) (N : Nat) : List Int := (List.range N).map (leB v)
theorem leL_len (v : Int) (N : Nat) : (leL v N).length = N := by unfold leL; simp
theorem leL_get (v : Int) {N i : Nat} (h : i < N) : (leL v N).getD i 0 = leB v i := by unfold leL; simp [List.getD, h]
theorem leL_bytes (v : Int) (N : Nat) : Bytes255 (leL v N) := fun i hi => by
  rw [leL_len] at hi; rw [leL_get v hi]; exact leB_in v i
theorem putF_leL (m : Int → Int) (x v : Int) (N : Nat) : putF m x (leL v N) = wrN m x v N := by
  funext y
  rw [putF_eq, leL_len]
  by_cases c : x ≤ y ∧ y < x + N
  · rw [if_pos c, leL_get v (by omega)]
    have := wrN_at (m := m) (x := x) (v := v) (c := N) (i := (y - x).toNat) (by omega)
    rw [show x + ((y - x).toNat : Int) = y by omega] at this
    rw [this]; rfl
  · rw [if_neg c, wrN_out (by omega)]

/-- What Write and Put leave, out of what store leaves. -/
theorem prog_end {w w1 w2 : World} {b : Nat} {S : Nat → Prop} {base size : Int} {m : Int → Int} {e : Ending} (hb : Below w.heap.size w w1) (h : StoreEnd w1 b S base size m e w2) : ProgEnd ProgMem w b S base size m true (.returned (.bool true)) w2 := by
  obtain ⟨_, ho, S', hS, hM⟩ := h
  refine ⟨rfl, (Only.of_below S hb).trans ho, S', fun k hk => ?_, hM⟩
  rcases hS k hk with h1 | h1
  · exact .inl h1
  · exact .inr (Nat.le_trans hb.size h1)
theorem prog_no {w w1 : World} {b : Nat} {S : Nat → Prop} {base size : Int} {m : Int → Int} (h : ProgMem w b S base size m) (hb : Below w.heap.size w w1) : ProgEnd ProgMem w b S base size m false (.returned (.bool false)) w1 :=
  ⟨rfl, Only.of_below S hb, S, fun k hk => .inl hk, h.keeps (Only.of_below (fun _ => False) hb) (fun _ _ => id)⟩

theorem store_none {w : World} {b : Nat} (x : Int) (a : Option Addr) (c : Nat) :
    Calls Try.prog 32 #[.pointer (some ⟨b, 0, none⟩), .int .u64 x, .slice a 0 c] w fun e w' => (∃ u, e = .returned u) ∧ w = w' := by
  go_enter Try.func32, Try.ntmps32
  go_wp2
  refine wp_loop_rounds 1 ?_
  rw [rounds_succ]
  go_wp2
  go_end0
  exact ⟨⟨_, rfl⟩, rfl⟩

set_option maxRecDepth 100000 in
set_option maxHeartbeats 2000000 in
theorem progWrite_any {w : World} {b : Nat} {S : Nat → Prop} {base size : Int} {m : Int → Int} (x n v : Int) (h : ProgMem w b S base size m) (hf : Fits base size) (hx : In64 x) (hn : In63 n) (hv : In64 v) :
    Calls Try.prog 16 #[.pointer (some ⟨b, 0, none⟩), .int .u64 x, .int .i64 n, .int .u64 v] w (ProgEnd ProgMem w b S base size (writeM base size m x n v) (okN n && hasZ base size x n)) := by
  have HP := Lib.hid h
  have HF := Lib.hid hf
  have HX := Lib.hid hx
  have HN := Lib.hid hn
  have HV := Lib.hid hv
  clear h hf hx hn hv
  cases hk : okN n
  · have H := Lib.hid hk
    have HE : Hid (writeM base size m x n v = m) := Lib.hid (by unfold writeM; rw [hk]; rfl)
    clear hk
    rw [HE.out, Bool.false_and]
    go_enter Try.func16, Try.ntmps16
    go_wp2_with (go_at_call 30; refine (isLength_any _ _).mono ?_; rintro e w' ⟨rfl, rfl⟩; rw [H.out])
    go_ret
    exact prog_no HP.out (Below.refl _ _)
  · rw [Bool.true_and]
    cases hz : hasZ base size x n
    · have H := Lib.hid hk
      have HZ := Lib.hid hz
      have HE : Hid (writeM base size m x n v = m) := Lib.hid (by unfold writeM; rw [hk, hz]; rfl)
      clear hk hz
      rw [HE.out]
      go_enter Try.func16, Try.ntmps16
      go_wp2_with (first
        | (go_at_call 30; refine (isLength_any _ _).mono ?_; rintro e w' ⟨rfl, rfl⟩; rw [H.out])
        | (go_at_call 26; refine (progHas_any _ _ HP.out HF.out HX.out HN.out).mono ?_; rintro e w' ⟨rfl, rfl⟩; rw [HZ.out]))
      go_ret
      exact prog_no HP.out (Below.refl _ _)
    · obtain ⟨N, rfl, hN0, hN8⟩ := okN_cases hk
      have HI := Lib.hid (hasZ_in hz hN0)
      have H := Lib.hid hk
      have HZ := Lib.hid hz
      have HE : Hid (writeM base size m x N v = wrN m x v N) := Lib.hid (by unfold writeM; rw [hk, hz]; rfl)
      clear hk hz
      rw [HE.out, ← putF_leL]
      go_enter Try.func16, Try.ntmps16
      go_wp2_with (first
        | (go_at_call 30; refine (isLength_any _ _).mono ?_; rintro e w' ⟨rfl, rfl⟩; rw [H.out])
        | (go_at_call 26; refine (progHas_any _ _ HP.out HF.out HX.out HN.out).mono ?_; rintro e w' ⟨rfl, rfl⟩; rw [HZ.out]))
      refine (littleEnd_any v HV.out _).mono ?_
      rintro e w1 ⟨rfl, hb1⟩
      have hb2 : Below w.heap.size w (w1.alloc (.cells #[.int .u8 0, .int .u8 0, .int .u8 0, .int .u8 0, .int .u8 0, .int .u8 0, .int .u8 0, .int .u8 0] 69)) := hb1.alloc hb1.size _
      have hu : HoldsU (w1.alloc (.cells #[.int .u8 0, .int .u8 0, .int .u8 0, .int .u8 0, .int .u8 0, .int .u8 0, .int .u8 0, .int .u8 0] 69)) w1.heap.size 69 8 (fun _ => 0) := heap_alloc_new w1 _
      have hsl := fun w' => run_slice_upto (w := w') Try.underlying69 (Try.sizeOf5 w') w1.heap.size N hN8 (by omega)
      have HU := Lib.hid hu
      have HU2 := Lib.hid (hu.setRow (leB v))
      have HB2 := Lib.hid (below_setRow hb2 hb1.size (uarr 8 (leB v)))
      have HSZ := Lib.hid hb1.size
      clear hu hb2 hb1
      go_wp2_with (refine wpList_store_row rfl _ _ _ rfl w1.heap.size _ rfl rfl 69 _ HU.out ?_ (by rw [uarr_size, uarr_size]) (uarr_one _ _) ?_; · exact size8.trans (by rw [uarr_size]))
      generalize ((w1.alloc (.cells #[.int .u8 0, .int .u8 0, .int .u8 0, .int .u8 0, .int .u8 0, .int .u8 0, .int .u8 0, .int .u8 0] 69)).setRow w1.heap.size (uarr 8 (leB v))) = w2 at *
      have HG : Hid (¬ S w1.heap.size) := Lib.hid (fun hs => by obtain ⟨mb, pg, hp⟩ := HP.out.parts; have := hp.ok.lt _ hs; have := HSZ.out; omega)
      have hr : ReadsIn .u8 w1.heap.size w2 (.slice (some ⟨w1.heap.size, 0, none⟩) (leL v N).length 8) (leL v N) := by
        refine ⟨_, _, rfl, by rw [leL_len]; unfold maxLen; omega, .inr ⟨0, rfl, HU2.out.lt, fun i hi => ?_⟩⟩
        rw [leL_len] at hi
        rw [leL_get v hi, Nat.zero_add]
        exact HU2.out.cell (by omega)
      have hcall := store_some x (leL v N) (HP.out.keeps (Only.of_below (fun _ => False) HB2.out) (fun _ _ => id)) HF.out HI.out.1 (by rw [leL_len]; exact HI.out.2) hr (by rw [leL_len]; exact hN8) (leL_bytes v N) HG.out
      rw [leL_len] at hcall
      refine hcall.mono ?_
      rintro e w3 hE
      obtain ⟨u, rfl⟩ := hE.1
      have HEND := Lib.hid (prog_end HB2.out hE)
      clear hE hr hcall
      go_wp2
      go_ret
      exact HEND.out

set_option maxHeartbeats 1000000 in
theorem progPut_any {w : World} {b g : Nat} {S : Nat → Prop} {base size : Int} {m : Int → Int} (x : Int) (v : Value) (xs : List Int) (h : ProgMem w b S base size m) (hf : Fits base size) (hx : In64 x) (hv : ReadsIn .u8 g w v xs) (hb : Bytes255 xs) (hs : xs = [] ∨ ¬ S g) (hl : xs.length ≤ 10000) (hc : ∀ a n c, v = .slice a n c → n ≤ c) :
    Calls Try.prog 21 #[.pointer (some ⟨b, 0, none⟩), .int .u64 x, v] w (ProgEnd ProgMem w b S base size (putM base size m x xs) (hasZ base size x xs.length)) := by
  have HP := Lib.hid h
  have HF := Lib.hid hf
  have HX := Lib.hid hx
  have HB := Lib.hid hb
  have HV := Lib.hid hv
  have hin : Hid (In63 xs.length) := Lib.hid (by unfold In63; omega)
  obtain ⟨a, c, rfl, _, hr⟩ := hv
  have HC := Lib.hid (hc _ _ _ rfl)
  have HS := Lib.hid hs
  clear h hf hx hb hc hs
  cases hz : hasZ base size x xs.length
  · have HZ := Lib.hid hz
    have HE : Hid (putM base size m x xs = m) := Lib.hid (by unfold putM; rw [hz]; rfl)
    clear hz hr
    rw [HE.out]
    go_enter Try.func21, Try.ntmps21
    go_wp2_with (go_at_call 26; refine (progHas_any _ _ HP.out HF.out HX.out hin.out).mono ?_; rintro e w' ⟨rfl, rfl⟩; rw [HZ.out])
    go_ret
    exact prog_no HP.out (Below.refl _ _)
  · have HZ := Lib.hid hz
    have HE : Hid (putM base size m x xs = putF m x xs) := Lib.hid (by unfold putM; rw [hz]; rfl)
    rw [HE.out]
    by_cases h0 : xs = []
    · subst h0
      clear hz hr
      go_enter Try.func21, Try.ntmps21
      go_wp2_with (first
        | (go_at_call 26; refine (progHas_any _ _ HP.out HF.out HX.out hin.out).mono ?_; rintro e w' ⟨rfl, rfl⟩; rw [HZ.out])
        | (go_at_call 32; refine (store_none _ _ _).mono ?_; rintro e w' ⟨⟨u, rfl⟩, rfl⟩))
      go_ret
      exact ⟨rfl, Only.refl _ _, S, fun k hk => .inl hk, HP.out⟩
    · obtain ⟨off, rfl, hg, _⟩ := hr.resolve_left h0
      have HI := Lib.hid (hasZ_in hz (List.length_pos_iff.2 h0))
      have HG := Lib.hid (HS.out.resolve_left h0)
      clear hz hr h0
      go_enter Try.func21, Try.ntmps21
      go_wp2_with (go_at_call 26; refine (progHas_any _ _ HP.out HF.out HX.out hin.out).mono ?_; rintro e w' ⟨rfl, rfl⟩; rw [HZ.out])
      refine (store_some x xs HP.out HF.out HI.out.1 HI.out.2 HV.out HC.out HB.out HG.out).mono ?_
      rintro e w3 hE
      obtain ⟨u, rfl⟩ := hE.1
      have HEND := Lib.hid (prog_end (Below.refl _ _) hE)
      clear hE
      go_wp2
      go_ret
      exact HEND.out

theorem made_u8 (n : Nat) : madeCells (Value.int .u8 0).cells n = uarr n fun _ => 0 := by
  apply Array.ext
  · simp [madeCells, uarr_size]
  · intro i h1 h2
    have := uarr_get n (fun _ => 0) i (by simpa [uarr_size] using h2)
    rw [Array.getElem?_eq_getElem h2] at this
    injection this with this
    rw [this]
    simp [madeCells, Value.cells, Nat.mod_one]

set_option maxHeartbeats 1000000 in
theorem progBytes_any {w : World} {b : Nat} {S : Nat → Prop} {base size : Int} {m : Int → Int} (x n : Int) (h : ProgMem w b S base size m) (hf : Fits base size) (hx : In64 x) (hn : In63 n) :
    Calls Try.prog 23 #[.pointer (some ⟨b, 0, none⟩), .int .u64 x, .int .i64 n] w (BytesEnd w (bytesV base size m x n) (hasZ base size x n)) := by
  have HP := Lib.hid h
  have HF := Lib.hid hf
  have HX := Lib.hid hx
  have HN := Lib.hid hn
  cases hz : hasZ base size x n
  · have HZ := Lib.hid hz
    have HE : Hid (bytesV base size m x n = []) := Lib.hid (by unfold bytesV; rw [hz]; rfl)
    clear hz h hf hx hn
    rw [HE.out]
    go_enter Try.func23, Try.ntmps23
    go_wp2_with (go_at_call 26; refine (progHas_any _ _ HP.out HF.out HX.out HN.out).mono ?_; rintro e w' ⟨rfl, rfl⟩; rw [HZ.out])
    go_ret2
    exact ⟨Below.refl _ _, _, _, _, rfl, World.ownsRow_nil _ _ _ _⟩
  · obtain ⟨N, rfl⟩ : ∃ N : Nat, n = N := ⟨n.toNat, by unfold hasZ at hz; rw [decide_eq_true_eq] at hz; omega⟩
    have hNs : N ≤ 67108864 := by
      by_cases h0 : 0 < N
      · have := hasZ_in hz h0
        unfold Fits at hf
        unfold In64 at hx
        omega
      · omega
    have HI : Hid (0 < N → base ≤ x ∧ x + N ≤ base + size) := Lib.hid (hasZ_in hz)
    have HZ := Lib.hid hz
    have HE : Hid (bytesV base size m x N = bytesL m x N) := Lib.hid (by unfold bytesV; rw [hz]; rfl)
    obtain ⟨i0, hi, hz0, hz1, hz2⟩ := info_parts info_u8
    have hmk : (Instr.makeSlice 38 (.int .i64 (N : Int)) (.int .i64 (N : Int))).run Try.prog w = .ok (.slice (some ⟨w.heap.size, 0, none⟩) N N) (w.alloc (.cells (uarr N fun _ => 0) 5)) := by
      have := run_make (P := Try.prog) w 38 5 i0 _ Try.underlying38 hi hz0 .i64 .i64 N N (by omega) (by omega) (by rw [hz2]; omega) (by omega)
      rw [hz1, made_u8] at this
      simpa using this
    have hb1 : Below w.heap.size w (w.alloc (.cells (uarr N fun _ => 0) 5)) := (Below.refl _ _).alloc (Nat.le_refl _) _
    have hu : HoldsU (w.alloc (.cells (uarr N fun _ => 0) 5)) w.heap.size 5 N (fun _ => 0) := heap_alloc_new w _
    have HU := Lib.hid hu
    have HB1 := Lib.hid hb1
    have HP1 := Lib.hid (HP.out.keeps (Only.of_below (fun _ => False) hb1) (fun _ _ => id))
    have HG : Hid (¬ S w.heap.size) := Lib.hid (fun hs => by obtain ⟨mb, pg, hp⟩ := HP.out.parts; have := hp.ok.lt _ hs; omega)
    clear hz h hf hx hn hu hb1 hi hz0 hz1 hz2
    rw [HE.out]
    go_enter Try.func23, Try.ntmps23
    go_wp2_with (go_at_call 26; refine (progHas_any _ _ HP.out HF.out HX.out HN.out).mono ?_; rintro e w' ⟨rfl, rfl⟩; rw [HZ.out])
    refine (load_some (off := 0) (L0 := N) (c := N) (n := N) (t := 5) (f := fun _ => 0) x HP1.out HF.out (fun h => (HI.out h).1) (fun h => (HI.out h).2) HX.out HU.out (fun _ => rfl) (by omega) (by omega) (by omega) (fun _ _ _ => rfl) HG.out).mono ?_
    rintro e w2 ⟨⟨u, rfl⟩, ho, hr⟩
    have HO := Lib.hid (HB1.out.trans (ho.below (B := w.heap.size) (by rintro k rfl; exact Nat.le_refl _) HB1.out.size))
    have HR := Lib.hid hr
    clear ho hr hmk
    go_wp2
    go_ret2
    refine ⟨HO.out, _, _, _, rfl, by simp [bytesL_len], .inr ⟨w.heap.size, N, _, by rw [bytesL_len], Nat.le_refl _, HR.out, by rw [bytesL_len]; exact Nat.le_refl _, by unfold maxLen; omega, by rw [uarr_size]; omega, ?_⟩⟩
    rw [bytesL_len]
    have e1 : (uarr N (readU (fun _ => 0) 0 m x N)).toList = (bytesL m x N).map (Value.int .u8) := by
      unfold uarr varr bytesL
      show (List.range N).map _ = _
      rw [List.map_map]
      refine List.map_congr_left fun i hi => ?_
      have := List.mem_range.1 hi
      show Value.int .u8 (readU (fun _ => 0) 0 m x N i) = Value.int .u8 (m (x + i))
      unfold readU
      rw [if_pos ⟨by omega, by omega⟩, Nat.sub_zero]
    rw [e1, Nat.mul_one, List.take_of_length_le (by simp [bytesL_len])]

end Go.Proofs.Ytoghdkhlliehoaa

/- The program's memory of layer 3: New. -/
namespace Go.Proofs.Ytoghdkhlliehoaa
open Go.RowKit Go.Maps
set_option linter.unusedVariables false
set_option maxRecDepth 100000

theorem newProg_mem {w : World} {base size : Int} (h1 : base % 4096 = 0) (h2 : size % 4096 = 0) :
    ProgMem ((w.alloc (.map #[] 0)).alloc (.cells #[.int .u64 base, .int .u64 size, .map (some w.heap.size)] 53)) (w.heap.size + 1) (fun i => i = w.heap.size ∨ i = w.heap.size + 1) base size fun _ => 0 := by
  have hb : Below (w.alloc (.map #[] 0)).heap.size (w.alloc (.map #[] 0)) ((w.alloc (.map #[] 0)).alloc (.cells #[.int .u64 base, .int .u64 size, .map (some w.heap.size)] 53)) := (Below.refl _ _).alloc (Nat.le_refl _) _
  have hs : (w.alloc (.map #[] 0)).heap.size = w.heap.size + 1 := World.size_alloc _ _
  refine ⟨w.heap.size, fun _ => none, ?_, ⟨(PgMap.made Try.prog 22 w).keeps (Only.of_below (fun _ => False) hb) id, (by simp), (by simp), (by simp), .inr rfl, .inl rfl, (by omega), fun i hi => ?_⟩, fun y => ⟨Int.le_refl _, by show (0 : Int) ≤ 255; omega⟩, fun y hy => absurd rfl hy, h1, h2⟩
  · have := heap_alloc_new (w.alloc (.map #[] 0)) (.cells #[.int .u64 base, .int .u64 size, .map (some w.heap.size)] 53)
    rwa [hs] at this
  · rw [World.size_alloc, hs]; rcases hi with rfl | rfl <;> omega

set_option maxHeartbeats 1000000 in
theorem progNew_any (base size : Int) (w : World) (hb : In64 base) (hs : In64 size) :
    Calls Try.prog 6 #[.int .u64 base, .int .u64 size] w (ProgNew ProgMem w base size (newOk base size)) := by
  have hmm := @run_makeMap Try.prog
  have HB := Lib.hid hb
  have HS := Lib.hid hs
  have s0 := hs.1
  have b0 := hb.1
  have s1 := hs.2
  have b1 := hb.2
  clear hb hs
  have NO : ∀ (ww : World), newOk base size = false → Below w.heap.size w ww → ProgNew ProgMem w base size (newOk base size) (.returned (.tuple #[.pointer none, .int .i64 1])) ww := fun ww h hb => ⟨hb, .inl ⟨h, rfl⟩⟩
  have HNO := Lib.hid NO
  clear NO
  cases e1 : (base % 4096 == 0)
  · have HK : Hid (newOk base size = false) := Lib.hid (by unfold newOk; rw [decide_eq_false]; simp at e1; omega)
    have E1 := Lib.hid e1
    clear e1
    go_enter Try.func6, Try.ntmps6
    go_wp2_with (go_at_call 18; refine (isWhole_any base HB.out _).mono ?_; rintro e w' ⟨rfl, rfl⟩; rw [E1.out])
    go_ret2
    exact HNO.out _ HK.out (Below.refl _ _)
  cases e2 : (size % 4096 == 0)
  · have HK : Hid (newOk base size = false) := Lib.hid (by unfold newOk; rw [decide_eq_false]; simp at e2; omega)
    have E1 := Lib.hid e1
    have E2 := Lib.hid e2
    clear e1 e2
    go_enter Try.func6, Try.ntmps6
    go_wp2_with fail
    refine (isWhole_any base HB.out _).mono ?_
    rintro e w' ⟨rfl, rfl⟩
    rw [E1.out]
    go_wp2_with fail
    refine (isWhole_any size HS.out _).mono ?_
    rintro e w' ⟨rfl, rfl⟩
    rw [E2.out]
    go_wp2
    go_ret2
    exact HNO.out _ HK.out (Below.refl _ _)
  have E1 := Lib.hid e1
  have E2 := Lib.hid e2
  have F1 : base % 4096 = 0 := by simpa using e1
  have F2 : size % 4096 = 0 := by simpa using e2
  clear e1 e2
  by_cases c3 : size = 0
  · have HK : Hid (newOk base size = false) := Lib.hid (by unfold newOk; rw [decide_eq_false]; omega)
    subst c3
    clear F1 F2
    go_enter Try.func6, Try.ntmps6
    go_wp2_with fail
    refine (isWhole_any base HB.out _).mono ?_
    rintro e w' ⟨rfl, rfl⟩
    rw [E1.out]
    go_wp2_with fail
    refine (isWhole_any 0 HS.out _).mono ?_
    rintro e w' ⟨rfl, rfl⟩
    rw [E2.out]
    go_wp2
    go_ret2
    exact HNO.out _ HK.out (Below.refl _ _)
  have c3b : (size == 0) = false := by simpa using c3
  have F1 := Lib.hid F1
  have F2 := Lib.hid F2
  have F3 := Lib.hid c3
  clear c3
  by_cases c4 : size ≤ 67108864
  · have d1 : 0 ≤ 9223372036854775808 - size := by omega
    have d2 : 9223372036854775808 - size ≤ 18446744073709551615 := by omega
    by_cases c5 : base ≤ 9223372036854775808 - size
    · have HK : Hid (newOk base size = true) := Lib.hid (by unfold newOk; rw [decide_eq_true_eq]; have := F1.out; have := F2.out; have := F3.out; omega)
      have HEND := Lib.hid (newProg_mem (w := w) F1.out F2.out)
      clear F1 F2 F3
      go_enter Try.func6, Try.ntmps6
      go_wp2_with fail
      refine (isWhole_any base HB.out _).mono ?_
      rintro e w' ⟨rfl, rfl⟩
      rw [E1.out]
      go_wp2_with fail
      refine (isWhole_any size HS.out _).mono ?_
      rintro e w' ⟨rfl, rfl⟩
      rw [E2.out]
      go_wp2
      go_ret2
      exact ⟨((Below.refl _ _).alloc (Nat.le_refl _) _).alloc (by simp) _, .inr ⟨HK.out, w.heap.size + 1, _, rfl, by rintro i (rfl | rfl) <;> omega, HEND.out⟩⟩
    · have HK : Hid (newOk base size = false) := Lib.hid (by unfold newOk; rw [decide_eq_false]; omega)
      clear F1 F2 F3
      go_enter Try.func6, Try.ntmps6
      go_wp2_with fail
      refine (isWhole_any base HB.out _).mono ?_
      rintro e w' ⟨rfl, rfl⟩
      rw [E1.out]
      go_wp2_with fail
      refine (isWhole_any size HS.out _).mono ?_
      rintro e w' ⟨rfl, rfl⟩
      rw [E2.out]
      go_wp2
      go_ret2
      exact HNO.out _ HK.out (Below.refl _ _)
  · have HK : Hid (newOk base size = false) := Lib.hid (by unfold newOk; rw [decide_eq_false]; omega)
    clear F1 F2 F3
    go_enter Try.func6, Try.ntmps6
    go_wp2_with fail
    refine (isWhole_any base HB.out _).mono ?_
    rintro e w' ⟨rfl, rfl⟩
    rw [E1.out]
    go_wp2_with fail
    refine (isWhole_any size HS.out _).mono ?_
    rintro e w' ⟨rfl, rfl⟩
    rw [E2.out]
    go_wp2
    go_ret2
    exact HNO.out _ HK.out (Below.refl _ _)

end Go.Proofs.Ytoghdkhlliehoaa

namespace Go.Proofs.Ytoghdkhlliehoaa
open Go.RowKit Go.Maps
set_option linter.unusedVariables false
set_option maxRecDepth 100000

/-- m without the pages that are still to come. -/
def maskM (left : Lit → Bool) (m : Int → Int) (y : Int) : Int := if left (.int .u64 (y / 4096)) = true then 0 else m y

/-- What Twin leaves. -/
def ProgTwin (w : World) (base size : Int) (m : Int → Int) (e : Ending) (w' : World) : Prop :=
  Below w.heap.size w w' ∧ ∃ b' S', e = .returned (.pointer (some ⟨b', 0, none⟩)) ∧ (∀ i, S' i → w.heap.size ≤ i) ∧ ProgMem w' b' S' base size m

theorem PgOk.keeps {w w' : World} {b mb : Nat} {S T : Nat → Prop} {m : Int → Int} {pg : Int → Option Nat} (h : PgOk w b mb S m pg) (o : Only T w w') (hs : ∀ i, S i → ¬ T i) : PgOk w' b mb S m pg :=
  ⟨h.map.keeps o (hs _ h.smb), fun q g e => by
    obtain ⟨k1, k2, k3⟩ := h.page q g e
    exact ⟨o.keeps (hs _ k2) k1, k2, k3⟩, h.gone, h.inj, h.sb, h.smb, h.ne, fun i hi => Nat.lt_of_lt_of_le (h.lt i hi) o.size⟩

theorem sameKey_u64 (a b : Int) : (Lit.int .u64 a).sameKey (.int .u64 b) = (a == b) := by rw [Bool.eq_iff_iff]; simp [Lit.sameKey]
theorem maskM_page (left : Lit → Bool) (m : Int → Int) (x : Int) (k : Nat) (hk : k < 4096) : maskM (fun z => left z && !z.sameKey (.int .u64 x)) m (x * 4096 + k) = m (x * 4096 + k) := by
  unfold maskM
  rw [show (x * 4096 + (k : Int)) / 4096 = x by omega]
  simp [sameKey_u64]

/-- Between two rounds. -/
def Twinning (w wr : World) (mb r n : Nat) (D : DataW Unit) (bt mt : Nat) (base size : Int) (m : Int → Int) (left : Lit → Bool) (cnt : Nat) : Prop :=
  wr.ranges Try.prog 22 ptrElem mb r n D left cnt ∧ Below w.heap.size w wr ∧ wr.heap[bt]? = some (.cells #[.int .u64 base, .int .u64 size, .map (some mt)] 53 (0, 0)) ∧
  ∃ S' pt, PgOk wr bt mt S' (maskM left m) pt ∧ (∀ k, S' k → w.heap.size ≤ k) ∧ ¬ S' r

/-- What is read of an entry that has come. -/
theorem entry_is {D : DataW Unit} {pg : Int → Option Nat} (h2 : ∀ q, D.atKey (.int .u64 q) (encP none) = encP (pg q)) (h3 : ∀ kl, Maps.has D kl = true → ∃ q, In64 q ∧ kl = .int .u64 q ∧ pg q ≠ none)
    {x : Int} {c : Option Nat} {kl : Lit} {y : DataW Unit × List MemPlace} (hkey : keyOf Try.prog 22 (.int .u64 x) = some kl) (hv : ptrElem (ptrTo c) = some y) (hat : ∀ zd, D.atKey kl zd = y.1) :
    In64 x ∧ kl = .int .u64 x ∧ ∃ g, c = some g ∧ pg x = some g := by
  obtain ⟨x', e1, rfl, hw⟩ := Maps.keyOf_int_inv Try.underlying22 hkey
  injection e1 with _ e1
  subst e1
  rw [ptrElem_to] at hv
  cases hv
  have e2 : pg x = c := encP_inj ((h2 x).symm.trans (hat _))
  obtain ⟨q, _, e3, e4⟩ := h3 _ (Maps.has_true_of_atKey hat)
  injection e3 with _ e3
  subst e3
  refine ⟨wf_u64_in hw, rfl, ?_⟩
  cases c with
  | none => exact absurd e2 e4
  | some g => exact ⟨g, rfl, e2⟩

theorem mask_start {w : World} {b mb : Nat} {S : Nat → Prop} {base size : Int} {m : Int → Int} {pg : Int → Option Nat} (hp : Parts w b mb S base size m pg) {D : DataW Unit} (h2 : ∀ q, D.atKey (.int .u64 q) (encP none) = encP (pg q)) (y : Int) : (0 : Int) = maskM (Maps.has D) m y := by
  unfold maskM
  cases e : Maps.has D (.int .u64 (y / 4096)) with
  | true => rw [if_pos rfl]
  | false =>
    have := Maps.atKey_of_not_has (H := Unit) (D := D) e (encP none)
    rw [h2] at this
    have h0 := hp.ok.gone _ (encP_inj this) (y % 4096).toNat (by omega)
    rw [show y / 4096 * 4096 + ((y % 4096).toNat : Int) = y by omega] at h0
    rw [h0]; rfl

/-- A page has been copied. -/
theorem Twinning.next {w w1 w4 : World} {b mb r n bt mt : Nat} {S : Nat → Prop} {base size : Int} {m : Int → Int} {pg : Int → Option Nat} {D : DataW Unit} {left : Lit → Bool} {cnt1 g0 : Nat} {x : Int} {S' : Nat → Prop} {pt : Int → Option Nat}
    (hp : Parts w1 b mb S base size m pg) (hok : PgOk w1 bt mt S' (maskM left m) pt) (hS : ∀ k, S' k → w.heap.size ≤ k) (hr : ¬ S' r) (hb1 : Below w.heap.size w w1) (hlk : left (.int .u64 x) = true) (e : pg x = some g0)
    (o4 : Only (fun k => k = mt) w1 w4) (hmap : PgMap Try.prog 22 w4 mt fun y => if y = x then some w1.heap.size else pt y) (hpage : PageAt w4 w1.heap.size m x)
    (hbt : w1.heap[bt]? = some (.cells #[.int .u64 base, .int .u64 size, .map (some mt)] 53 (0, 0))) (hrl : r < w1.heap.size) (hmb : mb < w.heap.size)
    (hrg : w1.ranges Try.prog 22 ptrElem mb r n D (fun z => left z && !z.sameKey (.int .u64 x)) cnt1) :
    Twinning w w4 mb r n D bt mt base size m (fun z => left z && !z.sameKey (.int .u64 x)) cnt1 := by
  have hmt : mt ≠ mb := by have := hS _ hok.smb; omega
  have hmr : mt ≠ r := fun h => hr (h ▸ hok.smb)
  have hg4 : w1.grownBy w4 (some mt) := ⟨o4.os, o4.tape, o4.output, o4.size, fun i hi hn => o4.block i hi (fun h => hn (by rw [h]))⟩
  refine ⟨hrg.kept hg4 (by simpa using hmt.symm) (by simpa using hmr.symm), hb1.trans (o4.below (by rintro k rfl; exact hS _ hok.smb) hb1.size), o4.keeps (fun h => hok.ne h.symm) hbt, _, _, PgOk.laid hok ?_ o4 (Nat.le_refl _) hmap (PageAt.congr hpage fun k hk => ?_) ?_ (fun y hy => ?_), ?_, ?_⟩
  · cases e2 : pt x with
    | none => rfl
    | some g =>
      obtain ⟨_, _, _, _, k, hk, hne⟩ := hok.page x g e2
      refine absurd ?_ hne
      unfold maskM
      rw [show (x * 4096 + (k : Int)) / 4096 = x by omega, if_pos hlk]
  · exact (maskM_page left m x k hk).symm
  · obtain ⟨_, _, _, _, k, hk, hne⟩ := hp.ok.page x g0 e
    exact ⟨k, hk, by rw [maskM_page left m x k hk]; exact hne⟩
  · unfold maskM
    have : (y / 4096 == x) = false := by rw [beq_eq_false_iff_ne]; omega
    simp only [sameKey_u64, this, Bool.not_false, Bool.and_true]
  · rintro k (hk | rfl)
    · exact hS k hk
    · exact hb1.size
  · rintro (hk | hk)
    · exact hr hk
    · omega

theorem PgMap.len {P : Program} {t k e : TypeId} {w : World} {mb : Nat} {pg : Int → Option Nat} (h : PgMap P k w mb pg) (T : PgT P t k e) : ∃ sz : Nat, ∀ (w' : World) ty, w'.heap[mb]? = w.heap[mb]? → (Builtin.len_ #[t] ty #[.map (some mb)]).run P w' = .ok (.int .i64 sz) w' := by
  obtain ⟨n, D, ⟨es, clock, hb, r⟩, _⟩ := h
  exact ⟨_, fun w' ty e => World.ownsMap.len (w := w') ⟨es, clock, by rw [e]; exact hb, r⟩ T.ht ty⟩

theorem step_len {P : Program} {ops : Array Oper} {o : Oper} {a : Act} {w : World} {K : Act → World → Prop} {Q : Exit → Act → World → Prop} {E : Prop} (hgd : o.guard = none) (m : Operand) (t : TypeId)
    (hop : o.op = .call { callee := .builtin .len, args := #[m], argTypes := #[t] }) (v : Value) (hm : a.eval m = v) (x : Value) (hr : (Builtin.len_ #[t] o.type #[v]).run P w = .ok x w) (h : K (a.put o.dst x) w) :
    if Region.wanted o (yielded ops a.tmps) = true then Oper.wp P o a w K Q else E := by
  have hw : Region.wanted o (yielded ops a.tmps) = true := by simp [Region.wanted, hgd]
  rw [if_pos hw]
  unfold Oper.wp
  simp [execOp, hop, resolve, invoke, builtin, hm, hr, Result.andThen]
  exact h

set_option maxRecDepth 100000 in
set_option maxHeartbeats 4000000 in
theorem progTwin_any {w : World} {b : Nat} {S : Nat → Prop} {base size : Int} {m : Int → Int} (h : ProgMem w b S base size m) (hf : Fits base size) :
    Calls Try.prog 11 #[.pointer (some ⟨b, 0, none⟩)] w (ProgTwin w base size m) := by
  obtain ⟨mb, pg, hp⟩ := h.parts
  obtain ⟨c0, c1, c2⟩ := ram_cells hp.row
  obtain ⟨sz, hlen⟩ := hp.ok.map.len pgT
  have hmk : ∀ w, (Instr.makeMap 51 (some (.int .i64 sz))).run Try.prog w = .ok (.map (some w.heap.size)) (w.alloc (.map #[] 0)) := fun w => by
    simp [Instr.makeMap, run_underlying Try.underlying51, asInt, asIntOf, newObj, Result.andThen]
    rfl
  have HL := Lib.hid hlen
  have hmbl : mb < w.heap.size := hp.ok.lt mb hp.ok.smb
  have hL0 : (Builtin.len_ #[51] 3 #[.map (some mb)]).run Try.prog w.drew = .ok (.int .i64 sz) w.drew := hlen _ _ rfl
  have hL1 : ∀ o, (Builtin.len_ #[51] 3 #[.map (some mb)]).run Try.prog (w.alloc o).drew = .ok (.int .i64 sz) (w.alloc o).drew := fun o => hlen _ _ (Below.heap_alloc w o mb hmbl)
  have hL2 : ∀ o o', (Builtin.len_ #[51] 3 #[.map (some mb)]).run Try.prog ((w.alloc o).alloc o').drew = .ok (.int .i64 sz) ((w.alloc o).alloc o').drew := fun o o' => hlen _ _ ((Below.heap_alloc _ o' mb (by simp; omega)).trans (Below.heap_alloc w o mb hmbl))
  clear hmbl
  have HP := Lib.hid hp
  have HF := Lib.hid hf
  clear h hp hf hlen
  go_enter Try.func11, Try.ntmps11
  go_wp2_with fail
  go_region_held3 (fun w' => w'.cell? ⟨b, 0, none⟩ = some (.int .u64 base) ∧ w'.cell? ⟨b, 1, none⟩ = some (.int .u64 size) ∧ w'.cell? ⟨b, 2, none⟩ = some (.map (some mb)) ∧ (Builtin.len_ #[51] 3 #[.map (some mb)]).run Try.prog w' = .ok (.int .i64 sz) w')
    (go_keep)
    (fail)
  rename (_ ∧ _ ∧ _ ∧ _) => hheld
  clear hheld hL0 hL1 hL2 HL hmk c0 c1 c2
  have hb3 : Below w.heap.size w (((w.alloc (.map #[] 0)).alloc (.cells #[.int .u64 base, .int .u64 size, .map (some w.heap.size)] 53)).drew) := (((Below.refl _ _).alloc (Nat.le_refl _) _).alloc (by simp) _).drew
  obtain ⟨mb', pt0, hrow3, hok3, hrest3⟩ : ProgMem (((w.alloc (.map #[] 0)).alloc (.cells #[.int .u64 base, .int .u64 size, .map (some w.heap.size)] 53)).drew) (w.heap.size + 1) (fun i => i = w.heap.size ∨ i = w.heap.size + 1) base size (fun _ => 0) := (newProg_mem (w := w) HP.out.al1 HP.out.al2).keeps (Only.refl (fun _ => False) _ |>.drewN 1) (fun _ _ => id)
  generalize (((w.alloc (.map #[] 0)).alloc (.cells #[.int .u64 base, .int .u64 size, .map (some w.heap.size)] 53)).drew) = w3 at *
  have hp3 := HP.out.below hb3
  obtain ⟨c0, c1, c2⟩ := ram_cells hp3.row
  obtain ⟨n, D, hown, h2, h3⟩ := hp3.ok.map
  have HB3 := Lib.hid hb3
  have HROW := Lib.hid hrow3
  have HOK := Lib.hid hok3
  have HP3 := Lib.hid hp3
  have H2 := Lib.hid h2
  have H3 := Lib.hid h3
  clear hb3 hrow3 hok3 hp3 h2 h3 hrest3
  go_wp2_with (at_range; refine wpList_range_own _ rfl _ 51 rfl 22 59 (int_keyed Try.underlying22) Try.underlying51 ptrElem mb n D rfl hown ?_; intro w0 hrg0 hg0 hs0)
  try go_frame
  have hstart : Twinning w w0 mb w3.heap.size n D (w.heap.size + 1) mb' base size m (Maps.has D) (Maps.size D) := by
    have hsz := HB3.out.size
    have ob : Only (fun _ => False) w3 w0 := ⟨hg0.os, hg0.tape, hg0.output, hg0.size, fun i hi _ => hg0.block i hi (by simp)⟩
    refine ⟨hrg0, HB3.out.trans (ob.below (fun _ h => h.elim) hsz), ob.keeps id HROW.out, _, pt0, (PgOk.keeps HOK.out ob (fun _ _ => id)).congr fun y => mask_start HP3.out H2.out y, ?_, ?_⟩
    · rintro k (rfl | rfl) <;> omega
    · intro hk
      have := HOK.out.lt _ hk
      omega
  have HST := Lib.hid hstart
  clear hstart hrg0 hg0 hs0
  go_loopw [4] (fun _ wr => ∃ left cnt, Twinning w wr mb w3.heap.size n D (w.heap.size + 1) mb' base size m left cnt) (fun _ wr => wr.rangeLeft mb w3.heap.size)
  case atStart => exact ⟨_, _, HST.out⟩
  case round =>
    obtain ⟨left, cnt, hrg, hbel, hbt, S', pt, hok, hS', hr'⟩ := hrel
    have HBT := Lib.hid hbt
    have HBEL := Lib.hid hbel
    have HOK1 := Lib.hid hok
    have HS1 := Lib.hid hS'
    have HR1 := Lib.hid hr'
    clear hbt hbel hok hS' hr'
    go_wp2_with (at_next; refine wpList_next_ranges _ rfl _ rfl 22 (int_keyed Try.underlying22) ptrElem (Value.int .u64) ptrTo (fun key kl hk => (by obtain ⟨x, hx, _⟩ := Maps.keyOf_int_inv Try.underlying22 hk; exact ⟨x, hx⟩)) (fun v y hv => (by obtain ⟨o, ho, _⟩ := ptrElem_inv hv; exact ⟨o, ho⟩)) mb w3.heap.size n D left cnt rfl hrg ?_ ?_)
    · intro h0 hl0
      have hm : maskM left m = m := by funext y; unfold maskM; rw [hl0]; rfl
      have HEND : Hid (ProgTwin w base size m (.returned (.pointer (some ⟨w.heap.size + 1, 0, none⟩))) wr) := by
        have hok := HOK1.out
        rw [hm] at hok
        exact Lib.hid ⟨HBEL.out, _, S', rfl, HS1.out, mb', pt, HBT.out, hok, HP.out.bytey, HP.out.sup, HP.out.al1, HP.out.al2⟩
      clear h0 hl0 hm hrg
      go_wp2
      go_ret
      exact HEND.out
    · intro x c kl yd yp w1 cnt1 hkey hlk hv hat hrg1 hlt hg1 hs1 hen
      obtain ⟨hx64, rfl, g0, rfl, epg⟩ := entry_is H2.out H3.out hkey hv hat
      simp only [ptrTo] at hen ⊢
      have ob1 : Only (fun k => k = w3.heap.size) wr w1 := ⟨hg1.os, hg1.tape, hg1.output, hg1.size, fun i hi hn => hg1.block i hi (fun h => hn (by injection h))⟩
      have hsz3 := HB3.out.size
      have hb1 : Below w.heap.size w w1 := HBEL.out.trans (ob1.below (by rintro k rfl; exact hsz3) HBEL.out.size)
      have hp1 := HP.out.below hb1
      have hpage : HoldsU w1 g0 61 4096 (fun k => m (x * 4096 + k)) := (hp1.ok.page x g0 epg).1
      have hok1 := HOK1.out.keeps ob1 (fun i hi h => HR1.out (h ▸ hi))
      have hbt1 := ob1.keeps (fun h => HR1.out (h ▸ HOK1.out.sb)) HBT.out
      have hnewb : HoldsU (w1.alloc (.cells Try.zeroCells61 61)) w1.heap.size 61 4096 (fun _ => 0) := by
        show _ = _
        rw [heap_alloc_new, zero4096]
      have hb2 : Below w1.heap.size w1 (w1.alloc (.cells Try.zeroCells61 61)) := (Below.refl _ _).alloc (Nat.le_refl _) _
      have hrow2 := hnewb.setRow (fun k => m (x * 4096 + k))
      have hb2' : Below w1.heap.size w1 ((w1.alloc (.cells Try.zeroCells61 61)).setRow w1.heap.size (uarr 4096 fun k => m (x * 4096 + k))) := below_setRow hb2 (Nat.le_refl _) _
      have ho2 := Only.of_below (fun _ => False) hb2'
      have hbt2 := ho2.keeps id hbt1
      obtain ⟨e0, e1, e2⟩ := ram_cells hbt2
      have hok2 := hok1.keeps ho2 (fun _ _ => id)
      have hNp : ∀ q, pt q ≠ none → base / 4096 ≤ q ∧ q < base / 4096 + (16384 : Nat) := pages_in hok1 HF.out (fun y hy => HP.out.sup y (fun h0 => hy (by unfold maskM; split <;> first | rfl | exact h0))) HP.out.al1 HP.out.al2
      obtain ⟨w4, hput, hmap4, hturn⟩ := hok2.map.put pgT hNp (by unfold maxLen; omega) hx64 w1.heap.size
      have HNB := Lib.hid hnewb
      have HPG := Lib.hid hpage
      have HNX : Hid (Twinning w w4 mb w3.heap.size n D (w.heap.size + 1) mb' base size m (fun z => left z && !z.sameKey (.int .u64 x)) cnt1) := by
        have o4 := mapTurned_only (S := fun k => k = mb') hturn rfl
        have hlt1 : w1.heap.size ≠ mb' := by have := hok1.lt _ hok1.smb; omega
        refine Lib.hid (Twinning.next hp1 hok1 HS1.out HR1.out hb1 hlk epg ((Only.of_below (fun k => k = mb') hb2').trans o4) hmap4 ?_ hbt1 ?_ ?_ hrg1)
        · exact HoldsU.keeps hrow2 o4 hlt1
        · have := hrg.lt; have := hg1.size; omega
        · exact HP.out.ok.lt _ HP.out.ok.smb
      have HLT := Lib.hid hlt
      have HLE := Lib.hid hrg.left_eq
      clear hkey hlk hv hat hrg1 hlt hg1 hs1 ob1 hsz3 hb1 hp1 hpage hok1 hbt1 hnewb hb2 hrow2 hb2' ho2 hbt2 hok2 hNp hmap4 hturn hrg epg
      go_wp2_with (first
        | (refine wpList_load_u rfl _ _ rfl g0 rfl 61 4096 (fun k => m (x * 4096 + k)) 5 HPG.out Try.underlying61 size4096 ?_)
        | (refine wpList_store_row rfl _ _ _ rfl w1.heap.size _ rfl rfl 61 _ HNB.out ?_ (by rw [uarr_size, uarr_size]) (uarr_one _ _) ?_; · exact size4096.trans (by rw [uarr_size])))
      refine ⟨⟨_, _, HNX.out⟩, ?_⟩
      rw [HNX.out.1.left_eq, HLE.out]
      exact HLT.out

end Go.Proofs.Ytoghdkhlliehoaa
