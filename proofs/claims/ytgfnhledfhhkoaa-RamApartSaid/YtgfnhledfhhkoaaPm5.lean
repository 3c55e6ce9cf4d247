/- The program's memory of layer 3: storeIn. -/
import Derived.Test.YtgfnhledfhhkoaaPm4
import Derived.Outline
namespace Go.Proofs.Ytgfnhledfhhkoaa
open Go.RowKit Go.Maps
set_option linter.unusedVariables false

/-- The memory's parts, as they stand in a world. -/
structure Parts (w : World) (b mb : Nat) (S : Nat → Prop) (base size : Int) (m : Int → Int) (pg : Int → Option Nat) : Prop where
  row : w.heap[b]? = some (.cells #[.int .u64 base, .int .u64 size, .map (some mb)] 64 (0, 0))
  ok : PgOk w b mb S m pg
  bytey : Bytey m
  sup : ∀ y, ¬ m y = 0 → base ≤ y ∧ y < base + size
  al1 : base % 4096 = 0
  al2 : size % 4096 = 0
theorem Parts.mem {w : World} {b mb : Nat} {S : Nat → Prop} {base size : Int} {m : Int → Int} {pg : Int → Option Nat} (h : Parts w b mb S base size m pg) : ProgMem w b S base size m := ⟨mb, pg, h.row, h.ok, h.bytey, h.sup, h.al1, h.al2⟩
theorem ProgMem.parts {w : World} {b : Nat} {S : Nat → Prop} {base size : Int} {m : Int → Int} (h : ProgMem w b S base size m) : ∃ mb pg, Parts w b mb S base size m pg := by
  obtain ⟨mb, pg, h1, h2, h3, h4, h5, h6⟩ := h; exact ⟨mb, pg, h1, h2, h3, h4, h5, h6⟩
theorem Parts.keeps {w w' : World} {b mb : Nat} {S T : Nat → Prop} {base size : Int} {m : Int → Int} {pg : Int → Option Nat} (h : Parts w b mb S base size m pg) (o : Only T w w') (hs : ∀ i, S i → ¬ T i) : Parts w' b mb S base size m pg :=
  ⟨o.keeps (hs _ h.ok.sb) h.row, ⟨h.ok.map.keeps o (hs _ h.ok.smb), fun q g e => by
    obtain ⟨k1, k2, k3⟩ := h.ok.page q g e
    exact ⟨o.keeps (hs _ k2) k1, k2, k3⟩, h.ok.gone, h.ok.inj, h.ok.sb, h.ok.smb, h.ok.ne, fun i hi => Nat.lt_of_lt_of_le (h.ok.lt i hi) o.size⟩, h.bytey, h.sup, h.al1, h.al2⟩
theorem Parts.below {w w' : World} {b mb : Nat} {S : Nat → Prop} {base size : Int} {m : Int → Int} {pg : Int → Option Nat} (h : Parts w b mb S base size m pg) (o : Below w.heap.size w w') : Parts w' b mb S base size m pg :=
  h.keeps (Only.of_below (fun _ => False) o) (fun _ _ => id)

section
variable {w : World} {b mb gs off c : Nat} {S : Nat → Prop} {base size : Int} {m : Int → Int} {pg : Int → Option Nat} (i : Int) (at_ : Nat) (xs : List Int)

set_option maxHeartbeats 1000000 in
theorem storeIn_a (h : Parts w b mb S base size m pg) (hi : In64 i) (hv : ReadsIn .u8 gs w (.slice (some ⟨gs, off, none⟩) xs.length c) xs) (hx : InPage base size i at_ xs) (e : pg i = none) (hn : noughts xs = true) :
    Calls Try.prog 46 #[.pointer (some ⟨b, 0, none⟩), .int .u64 i, .int .i64 at_, .slice (some ⟨gs, off, none⟩) xs.length c] w (StoreEnd w b S base size (putF m (i * 4096 + at_) xs)) := by
  have HP := Lib.hid h
  have HV := Lib.hid hv
  have HX := Lib.hid hx
  have HN := Lib.hid hn
  have HE := Lib.hid e
  clear h hv hx hn e
  go_enter Try.func46, Try.ntmps46
  go_wp2_with fail
  refine (isNought_any gs _ xs _ HV.out HX.out.bytes HX.out.ne).mono ?_
  rintro ee w1 ⟨rfl, hb1⟩
  rw [HN.out]
  have hp := HP.out.below hb1
  obtain ⟨c0, c1, c2⟩ := ram_cells hp.row
  have hl := hp.ok.map.look pgT hi
  rw [HE.out] at hl
  simp only [ptrTo] at hl
  have HB := Lib.hid hb1
  have HQ := Lib.hid hp
  clear hb1 hp
  go_wp2
  go_end0
  refine ⟨⟨_, rfl⟩, Only.of_below _ HB.out, S, fun k hk => .inl hk, HQ.out.row |> fun r => ?_⟩
  have hm : ∀ y, putF m (i * 4096 + at_) xs y = m y := fun y => by
    rw [putF_eq]
    split
    · have h0 := noughts_iff.1 HN.out (y - (i * 4096 + at_)).toNat (by omega)
      have h1 := HQ.out.ok.gone i HE.out (y - i * 4096).toNat (by have := HX.out.page; omega)
      rw [show i * 4096 + ((y - i * 4096).toNat : Int) = y by omega] at h1
      rw [h0, h1]
    · rfl
  have : putF m (i * 4096 + at_) xs = m := funext hm
  rw [this]
  exact HQ.out.mem

/-- The source's bytes, in a later world. -/
theorem src_keeps {w w' : World} {gs off c : Nat} {xs : List Int} (hv : ReadsIn .u8 gs w (.slice (some ⟨gs, off, none⟩) xs.length c) xs) {T : Nat → Prop} (o : Only T w w') (hs : ¬ T gs) : ∀ j, j < xs.length → w'.cell? ((⟨gs, off, none⟩ : Addr).add j) = some (.int .u8 (xs.getD j 0)) := by
  intro j hj
  obtain ⟨a, cc, h1, h2, h3⟩ := hv.keeps o hs
  injection h1 with h1 _ _
  subst h1
  rcases h3 with h3 | ⟨off', h4, _, h5⟩
  · rw [h3] at hj; simp at hj
  · injection h4 with h4; injection h4 with _ h4
    subst h4
    rw [add_none]; exact h5 j hj

theorem pages_16384 (h : Parts w b mb S base size m pg) (hf : Fits base size) : ∀ q, pg q ≠ none → base / 4096 ≤ q ∧ q < base / 4096 + (16384 : Nat) := pages_in h.ok hf h.sup h.al1 h.al2

set_option maxRecDepth 100000 in
set_option maxHeartbeats 2000000 in
theorem storeIn_b (h : Parts w b mb S base size m pg) (hf : Fits base size) (hi : In64 i) (hv : ReadsIn .u8 gs w (.slice (some ⟨gs, off, none⟩) xs.length c) xs) (hs : ¬ S gs) (hx : InPage base size i at_ xs) (e : pg i = none) (hn : noughts xs = false) :
    Calls Try.prog 46 #[.pointer (some ⟨b, 0, none⟩), .int .u64 i, .int .i64 at_, .slice (some ⟨gs, off, none⟩) xs.length c] w (StoreEnd w b S base size (putF m (i * 4096 + at_) xs)) := by
  have HP := Lib.hid h
  have HG := Lib.hid hs
  have HV := Lib.hid hv
  have HX := Lib.hid hx
  have HN := Lib.hid hn
  have HE := Lib.hid e
  have HF := Lib.hid (pages_16384 h hf)
  have hpage := hx.page
  have hlen : 0 < xs.length := List.length_pos_iff.2 hx.ne
  clear h hv hx hn e hf hs
  go_enter Try.func46, Try.ntmps46
  go_wp2_with fail
  refine (isNought_any gs _ xs _ HV.out HX.out.bytes HX.out.ne).mono ?_
  rintro ee w1 ⟨rfl, hb1⟩
  rw [HN.out]
  have hp := HP.out.below hb1
  obtain ⟨c0, c1, c2⟩ := ram_cells hp.row
  have hl := hp.ok.map.look pgT hi
  rw [HE.out] at hl
  simp only [ptrTo] at hl
  have hb2 : Below w1.heap.size w1 (w1.alloc (.cells Try.zeroCells76 76)) := (Below.refl _ _).alloc (Nat.le_refl _) _
  have hp2 := hp.below hb2
  obtain ⟨d0, d1, d2⟩ := ram_cells hp2.row
  obtain ⟨w2, hput, hmap, hturn⟩ := hp2.ok.map.put pgT HF.out (by unfold maxLen; omega) hi w1.heap.size
  have ho2 := mapTurned_only (S := fun k => k = mb) hturn rfl
  have hbz : w1.heap.size < (w1.alloc (.cells Try.zeroCells76 76)).heap.size := by simp
  have hnew : HoldsU w2 w1.heap.size 76 4096 (fun _ => 0) := by
    refine HoldsU.keeps (S := fun k => k = mb) (w := w1.alloc (.cells Try.zeroCells76 76)) ?_ ho2 (by have := hp.ok.lt mb hp.ok.smb; omega)
    show _ = _
    rw [heap_alloc_new, zero4096]
  have hbel : Only (fun k => k = mb) w1 w2 := (Only.of_below _ hb2).trans ho2
  have hsrc : ∀ j, j < xs.length → w2.cell? ((⟨gs, off, none⟩ : Addr).add j) = some (.int .u8 (xs.getD j 0)) := by
    exact src_keeps HV.out ((Only.of_below (fun k => k = mb) hb1).trans hbel) (fun e => HG.out (e ▸ HP.out.ok.smb))
  have HSL := fun w => run_slice_from (w := w) Try.underlying76 (Try.sizeOf5 w) w1.heap.size at_ (by omega)
  have HB1 := Lib.hid hb1
  have HP1 := Lib.hid hp
  have HO := Lib.hid hbel
  have HMAP := Lib.hid hmap
  have HNEW := Lib.hid hnew
  have HSRC := Lib.hid hsrc
  have HS2 := Lib.hid (mapTurned_size hturn)
  clear hb1 hp hbel hmap hnew hsrc hp2 hb2 ho2 hturn hbz
  go_wp2_with (refine wpList_copy_u rfl (.tmp 31) (.tmp 32) 30 30 rfl 5 Try.underlying30 size_u8 w1.heap.size at_ _ _ ⟨gs, off, none⟩ _ _ rfl rfl 4096 (fun _ => 0) 76 HNEW.out xs ?_ HSRC.out (by omega) ?_)
  · show xs.length = min xs.length (4096 - at_)
    omega
  have h3 := HoldsU.setRow HNEW.out (overU (fun _ => 0) at_ xs)
  have ho3 : Only (fun k => k = w1.heap.size) w2 (w2.setRow w1.heap.size (uarr 4096 (overU (fun _ => 0) at_ xs))) := (Only.refl (fun k => k = w1.heap.size) w2).setRow (.inl rfl) _
  have HEND : Hid (StoreEnd w b S base size (putF m (i * 4096 + at_) xs) (.returned (.tuple #[])) (w2.setRow w1.heap.size (uarr 4096 (overU (fun _ => 0) at_ xs)))) := by
    refine Lib.hid ⟨⟨_, rfl⟩, ?_, fun k => S k ∨ k = w1.heap.size, fun k hk => ?_, ?_⟩
    · refine (((Only.of_below S HB1.out).step HO.out ?_).step ho3 ?_)
      · rintro k rfl; exact .inl HP.out.ok.smb
      · rintro k rfl; exact .inr HB1.out.size
    · rcases hk with hk | rfl
      · exact .inl hk
      · exact .inr HB1.out.size
    · have hpg : PageAt (w2.setRow w1.heap.size (uarr 4096 (overU (fun _ => 0) at_ xs))) w1.heap.size (putF m (i * 4096 + at_) xs) i := by
        refine HoldsU.congr h3 fun k hk => ?_
        rw [← HX.out.over m k hk]
        unfold overU
        split
        · rfl
        · exact (HP1.out.ok.gone i HE.out k hk).symm
      have hne : w1.heap.size ≠ mb := by have := HP1.out.ok.lt mb HP1.out.ok.smb; omega
      have hneb : w1.heap.size ≠ b := by have := HP1.out.ok.lt b HP1.out.ok.sb; omega
      have o4 : Only (fun k => k = mb) w1 (w2.setRow w1.heap.size (uarr 4096 (overU (fun _ => 0) at_ xs))) := HO.out.step ho3 (by rintro k rfl; exact .inr (Nat.le_refl _))
      have := PgOk.laid HP1.out.ok HE.out o4 (Nat.le_refl _) (HMAP.out.keeps ho3 (fun h => hne h.symm)) hpg (HX.out.left m HN.out) (HX.out.out m)
      exact ⟨mb, _, o4.keeps (fun h => HP1.out.ok.ne h.symm) HP1.out.row, this, putF_bytey HP1.out.bytey _ HX.out.bytes, HX.out.support HP1.out.sup, HP1.out.al1, HP1.out.al2⟩
  clear h3 ho3
  go_wp2
  go_end0
  exact HEND.out

end
end Go.Proofs.Ytgfnhledfhhkoaa
