/- The program's memory of layer 3: storeIn, where the page is there, noughts. -/
import Derived.Test.YtgfnhledfhhkoaaPm6
namespace Go.Proofs.Ytgfnhledfhhkoaa
open Go.RowKit Go.Maps
set_option linter.unusedVariables false

section
variable {w : World} {b mb gs off c : Nat} {S : Nat → Prop} {base size : Int} {m : Int → Int} {pg : Int → Option Nat} (i : Int) (at_ : Nat) (xs : List Int)

set_option maxRecDepth 100000 in
set_option maxHeartbeats 2000000 in
theorem storeIn_d {g : Nat} (h : Parts w b mb S base size m pg) (hi : In64 i) (hv : ReadsIn .u8 gs w (.slice (some ⟨gs, off, none⟩) xs.length c) xs) (hs : ¬ S gs) (hx : InPage base size i at_ xs) (e : pg i = some g) (hn : noughts xs = true) (hz : alike 4096 (overU (fun k => m (i * 4096 + k)) at_ xs) (fun _ => 0) = false) :
    Calls Try.prog 46 #[.pointer (some ⟨b, 0, none⟩), .int .u64 i, .int .i64 at_, .slice (some ⟨gs, off, none⟩) xs.length c] w (StoreEnd w b S base size (putF m (i * 4096 + at_) xs)) := by
  have HP := Lib.hid h
  have HG := Lib.hid hs
  have HV := Lib.hid hv
  have HX := Lib.hid hx
  have HN := Lib.hid hn
  have HE := Lib.hid e
  have hpage := hx.page
  have hlen : 0 < xs.length := List.length_pos_iff.2 hx.ne
  clear h hv hx hn e hs
  go_enter Try.func46, Try.ntmps46
  go_wp2_with fail
  refine (isNought_any gs _ xs _ HV.out HX.out.bytes HX.out.ne).mono ?_
  rintro ee w1 ⟨rfl, hb1⟩
  rw [HN.out]
  have hp := HP.out.below hb1
  obtain ⟨c0, c1, c2⟩ := ram_cells hp.row
  have hl := hp.ok.map.look pgT hi
  rw [HE.out] at hl
  simp only [ptrTo] at hl
  have hnew : HoldsU w1 g 76 4096 (fun k => m (i * 4096 + k)) := (hp.ok.page i g HE.out).1
  have hsrc : ∀ j, j < xs.length → w1.cell? ((⟨gs, off, none⟩ : Addr).add j) = some (.int .u8 (xs.getD j 0)) := src_keeps HV.out (Only.of_below (fun _ => False) hb1) id
  have HSL := fun w => run_slice_from (w := w) Try.underlying76 (Try.sizeOf5 w) g at_ (by omega)
  have HB1 := Lib.hid hb1
  have HP1 := Lib.hid hp
  have HNEW := Lib.hid hnew
  have HSRC := Lib.hid hsrc
  clear hb1 hp hnew hsrc
  have h3 := HoldsU.setRow HNEW.out (overU (fun k => m (i * 4096 + k)) at_ xs)
  have ho3 : Only (fun k => k = g) w1 (w1.setRow g (uarr 4096 (overU (fun k => m (i * 4096 + k)) at_ xs))) := (Only.refl (fun k => k = g) w1).setRow (.inl rfl) _
  have H3 := Lib.hid h3
  have HO3 := Lib.hid ho3
  clear h3 ho3
  have HQ : Hid (alike 4096 (overU (fun k => m (i * 4096 + k)) at_ xs) (fun _ => 0) = false) := Lib.hid hz
  have HMIN : Hid (xs.length = Nat.min xs.length (4096 - at_)) := Lib.hid (by show xs.length = min xs.length (4096 - at_); omega)
  have HFIT : Hid (at_ + xs.length ≤ 4096) := Lib.hid hpage
  clear hz
  have HEND : Hid (StoreEnd w b S base size (putF m (i * 4096 + at_) xs) (.returned (.tuple #[])) (w1.setRow g (uarr 4096 (overU (fun k => m (i * 4096 + k)) at_ xs)))) :=
    Lib.hid (wrote_end HB1.out HP1.out HE.out HX.out H3.out HO3.out (by
      have : ¬ ∀ k, k < 4096 → overU (fun k => m (i * 4096 + k)) at_ xs k = 0 := fun hh => by
        rw [alike_iff.2 hh] at HQ; exact absurd HQ.out (by simp)
      obtain ⟨k, hk⟩ := Classical.not_forall.1 this
      obtain ⟨hk, hne⟩ := Classical.not_imp.1 hk
      exact ⟨k, hk, by rw [← HX.out.over m k hk]; exact hne⟩))
  go_wp2_with (first
    | (refine wpList_copy_u rfl (.tmp 31) (.tmp 32) 30 30 rfl 5 Try.underlying30 size_u8 g at_ _ _ ⟨gs, off, none⟩ _ _ rfl rfl 4096 (fun k => m (i * 4096 + k)) 76 HNEW.out xs HMIN.out HSRC.out HFIT.out ?_)
    | (refine wpList_load_u rfl _ _ rfl g rfl 76 4096 (overU (fun k => m (i * 4096 + k)) at_ xs) 5 H3.out Try.underlying76 size4096 ?_)
    | (refine wpList_build_u rfl _ rfl 4096 (fun _ => 0) built4096 ?_)
    | (refine wpList_eql_u rfl 76 _ _ _ rfl 5 4096 (overU (fun k => m (i * 4096 + k)) at_ xs) (fun _ => 0) rfl rfl Try.underlying76 (Try.sizeOf5 _) (Try.isAgg5 _) Try.underlying5 guard4096 ?_; rw [HQ.out]))
  go_end0
  exact HEND.out

set_option maxRecDepth 100000 in
set_option maxHeartbeats 2000000 in
theorem storeIn_e {g : Nat} (h : Parts w b mb S base size m pg) (hi : In64 i) (hv : ReadsIn .u8 gs w (.slice (some ⟨gs, off, none⟩) xs.length c) xs) (hs : ¬ S gs) (hx : InPage base size i at_ xs) (e : pg i = some g) (hn : noughts xs = true) (hz : alike 4096 (overU (fun k => m (i * 4096 + k)) at_ xs) (fun _ => 0) = true) :
    Calls Try.prog 46 #[.pointer (some ⟨b, 0, none⟩), .int .u64 i, .int .i64 at_, .slice (some ⟨gs, off, none⟩) xs.length c] w (StoreEnd w b S base size (putF m (i * 4096 + at_) xs)) := by
  have HP := Lib.hid h
  have HG := Lib.hid hs
  have HV := Lib.hid hv
  have HX := Lib.hid hx
  have HN := Lib.hid hn
  have HE := Lib.hid e
  have hpage := hx.page
  have hlen : 0 < xs.length := List.length_pos_iff.2 hx.ne
  clear h hv hx hn e hs
  go_enter Try.func46, Try.ntmps46
  go_wp2_with fail
  refine (isNought_any gs _ xs _ HV.out HX.out.bytes HX.out.ne).mono ?_
  rintro ee w1 ⟨rfl, hb1⟩
  rw [HN.out]
  have hp := HP.out.below hb1
  obtain ⟨c0, c1, c2⟩ := ram_cells hp.row
  have hl := hp.ok.map.look pgT hi
  rw [HE.out] at hl
  simp only [ptrTo] at hl
  have hnew : HoldsU w1 g 76 4096 (fun k => m (i * 4096 + k)) := (hp.ok.page i g HE.out).1
  have hsrc : ∀ j, j < xs.length → w1.cell? ((⟨gs, off, none⟩ : Addr).add j) = some (.int .u8 (xs.getD j 0)) := src_keeps HV.out (Only.of_below (fun _ => False) hb1) id
  have HSL := fun w => run_slice_from (w := w) Try.underlying76 (Try.sizeOf5 w) g at_ (by omega)
  have HB1 := Lib.hid hb1
  have HP1 := Lib.hid hp
  have HNEW := Lib.hid hnew
  have HSRC := Lib.hid hsrc
  clear hb1 hp hnew hsrc
  have h3 := HoldsU.setRow HNEW.out (overU (fun k => m (i * 4096 + k)) at_ xs)
  have ho3 : Only (fun k => k = g) w1 (w1.setRow g (uarr 4096 (overU (fun k => m (i * 4096 + k)) at_ xs))) := (Only.refl (fun k => k = g) w1).setRow (.inl rfl) _
  have H3 := Lib.hid h3
  have HO3 := Lib.hid ho3
  clear h3 ho3
  have HQ : Hid (alike 4096 (overU (fun k => m (i * 4096 + k)) at_ xs) (fun _ => 0) = true) := Lib.hid hz
  have HMIN : Hid (xs.length = Nat.min xs.length (4096 - at_)) := Lib.hid (by show xs.length = min xs.length (4096 - at_); omega)
  have HFIT : Hid (at_ + xs.length ≤ 4096) := Lib.hid hpage
  clear hz
  have hp3 := HP1.out.row_keeps HO3.out (fun h => (HP1.out.ok.page i g HE.out).2.2.1 h.symm)
  obtain ⟨d0, d1, d2⟩ := ram_cells hp3
  have hm3 := HP1.out.ok.map.keeps HO3.out (fun h => (HP1.out.ok.page i g HE.out).2.2.2.1 h.symm)
  obtain ⟨w4, hdel, hmap, hturn⟩ := hm3.drop pgT hi 0
  have HEND : Hid (StoreEnd w b S base size (putF m (i * 4096 + at_) xs) (.returned (.tuple #[])) w4) := by
    have o4 := mapTurned_only (S := fun k => k = mb) hturn rfl
    obtain ⟨_, k2, k3, k4, _⟩ := HP1.out.ok.page i g HE.out
    have o5 : Only (fun k => k = g ∨ k = mb) w1 w4 := (HO3.out.mono (fun k hk => .inl (.inl hk))).step o4 (fun k hk => .inl (.inr hk))
    refine Lib.hid ⟨⟨_, rfl⟩, (Only.of_below S HB1.out).step o5 ?_, S, fun k hk => .inl hk, mb, _, o5.keeps ?_ HP1.out.row, PgOk.struck HP1.out.ok HE.out o5 hmap ?_ (HX.out.out m), putF_bytey HP1.out.bytey _ HX.out.bytes, HX.out.support HP1.out.sup, HP1.out.al1, HP1.out.al2⟩
    · rintro k (rfl | rfl)
      · exact .inl k2
      · exact .inl HP1.out.ok.smb
    · rintro (h | h)
      · exact k3 h.symm
      · exact HP1.out.ok.ne h.symm
    · intro k hk
      rw [← HX.out.over m k hk]
      exact alike_iff.1 HQ.out k hk
  have HD := Lib.hid hp3
  clear hp3 hm3 hmap hturn
  go_wp2_with (first
    | (refine wpList_copy_u rfl (.tmp 31) (.tmp 32) 30 30 rfl 5 Try.underlying30 size_u8 g at_ _ _ ⟨gs, off, none⟩ _ _ rfl rfl 4096 (fun k => m (i * 4096 + k)) 76 HNEW.out xs HMIN.out HSRC.out HFIT.out ?_)
    | (refine wpList_load_u rfl _ _ rfl g rfl 76 4096 (overU (fun k => m (i * 4096 + k)) at_ xs) 5 H3.out Try.underlying76 size4096 ?_)
    | (refine wpList_build_u rfl _ rfl 4096 (fun _ => 0) built4096 ?_)
    | (refine wpList_eql_u rfl 76 _ _ _ rfl 5 4096 (overU (fun k => m (i * 4096 + k)) at_ xs) (fun _ => 0) rfl rfl Try.underlying76 (Try.sizeOf5 _) (Try.isAgg5 _) Try.underlying5 guard4096 ?_; rw [HQ.out]))
  go_end0
  exact HEND.out

end
end Go.Proofs.Ytgfnhledfhhkoaa
