/- The program's memory of layer 3: storeIn, where the page is there, bytes that are not all 0. -/
import Derived.Test.YtgfnhledfhhkoaaPm5
namespace Go.Proofs.Ytgfnhledfhhkoaa
open Go.RowKit Go.Maps
set_option linter.unusedVariables false

section
variable {w : World} {b mb gs off c : Nat} {S : Nat → Prop} {base size : Int} {m : Int → Int} {pg : Int → Option Nat} (i : Int) (at_ : Nat) (xs : List Int)

theorem Parts.row_keeps {w w' : World} {T : Nat → Prop} (h : Parts w b mb S base size m pg) (o : Only T w w') (hb : ¬ T b) : w'.heap[b]? = some (.cells #[.int .u64 base, .int .u64 size, .map (some mb)] 64 (0, 0)) := o.keeps hb h.row

theorem wrote_end {w w1 w3 : World} {g : Nat} {i : Int} {at_ : Nat} {xs : List Int} (hb1 : Below w.heap.size w w1) (hp : Parts w1 b mb S base size m pg) (e : pg i = some g) (hx : InPage base size i at_ xs)
    (h3 : HoldsU w3 g 76 4096 (overU (fun k => m (i * 4096 + k)) at_ xs)) (o3 : Only (fun k => k = g) w1 w3) (hne : ∃ k : Nat, k < 4096 ∧ ¬ putF m (i * 4096 + at_) xs (i * 4096 + k) = 0) :
    StoreEnd w b S base size (putF m (i * 4096 + at_) xs) (.returned (.tuple #[])) w3 := by
  obtain ⟨_, k2, k3, k4, _⟩ := hp.ok.page i g e
  refine ⟨⟨_, rfl⟩, (Only.of_below S hb1).step o3 (by rintro k rfl; exact .inl k2), S, fun k hk => .inl hk, ?_⟩
  have hpg : PageAt w3 g (putF m (i * 4096 + at_) xs) i := HoldsU.congr h3 fun k hk => hx.over m k hk
  exact ⟨mb, pg, hp.row_keeps o3 (fun h => k3 h.symm), PgOk.wrote hp.ok e o3 hpg hne (hx.out m), putF_bytey hp.bytey _ hx.bytes, hx.support hp.sup, hp.al1, hp.al2⟩

set_option maxRecDepth 100000 in
set_option maxHeartbeats 2000000 in
theorem storeIn_c {g : Nat} (h : Parts w b mb S base size m pg) (hi : In64 i) (hv : ReadsIn .u8 gs w (.slice (some ⟨gs, off, none⟩) xs.length c) xs) (hs : ¬ S gs) (hx : InPage base size i at_ xs) (e : pg i = some g) (hn : noughts xs = false) :
    Calls Try.prog 46 #[.pointer (some ⟨b, 0, none⟩), .int .u64 i, .int .i64 at_, .slice (some ⟨gs, off, none⟩) xs.length c] w (StoreEnd w b S base size (putF m (i * 4096 + at_) xs)) := by
  have HP := Lib.hid h
  have HG := Lib.hid hs
  have HV := Lib.hid hv
  have HX := Lib.hid hx
  have HN := Lib.hid hn
  have HE := Lib.hid e
  have hpage := hx.page
  have hlen : 0 < xs.length := List.length_pos_iff.2 hx.ne
  clear h hv hx hn e hs
  go_enter Try.func46, Try.ntmps46
  go_wp2_with fail
  refine (isNought_any gs _ xs _ HV.out HX.out.bytes HX.out.ne).mono ?_
  rintro ee w1 ⟨rfl, hb1⟩
  rw [HN.out]
  have hp := HP.out.below hb1
  obtain ⟨c0, c1, c2⟩ := ram_cells hp.row
  have hl := hp.ok.map.look pgT hi
  rw [HE.out] at hl
  simp only [ptrTo] at hl
  have hnew : HoldsU w1 g 76 4096 (fun k => m (i * 4096 + k)) := (hp.ok.page i g HE.out).1
  have hsrc : ∀ j, j < xs.length → w1.cell? ((⟨gs, off, none⟩ : Addr).add j) = some (.int .u8 (xs.getD j 0)) := src_keeps HV.out (Only.of_below (fun _ => False) hb1) id
  have HSL := fun w => run_slice_from (w := w) Try.underlying76 (Try.sizeOf5 w) g at_ (by omega)
  have HB1 := Lib.hid hb1
  have HP1 := Lib.hid hp
  have HNEW := Lib.hid hnew
  have HSRC := Lib.hid hsrc
  clear hb1 hp hnew hsrc
  have h3 := HoldsU.setRow HNEW.out (overU (fun k => m (i * 4096 + k)) at_ xs)
  have ho3 : Only (fun k => k = g) w1 (w1.setRow g (uarr 4096 (overU (fun k => m (i * 4096 + k)) at_ xs))) := (Only.refl (fun k => k = g) w1).setRow (.inl rfl) _
  have H3 := Lib.hid h3
  have HO3 := Lib.hid ho3
  clear h3 ho3
  go_wp2_with (refine wpList_copy_u rfl (.tmp 31) (.tmp 32) 30 30 rfl 5 Try.underlying30 size_u8 g at_ _ _ ⟨gs, off, none⟩ _ _ rfl rfl 4096 (fun k => m (i * 4096 + k)) 76 HNEW.out xs ?_ HSRC.out (by omega) ?_)
  · show xs.length = min xs.length (4096 - at_)
    omega
  have HEND : Hid (StoreEnd w b S base size (putF m (i * 4096 + at_) xs) (.returned (.tuple #[])) (w1.setRow g (uarr 4096 (overU (fun k => m (i * 4096 + k)) at_ xs)))) :=
    Lib.hid (wrote_end HB1.out HP1.out HE.out HX.out H3.out HO3.out (HX.out.left m HN.out))
  go_wp2
  go_end0
  exact HEND.out

end
end Go.Proofs.Ytgfnhledfhhkoaa
