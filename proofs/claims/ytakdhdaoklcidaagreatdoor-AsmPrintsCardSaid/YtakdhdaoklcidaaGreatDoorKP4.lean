/- Joined: AsL2 AsM AsN AsO AsP AsQ AsR ShC AsS AsT AsT2 AsU AsV AsW AsX AsY AsZ AsPr -/
import Derived.Test.YtakdhdaoklcidaaGreatDoorKP3
import Derived.Lib.ConvBytes
import Derived.Test.YtakdhdaoklcidaaGreatDoorRows
import Derived.Shelf.Strings.Split
import Derived.Shelf.Strings.SlTrimAscii
import Derived.Maps.OwnSet
import Derived.StringKeys
import Derived.Laws.OwnMore
import Derived.Laws.IdiomStrings
namespace Go.Proofs.YtakdhdaoklcidaaGreatDoor
open Go.RowKit Go.Lib
set_option linter.unusedVariables false
set_option maxRecDepth 100000

theorem ownI_base {w : World} {B B' : Nat} {v : Value} {l : List Ins} (h : OwnI w B v l) (hB : B' ≤ B) : OwnI w B' v l := by
  refine ⟨h.1, ?_⟩
  rcases h.2 with hn | ⟨g, cap, cur, rfl, hb, rest⟩
  · exact .inl hn
  · exact .inr ⟨g, cap, cur, rfl, by omega, rest⟩
theorem ownI_lt {w : World} {B : Nat} {v : Value} {l : List Ins} (h : OwnI w B v l) : ∀ g, v.ownBlock = some g → B ≤ g ∧ g < w.heap.size := by
  intro g hg
  rcases h.2 with ⟨rfl, _⟩ | ⟨g', cap, cur, rfl, hb, hc, _⟩
  · simp [Value.ownBlock] at hg
  · simp [Value.ownBlock] at hg
    subst hg
    exact ⟨hb, (Array.getElem?_eq_some_iff.1 hc).1⟩
theorem ownI_alloc {w : World} {B : Nat} {v : Value} {l : List Ins} (h : OwnI w B v l) (o : Obj) : OwnI (w.alloc o) B v l :=
  ownI_keep (S := fun k => w.heap.size ≤ k) h ((Only.refl _ w).alloc o) (fun g hg hs => by have := (ownI_lt h g hg).2; omega)
/-- One instruction more, out of a block laid just now. -/
theorem push_new (w0 w : World) (v : Value) (l : List Ins) (i : Ins) (n : Nat) (hn : l.length = n) (h : OwnI w w0.heap.size v l) (hl : l.length ≤ 70000) (hb : Below w0.heap.size w0 w) (ty : TypeId) :
    ∃ A C w', (Builtin.append_ #[33, 33] ty #[v, .slice (some ⟨w.heap.size, 0, none⟩) 1 1]).run Tryz.prog (w.alloc (.cells (insC i).toArray 23)) = .ok (.slice A (n + 1) C) w' ∧ OwnI w' w0.heap.size (.slice A (n + 1) C) (l ++ [i]) ∧ Below w0.heap.size w0 w' := by
  have hB := hb.alloc hb.size (.cells (insC i).toArray 23)
  obtain ⟨v', w', hr, ho, hon⟩ := run_pushIns _ w0.heap.size v l i (ownI_alloc h _) hl hB.size w.heap.size 1 (heap_alloc_new w (.cells (insC i).toArray 23)) ty
  obtain ⟨A, C, rfl⟩ := ownI_slice ho
  have e : (l ++ [i]).length = n + 1 := by simp [hn]
  rw [e] at hr
  have ho' : OwnI w' w0.heap.size (.slice A (n + 1) C) (l ++ [i]) := by rw [← e]; exact ho
  exact ⟨A, C, w', hr, ho', Below.thenOnly hB hon (fun k hk => (ownI_lt h k hk).1) hB.size⟩

set_option maxHeartbeats 2000000 in
theorem li_big (rd n : Int) (L : List Ins) (hL : L.length ≤ 1000) (hr : 0 ≤ rd ∧ rd ≤ 31) (h : ¬ (-2048 ≤ n ∧ n ≤ 2047)) (h2 : ¬ (-2147483648 ≤ n ∧ n ≤ 2147483647)) (n0 : -9223372036854775808 ≤ n) (n1 : n ≤ 9223372036854775807)
    (hih : ∀ w, Env w → Calls Tryz.prog 16 #[.int .i64 rd, .int .i64 (nextL n)] w (LiEnd w L)) (w : World) (he : Env w) :
    Calls Tryz.prog 16 #[.int .i64 rd, .int .i64 n] w (LiEnd w (L ++ (slliI rd (ctzI (wrap64 (n - lowZ n))) :: moreI (addI rd rd (lowZ n))))) := by
  have hF : Calls Tryz.prog 39 #[.int .i64 1, .int .i64 n] w fun e w' => e = .returned (.bool false) ∧ Below w.heap.size w w' := progFits_is 1 (by decide) n false (beq_eq_false_iff_ne.2 (fun e => h ((fit_I n).1 e))) w
  have HF := Lib.hid hF
  have HL := Lib.hid (fun w => lowPart_any n (by omega) (by omega) w)
  have HTZ := Lib.hid (fun w he => tzP (wrap64 (n - lowZ n)) w he)
  have hne := high_ne h n0 n1
  have hwi := wrap64_in (n - lowZ n)
  have hcz := (ctzI_spec _ hne.1 hwi.1 hwi.2).1
  obtain ⟨lo0, lo1⟩ := lowZ_bd n
  obtain ⟨r0, r1⟩ := hr
  have hd1 : decide (rd < 0) = false := by simpa using r0
  have hd2 : decide (32 ≤ rd) = false := by simp; omega
  have hnx : nextL n = wrap64 (n - lowZ n) / 2 ^ ctzI (wrap64 (n - lowZ n)) := rfl
  rw [hnx] at hih
  have HIH := Lib.hid hih
  have HE := Lib.hid he
  clear hF he h hih hne hnx
  generalize hlw : lowZ n = lo at *
  clear hlw
  generalize hm : wrap64 (n - lo) = m at *
  obtain ⟨m0, m1⟩ := hwi
  generalize ctzI m = z at *
  generalize hnn : m / 2 ^ z = nn at *
  have hor : n < -2147483648 ∨ 2147483647 < n := by omega
  clear h2
  rcases hor with hor | hor
  all_goals
    go_enter Tryz.func16, Tryz.ntmps16
    go_wp2_with (fail)
    (with_reducible refine HF.out.mono ?_)
    rintro e w1 ⟨rfl, hb1⟩
    have HB1 := Lib.hid hb1
    clear hb1
    go_wp2_with (fail)
    (with_reducible refine (HL.out _).mono ?_)
    rintro e wu ⟨rfl, rfl⟩
    go_wp2_with (fail)
    (with_reducible refine (HTZ.out _ (HE.out.below HB1.out)).mono ?_)
    rintro e wu ⟨rfl, rfl⟩
    go_wp2_with (fail)
    (with_reducible refine (HIH.out _ (HE.out.below HB1.out)).mono ?_)
    rintro e w2 ⟨v, rfl, ho2, hb2⟩
    have HB2 := Lib.hid (HB1.out.trans (hb2.mono HB1.out.size))
    obtain ⟨A0, C0, rfl⟩ := ownI_slice ho2
    obtain ⟨A, C, w3, hr, ho3, hb3⟩ := push_new w w2 _ L (slliI rd z) L.length rfl (ownI_base ho2 HB1.out.size) (by omega) HB2.out 33
    have HRUN := Lib.hid hr; have HO3 := Lib.hid ho3; have HB3 := Lib.hid hb3
    clear hr ho3 hb3 ho2 hb2
    by_cases hlo : lo = 0
    · subst hlo
      go_wp2_with (at_builtin; refine wpList_append_run rfl _ _ _ rfl (.slice A0 L.length C0) (.slice (some ⟨w2.heap.size, 0, none⟩) 1 1) (.slice A (L.length + 1) C) w3 rfl rfl HRUN.out ?_)
      go_ret
      exact ⟨_, rfl, by simpa [moreI, addI] using HO3.out, HB3.out⟩
    · have hq : (lo != 0) = true := by simpa using hlo
      obtain ⟨A4, C4, w4, hr4, ho4, hb4⟩ := push_new w w3 _ (L ++ [slliI rd z]) (addI rd rd lo) (L.length + 1) (by simp) HO3.out (by simp; omega) HB3.out 33
      have HRUN4 := Lib.hid hr4; have HO4 := Lib.hid ho4; have HB4 := Lib.hid hb4
      clear hr4 ho4 hb4
      go_wp2_with (at_builtin; first
        | (refine wpList_append_run rfl _ _ _ rfl (.slice A0 L.length C0) (.slice (some ⟨w2.heap.size, 0, none⟩) 1 1) (.slice A (L.length + 1) C) w3 rfl rfl HRUN.out ?_)
        | (refine wpList_append_run rfl _ _ _ rfl (.slice A (L.length + 1) C) (.slice (some ⟨w3.heap.size, 0, none⟩) 1 1) (.slice A4 (L.length + 1 + 1) C4) w4 rfl rfl HRUN4.out ?_))
      go_ret
      exact ⟨_, rfl, by simpa [moreI, addI, hlo] using HO4.out, HB4.out⟩

/-- Li: the instructions of a number. -/
theorem li_gen (rd : Int) (hr : 0 ≤ rd ∧ rd ≤ 31) : ∀ f n, 1 ≤ f → f ≤ 4 → -9223372036854775808 ≤ n → n ≤ 9223372036854775807 → (-bF f ≤ n ∧ n < bF f) → ∀ w, Env w → Calls Tryz.prog 16 #[.int .i64 rd, .int .i64 n] w (LiEnd w (liF rd f n)) := by
  intro f
  induction f with
  | zero => intro n h; omega
  | succ f ih =>
    intro n h1 h4 n0 n1 hb w he
    unfold liF
    by_cases c1 : -2048 ≤ n ∧ n ≤ 2047
    · rw [if_pos c1]; exact li_small rd n hr c1 w he
    · rw [if_neg c1]
      by_cases c2 : -2147483648 ≤ n ∧ n ≤ 2147483647
      · rw [if_pos c2]; exact li_mid rd n hr c1 c2 w he
      · rw [if_neg c2]
        have hf : 1 ≤ f := by
          rcases Nat.eq_zero_or_pos f with h | h
          · subst h; rw [bF1] at hb; omega
          · exact h
        have hx := next_in hf c1 n0 n1 hb
        exact li_big rd n _ (by have := liF_len rd f (nextL n); omega) hr c1 c2 n0 n1 (ih (nextL n) hf (by omega) hx.2.2.1 hx.2.2.2 ⟨hx.1, hx.2.1⟩) w he
theorem li_any (rd n : Int) (hr : 0 ≤ rd ∧ rd ≤ 31) (n0 : -9223372036854775808 ≤ n) (n1 : n ≤ 9223372036854775807) (w : World) (he : Env w) : Calls Tryz.prog 16 #[.int .i64 rd, .int .i64 n] w (LiEnd w (liF rd 4 n)) :=
  li_gen rd hr 4 n (by decide) (by decide) n0 n1 (by rw [bF4]; omega) w he
theorem li_none (rd n : Int) (hr : ¬ (0 ≤ rd ∧ rd ≤ 31)) (w : World) : Calls Tryz.prog 16 #[.int .i64 rd, .int .i64 n] w fun e w' => e = .returned (.slice none 0 0) ∧ w = w' := by
  by_cases h : rd < 0
  · have hd : decide (rd < 0) = true := by simpa using h
    clear hr
    go_enter Tryz.func16, Tryz.ntmps16
    go_wp2
    go_ret
    exact ⟨rfl, rfl⟩
  · have hd : decide (rd < 0) = false := by simpa using h
    have h2 : 32 ≤ rd := by omega
    have hd2 : decide (32 ≤ rd) = true := by simpa using h2
    clear hr
    go_enter Tryz.func16, Tryz.ntmps16
    go_wp2
    go_ret
    exact ⟨rfl, rfl⟩

end Go.Proofs.YtakdhdaoklcidaaGreatDoor

namespace Go.Proofs.YtakdhdaoklcidaaGreatDoor
open Go.RowKit Go.Lib
set_option linter.unusedVariables false
set_option maxRecDepth 100000

/-- A row of words of a call's own. -/
def wordCs (l : List Int) : List Value := l.map fun x => Value.int .u32 x
abbrev OwnW (w : World) (B : Nat) (v : Value) (l : List Int) : Prop := w.ownsRow B 43 1 v l.length (wordCs l)
theorem info_u32 : (Tryz.prog.info? 43).map (fun i => (i.zero, i.size, i.bytes)) = some (some (.int .u32 0), 1, 4) := by kernel_rfl
theorem ownW_slice {w : World} {B : Nat} {v : Value} {l : List Int} (h : OwnW w B v l) : ∃ A C, v = .slice A l.length C := own_slice' h
theorem ownW_base {w : World} {B B' : Nat} {v : Value} {l : List Int} (h : OwnW w B v l) (hB : B' ≤ B) : OwnW w B' v l := by
  refine ⟨h.1, ?_⟩
  rcases h.2 with hn | ⟨g, cap, cur, rfl, hb, rest⟩
  · exact .inl hn
  · exact .inr ⟨g, cap, cur, rfl, by omega, rest⟩
theorem ownW_keep {w w' : World} {B : Nat} {v : Value} {l : List Int} (h : OwnW w B v l) {S : Nat → Prop} (o : Only S w w') (hS : ∀ g, v.ownBlock = some g → ¬ S g) : OwnW w' B v l := by
  refine ⟨h.1, ?_⟩
  rcases h.2 with hn | ⟨g, cap, cur, rfl, hb, hg, rest⟩
  · exact .inl hn
  · exact .inr ⟨g, cap, cur, rfl, hb, o.keeps (hS g rfl) hg, rest⟩
theorem ownW_lt {w : World} {B : Nat} {v : Value} {l : List Int} (h : OwnW w B v l) : ∀ g, v.ownBlock = some g → B ≤ g ∧ g < w.heap.size := by
  intro g hg
  rcases h.2 with ⟨rfl, _⟩ | ⟨g', cap, cur, rfl, hb, hc, _⟩
  · simp [Value.ownBlock] at hg
  · simp [Value.ownBlock] at hg
    subst hg
    exact ⟨hb, (Array.getElem?_eq_some_iff.1 hc).1⟩
theorem ownW_below {w w' : World} {B : Nat} {v : Value} {l : List Int} (h : OwnW w B v l) (hb : Below w.heap.size w w') : OwnW w' B v l :=
  ownW_keep (S := fun k => w.heap.size ≤ k) h (Only.of_below _ hb) (fun g hg hs => by have := (ownW_lt h g hg).2; omega)
theorem ownW_nil (w : World) (B : Nat) : OwnW w B (.slice none 0 0) [] := ⟨rfl, .inl ⟨rfl, rfl⟩⟩
/-- More words, out of another row. -/
theorem run_pourW (w : World) (B : Nat) (v : Value) (l m : List Int) (n : Nat) (hn : l.length = n) (h : OwnW w B v l) (hl : l.length + m.length ≤ 1000000) (hB : B ≤ w.heap.size) (g off c : Nat) (hc : ∀ j, j < m.length → w.cell? ⟨g, off + j, none⟩ = some (.int .u32 (m.getD j 0))) (ty : TypeId) :
    ∃ v' w', (Builtin.append_ #[37, 37] ty #[v, .slice (some ⟨g, off, none⟩) m.length c]).run Tryz.prog w = .ok v' w' ∧ OwnW w' B v' (l ++ m) ∧ Only (fun k => v.ownBlock = some k) w w' ∧ (∀ k, v'.ownBlock = some k → v.ownBlock = some k ∨ w.heap.size ≤ k) := by
  obtain ⟨i0, hi, hz0, hz1, hz2⟩ := info_parts info_u32
  have hnn : ∀ j u, (wordCs m)[j]? = some u → w.cell? ((⟨g, off, none⟩ : Addr).add j) = some u := by
    intro j u hj
    rw [Lib.add_plain]
    have hlt : j < m.length := by have := (List.getElem?_eq_some_iff.1 hj).1; simpa [wordCs] using this
    rw [hc j hlt, ← hj]
    simp [wordCs, List.getElem?_eq_getElem hlt, List.getD_eq_getElem?_getD]
  have h1 : ∀ u ∈ wordCs m, u.oneCell' = true := by intro u hu; obtain ⟨x, _, rfl⟩ := List.mem_map.1 hu; rfl
  obtain ⟨v', w', hr, h2, h3, _, h5⟩ := run_append_own_at (P := Tryz.prog) w B 37 ty 43 i0 _ 1 4 Tryz.underlying37 hi hz0 hz1 hz2 rfl (by decide) v l.length _ h ⟨g, off, none⟩ m.length c (wordCs m) (by simp [wordCs]) hnn h1 (by unfold maxLen; omega) (by omega) hB
  refine ⟨v', w', hr, ?_, (Only.refl _ w).grown h3 (fun k hk => .inl hk), fun k hk => ?_⟩
  · unfold OwnW
    rw [List.length_append]
    simpa [wordCs] using h2
  · rcases h5 with h5 | h5
    · exact .inl (h5 ▸ hk)
    · rw [h5] at hk; injection hk with hk; exact .inr (by omega)
/-- One word more, out of a block laid just now. -/
theorem pushW_new (w0 w : World) (v : Value) (l : List Int) (x : Int) (n : Nat) (hn : l.length = n) (h : OwnW w w0.heap.size v l) (hl : l.length ≤ 70000) (hb : Below w0.heap.size w0 w) (ty : TypeId) :
    ∃ A C w', (Builtin.append_ #[37, 37] ty #[v, .slice (some ⟨w.heap.size, 0, none⟩) 1 1]).run Tryz.prog (w.alloc (.cells #[.int .u32 x] 43)) = .ok (.slice A (n + 1) C) w' ∧ OwnW w' w0.heap.size (.slice A (n + 1) C) (l ++ [x]) ∧ Below w0.heap.size w0 w' := by
  have hB := hb.alloc hb.size (.cells #[.int .u32 x] 43)
  obtain ⟨v', w', hr, ho, hon, _⟩ := run_pourW _ w0.heap.size v l [x] n hn (ownW_below h ((Below.refl _ w).alloc (Nat.le_refl _) _)) (by simp; omega) hB.size w.heap.size 0 1 (fun j hj => by
    have : j = 0 := by simpa using hj
    subst this
    rw [World.cell?_alloc_at _ _ _ _ (by simp)]; rfl) ty
  obtain ⟨A, C, rfl⟩ := ownW_slice ho
  have e : (l ++ [x]).length = n + 1 := by simp [hn]
  rw [e] at hr
  have ho' : OwnW w' w0.heap.size (.slice A (n + 1) C) (l ++ [x]) := by rw [← e]; exact ho
  exact ⟨A, C, w', hr, ho', Below.thenOnly hB hon (fun k hk => (ownW_lt h k hk).1) hB.size⟩

/-- The cells of a row of instructions stand. -/
def InsAt (w : World) (g : Nat) (l : List Ins) : Prop := ∀ k, k < l.length → ∀ j, j < 8 → w.cell? ⟨g, k * 8 + j, none⟩ = some ((insC (l.getD k insZ)).getD j undef)
theorem insAt_below {w w' : World} {g : Nat} {l : List Ins} (h : InsAt w g l) (hb : Below w.heap.size w w') : InsAt w' g l := fun k hk j hj => cell_stays hb (h k hk j hj)
def EncEnd (w : World) (l : List Int) (e : Ending) (w' : World) : Prop := ∃ v, e = .returned (.tuple #[v, .bool true]) ∧ OwnW w' w.heap.size v l ∧ Below w.heap.size w w'
def EncNo (w : World) (e : Ending) (w' : World) : Prop := e = .returned (.tuple #[.slice none 0 0, .bool false]) ∧ Below w.heap.size w w'
def EncQ (w : World) (l : List Ins) (e : Ending) (w' : World) : Prop := (l.all rightB = true → EncEnd w (l.map encW) e w') ∧ (l.all rightB = false → EncNo w e w')

set_option maxHeartbeats 2000000 in
theorem encode_gen (l : List Ins) (g cap : Nat) (w : World) (he : Env w) (hl : l.length ≤ 1000) (hc : InsAt w g l) :
    Calls Tryz.prog 139 #[.slice (some ⟨g, 0, none⟩) l.length cap] w (EncQ w l) := by
  have HC := Lib.hid hc
  have HE := Lib.hid he
  clear hc he
  go_enter Tryz.func139, Tryz.ntmps139
  go_wp2
  go_loopw [2, 10] (fun v k wr => ∃ j : Nat, j ≤ l.length ∧ k = .int .i64 j ∧ OwnW wr w.heap.size v ((l.take j).map encW) ∧ (∀ i ∈ l.take j, rightB i = true) ∧ Below w.heap.size w wr) (fun _ k _ => l.length - (RowKit.intOf k).toNat)
  case atStart => exact ⟨0, Nat.zero_le _, rfl, by rw [List.take_zero]; exact ownW_nil _ _, by simp, Below.refl _ _⟩
  case round =>
    obtain ⟨j, hj, rfl, ho, hall, hb⟩ := hrel
    obtain ⟨A, C, rfl⟩ := ownW_slice ho
    have hlen : ((l.take j).map encW).length = j := by simp; omega
    rw [hlen] at ho ⊢
    by_cases hlt : j < l.length
    · have hx := insAt_below HC.out hb j hlt
      have hmem : l.getD j insZ ∈ l := by rw [List.getD_eq_getElem?_getD, List.getElem?_eq_getElem hlt]; exact List.getElem_mem hlt
      have htk : l.take (j + 1) = l.take j ++ [l.getD j insZ] := by rw [List.take_succ_eq_append_getElem hlt, List.getD_eq_getElem?_getD, List.getElem?_eq_getElem hlt]; rfl
      have hE : ∀ w, Env w → Calls Tryz.prog 21 #[insV (l.getD j insZ)] w fun e w' => e = .returned (.tuple #[.int .u32 (encW (l.getD j insZ)), .int .i64 (encE (l.getD j insZ))]) ∧ Below w.heap.size w w' := fun w he => encode_is _ w he.tab
      have hee : encE (l.getD j insZ) = if rightB (l.getD j insZ) then 0 else 80 := rfl
      have x0 := hx 0 (by decide); have x1 := hx 1 (by decide); have x2 := hx 2 (by decide); have x3 := hx 3 (by decide)
      have x4 := hx 4 (by decide); have x5 := hx 5 (by decide); have x6 := hx 6 (by decide); have x7 := hx 7 (by decide)
      have HO := Lib.hid ho
      have HB := Lib.hid hb
      cases hi : rightB (l.getD j insZ) with
      | false =>
        rw [hi] at hee
        rw [hee] at hE
        have HEN := Lib.hid hE
        have HQ : Hid (l.all rightB = false) := Lib.hid (by
          cases q : l.all rightB
          · rfl
          · have := List.all_eq_true.1 q _ hmem; rw [hi] at this; cases this)
        clear hE hi hx ho hb hlen hee hmem htk hall
        generalize encW (l.getD j insZ) = W at *
        generalize l.getD j insZ = ii at *
        obtain ⟨op, rd, a, b, imm, csr, aq, rl⟩ := ii
        simp only [insC, List.getD_cons_zero, List.getD_cons_succ, Nat.add_zero] at x0 x1 x2 x3 x4 x5 x6 x7
        go_wp2_with (fail)
        (with_reducible refine (HEN.out _ (HE.out.below (HB.out.alloc HB.out.size _))).mono ?_)
        rintro e w2 ⟨rfl, hb2⟩
        have HB2 := Lib.hid ((HB.out.alloc HB.out.size (.cells #[.int .i64 op, .int .i64 rd, .int .i64 a, .int .i64 b, .int .i64 imm, .int .i64 csr, .bool aq, .bool rl] 23)).trans (hb2.mono (by have := HB.out.size; simp; omega)))
        clear hb2 x0 x1 x2 x3 x4 x5 x6 x7
        go_wp2
        go_ret2
        exact ⟨(fun q => by rw [HQ.out] at q; cases q), fun _ => ⟨rfl, HB2.out⟩⟩
      | true =>
        rw [hi, if_pos rfl] at hee
        rw [hee] at hE
        have HEN := Lib.hid hE
        have HT : Hid ((l.take (j + 1)).map encW = (l.take j).map encW ++ [encW (l.getD j insZ)] ∧ ∀ i ∈ l.take (j + 1), rightB i = true) := Lib.hid ⟨by rw [htk, List.map_append]; rfl, fun i hm => by
          rw [htk] at hm
          rcases List.mem_append.1 hm with hm | hm
          · exact hall i hm
          · rw [List.mem_singleton.1 hm]; exact hi⟩
        have HLN := Lib.hid hlen
        clear hE hi hx ho hb hlen hee hmem htk hall
        generalize encW (l.getD j insZ) = W at *
        generalize l.getD j insZ = ii at *
        generalize (l.take j).map encW = ws at *
        obtain ⟨op, rd, a, b, imm, csr, aq, rl⟩ := ii
        simp only [insC, List.getD_cons_zero, List.getD_cons_succ, Nat.add_zero] at x0 x1 x2 x3 x4 x5 x6 x7
        go_wp2_with (fail)
        (with_reducible refine (HEN.out _ (HE.out.below (HB.out.alloc HB.out.size _))).mono ?_)
        rintro e w2 ⟨rfl, hb2⟩
        have HB2 := Lib.hid ((HB.out.alloc HB.out.size (.cells #[.int .i64 op, .int .i64 rd, .int .i64 a, .int .i64 b, .int .i64 imm, .int .i64 csr, .bool aq, .bool rl] 23)).trans (hb2.mono (by have := HB.out.size; simp; omega)))
        have HO2 := Lib.hid (ownW_below (ownW_below HO.out ((Below.refl _ _).alloc (Nat.le_refl _) (.cells #[.int .i64 op, .int .i64 rd, .int .i64 a, .int .i64 b, .int .i64 imm, .int .i64 csr, .bool aq, .bool rl] 23))) hb2)
        obtain ⟨A3, C3, w3, hr3, ho3, hb3⟩ := pushW_new w w2 _ ws W j HLN.out HO2.out (by rw [HLN.out]; omega) HB2.out 37
        have HRUN := Lib.hid hr3; have HO3 := Lib.hid ho3; have HB3 := Lib.hid hb3
        clear hb2 x0 x1 x2 x3 x4 x5 x6 x7 hr3 ho3 hb3
        go_wp2_with (at_builtin; refine wpList_append_run rfl _ _ _ rfl (.slice A j C) (.slice (some ⟨w2.heap.size, 0, none⟩) 1 1) (.slice A3 (j + 1) C3) w3 rfl rfl HRUN.out ?_)
        go_roundw
        case rel => exact ⟨j + 1, by omega, by go_num, by rw [HT.out.1]; exact HO3.out, HT.out.2, HB3.out⟩
        case measure => simp [RowKit.intOf]; omega
    · obtain rfl : j = l.length := by omega
      have HO := Lib.hid ho
      have HB := Lib.hid hb
      have HAL : Hid (l.all rightB = true) := Lib.hid (by rw [List.all_eq_true]; intro i hi; exact hall i (by rw [List.take_length]; exact hi))
      clear ho hb hall hlen
      go_wp2
      go_ret2
      exact ⟨fun _ => ⟨_, rfl, by have := HO.out; rwa [List.take_length] at this, HB.out⟩, fun q => by rw [HAL.out] at q; cases q⟩

end Go.Proofs.YtakdhdaoklcidaaGreatDoor

namespace Go.Proofs.YtakdhdaoklcidaaGreatDoor
open Go.RowKit Go.Lib
set_option linter.unusedVariables false
set_option maxRecDepth 100000

def okB (b : UInt8) : Bool := isLow b || isDig b || b == 95
/-- Whether a text is a label's name. -/
def nameOK (l : Bs) : Bool := decide (1 ≤ l.length) && decide (l.length ≤ 32) && isLow (l.getD 0 0) && l.all okB
theorem isLowZ_nat (b : UInt8) : isLowZ (b.toNat : Int) = isLow b := by
  unfold isLowZ isLow
  rw [Bool.eq_iff_iff]
  simp [UInt8.le_iff_toNat_le]
  omega
theorem letterP (b : UInt8) (q : Bool) (hq : isLow b = q) (w : World) : Calls Tryz.prog 136 #[.int .u8 b.toNat] w fun e w' => e = .returned (.bool q) ∧ w = w' := by
  rw [← hq, ← isLowZ_nat]; exact isLetter_any _ w
theorem okB_of {b : UInt8} : okB b = true ↔ isLow b = true ∨ (48 ≤ b.toNat ∧ b.toNat ≤ 57) ∨ b.toNat = 95 := by
  unfold okB
  rw [Bool.or_eq_true, Bool.or_eq_true, dig_nat, beq_iff_eq, or_assoc]
  have : b = 95 ↔ b.toNat = 95 := ⟨fun h => by rw [h]; rfl, fun h => UInt8.toNat_inj.1 (by rw [h]; rfl)⟩
  rw [this]

theorem isName_a (l : Bs) (h : l.length < 1 ∨ 32 < l.length) (w : World) : Calls Tryz.prog 106 #[str l] w fun e w' => e = .returned (.bool false) ∧ w = w' := by
  rcases h with h | h
  · obtain rfl : l = [] := List.eq_nil_of_length_eq_zero (by omega)
    go_enter Tryz.func106, Tryz.ntmps106
    go_wp2
    go_ret
    exact ⟨rfl, rfl⟩
  · have h2 : ¬ (l.length < 1) := by omega
    go_enter Tryz.func106, Tryz.ntmps106
    go_wp2
    go_ret
    exact ⟨rfl, rfl⟩

theorem isName_b (x : UInt8) (r : Bs) (h32 : r.length ≤ 31) (hx : isLow x = false) (w : World) : Calls Tryz.prog 106 #[str (x :: r)] w fun e w' => e = .returned (.bool false) ∧ w = w' := by
  have HL := Lib.hid (letterP x false hx w)
  have hd1 : decide ((r.length : Int) + 1 < 1) = false := by simp; omega
  have hd2 : decide (32 < (r.length : Int) + 1) = false := by simp; omega
  clear hx
  go_enter Tryz.func106, Tryz.ntmps106
  go_wp2_with (fail)
  refine HL.out.mono ?_
  rintro e w1 ⟨rfl, rfl⟩
  go_wp2
  go_ret
  exact ⟨rfl, rfl⟩

set_option maxHeartbeats 2000000 in
theorem isName_c (x : UInt8) (r : Bs) (h32 : r.length ≤ 31) (hx : isLow x = true) (w : World) : Calls Tryz.prog 106 #[str (x :: r)] w fun e w' => e = .returned (.bool ((x :: r).all okB)) ∧ Below w.heap.size w w' := by
  have HL := Lib.hid (letterP x true hx w)
  have hd1 : decide ((r.length : Int) + 1 < 1) = false := by simp; omega
  have hd2 : decide (32 < (r.length : Int) + 1) = false := by simp; omega
  have hconv := Lib.run_convert_string_bytes (P := Tryz.prog) w 9 48 5 ⟨(x :: r).toArray⟩ Tryz.underlying9 Tryz.underlying48 Tryz.underlying5
  have hsz : (⟨(x :: r).toArray⟩ : ByteArray).size = r.length + 1 := by show (x :: r).toArray.size = _; simp
  have HCL := Lib.hid (fun j (hj : j < r.length + 1) => Lib.bytesWorld_cell w 5 ⟨(x :: r).toArray⟩ j (by rw [hsz]; exact hj))
  have HBW := Lib.hid (Lib.bytesWorld_below w 5 ⟨(x :: r).toArray⟩)
  rw [hsz] at hconv
  have HCV := Lib.hid hconv
  clear hconv hsz hx
  generalize Lib.bytesWorld w 5 ⟨(x :: r).toArray⟩ = W at *
  generalize grownCap w (r.length + 1) 0 5 = cp at *
  go_enter Tryz.func106, Tryz.ntmps106
  go_wp2_with (fail)
  refine HL.out.mono ?_
  rintro e w1 ⟨rfl, rfl⟩
  have hcv := HCV.out
  go_wp2_with (fail)
  clear hcv
  go_loop [22] (fun k => ∃ j : Nat, j ≤ r.length + 1 ∧ k = .int .i64 j ∧ ∀ b ∈ (x :: r).take j, okB b = true) (fun k => r.length + 1 - (RowKit.intOf k).toNat)
  case atStart => exact ⟨0, Nat.zero_le _, rfl, by simp⟩
  case round =>
    obtain ⟨j, hj, rfl, hall⟩ := hrel
    by_cases hlt : j < r.length + 1
    · have hcell := HCL.out j hlt
      have hmem : (x :: r).getD j 0 ∈ x :: r := by rw [List.getD_eq_getElem?_getD, List.getElem?_eq_getElem (by simpa using hlt)]; exact List.getElem_mem _
      have htk : (x :: r).take (j + 1) = (x :: r).take j ++ [(x :: r).getD j 0] := by rw [List.take_succ_eq_append_getElem (by simpa using hlt), List.getD_eq_getElem?_getD, List.getElem?_eq_getElem (by simpa using hlt)]; rfl
      have HNO : Hid (okB ((x :: r).getD j 0) = false → (x :: r).all okB = false) := Lib.hid fun h => by
        cases q : (x :: r).all okB
        · rfl
        · have := List.all_eq_true.1 q _ hmem; rw [h] at this; cases this
      have HYE : Hid (okB ((x :: r).getD j 0) = true → ∀ b ∈ (x :: r).take (j + 1), okB b = true) := Lib.hid fun h b hb => by
        rw [htk] at hb
        rcases List.mem_append.1 hb with hb | hb
        · exact hall b hb
        · rw [List.mem_singleton.1 hb]; exact h
      have hcell' : W.cell? ⟨w.heap.size, j, none⟩ = some (.int .u8 ((x :: r).getD j 0).toNat) := hcell
      have hiff := okB_of (b := (x :: r).getD j 0)
      clear hcell hmem htk hall
      generalize (x :: r).getD j 0 = c at *
      have hc0 : c.toNat < 256 := c.toNat_lt
      cases hlo : isLow c with
      | true =>
        have HOK : Hid (okB c = true) := Lib.hid (hiff.2 (.inl hlo))
        have HL2 := Lib.hid (fun w => letterP c true hlo w)
        clear hiff hlo
        go_wp2_with (go_at_call 136; (with_reducible refine (HL2.out _).mono ?_); rintro e w1 ⟨rfl, rfl⟩)
        go_round
        case rel => exact ⟨j + 1, by omega, by go_num, HYE.out HOK.out⟩
        case measure => simp [RowKit.intOf]; omega
      | false =>
        have HL2 := Lib.hid (fun w => letterP c false hlo w)
        by_cases h48 : c.toNat < 48
        · have HOK : Hid (okB c = false) := Lib.hid (by
            cases q : okB c
            · rfl
            · rcases hiff.1 q with h | h | h
              · rw [hlo] at h; cases h
              · omega
              · omega)
          have hb1 : decide ((c.toNat : Int) < 48) = true := decide_eq_true (by omega)
          have hb2 : ((c.toNat : Int) != 95) = true := by simp; omega
          clear hiff hlo
          go_wp2_with (go_at_call 136; (with_reducible refine (HL2.out _).mono ?_); rintro e w1 ⟨rfl, rfl⟩)
          go_ret
          exact ⟨congrArg (fun q => Ending.returned (.bool q)) (HNO.out HOK.out).symm, HBW.out⟩
        · have hb1 : decide ((c.toNat : Int) < 48) = false := by simp; omega
          by_cases h57 : 57 < c.toNat
          · have hb3 : decide (57 < (c.toNat : Int)) = true := by simp; omega
            by_cases h95 : c.toNat = 95
            · have HOK : Hid (okB c = true) := Lib.hid (hiff.2 (.inr (.inr h95)))
              have hb2 : ((c.toNat : Int) != 95) = false := by simp; omega
              clear hiff hlo h95
              go_wp2_with (go_at_call 136; (with_reducible refine (HL2.out _).mono ?_); rintro e w1 ⟨rfl, rfl⟩)
              go_round
              case rel => exact ⟨j + 1, by omega, by go_num, HYE.out HOK.out⟩
              case measure => simp [RowKit.intOf]; omega
            · have HOK : Hid (okB c = false) := Lib.hid (by
                cases q : okB c
                · rfl
                · rcases hiff.1 q with h | h | h
                  · rw [hlo] at h; cases h
                  · omega
                  · omega)
              have hb2 : ((c.toNat : Int) != 95) = true := by simp; omega
              clear hiff hlo h95
              go_wp2_with (go_at_call 136; (with_reducible refine (HL2.out _).mono ?_); rintro e w1 ⟨rfl, rfl⟩)
              go_ret
              exact ⟨congrArg (fun q => Ending.returned (.bool q)) (HNO.out HOK.out).symm, HBW.out⟩
          · have HOK : Hid (okB c = true) := Lib.hid (hiff.2 (.inr (.inl (by omega))))
            have hb3 : decide (57 < (c.toNat : Int)) = false := by simp; omega
            clear hiff hlo
            go_wp2_with (go_at_call 136; (with_reducible refine (HL2.out _).mono ?_); rintro e w1 ⟨rfl, rfl⟩)
            go_round
            case rel => exact ⟨j + 1, by omega, by go_num, HYE.out HOK.out⟩
            case measure => simp [RowKit.intOf]; omega
    · have HAL : Hid ((x :: r).all okB = true) := Lib.hid (by
        rw [List.all_eq_true]; intro b hb
        exact hall b (by rw [List.take_of_length_le (by simp; omega)]; exact hb))
      clear hall
      go_wp2
      go_ret
      exact ⟨congrArg (fun q => Ending.returned (.bool q)) HAL.out.symm, HBW.out⟩

theorem isNameP (l : Bs) (w : World) : Calls Tryz.prog 106 #[str l] w fun e w' => e = .returned (.bool (nameOK l)) ∧ Below w.heap.size w w' := by
  by_cases h1 : l.length < 1 ∨ 32 < l.length
  · have : nameOK l = false := by
      unfold nameOK
      rcases h1 with h | h
      · rw [decide_eq_false (by omega)]; rfl
      · rw [decide_eq_false (show ¬ l.length ≤ 32 by omega)]; simp
    rw [this]
    exact (isName_a l h1 w).mono fun e w' ⟨a, b⟩ => ⟨a, b ▸ Below.refl _ _⟩
  · cases l with
    | nil => simp at h1
    | cons x r =>
      simp only [List.length_cons] at h1
      have e : nameOK (x :: r) = (isLow x && (x :: r).all okB) := by
        unfold nameOK
        rw [decide_eq_true (by simp), decide_eq_true (show (x :: r).length ≤ 32 by simp; omega)]; simp
      rw [e]
      cases hx : isLow x
      · exact (isName_b x r (by omega) hx w).mono fun e w' ⟨a, b⟩ => ⟨a, b ▸ Below.refl _ _⟩
      · rw [Bool.true_and]; exact isName_c x r (by omega) hx w

end Go.Proofs.YtakdhdaoklcidaaGreatDoor

namespace Go.Proofs.YtakdhdaoklcidaaGreatDoor
open Go.RowKit Go.Lib
set_option linter.unusedVariables false
set_option maxRecDepth 100000

theorem insCs_at : ∀ (l : List Ins) (k j : Nat), k < l.length → j < 8 → (insCs l)[k * 8 + j]? = some ((insC (l.getD k insZ)).getD j undef)
  | [], k, j, hk, hj => by simp at hk
  | i :: l, 0, j, hk, hj => by
    have e : insCs (i :: l) = insC i ++ insCs l := by simp [insCs]
    rw [e, Nat.zero_mul, Nat.zero_add, List.getElem?_append_left (by simpa [insC] using hj)]
    simp only [List.getD_cons_zero]
    rw [List.getD_eq_getElem?_getD, List.getElem?_eq_getElem (by simpa [insC] using hj)]; rfl
  | i :: l, k + 1, j, hk, hj => by
    have e : insCs (i :: l) = insC i ++ insCs l := by simp [insCs]
    have h8 : (insC i).length = 8 := rfl
    rw [e, List.getElem?_append_right (by rw [h8]; omega), h8, show (k + 1) * 8 + j - 8 = k * 8 + j by omega]
    simp only [List.getD_cons_succ]
    exact insCs_at l k j (by simpa using hk) hj
theorem insAt_row {w : World} {g : Nat} {l : List Ins} {t : TypeId} {fr : Nat × Nat} (h : w.heap[g]? = some (.cells (insCs l).toArray t fr)) : InsAt w g l := fun k hk j hj => by
  rw [Lib.cell_of_heap h]
  simpa using insCs_at l k j hk hj
/-- What Parse tells. -/
def parseB (l : Bs) : Bool := rightB (guessP l) && (printT (guessP l) == l)
def parseI (l : Bs) : Ins := if parseB l then guessP l else insZ
def parseE (l : Bs) : Int := if parseB l then 0 else 100
theorem parseP (l : Bs) (hl : l.length ≤ 1000000) (w : World) (he : Env w) : Calls Tryz.prog 13 #[str l] w fun e w' => e = .returned (.tuple #[insV (parseI l), .int .i64 (parseE l)]) ∧ Below w.heap.size w w' :=
  parse_gen l hl (guessP l) rfl (parseI l) (parseE l) (parseB l) rfl rfl rfl w he
def auipcI (rd n : Int) : Ins := ⟨2, rd, 0, 0, n, 0, false, false⟩
def AimEnd (w : World) (o : Option (List Int)) (e : Ending) (w' : World) : Prop :=
  match o with
  | some ws => EncEnd w ws e w'
  | none => EncNo w e w'
/-- The instructions of la. -/
def laL (rd far : Int) : List Ins := [auipcI rd (far - lowZ far), addI rd rd (lowZ far)]
def laW (rd far : Int) : Option (List Int) :=
  if far < -2147483648 ∨ 2147481599 < far then none else if (laL rd far).all rightB then some ((laL rd far).map encW) else none
theorem encEnd_mono {w0 w w' : World} {ws : List Int} {e : Ending} (h : EncEnd w ws e w') (hb : Below w0.heap.size w0 w) : EncEnd w0 ws e w' := by
  obtain ⟨v, he, ho, hbw⟩ := h
  exact ⟨v, he, ownW_base ho hb.size, hb.trans (hbw.mono hb.size)⟩
theorem encNo_mono {w0 w w' : World} {e : Ending} (h : EncNo w e w') (hb : Below w0.heap.size w0 w) : EncNo w0 e w' := ⟨h.1, hb.trans (h.2.mono hb.size)⟩

theorem la_out (rd far : Int) (b : Nat) (h : far < -2147483648 ∨ 2147481599 < far) (w : World) : Calls Tryz.prog 157 #[.int .i64 far, .pointer (some ⟨b, 0, none⟩)] w (AimEnd w none) := by
  rcases h with h | h
  · go_enter Tryz.func157, Tryz.ntmps157
    go_wp2
    go_ret2
    exact ⟨rfl, Below.refl _ _⟩
  · have h2 : ¬ far < -2147483648 := by omega
    go_enter Tryz.func157, Tryz.ntmps157
    go_wp2
    go_ret2
    exact ⟨rfl, Below.refl _ _⟩

set_option maxHeartbeats 1000000 in
theorem la_in (rd far : Int) (b : Nat) (h1 : -2147483648 ≤ far) (h2 : far ≤ 2147481599) (w : World) (he : Env w) (hc : w.cell? ⟨b, 0, none⟩ = some (.int .i64 rd)) : Calls Tryz.prog 157 #[.int .i64 far, .pointer (some ⟨b, 0, none⟩)] w (AimEnd w (laW rd far)) := by
  have HL := Lib.hid (fun w => lowPart_any far (by omega) (by omega) w)
  obtain ⟨l0, l1⟩ := lowZ_bd far
  have hlw : laW rd far = if (laL rd far).all rightB then some ((laL rd far).map encW) else none := by unfold laW; rw [if_neg (by omega)]
  have hEN : ∀ w g cap, Env w → InsAt w g (laL rd far) → Calls Tryz.prog 139 #[.slice (some ⟨g, 0, none⟩) 2 cap] w (EncQ w (laL rd far)) := fun w g cap he hi => encode_gen (laL rd far) g cap w he (by simp [laL]) hi
  have hLL : laL rd far = [auipcI rd (far - lowZ far), addI rd rd (lowZ far)] := rfl
  have HEN := Lib.hid hEN
  have HLW := Lib.hid hlw
  have HLL := Lib.hid hLL
  have HE := Lib.hid he
  clear hEN hlw he hLL
  generalize laL rd far = L at *
  generalize lowZ far = lo at *
  go_enter Tryz.func157, Tryz.ntmps157
  go_wp2_with (fail)
  (with_reducible refine (HL.out _).mono ?_)
  rintro e wu ⟨rfl, rfl⟩
  go_wp2_with (fail)
  have HLI : Hid (L = [auipcI rd (far - lo), addI rd rd lo]) := HLL
  have hrow : InsAt (w.alloc (.cells #[.int .i64 2, .int .i64 rd, .int .i64 0, .int .i64 0, .int .i64 (far - lo), .int .i64 0, .bool false, .bool false, .int .i64 22, .int .i64 rd, .int .i64 rd, .int .i64 0, .int .i64 lo, .int .i64 0, .bool false, .bool false] 23)) w.heap.size L := by
    rw [HLI.out]
    exact insAt_row (l := [auipcI rd (far - lo), addI rd rd lo]) (heap_alloc_new _ _)
  have hbw : Below w.heap.size w (w.alloc (.cells #[.int .i64 2, .int .i64 rd, .int .i64 0, .int .i64 0, .int .i64 (far - lo), .int .i64 0, .bool false, .bool false, .int .i64 22, .int .i64 rd, .int .i64 rd, .int .i64 0, .int .i64 lo, .int .i64 0, .bool false, .bool false] 23)) := (Below.refl _ _).alloc (Nat.le_refl _) _
  (with_reducible refine (HEN.out _ _ _ (HE.out.below hbw) hrow).mono ?_)
  rintro e w1 hq
  have HBW := Lib.hid hbw
  clear hrow hbw
  cases hall : L.all rightB with
  | true =>
    obtain ⟨v, rfl, ho, hb⟩ := hq.1 hall
    have HR : Hid (laW rd far = some (L.map encW)) := Lib.hid (by rw [HLW.out, hall]; rfl)
    clear hq
    generalize L.map encW = ws at *
    obtain ⟨A, C, rfl⟩ := ownW_slice ho
    have HO := Lib.hid ho
    have HB := Lib.hid hb
    clear ho hb hall HLW
    go_wp2
    go_ret2
    show AimEnd w (laW rd far) _ _
    rw [HR.out]
    exact (fun e (h : EncEnd _ ws e w1) => encEnd_mono h HBW.out) _ ⟨_, rfl, HO.out, HB.out⟩
  | false =>
    obtain ⟨rfl, hb⟩ := hq.2 hall
    have HR : Hid (laW rd far = none) := Lib.hid (by rw [HLW.out, hall]; rfl)
    have HQ := Lib.hid hb
    clear hq hall HLW hb
    go_wp2
    go_ret2
    show AimEnd w (laW rd far) _ _
    rw [HR.out]
    exact encNo_mono ⟨rfl, HQ.out⟩ HBW.out

/-- How far a jump goes, put into it. -/
def withImm (i : Ins) (n : Int) : Ins := ⟨i.op, i.rd, i.a, i.b, n, i.csr, i.aq, i.rl⟩
/-- A block that holds an instruction, its number aside. -/
def HoldsI (w : World) (b : Nat) (i : Ins) : Prop := ∃ m, w.heap[b]? = some (.cells (insC (withImm i m)).toArray 23 (0, 0))
def JumpEnd (w : World) (b : Nat) (i : Ins) (far : Int) (e : Ending) (w' : World) : Prop :=
  (rightB (withImm i far) = true → ∃ v, e = .returned (.tuple #[v, .bool true]) ∧ OwnW w' w.heap.size v [encW (withImm i far)]) ∧
  (rightB (withImm i far) = false → e = .returned (.tuple #[.slice none 0 0, .bool false])) ∧ HoldsI w' b i ∧ Only (fun k => k = b) w w'

set_option maxHeartbeats 1000000 in
theorem jump_any (i : Ins) (far : Int) (b : Nat) (w : World) (he : ∀ w', Only (fun k => k = b) w w' → Env w') (hc : HoldsI w b i) : Calls Tryz.prog 159 #[.int .i64 far, .pointer (some ⟨b, 0, none⟩)] w (JumpEnd w b i far) := by
  obtain ⟨m, hm⟩ := hc
  have hEN : ∀ w g cap, Env w → InsAt w g [withImm i far] → Calls Tryz.prog 139 #[.slice (some ⟨g, 0, none⟩) 1 cap] w (EncQ w [withImm i far]) := fun w g cap he hi => encode_gen [withImm i far] g cap w he (by simp) hi
  have HEN := Lib.hid hEN
  have HE := Lib.hid he
  have hc4 : w.cell? ⟨b, 4, none⟩ = some (.int .i64 m) := by rw [Lib.cell_of_heap hm]; rfl
  have hf4 : w.frozen? ⟨b, 4, none⟩ = false := Lib.frozen_of_heap hm 4
  have hrow2 : (w.setCell ⟨b, 4, none⟩ (.int .i64 far)).heap[b]? = some (.cells #[.int .i64 i.op, .int .i64 i.rd, .int .i64 i.a, .int .i64 i.b, .int .i64 far, .int .i64 i.csr, .bool i.aq, .bool i.rl] 23 (0, 0)) := by
    have := setCell_row hm 4 (.int .i64 far)
    rw [this]; rfl
  have HR2 := Lib.hid hrow2
  have HO2 : Hid (Only (fun k => k = b) w (w.setCell ⟨b, 4, none⟩ (.int .i64 far))) := Lib.hid ((Only.refl (fun k => k = b) w).setCell (p := ⟨b, 4, none⟩) (.inl rfl) _)
  clear hEN he hrow2 hm
  go_enter Tryz.func159, Tryz.ntmps159
  generalize hw2 : w.setCell ⟨b, 4, none⟩ (.int .i64 far) = w2 at *
  go_wp2_with (refine wpList_load_row rfl _ _ rfl b rfl 23 _ _ _ HR2.out Tryz.underlying23 rfl size_ins ?_)
  have hrow : InsAt (w2.alloc (.cells #[.int .i64 i.op, .int .i64 i.rd, .int .i64 i.a, .int .i64 i.b, .int .i64 far, .int .i64 i.csr, .bool i.aq, .bool i.rl] 23)) w2.heap.size [withImm i far] := insAt_row (l := [withImm i far]) (heap_alloc_new _ _)
  have hbw : Below w2.heap.size w2 (w2.alloc (.cells #[.int .i64 i.op, .int .i64 i.rd, .int .i64 i.a, .int .i64 i.b, .int .i64 far, .int .i64 i.csr, .bool i.aq, .bool i.rl] 23)) := (Below.refl _ _).alloc (Nat.le_refl _) _
  have hsz : w.heap.size ≤ w2.heap.size := HO2.out.size
  (with_reducible refine (HEN.out _ _ _ (HE.out _ (HO2.out.thenBelow hbw)) hrow).mono ?_)
  rintro e w3 hq
  have HBW := Lib.hid hbw
  have HSZ := Lib.hid hsz
  clear hrow hbw hsz
  cases hall : rightB (withImm i far) with
  | true =>
    obtain ⟨v, rfl, ho, hb⟩ := hq.1 (by simp [hall])
    obtain ⟨A, C, rfl⟩ := ownW_slice ho
    have HOW := Lib.hid ho; have HB := Lib.hid hb
    have HALL := Lib.hid hall
    clear hq ho hb hall
    go_wp2
    go_ret2
    exact ⟨fun _ => ⟨_, rfl, ownW_base HOW.out (Nat.le_trans HSZ.out HBW.out.size)⟩, (fun q => by rw [HALL.out] at q; cases q), ⟨far, (HB.out.block _ (Nat.lt_of_lt_of_le (Array.getElem?_eq_some_iff.1 HR2.out).1 HBW.out.size)).trans ((HBW.out.block _ (Array.getElem?_eq_some_iff.1 HR2.out).1).trans HR2.out)⟩, (HO2.out.thenBelow HBW.out).thenBelow HB.out⟩
  | false =>
    obtain ⟨rfl, hb⟩ := hq.2 (by simp [hall])
    have HB := Lib.hid hb
    have HALL := Lib.hid hall
    clear hq hb hall
    go_wp2
    go_ret2
    exact ⟨(fun q => by rw [HALL.out] at q; cases q), fun _ => rfl, ⟨far, (HB.out.block _ (Nat.lt_of_lt_of_le (Array.getElem?_eq_some_iff.1 HR2.out).1 HBW.out.size)).trans ((HBW.out.block _ (Array.getElem?_eq_some_iff.1 HR2.out).1).trans HR2.out)⟩, (HO2.out.thenBelow HBW.out).thenBelow HB.out⟩

/-- The program's write of one operand, and of two. -/
theorem write1 (name o : Bs) (h1 : name.length ≤ 100) (h2 : o.length ≤ 1000) (ho : o ≠ []) (w : World) (g cap : Nat) (hc : w.cell? ⟨g, 0, none⟩ = some (str o)) : Calls Tryz.prog 24 #[str name, .slice (some ⟨g, 0, none⟩) 1 cap] w fun e w' => e = .returned (str (lineT name [o])) ∧ Below w.heap.size w w' := by
  have h := writeL name [o] g cap w (by simp) (by simp; omega) (fun k hk => by
    have : k = 0 := by simpa using hk
    subst this; exact hc)
  have e : someT [o] = [o] := by unfold someT; cases o with | nil => exact absurd rfl ho | cons a b => rfl
  rw [e] at h; exact h
theorem write2 (name o p : Bs) (h1 : name.length ≤ 100) (h2 : o.length ≤ 1000) (h3 : p.length ≤ 1000) (ho : o ≠ []) (hp : p ≠ []) (w : World) (g cap : Nat) (hc : w.cell? ⟨g, 0, none⟩ = some (str o)) (hc2 : w.cell? ⟨g, 1, none⟩ = some (str p)) : Calls Tryz.prog 24 #[str name, .slice (some ⟨g, 0, none⟩) 2 cap] w fun e w' => e = .returned (str (lineT name [o, p])) ∧ Below w.heap.size w w' := by
  have h := writeL name [o, p] g cap w (by simp) (by simp; omega) (fun k hk => by
    have : k = 0 ∨ k = 1 := by simp at hk; omega
    rcases this with rfl | rfl
    · exact hc
    · exact hc2)
  have e : someT [o, p] = [o, p] := by
    unfold someT
    cases o with
    | nil => exact absurd rfl ho
    | cons a b => cases p with
      | nil => exact absurd rfl hp
      | cons c d => rfl
  rw [e] at h; exact h
/-- What stands ahead of a label that la names: the register, if that is la's line. -/
def laRd (head : Bs) : Int := regP (cut (cut head [32]).2.1 sepC).1
def laB (head : Bs) : Bool := ((cut head [32]).1 == [108, 97]) && (lineT [108, 97] [xr (laRd head)] == head)
def LaEnd (w : World) (q : Bool) (rd : Int) (e : Ending) (w' : World) : Prop :=
  (q = true → ∃ b, e = .returned (.tuple #[.func (.func 157) #[] #[.pointer (some ⟨b, 0, none⟩)], .bool true]) ∧ w.heap.size ≤ b ∧ w'.heap[b]? = some (.cells #[.int .i64 rd] 3 (0, 0))) ∧
  (q = false → e = .returned (.tuple #[.nilFunc, .bool false])) ∧ Below w.heap.size w w'

set_option maxHeartbeats 1000000 in
theorem aimOfLa_any (head : Bs) (hl : head.length ≤ 1000000) (w : World) (he : Env w) : Calls Tryz.prog 137 #[str head] w (LaEnd w (laB head) (laRd head)) := by
  have hCUT : ∀ w, Env w → Calls Tryz.prog 34 #[str head, .string ⟨#[32]⟩] w fun e w' => e = .returned (.tuple #[str (cut head [32]).1, str (cut head [32]).2.1, .bool (cut head [32]).2.2]) ∧ Below w.heap.size w w' := fun w he => cutP head [32] w hl he
  have hcl := cut_len head [32]
  have hR0 : (cut head [32]).2.1.length ≤ 1000000 := by omega
  have hRD := fun w => reader_any (cut head [32]).2.1 w
  have hrd : laRd head = regP (cut (cut head [32]).2.1 sepC).1 := rfl
  have hin := numP_in (trimPrefix (cut (cut head [32]).2.1 sepC).1 [120])
  have hin2 : -9223372036854775808 ≤ laRd head ∧ laRd head ≤ 9223372036854775807 := hin
  have HCUT := Lib.hid hCUT
  have HRD := Lib.hid hRD
  have HE := Lib.hid he
  have HB0 : Hid (laB head = (((cut head [32]).1 == [108, 97]) && (lineT [108, 97] [xr (laRd head)] == head))) := Lib.hid rfl
  have HRG := Lib.hid hrd
  have HR0 := Lib.hid hR0
  clear hCUT hRD he hcl hin hrd hR0 hl
  generalize laB head = q at *
  generalize laRd head = rd at *
  generalize (cut head [32]).2.1 = r0 at *
  generalize (cut head [32]).2.2 = qq at *
  generalize (cut head [32]).1 = n0 at *
  go_enter Tryz.func137, Tryz.ntmps137
  go_wp2_with (fail)
  (with_reducible refine (HCUT.out _ HE.out).mono ?_)
  rintro e w1 ⟨rfl, hb1⟩
  have HB1 := Lib.hid hb1
  clear hb1
  go_wp2_with (fail)
  (with_reducible refine (HRD.out _).mono ?_)
  rintro e w2 ⟨rfl, h1, h2, h3, h4⟩
  have HB2 := Lib.hid (HB1.out.trans (h4.mono HB1.out.size))
  have HBX := Lib.hid h1
  have hn : w2.cell? ⟨w1.heap.size + 1, 0, none⟩ = some (nextV w1.heap.size) := by rw [Lib.cell_of_heap h2]; rfl
  have HN := Lib.hid hn
  clear h1 h2 h3 h4 hn
  go_wp2_with (fail)
  (with_reducible refine (reg_any (w1.heap.size + 1) w1.heap.size r0 w2 (fun w' ho => HE.out.below (Below.thenOnly HB2.out ho (by intro k hk; have := HB1.out.size; omega) HB2.out.size)) HR0.out HN.out HBX.out).mono ?_)
  rintro e w3 ⟨rfl, _, ho3⟩
  rw [← HRG.out]
  have HB3 := Lib.hid (Below.thenOnly HB2.out ho3 (by intro k hk; have := HB1.out.size; omega) HB2.out.size)
  clear ho3
  have HIN := Lib.hid hin2
  clear hin2
  by_cases hq : n0 = [108, 97]
  · subst hq
    go_wp2_with (fail)
    have hb4 := HB3.out.alloc HB3.out.size (.cells #[.int .i64 rd] 3)
    (with_reducible refine (registerText_any rd HIN.out.1 HIN.out.2 _ (HE.out.below hb4)).mono ?_)
    rintro e w5 ⟨rfl, hb5⟩
    have HC5 : Hid (w5.heap[w3.heap.size]? = some (.cells #[.int .i64 rd] 3 (0, 0))) := Lib.hid ((hb5.block _ (by simp)).trans (heap_alloc_new _ _))
    have HB5 := Lib.hid (hb4.trans (hb5.mono hb4.size))
    have HZ5 : Hid (w3.heap.size < w5.heap.size ∧ w.heap.size ≤ w3.heap.size) := Lib.hid ⟨by have := hb5.size; simp at this; omega, HB3.out.size⟩
    have HWR := Lib.hid (fun w g cap hc => write1 [108, 97] (xr rd) (by decide) (by have := itoa_length_le rd HIN.out.1 HIN.out.2; simp only [xr, List.length_cons]; omega) (by simp [xr]) w g cap hc)
    clear hb4 hb5
    generalize xr rd = xo at *
    have HC0 : Hid ((w5.alloc (.cells #[str xo] 9)).cell? ⟨w5.heap.size, 0, none⟩ = some (str xo)) := Lib.hid (by rw [World.cell?_alloc_at _ _ _ _ (by simp)]; rfl)
    go_wp2_with (fail)
    (with_reducible refine (HWR.out _ _ _ HC0.out).mono ?_)
    rintro e w6 ⟨rfl, hb6⟩
    have HC6 : Hid (w6.heap[w3.heap.size]? = some (.cells #[.int .i64 rd] 3 (0, 0))) := Lib.hid ((hb6.block _ (by have := HZ5.out; simp; omega)).trans ((Lib.alloc_old _ _ _ HZ5.out.1).trans HC5.out))
    have HB6 := Lib.hid ((HB5.out.alloc HB5.out.size (.cells #[str xo] 9)).trans (hb6.mono (by have := HB5.out.size; simp; omega)))
    clear hb6
    by_cases hp : lineT [108, 97] [xo] = head
    · have HQ : Hid (q = true) := Lib.hid (by rw [HB0.out, hp]; simp)
      rw [hp]
      clear HB0 hp HWR
      go_wp2
      go_ret2
      exact ⟨fun _ => ⟨w3.heap.size, rfl, HZ5.out.2, HC6.out⟩, (fun h => by rw [HQ.out] at h; cases h), HB6.out⟩
    · have HQ : Hid (q = false) := Lib.hid (by rw [HB0.out, beq_eq_false_iff_ne.2 hp, Bool.and_false])
      have hpq : (lineT [108, 97] [xo] == head) = false := beq_eq_false_iff_ne.2 hp
      clear HB0 hp HWR
      generalize lineT [108, 97] [xo] = tx at *
      go_wp2
      go_ret2
      exact ⟨(fun h => by rw [HQ.out] at h; cases h), fun _ => rfl, HB6.out⟩
  · have HQ : Hid (q = false) := Lib.hid (by rw [HB0.out, beq_eq_false_iff_ne.2 hq, Bool.false_and])
    have hnq : (n0 == [108, 97]) = false := beq_eq_false_iff_ne.2 hq
    clear HB0 hq
    go_wp2
    go_ret2
    exact ⟨(fun h => by rw [HQ.out] at h; cases h), fun _ => rfl, HB3.out.alloc HB3.out.size _⟩

/-- What stands ahead of a label that a jump names: the instruction with a nought in the label's place. -/
def jumpI (head : Bs) : Ins := parseI (head ++ [44, 32, 48])
def jumpB (head : Bs) : Bool := parseB (head ++ [44, 32, 48]) && jumpsZ (jumpI head).op
def JaEnd (w : World) (q : Bool) (i : Ins) (e : Ending) (w' : World) : Prop :=
  (q = true → ∃ b, e = .returned (.tuple #[.func (.func 159) #[] #[.pointer (some ⟨b, 0, none⟩)], .bool true]) ∧ w.heap.size ≤ b ∧ HoldsI w' b i) ∧
  (q = false → e = .returned (.tuple #[.nilFunc, .bool false])) ∧ Below w.heap.size w w'

end Go.Proofs.YtakdhdaoklcidaaGreatDoor

namespace Go.Proofs.YtakdhdaoklcidaaGreatDoor
open Go.RowKit Go.Lib
set_option linter.unusedVariables false
set_option maxRecDepth 100000

set_option maxHeartbeats 1000000 in
theorem aimOfJump_any (head : Bs) (hl : head.length ≤ 100000) (w : World) (he : Env w) : Calls Tryz.prog 138 #[str head] w (JaEnd w (jumpB head) (jumpI head)) := by
  have hN : Calls Tryz.prog 29 #[.int .i64 0] w fun e w' => e = .returned (str [48]) ∧ Below w.heap.size w w' := by
    have h := numberText_any 0 (by decide) (by decide) w he
    rw [show itoa 0 = [48] by decide +kernel] at h; exact h
  have hP : ∀ w, Env w → Calls Tryz.prog 13 #[.string (((⟨head.toArray⟩ : ByteArray) ++ ⟨#[44, 32]⟩) ++ ⟨[48].toArray⟩)] w fun e w' => e = .returned (.tuple #[insV (jumpI head), .int .i64 (parseE (head ++ [44, 32, 48]))]) ∧ Below w.heap.size w w' := fun w he => by
    have h := parseP (head ++ [44, 32, 48]) (by simp; omega) w he
    have e : (((⟨head.toArray⟩ : ByteArray) ++ ⟨#[44, 32]⟩) ++ ⟨[48].toArray⟩) = ⟨(head ++ [44, 32, 48]).toArray⟩ := by
      have e1 := str_cat head [44, 32]
      have e2 := str_cat (head ++ [44, 32]) [48]
      injection e1 with e1
      injection e2 with e2
      rw [show (⟨#[44, 32]⟩ : ByteArray) = ⟨[44, 32].toArray⟩ from rfl, e1, e2]
      simp
    rw [e]; exact h
  have hq : jumpB head = (parseB (head ++ [44, 32, 48]) && jumpsZ (jumpI head).op) := rfl
  have hee : parseE (head ++ [44, 32, 48]) = if parseB (head ++ [44, 32, 48]) then 0 else 100 := rfl
  rw [hee] at hP
  rw [hq]
  clear hq hee
  have HN := Lib.hid hN
  have HE := Lib.hid he
  clear hN he
  generalize parseB (head ++ [44, 32, 48]) = pb at *
  generalize jumpI head = I at *
  cases pb with
  | false =>
    have hP2 : ∀ w, Env w → Calls Tryz.prog 13 #[.string (((⟨head.toArray⟩ : ByteArray) ++ ⟨#[44, 32]⟩) ++ ⟨[48].toArray⟩)] w fun e w' => e = .returned (.tuple #[insV I, .int .i64 100]) ∧ Below w.heap.size w w' := hP
    have HP := Lib.hid hP2
    clear hP hP2
    obtain ⟨op, rd, a, b, imm, csr, aq, rl⟩ := I
    go_enter Tryz.func138, Tryz.ntmps138
    go_wp2_with (fail)
    (with_reducible refine HN.out.mono ?_)
    rintro e w1 ⟨rfl, hb1⟩
    have HB1 := Lib.hid hb1
    clear hb1
    go_wp2_with (fail)
    (with_reducible refine (HP.out _ (HE.out.below HB1.out)).mono ?_)
    rintro e w2 ⟨rfl, hb2⟩
    have HB2 := Lib.hid (HB1.out.trans (hb2.mono HB1.out.size))
    clear hb2
    go_wp2
    go_ret2
    exact ⟨(fun h => by cases h), fun _ => rfl, HB2.out.alloc HB2.out.size _⟩
  | true =>
    have hP2 : ∀ w, Env w → Calls Tryz.prog 13 #[.string (((⟨head.toArray⟩ : ByteArray) ++ ⟨#[44, 32]⟩) ++ ⟨[48].toArray⟩)] w fun e w' => e = .returned (.tuple #[insV I, .int .i64 0]) ∧ Below w.heap.size w w' := hP
    have HP := Lib.hid hP2
    clear hP hP2
    rw [Bool.true_and]
    obtain ⟨op, rd, a, b, imm, csr, aq, rl⟩ := I
    have hj : ∀ w, Calls Tryz.prog 158 #[.int .i64 op] w fun e w' => e = .returned (.bool (jumpsZ op)) ∧ w = w' := fun w => by
      cases h : jumpsZ op
      · exact jumps_no op h w
      · exact jumps_yes op h w
    have HJ := Lib.hid hj
    clear hj
    show Calls _ _ _ _ (JaEnd w (jumpsZ op) _)
    generalize jumpsZ op = jz at *
    go_enter Tryz.func138, Tryz.ntmps138
    go_wp2_with (fail)
    (with_reducible refine HN.out.mono ?_)
    rintro e w1 ⟨rfl, hb1⟩
    have HB1 := Lib.hid hb1
    clear hb1
    go_wp2_with (fail)
    (with_reducible refine (HP.out _ (HE.out.below HB1.out)).mono ?_)
    rintro e w2 ⟨rfl, hb2⟩
    have HB2 := Lib.hid (HB1.out.trans (hb2.mono HB1.out.size))
    clear hb2
    cases jz
    · go_wp2_with (fail)
      (with_reducible refine (HJ.out _).mono ?_)
      rintro e wu ⟨rfl, rfl⟩
      go_wp2
      go_ret2
      exact ⟨(fun h => by cases h), fun _ => rfl, HB2.out.alloc HB2.out.size _⟩
    · go_wp2_with (fail)
      (with_reducible refine (HJ.out _).mono ?_)
      rintro e wu ⟨rfl, rfl⟩
      go_wp2
      go_ret2
      exact ⟨fun _ => ⟨w2.heap.size, rfl, HB2.out.size, imm, heap_alloc_new _ _⟩, (fun h => by cases h), HB2.out.alloc HB2.out.size _⟩

/-- What a line says. -/
inductive Stm
  | none
  | label (l : Bs)
  | words (ws : List Int)
  | la (rd : Int) (l : Bs)
  | jump (i : Ins) (l : Bs)
/-- What a line says that names a label. -/
def namingS (head name : Bs) : Option Stm :=
  if nameOK name then
    if laB head then (if (laL (laRd head) 0).all rightB then some (.la (laRd head) name) else none)
    else if jumpB head then (if rightB (withImm (jumpI head) 0) then some (.jump (jumpI head) name) else none)
    else none
  else none
/-- Words stand somewhere from block B on. -/
def WordsAt (w : World) (B : Nat) (v : Value) (ws : List Int) : Prop := OwnW w B v ws
/-- How a line stands in four cells. -/
def StmV (w : World) (B : Nat) (s : Stm) (c0 c1 c2 c3 : Value) : Prop :=
  match s with
  | .none => c0 = str [] ∧ c1 = .slice none 0 0 ∧ c2 = str [] ∧ c3 = .nilFunc
  | .label l => c0 = str l ∧ c1 = .slice none 0 0 ∧ c2 = str [] ∧ c3 = .nilFunc
  | .words ws => c0 = str [] ∧ OwnW w B c1 ws ∧ c2 = str [] ∧ c3 = .nilFunc
  | .la rd l => c0 = str [] ∧ (∃ ws, ws.length = 2 ∧ OwnW w B c1 ws) ∧ c2 = str l ∧ ∃ b, c3 = .func (.func 157) #[] #[.pointer (some ⟨b, 0, none⟩)] ∧ B ≤ b ∧ w.heap[b]? = some (.cells #[.int .i64 rd] 3 (0, 0))
  | .jump i l => c0 = str [] ∧ (∃ ws, ws.length = 1 ∧ OwnW w B c1 ws) ∧ c2 = str l ∧ ∃ b, c3 = .func (.func 159) #[] #[.pointer (some ⟨b, 0, none⟩)] ∧ B ≤ b ∧ HoldsI w b i
def StmVal (w : World) (B : Nat) (s : Stm) (v : Value) : Prop := ∃ c0 c1 c2 c3, v = .agg #[c0, c1, c2, c3] ∧ StmV w B s c0 c1 c2 c3
/-- Four cells, whatever they hold. -/
def Four (v : Value) : Prop := ∃ c0 c1 c2 c3, v = .agg #[c0, c1, c2, c3] ∧ c0.oneCell' = true ∧ c1.oneCell' = true ∧ c2.oneCell' = true ∧ c3.oneCell' = true
def NmEnd (w : World) (o : Option Stm) (e : Ending) (w' : World) : Prop :=
  (∀ s, o = some s → ∃ v, e = .returned (.tuple #[v, .bool true]) ∧ StmVal w' w.heap.size s v) ∧ (o = none → ∃ v, e = .returned (.tuple #[v, .bool false]) ∧ Four v) ∧ Below w.heap.size w w'
theorem stmV_four {w : World} {B : Nat} {s : Stm} {c0 c1 c2 c3 : Value} (h : StmV w B s c0 c1 c2 c3) : c0.oneCell' = true ∧ c1.oneCell' = true ∧ c2.oneCell' = true ∧ c3.oneCell' = true := by
  cases s with
  | none => obtain ⟨rfl, rfl, rfl, rfl⟩ := h; exact ⟨rfl, rfl, rfl, rfl⟩
  | label l => obtain ⟨rfl, rfl, rfl, rfl⟩ := h; exact ⟨rfl, rfl, rfl, rfl⟩
  | words ws =>
    obtain ⟨rfl, h1, rfl, rfl⟩ := h
    obtain ⟨A, C, rfl⟩ := ownW_slice h1
    exact ⟨rfl, rfl, rfl, rfl⟩
  | la rd l =>
    obtain ⟨rfl, ⟨ws, _, h1⟩, rfl, b, rfl, _⟩ := h
    obtain ⟨A, C, rfl⟩ := ownW_slice h1
    exact ⟨rfl, rfl, rfl, rfl⟩
  | jump i l =>
    obtain ⟨rfl, ⟨ws, _, h1⟩, rfl, b, rfl, _⟩ := h
    obtain ⟨A, C, rfl⟩ := ownW_slice h1
    exact ⟨rfl, rfl, rfl, rfl⟩

end Go.Proofs.YtakdhdaoklcidaaGreatDoor

namespace Go.Proofs.YtakdhdaoklcidaaGreatDoor
open Go.RowKit Go.Lib
set_option linter.unusedVariables false
set_option maxRecDepth 100000

theorem size_stm : (Tryz.prog.info? 129).map (·.size) = some 4 := by kernel_rfl
theorem laW_0 (rd : Int) : laW rd 0 = if (laL rd 0).all rightB then some ((laL rd 0).map encW) else none := by unfold laW; rw [if_neg (by decide)]
theorem stmV_row {w w' : World} {B g : Nat} {s : Stm} {c0 c1 c2 c3 : Value} (h : StmV w B s c0 c1 c2 c3) (hg : g < B) {S : Nat → Prop} (o : Only S w w') (hS : ∀ k, B ≤ k → k < w.heap.size → ¬ S k) : StmV w' B s c0 c1 c2 c3 := by
  cases s with
  | none => exact h
  | label l => exact h
  | words ws => exact ⟨h.1, ownW_keep h.2.1 o (fun k hk => hS k (ownW_lt h.2.1 k hk).1 (ownW_lt h.2.1 k hk).2), h.2.2⟩
  | la rd l =>
    obtain ⟨h0, ⟨ws, hl, h1⟩, h2, b, h3, h4, h5⟩ := h
    exact ⟨h0, ⟨ws, hl, ownW_keep h1 o (fun k hk => hS k (ownW_lt h1 k hk).1 (ownW_lt h1 k hk).2)⟩, h2, b, h3, h4, o.keeps (hS b h4 (Array.getElem?_eq_some_iff.1 h5).1) h5⟩
  | jump i l =>
    obtain ⟨h0, ⟨ws, hl, h1⟩, h2, b, h3, h4, m, h5⟩ := h
    exact ⟨h0, ⟨ws, hl, ownW_keep h1 o (fun k hk => hS k (ownW_lt h1 k hk).1 (ownW_lt h1 k hk).2)⟩, h2, b, h3, h4, m, o.keeps (hS b h4 (Array.getElem?_eq_some_iff.1 h5).1) h5⟩
theorem stmV_base {w : World} {B B' : Nat} {s : Stm} {c0 c1 c2 c3 : Value} (h : StmV w B s c0 c1 c2 c3) (hB : B' ≤ B) : StmV w B' s c0 c1 c2 c3 := by
  cases s with
  | none => exact h
  | label l => exact h
  | words ws => exact ⟨h.1, ownW_base h.2.1 hB, h.2.2⟩
  | la rd l =>
    obtain ⟨h0, ⟨ws, hl, h1⟩, h2, b, h3, h4, h5⟩ := h
    exact ⟨h0, ⟨ws, hl, ownW_base h1 hB⟩, h2, b, h3, by omega, h5⟩
  | jump i l =>
    obtain ⟨h0, ⟨ws, hl, h1⟩, h2, b, h3, h4, m, h5⟩ := h
    exact ⟨h0, ⟨ws, hl, ownW_base h1 hB⟩, h2, b, h3, by omega, m, h5⟩
theorem setRow_only (w : World) (g : Nat) (cs : Array Value) : Only (fun k => k = g) w (w.setRow g cs) := (Only.refl (fun k => k = g) w).setRow (.inl rfl) cs

set_option maxHeartbeats 4000000 in
theorem readNaming_any (head name : Bs) (hl : head.length ≤ 100000) (w : World) (he : Env w) : Calls Tryz.prog 107 #[str head, str name] w (NmEnd w (namingS head name)) := by
  have HNM := Lib.hid (fun w => isNameP name w)
  have HLA := Lib.hid (fun w he => aimOfLa_any head (by omega) w he)
  have HJA := Lib.hid (fun w he => aimOfJump_any head (by omega) w he)
  have hS : namingS head name = if nameOK name then
    if laB head then (if (laL (laRd head) 0).all rightB then some (.la (laRd head) name) else none)
    else if jumpB head then (if rightB (withImm (jumpI head) 0) then some (.jump (jumpI head) name) else none)
    else none
  else none := rfl
  have HS := Lib.hid hS
  have HE := Lib.hid he
  clear hS he hl
  generalize namingS head name = o at *
  generalize nameOK name = q1 at *
  generalize laB head = q2 at *
  generalize jumpB head = q3 at *
  generalize laRd head = rd at *
  generalize jumpI head = I at *
  go_enter Tryz.func107, Tryz.ntmps107
  go_wp2_with (fail)
  (with_reducible refine (HNM.out _).mono ?_)
  rintro e w1 ⟨rfl, hb1⟩
  have HR : Hid (w1.heap[w.heap.size]? = some (.cells #[.string ⟨#[]⟩, .slice none 0 0, .string ⟨#[]⟩, .nilFunc] 129 (0, 0))) := Lib.hid ((hb1.block _ (by simp)).trans (heap_alloc_new _ _))
  have HB1 := Lib.hid (((Below.refl _ _).alloc (Nat.le_refl _) (.cells #[.string ⟨#[]⟩, .slice none 0 0, .string ⟨#[]⟩, .nilFunc] 129)).trans (hb1.mono (by simp)))
  have HZ1 : Hid (w.heap.size < w1.heap.size) := Lib.hid (by have := hb1.size; simp at this; omega)
  clear hb1
  cases q1 with
  | false =>
    have hO : o = none := HS.out
    subst hO
    go_wp2_with (refine wpList_store_row rfl _ _ _ rfl w.heap.size _ rfl rfl 129 _ HR.out size_stm rfl (by simp [Value.oneCell']) ?_)
    exact bodyPost_ret (v := .tuple #[.agg #[.string ⟨#[]⟩, .slice none 0 0, .string ⟨#[]⟩, .nilFunc], .bool false]) (results_cell_tmp (show Tryz.f107.results = #[.cell 4 129, .tmp 5] by kernel_rfl) _ _ w.heap.size 129 _ _ _ rfl (setRow_heap _ _ _ _ _ _ HR.out) Tryz.underlying129 rfl size_stm) rfl ⟨(fun s h => by cases h), fun _ => ⟨_, rfl, _, _, _, _, rfl, rfl, rfl, rfl, rfl⟩, below_setRow HB1.out (Nat.le_refl _) _⟩
  | true =>
    go_wp2_with (fail)
    (with_reducible refine (HLA.out _ (HE.out.below HB1.out)).mono ?_)
    rintro e w2 ⟨hy, hno, hb2⟩
    have HR2 : Hid (w2.heap[w.heap.size]? = some (.cells #[.string ⟨#[]⟩, .slice none 0 0, .string ⟨#[]⟩, .nilFunc] 129 (0, 0))) := Lib.hid ((hb2.block _ HZ1.out).trans HR.out)
    have HB2 := Lib.hid (HB1.out.trans (hb2.mono HB1.out.size))
    have HZ2 : Hid (w.heap.size < w2.heap.size) := Lib.hid (by have := hb2.size; have := HZ1.out; omega)
    clear hb2
    cases q2 with
    | true =>
      obtain ⟨b, rfl, hbb, hcb⟩ := hy rfl
      have HCB := Lib.hid hcb
      have HBB : Hid (w.heap.size < b) := Lib.hid (by have := HZ1.out; omega)
      have hc0 : w2.cell? ⟨b, 0, none⟩ = some (.int .i64 rd) := by rw [Lib.cell_of_heap hcb]; rfl
      have HLI := Lib.hid (la_in rd 0 b (by decide) (by decide) w2 (HE.out.below HB2.out) hc0)
      clear hy hno hbb hcb hc0
      go_wp2_with (fail)
      (with_reducible refine HLI.out.mono ?_)
      rintro e w3 h3
      rw [laW_0] at h3
      have hO : o = if (laL rd 0).all rightB then some (.la rd name) else none := HS.out
      clear HS HLI
      have hL2 : ((laL rd 0).map encW).length = 2 := rfl
      generalize (laL rd 0).map encW = ws at *
      cases hall : (laL rd 0).all rightB with
      | true =>
        rw [hall, if_pos rfl] at hO h3
        subst hO
        obtain ⟨v, rfl, how, hb3⟩ := h3
        obtain ⟨A, C, rfl⟩ := ownW_slice how
        have how2 : OwnW w3 w2.heap.size (.slice A 2 C) ws := by have := how; rw [show Value.slice A ws.length C = Value.slice A 2 C by rw [hL2]] at this; exact this
        rw [hL2]
        have HOW := Lib.hid how2
        have HL2 := Lib.hid hL2
        clear how2
        have HR : Hid (w3.heap[w.heap.size]? = some (.cells #[.string ⟨#[]⟩, .slice none 0 0, .string ⟨#[]⟩, .nilFunc] 129 (0, 0))) := Lib.hid ((hb3.block _ HZ2.out).trans HR2.out)
        have HB3 := Lib.hid (HB2.out.trans (hb3.mono HB2.out.size))
        have HCB3 := Lib.hid ((hb3.block _ (Array.getElem?_eq_some_iff.1 HCB.out).1).trans HCB.out)
        clear how hb3 hall hL2
        go_wp2_with (refine wpList_store_row rfl _ _ _ rfl w.heap.size _ rfl rfl 129 _ HR.out size_stm rfl (by simp [Value.oneCell']) ?_)
        have hst : StmV w3 (w.heap.size + 1) (.la rd name) (str []) (.slice A 2 C) (str name) (.func (.func 157) #[] #[.pointer (some ⟨b, 0, none⟩)]) := ⟨rfl, ⟨ws, HL2.out, ownW_base HOW.out (by have := HZ2.out; omega)⟩, rfl, b, rfl, HBB.out, HCB3.out⟩
        have hst2 := stmV_base (stmV_row hst (Nat.lt_succ_self _) (setRow_only w3 w.heap.size #[.string ⟨#[]⟩, .slice A 2 C, str name, .func (.func 157) #[] #[.pointer (some ⟨b, 0, none⟩)]]) (fun k h1 _ h2 => by omega)) (Nat.le_succ _)
        exact bodyPost_ret (v := .tuple #[.agg #[.string ⟨#[]⟩, .slice A 2 C, str name, .func (.func 157) #[] #[.pointer (some ⟨b, 0, none⟩)]], .bool true]) (results_cell_tmp (show Tryz.f107.results = #[.cell 4 129, .tmp 5] by kernel_rfl) _ _ w.heap.size 129 _ _ _ rfl (setRow_heap _ _ _ _ _ _ HR.out) Tryz.underlying129 rfl size_stm) rfl ⟨(fun s h => by cases h; exact ⟨_, rfl, _, _, _, _, rfl, hst2⟩), (fun h => by cases h), below_setRow HB3.out (Nat.le_refl _) _⟩
      | false =>
        rw [hall, if_neg (by decide)] at hO h3
        subst hO
        obtain ⟨rfl, hb3⟩ := h3
        have HR : Hid (w3.heap[w.heap.size]? = some (.cells #[.string ⟨#[]⟩, .slice none 0 0, .string ⟨#[]⟩, .nilFunc] 129 (0, 0))) := Lib.hid ((hb3.block _ HZ2.out).trans HR2.out)
        have HB3 := Lib.hid (HB2.out.trans (hb3.mono HB2.out.size))
        clear hb3 hall
        go_wp2_with (refine wpList_store_row rfl _ _ _ rfl w.heap.size _ rfl rfl 129 _ HR.out size_stm rfl (by simp [Value.oneCell']) ?_)
        exact bodyPost_ret (v := .tuple #[.agg #[.string ⟨#[]⟩, .slice none 0 0, str name, .func (.func 157) #[] #[.pointer (some ⟨b, 0, none⟩)]], .bool false]) (results_cell_tmp (show Tryz.f107.results = #[.cell 4 129, .tmp 5] by kernel_rfl) _ _ w.heap.size 129 _ _ _ rfl (setRow_heap _ _ _ _ _ _ HR.out) Tryz.underlying129 rfl size_stm) rfl ⟨(fun s h => by cases h), fun _ => ⟨_, rfl, _, _, _, _, rfl, rfl, rfl, rfl, rfl⟩, below_setRow HB3.out (Nat.le_refl _) _⟩
    | false =>
      obtain rfl := hno rfl
      clear hy hno
      go_wp2_with (fail)
      (with_reducible refine (HJA.out _ (HE.out.below HB2.out)).mono ?_)
      rintro e w3 ⟨hy, hno, hb3⟩
      have HR3 : Hid (w3.heap[w.heap.size]? = some (.cells #[.string ⟨#[]⟩, .slice none 0 0, .string ⟨#[]⟩, .nilFunc] 129 (0, 0))) := Lib.hid ((hb3.block _ HZ2.out).trans HR2.out)
      have HB3 := Lib.hid (HB2.out.trans (hb3.mono HB2.out.size))
      have HZ3 : Hid (w.heap.size < w3.heap.size) := Lib.hid (by have := hb3.size; have := HZ2.out; omega)
      clear hb3
      cases q3 with
      | false =>
        obtain rfl := hno rfl
        have hO : o = none := HS.out
        subst hO
        have HR : Hid (w3.heap[w.heap.size]? = some (.cells #[.string ⟨#[]⟩, .slice none 0 0, .string ⟨#[]⟩, .nilFunc] 129 (0, 0))) := HR3
        clear hy hno
        go_wp2_with (refine wpList_store_row rfl _ _ _ rfl w.heap.size _ rfl rfl 129 _ HR.out size_stm rfl (by simp [Value.oneCell']) ?_)
        exact bodyPost_ret (v := .tuple #[.agg #[.string ⟨#[]⟩, .slice none 0 0, .string ⟨#[]⟩, .nilFunc], .bool false]) (results_cell_tmp (show Tryz.f107.results = #[.cell 4 129, .tmp 5] by kernel_rfl) _ _ w.heap.size 129 _ _ _ rfl (setRow_heap _ _ _ _ _ _ HR.out) Tryz.underlying129 rfl size_stm) rfl ⟨(fun s h => by cases h), fun _ => ⟨_, rfl, _, _, _, _, rfl, rfl, rfl, rfl, rfl⟩, below_setRow HB3.out (Nat.le_refl _) _⟩
      | true =>
        obtain ⟨b, rfl, hbb, hcb⟩ := hy rfl
        have HBB : Hid (w.heap.size < b) := Lib.hid (by have := HZ2.out; omega)
        have HJM := Lib.hid (jump_any I 0 b w3 (fun w' ho => HE.out.below (Below.thenOnly HB3.out ho (by intro k hk; have := HBB.out; omega) HB3.out.size)) hcb)
        clear hy hno hbb hcb
        go_wp2_with (fail)
        (with_reducible refine HJM.out.mono ?_)
        rintro e w4 ⟨h4, h4n, hI, ho4⟩
        have hO : o = if rightB (withImm I 0) then some (.jump I name) else none := HS.out
        have HR : Hid (w4.heap[w.heap.size]? = some (.cells #[.string ⟨#[]⟩, .slice none 0 0, .string ⟨#[]⟩, .nilFunc] 129 (0, 0))) := Lib.hid (ho4.keeps (by have := HBB.out; omega) HR3.out)
        have HB4 : Hid (Below w.heap.size w w4) := Lib.hid (Below.thenOnly HB3.out ho4 (by intro k hk; have := HBB.out; omega) HB3.out.size)
        have HI := Lib.hid hI
        clear HS HJM ho4 hI
        cases hall : rightB (withImm I 0) with
        | true =>
          rw [hall, if_pos rfl] at hO
          subst hO
          obtain ⟨v, rfl, how⟩ := h4 hall
          generalize encW (withImm I 0) = W at *
          obtain ⟨A, C, rfl⟩ := ownW_slice how
          have HOW := Lib.hid how
          clear h4 h4n how hall
          go_wp2_with (refine wpList_store_row rfl _ _ _ rfl w.heap.size _ rfl rfl 129 _ HR.out size_stm rfl (by simp [Value.oneCell']) ?_)
          have hst : StmV w4 (w.heap.size + 1) (.jump I name) (str []) (.slice A 1 C) (str name) (.func (.func 159) #[] #[.pointer (some ⟨b, 0, none⟩)]) := ⟨rfl, ⟨[W], rfl, ownW_base HOW.out (by have := HZ3.out; omega)⟩, rfl, b, rfl, HBB.out, HI.out⟩
          have hst2 := stmV_base (stmV_row hst (Nat.lt_succ_self _) (setRow_only w4 w.heap.size #[.string ⟨#[]⟩, .slice A 1 C, str name, .func (.func 159) #[] #[.pointer (some ⟨b, 0, none⟩)]]) (fun k h1 _ h2 => by omega)) (Nat.le_succ _)
          exact bodyPost_ret (v := .tuple #[.agg #[.string ⟨#[]⟩, .slice A 1 C, str name, .func (.func 159) #[] #[.pointer (some ⟨b, 0, none⟩)]], .bool true]) (results_cell_tmp (show Tryz.f107.results = #[.cell 4 129, .tmp 5] by kernel_rfl) _ _ w.heap.size 129 _ _ _ rfl (setRow_heap _ _ _ _ _ _ HR.out) Tryz.underlying129 rfl size_stm) rfl ⟨(fun s h => by cases h; exact ⟨_, rfl, _, _, _, _, rfl, hst2⟩), (fun h => by cases h), below_setRow HB4.out (Nat.le_refl _) _⟩
        | false =>
          rw [hall, if_neg (by decide)] at hO
          subst hO
          obtain rfl := h4n hall
          clear h4 h4n hall
          go_wp2_with (refine wpList_store_row rfl _ _ _ rfl w.heap.size _ rfl rfl 129 _ HR.out size_stm rfl (by simp [Value.oneCell']) ?_)
          exact bodyPost_ret (v := .tuple #[.agg #[.string ⟨#[]⟩, .slice none 0 0, str name, .func (.func 159) #[] #[.pointer (some ⟨b, 0, none⟩)]], .bool false]) (results_cell_tmp (show Tryz.f107.results = #[.cell 4 129, .tmp 5] by kernel_rfl) _ _ w.heap.size 129 _ _ _ rfl (setRow_heap _ _ _ _ _ _ HR.out) Tryz.underlying129 rfl size_stm) rfl ⟨(fun s h => by cases h), fun _ => ⟨_, rfl, _, _, _, _, rfl, rfl, rfl, rfl, rfl⟩, below_setRow HB4.out (Nat.le_refl _) _⟩

end Go.Proofs.YtakdhdaoklcidaaGreatDoor

namespace Go.Proofs.YtakdhdaoklcidaaGreatDoor
open Go.RowKit Go.Lib
set_option linter.unusedVariables false
set_option maxRecDepth 100000

def liT : Bs := [108, 105]
def wordT : Bs := [46, 119, 111, 114, 100]
/-- The words of a line that hangs on no label, by its first word and what stands behind. -/
def wordsG (line n0 r0 : Bs) : Option (List Int) :=
  if n0 = liT then
    (if 0 ≤ regP (cut r0 sepC).1 ∧ regP (cut r0 sepC).1 ≤ 31 then
      (if lineT liT [xr (regP (cut r0 sepC).1), itoa (numP (cut (cut r0 sepC).2.1 sepC).1)] = line then
        (if (liF (regP (cut r0 sepC).1) 4 (numP (cut (cut r0 sepC).2.1 sepC).1)).all rightB then some ((liF (regP (cut r0 sepC).1) 4 (numP (cut (cut r0 sepC).2.1 sepC).1)).map encW) else none)
      else none)
    else none)
  else if n0 = wordT then
    (if 0 ≤ numP (cut r0 sepC).1 ∧ numP (cut r0 sepC).1 ≤ 4294967295 then
      (if lineT wordT [itoa (numP (cut r0 sepC).1)] = line then some [numP (cut r0 sepC).1] else none)
    else none)
  else if parseB line then (if rightB (parseI line) then some [encW (parseI line)] else none) else none
def wordsS (line : Bs) : Option (List Int) := wordsG line (cut line [32]).1 (cut line [32]).2.1

theorem liF_ne (rd n : Int) : liF rd 4 n ≠ [] := by
  unfold liF
  split
  · simp
  · split <;> simp
theorem insAt_own {w : World} {B : Nat} {v : Value} {l : List Ins} (h : OwnI w B v l) (hl : l ≠ []) : ∃ g C, v = .slice (some ⟨g, 0, none⟩) l.length C ∧ InsAt w g l := by
  rcases h.2 with ⟨rfl, h0⟩ | ⟨g, cap, cur, rfl, hb, hc, hn, _, hcs, ht⟩
  · exact absurd (List.eq_nil_of_length_eq_zero h0) hl
  · refine ⟨g, cap, rfl, fun k hk j hj => ?_⟩
    rw [Lib.cell_of_heap hc]
    have h1 := insCs_at l k j hk hj
    rw [← ht, List.getElem?_take, if_pos (by omega)] at h1
    simpa using h1

/-- What stands behind the first two steps: what is left to read. -/
structure RS (w wx : World) (bl bn : Nat) (rest : Bs) : Prop where
  left : BoxS wx bl rest
  next : wx.heap[bn]? = some (.cells #[nextV bl] 108 (0, 0))
  len : rest.length ≤ 1000000
  bel : Below w.heap.size w wx
  low : w.heap.size ≤ bl ∧ bl < bn
section
variable {w wx : World} {bl bn : Nat} {rest : Bs}
theorem RS.env (h : RS w wx bl bn rest) (he : Env w) : ∀ w', Only (fun k => k = bl) wx w' → Env w' := fun w' ho => by
  have hl := h.low
  exact he.below (Below.thenOnly h.bel ho (by intro k hk; omega) h.bel.size)
theorem RS.step (h : RS w wx bl bn rest) {w' : World} {r : Bs} (hr : r.length ≤ 1000000) (hb : BoxS w' bl r) (ho : Only (fun k => k = bl) wx w') : RS w w' bl bn r := by
  have hl := h.low
  exact ⟨hb, ho.keeps (by omega) h.next, hr, Below.thenOnly h.bel ho (by intro k hk; omega) h.bel.size, hl⟩
theorem RS.reg (h : RS w wx bl bn rest) (he : Env w) : Calls Tryz.prog 64 #[.pointer (some ⟨bn, 0, none⟩)] wx fun e w' => e = .returned (.int .i64 (regP (cut rest sepC).1)) ∧ RS w w' bl bn (cut rest sepC).2.1 := by
  refine (reg_any bn bl rest wx (h.env he) h.len (by rw [Lib.cell_of_heap h.next]; rfl) h.left).mono ?_
  rintro e w' ⟨rfl, h1, h2⟩
  exact ⟨rfl, h.step (Nat.le_trans (cut_len rest sepC).2 h.len) h1 h2⟩
theorem RS.num (h : RS w wx bl bn rest) (he : Env w) : Calls Tryz.prog 67 #[.pointer (some ⟨bn, 0, none⟩)] wx fun e w' => e = .returned (.int .i64 (numP (cut rest sepC).1)) ∧ RS w w' bl bn (cut rest sepC).2.1 := by
  refine (num_any bn bl rest wx (h.env he) h.len (by rw [Lib.cell_of_heap h.next]; rfl) h.left).mono ?_
  rintro e w' ⟨rfl, h1, h2⟩
  exact ⟨rfl, h.step (Nat.le_trans (cut_len rest sepC).2 h.len) h1 h2⟩
end

theorem aimEnd_yes {w : World} {o : Option (List Int)} {ws : List Int} (h : o = some ws) {e : Ending} {w' : World} (hx : EncEnd w ws e w') : AimEnd w o e w' := by subst h; exact hx
theorem aimEnd_no {w : World} {o : Option (List Int)} (h : o = none) {e : Ending} {w' : World} (hx : EncNo w e w') : AimEnd w o e w' := by subst h; exact hx

set_option maxHeartbeats 4000000 in
theorem readWords_li (l : Bs) (c1 : (cut l [32]).1 = liT) (hl : l.length ≤ 100000) (w : World) (he : Env w) : Calls Tryz.prog 108 #[str l] w (AimEnd w (wordsS l)) := by
  have K1 := Lib.hid c1
  clear c1
  have hCUT : ∀ w, Env w → Calls Tryz.prog 34 #[str l, .string ⟨#[32]⟩] w fun e w' => e = .returned (.tuple #[str (cut l [32]).1, str (cut l [32]).2.1, .bool (cut l [32]).2.2]) ∧ Below w.heap.size w w' := fun w he => cutP l [32] w (by omega) he
  have hcl := cut_len l [32]
  have hR0 : (cut l [32]).2.1.length ≤ 1000000 := by omega
  have hRD := fun w => reader_any (cut l [32]).2.1 w
  have hS : wordsS l = wordsG l (cut l [32]).1 (cut l [32]).2.1 := rfl
  have i1 := numP_in (trimPrefix (cut (cut l [32]).2.1 sepC).1 [120])
  have i1' : -9223372036854775808 ≤ regP (cut (cut l [32]).2.1 sepC).1 ∧ regP (cut (cut l [32]).2.1 sepC).1 ≤ 9223372036854775807 := i1
  have i2 := numP_in (cut (cut (cut l [32]).2.1 sepC).2.1 sepC).1
  have i3 := numP_in (cut (cut l [32]).2.1 sepC).1
  have hPA := fun w he => parseP l (by omega) w he
  have hee : parseE l = if parseB l then 0 else 100 := rfl
  have HS := Lib.hid hS
  have HCUT := Lib.hid hCUT
  have HRD := Lib.hid hRD
  have HE := Lib.hid he
  have HR0 := Lib.hid hR0
  have HPA := Lib.hid hPA
  have HEE := Lib.hid hee
  have HI1 := Lib.hid i1'; have HI2 := Lib.hid i2; have HI3 := Lib.hid i3
  clear hCUT hRD he hcl hR0 hS i1 i1' i2 i3 hPA hee hl
  generalize wordsS l = o at *
  generalize (cut l [32]).2.1 = r0 at *
  generalize (cut l [32]).2.2 = qq at *
  generalize (cut l [32]).1 = n0 at *
  go_enter Tryz.func108, Tryz.ntmps108
  go_wp2_with (fail)
  (with_reducible refine (HCUT.out _ HE.out).mono ?_)
  rintro e w1 ⟨rfl, hb1⟩
  have HB1 := Lib.hid hb1
  clear hb1
  go_wp2_with (fail)
  (with_reducible refine (HRD.out _).mono ?_)
  rintro e w2 ⟨rfl, h1, h2, h3, h4⟩
  have HRS : Hid (RS w w2 w1.heap.size (w1.heap.size + 1) r0) := Lib.hid ⟨h1, h2, HR0.out, HB1.out.trans (h4.mono HB1.out.size), HB1.out.size, Nat.lt_succ_self _⟩
  clear h1 h2 h3 h4
  generalize w1.heap.size + 1 = bn at *
  generalize w1.heap.size = bl at *
  clear HB1 HCUT HRD HR0
  have c1 := K1.out
  have hO : o = wordsG l n0 r0 := HS.out
  unfold wordsG at hO
  rw [if_pos c1] at hO
  have HO := Lib.hid hO
  subst c1
  clear hO HS HPA HEE HI3
  go_wp2_with (fail)
  (with_reducible refine (HRS.out.reg HE.out).mono ?_)
  rintro e w3 ⟨rfl, h3⟩
  have HR3 := Lib.hid h3
  clear h3
  go_wp2_with (fail)
  (with_reducible refine (HR3.out.num HE.out).mono ?_)
  rintro e w4 ⟨rfl, h4⟩
  have HB4 := Lib.hid h4.bel
  clear h4 HRS HR3
  generalize regP (cut r0 sepC).1 = rd at *
  generalize numP (cut (cut r0 sepC).2.1 sepC).1 = n at *
  by_cases hr : 0 ≤ rd ∧ rd ≤ 31
  · have hO := HO.out
    rw [if_pos hr] at hO
    have HLI := Lib.hid (li_any rd n hr HI2.out.1 HI2.out.2 w4 (HE.out.below HB4.out))
    have HO2 := Lib.hid hO
    have HNE := Lib.hid (liF_ne rd n)
    have hll := liF_len rd 4 n
    obtain ⟨hr0, hr1⟩ := hr
    clear hO HO
    generalize liF rd 4 n = L at *
    go_wp2_with (fail)
    (with_reducible refine HLI.out.mono ?_)
    rintro e w5 ⟨v, rfl, how, hb5⟩
    have hne := HNE.out
    obtain ⟨g, C, rfl, hat⟩ := insAt_own how hne
    have HAT := Lib.hid hat
    have HB5 := Lib.hid (HB4.out.trans (hb5.mono HB4.out.size))
    have hlz : ((L.length : Int) == 0) = false := by
      have : L.length ≠ 0 := fun h => hne (List.eq_nil_of_length_eq_zero h)
      simp; omega
    have hlz2 : 0 < L.length := by
      have : L.length ≠ 0 := fun h => hne (List.eq_nil_of_length_eq_zero h)
      omega
    clear how hat hb5 hne HLI
    have HT := Lib.hid (fun w he => registerText_any rd (by omega) (by omega) w he)
    have HN := Lib.hid (fun w he => numberText_any n HI2.out.1 HI2.out.2 w he)
    have HWR := Lib.hid (fun w g cap hc hc2 => write2 liT (xr rd) (itoa n) (by decide) (by have := itoa_length_le rd (by omega) (by omega); simp only [xr, List.length_cons]; omega) (by have := itoa_length_le n HI2.out.1 HI2.out.2; omega) (by simp [xr]) (itoa_ne n) w g cap hc hc2)
    generalize lineT liT [xr rd, itoa n] = tx at *
    generalize xr rd = xo at *
    generalize itoa n = no at *
    go_wp2_with (fail)
    (with_reducible refine (HT.out _ (HE.out.below HB5.out)).mono ?_)
    rintro e w6 ⟨rfl, hb6⟩
    have HB6 := Lib.hid (HB5.out.trans (hb6.mono HB5.out.size))
    have HAT6 := Lib.hid (insAt_below HAT.out hb6)
    clear hb6 HAT
    go_wp2_with (fail)
    (with_reducible refine (HN.out _ (HE.out.below HB6.out)).mono ?_)
    rintro e w7 ⟨rfl, hb7⟩
    have HB7 := Lib.hid (HB6.out.trans (hb7.mono HB6.out.size))
    have HAT7 := Lib.hid (insAt_below HAT6.out hb7)
    have HC0 : Hid ((w7.alloc (.cells #[str xo, str no] 9)).cell? ⟨w7.heap.size, 0, none⟩ = some (str xo)) := Lib.hid (by rw [World.cell?_alloc_at _ _ _ _ (by simp)]; rfl)
    have HC1 : Hid ((w7.alloc (.cells #[str xo, str no] 9)).cell? ⟨w7.heap.size, 1, none⟩ = some (str no)) := Lib.hid (by rw [World.cell?_alloc_at _ _ _ _ (by simp)]; rfl)
    clear hb7 HAT6
    go_wp2_with (fail)
    (with_reducible refine (HWR.out _ _ _ HC0.out HC1.out).mono ?_)
    rintro e w8 ⟨rfl, hb8⟩
    have HB8 := Lib.hid ((HB7.out.alloc HB7.out.size (.cells #[str xo, str no] 9)).trans (hb8.mono (by have := HB7.out.size; simp; omega)))
    have HAT8 := Lib.hid (insAt_below (insAt_below HAT7.out ((Below.refl _ _).alloc (Nat.le_refl _) (.cells #[str xo, str no] 9))) hb8)
    clear hb8 HAT7 HC0 HC1
    by_cases hp : tx = l
    · have hO := HO2.out
      rw [if_pos hp] at hO
      have HO := Lib.hid hO
      subst hp
      have HEN := Lib.hid (encode_gen L g C w8 (HE.out.below HB8.out) (by omega) HAT8.out)
      clear hO HO2 HWR
      go_wp2_with (fail)
      (with_reducible refine HEN.out.mono ?_)
      rintro e w9 hq
      cases hall : L.all rightB with
      | true =>
        have h9 := hq.1 hall
        have HR : Hid (o = some (L.map encW)) := Lib.hid (by rw [HO.out, hall]; rfl)
        clear hq HEN
        generalize L.map encW = ws at *
        obtain ⟨v, rfl, ho, hb⟩ := h9
        obtain ⟨A, C9, rfl⟩ := ownW_slice ho
        have HOW := Lib.hid ho
        have HB := Lib.hid hb
        clear ho hb hall HO
        go_wp2
        go_ret2
        exact aimEnd_yes HR.out ((fun e (h : EncEnd _ ws e w9) => encEnd_mono h HB8.out) _ ⟨_, rfl, HOW.out, HB.out⟩)
      | false =>
        have h9 := hq.2 hall
        have HR : Hid (o = none) := Lib.hid (by rw [HO.out, hall]; rfl)
        obtain ⟨rfl, hb⟩ := h9
        have HB := Lib.hid hb
        clear hq HEN hb hall HO
        go_wp2
        go_ret2
        exact aimEnd_no HR.out ⟨rfl, HB8.out.trans (HB.out.mono HB8.out.size)⟩
    · have hO := HO2.out
      rw [if_neg hp] at hO
      have HO := Lib.hid hO
      have hpq : (tx == l) = false := beq_eq_false_iff_ne.2 hp
      clear hO HO2 HWR hp
      go_wp2
      go_ret2
      exact aimEnd_no HO.out ⟨rfl, HB8.out⟩
  · have hO := HO.out
    rw [if_neg hr] at hO
    have HO2 := Lib.hid hO
    have HLI := Lib.hid (li_none rd n hr w4)
    clear hO HO hr
    go_wp2_with (fail)
    (with_reducible refine HLI.out.mono ?_)
    rintro e w5 ⟨rfl, rfl⟩
    go_wp2
    go_ret2
    exact aimEnd_no HO2.out ⟨rfl, HB4.out⟩

set_option maxHeartbeats 4000000 in
theorem readWords_word (l : Bs) (c1 : ¬ (cut l [32]).1 = liT) (c2 : (cut l [32]).1 = wordT) (hl : l.length ≤ 100000) (w : World) (he : Env w) : Calls Tryz.prog 108 #[str l] w (AimEnd w (wordsS l)) := by
  have K1 := Lib.hid c1
  have K2 := Lib.hid c2
  clear c1 c2
  have hCUT : ∀ w, Env w → Calls Tryz.prog 34 #[str l, .string ⟨#[32]⟩] w fun e w' => e = .returned (.tuple #[str (cut l [32]).1, str (cut l [32]).2.1, .bool (cut l [32]).2.2]) ∧ Below w.heap.size w w' := fun w he => cutP l [32] w (by omega) he
  have hcl := cut_len l [32]
  have hR0 : (cut l [32]).2.1.length ≤ 1000000 := by omega
  have hRD := fun w => reader_any (cut l [32]).2.1 w
  have hS : wordsS l = wordsG l (cut l [32]).1 (cut l [32]).2.1 := rfl
  have i1 := numP_in (trimPrefix (cut (cut l [32]).2.1 sepC).1 [120])
  have i1' : -9223372036854775808 ≤ regP (cut (cut l [32]).2.1 sepC).1 ∧ regP (cut (cut l [32]).2.1 sepC).1 ≤ 9223372036854775807 := i1
  have i2 := numP_in (cut (cut (cut l [32]).2.1 sepC).2.1 sepC).1
  have i3 := numP_in (cut (cut l [32]).2.1 sepC).1
  have hPA := fun w he => parseP l (by omega) w he
  have hee : parseE l = if parseB l then 0 else 100 := rfl
  have HS := Lib.hid hS
  have HCUT := Lib.hid hCUT
  have HRD := Lib.hid hRD
  have HE := Lib.hid he
  have HR0 := Lib.hid hR0
  have HPA := Lib.hid hPA
  have HEE := Lib.hid hee
  have HI1 := Lib.hid i1'; have HI2 := Lib.hid i2; have HI3 := Lib.hid i3
  clear hCUT hRD he hcl hR0 hS i1 i1' i2 i3 hPA hee hl
  generalize wordsS l = o at *
  generalize (cut l [32]).2.1 = r0 at *
  generalize (cut l [32]).2.2 = qq at *
  generalize (cut l [32]).1 = n0 at *
  go_enter Tryz.func108, Tryz.ntmps108
  go_wp2_with (fail)
  (with_reducible refine (HCUT.out _ HE.out).mono ?_)
  rintro e w1 ⟨rfl, hb1⟩
  have HB1 := Lib.hid hb1
  clear hb1
  go_wp2_with (fail)
  (with_reducible refine (HRD.out _).mono ?_)
  rintro e w2 ⟨rfl, h1, h2, h3, h4⟩
  have HRS : Hid (RS w w2 w1.heap.size (w1.heap.size + 1) r0) := Lib.hid ⟨h1, h2, HR0.out, HB1.out.trans (h4.mono HB1.out.size), HB1.out.size, Nat.lt_succ_self _⟩
  clear h1 h2 h3 h4
  generalize w1.heap.size + 1 = bn at *
  generalize w1.heap.size = bl at *
  clear HB1 HCUT HRD HR0
  have c1 := K1.out
  have hO : o = wordsG l n0 r0 := HS.out
  unfold wordsG at hO
  rw [if_neg c1] at hO
  have HO := Lib.hid hO
  have hc1 : (n0 == [108, 105]) = false := beq_eq_false_iff_ne.2 c1
  clear hO HS c1
  have c2 := K2.out
  have hO := HO.out
  rw [if_pos c2] at hO
  have HO2 := Lib.hid hO
  subst c2
  clear hO HO hc1 HPA HEE HI1 HI2
  go_wp2_with (fail)
  (with_reducible refine (HRS.out.num HE.out).mono ?_)
  rintro e w3 ⟨rfl, h3⟩
  have HB3 := Lib.hid h3.bel
  clear h3 HRS
  generalize numP (cut r0 sepC).1 = n at *
  by_cases hr : 0 ≤ n ∧ n ≤ 4294967295
  · have hO := HO2.out
    rw [if_pos hr] at hO
    have HO3 := Lib.hid hO
    have HN := Lib.hid (fun w he => numberText_any n HI3.out.1 HI3.out.2 w he)
    have HWR := Lib.hid (fun w g cap hc => write1 wordT (itoa n) (by decide) (by have := itoa_length_le n HI3.out.1 HI3.out.2; omega) (itoa_ne n) w g cap hc)
    clear hO HO2
    generalize lineT wordT [itoa n] = tx at *
    generalize itoa n = no at *
    obtain ⟨hr0, hr1⟩ := hr
    go_wp2_with (fail)
    (with_reducible refine (HN.out _ (HE.out.below HB3.out)).mono ?_)
    rintro e w4 ⟨rfl, hb4⟩
    have HB4 := Lib.hid (HB3.out.trans (hb4.mono HB3.out.size))
    have HC0 : Hid ((w4.alloc (.cells #[str no] 9)).cell? ⟨w4.heap.size, 0, none⟩ = some (str no)) := Lib.hid (by rw [World.cell?_alloc_at _ _ _ _ (by simp)]; rfl)
    clear hb4
    go_wp2_with (fail)
    (with_reducible refine (HWR.out _ _ _ HC0.out).mono ?_)
    rintro e w5 ⟨rfl, hb5⟩
    have HB5 := Lib.hid ((HB4.out.alloc HB4.out.size (.cells #[str no] 9)).trans (hb5.mono (by have := HB4.out.size; simp; omega)))
    clear hb5 HC0
    by_cases hp : tx = l
    · have hO := HO3.out
      rw [if_pos hp] at hO
      have HO := Lib.hid hO
      subst hp
      clear hO HO3 HWR
      go_wp2
      go_ret2
      exact aimEnd_yes HO.out ⟨_, rfl, ⟨rfl, .inr ⟨w5.heap.size, 1, _, rfl, HB5.out.size, heap_alloc_new _ _, Nat.le_refl _, by decide, rfl, rfl⟩⟩, HB5.out.alloc HB5.out.size _⟩
    · have hO := HO3.out
      rw [if_neg hp] at hO
      have HO := Lib.hid hO
      have hpq : (tx == l) = false := beq_eq_false_iff_ne.2 hp
      clear hO HO3 HWR hp
      go_wp2
      go_ret2
      exact aimEnd_no HO.out ⟨rfl, HB5.out⟩
  · have hO := HO2.out
    rw [if_neg hr] at hO
    have HO := Lib.hid hO
    have hor : n < 0 ∨ (¬ n < 0 ∧ 4294967295 < n) := by omega
    clear hO HO2 hr
    rcases hor with h | ⟨h, h'⟩
    · go_wp2
      go_ret2
      exact aimEnd_no HO.out ⟨rfl, HB3.out⟩
    · go_wp2
      go_ret2
      exact aimEnd_no HO.out ⟨rfl, HB3.out⟩

set_option maxHeartbeats 4000000 in
theorem readWords_parse (l : Bs) (c1 : ¬ (cut l [32]).1 = liT) (c2 : ¬ (cut l [32]).1 = wordT) (hl : l.length ≤ 100000) (w : World) (he : Env w) : Calls Tryz.prog 108 #[str l] w (AimEnd w (wordsS l)) := by
  have K1 := Lib.hid c1
  have K2 := Lib.hid c2
  clear c1 c2
  have hCUT : ∀ w, Env w → Calls Tryz.prog 34 #[str l, .string ⟨#[32]⟩] w fun e w' => e = .returned (.tuple #[str (cut l [32]).1, str (cut l [32]).2.1, .bool (cut l [32]).2.2]) ∧ Below w.heap.size w w' := fun w he => cutP l [32] w (by omega) he
  have hcl := cut_len l [32]
  have hR0 : (cut l [32]).2.1.length ≤ 1000000 := by omega
  have hRD := fun w => reader_any (cut l [32]).2.1 w
  have hS : wordsS l = wordsG l (cut l [32]).1 (cut l [32]).2.1 := rfl
  have i1 := numP_in (trimPrefix (cut (cut l [32]).2.1 sepC).1 [120])
  have i1' : -9223372036854775808 ≤ regP (cut (cut l [32]).2.1 sepC).1 ∧ regP (cut (cut l [32]).2.1 sepC).1 ≤ 9223372036854775807 := i1
  have i2 := numP_in (cut (cut (cut l [32]).2.1 sepC).2.1 sepC).1
  have i3 := numP_in (cut (cut l [32]).2.1 sepC).1
  have hPA := fun w he => parseP l (by omega) w he
  have hee : parseE l = if parseB l then 0 else 100 := rfl
  have HS := Lib.hid hS
  have HCUT := Lib.hid hCUT
  have HRD := Lib.hid hRD
  have HE := Lib.hid he
  have HR0 := Lib.hid hR0
  have HPA := Lib.hid hPA
  have HEE := Lib.hid hee
  have HI1 := Lib.hid i1'; have HI2 := Lib.hid i2; have HI3 := Lib.hid i3
  clear hCUT hRD he hcl hR0 hS i1 i1' i2 i3 hPA hee hl
  generalize wordsS l = o at *
  generalize (cut l [32]).2.1 = r0 at *
  generalize (cut l [32]).2.2 = qq at *
  generalize (cut l [32]).1 = n0 at *
  go_enter Tryz.func108, Tryz.ntmps108
  go_wp2_with (fail)
  (with_reducible refine (HCUT.out _ HE.out).mono ?_)
  rintro e w1 ⟨rfl, hb1⟩
  have HB1 := Lib.hid hb1
  clear hb1
  go_wp2_with (fail)
  (with_reducible refine (HRD.out _).mono ?_)
  rintro e w2 ⟨rfl, h1, h2, h3, h4⟩
  have HRS : Hid (RS w w2 w1.heap.size (w1.heap.size + 1) r0) := Lib.hid ⟨h1, h2, HR0.out, HB1.out.trans (h4.mono HB1.out.size), HB1.out.size, Nat.lt_succ_self _⟩
  clear h1 h2 h3 h4
  generalize w1.heap.size + 1 = bn at *
  generalize w1.heap.size = bl at *
  clear HB1 HCUT HRD HR0
  have c1 := K1.out
  have hO : o = wordsG l n0 r0 := HS.out
  unfold wordsG at hO
  rw [if_neg c1] at hO
  have HO := Lib.hid hO
  have hc1 : (n0 == [108, 105]) = false := beq_eq_false_iff_ne.2 c1
  clear hO HS c1
  have c2 := K2.out
  have hO := HO.out
  rw [if_neg c2] at hO
  have HO2 := Lib.hid hO
  have hc2 : (n0 == [46, 119, 111, 114, 100]) = false := beq_eq_false_iff_ne.2 c2
  have HB2 := Lib.hid HRS.out.bel
  clear hO HO c2 HRS HI1 HI2 HI3
  have hP : ∀ w, Env w → Calls Tryz.prog 13 #[str l] w fun e w' => e = .returned (.tuple #[insV (parseI l), .int .i64 (if parseB l then 0 else 100)]) ∧ Below w.heap.size w w' := fun w he => by
    have h := HPA.out w he
    rw [HEE.out] at h; exact h
  clear HPA HEE
  cases hb : parseB l with
  | false =>
    rw [hb] at hP HO2
    have hP2 : ∀ w, Env w → Calls Tryz.prog 13 #[str l] w fun e w' => e = .returned (.tuple #[insV (parseI l), .int .i64 100]) ∧ Below w.heap.size w w' := hP
    have HP := Lib.hid hP2
    have HO : Hid (o = none) := Lib.hid HO2.out
    clear hP hP2 HO2 hb
    generalize parseI l = I at *
    obtain ⟨op, rd, a, b, imm, csr, aq, rl⟩ := I
    go_wp2_with (fail)
    (with_reducible refine (HP.out _ (HE.out.below HB2.out)).mono ?_)
    rintro e w3 ⟨rfl, hb3⟩
    have HB3 := Lib.hid (HB2.out.trans (hb3.mono HB2.out.size))
    clear hb3
    go_wp2
    go_ret2
    exact aimEnd_no HO.out ⟨rfl, HB3.out.alloc HB3.out.size _⟩
  | true =>
    rw [hb] at hP HO2
    have hP2 : ∀ w, Env w → Calls Tryz.prog 13 #[str l] w fun e w' => e = .returned (.tuple #[insV (parseI l), .int .i64 0]) ∧ Below w.heap.size w w' := hP
    have HP := Lib.hid hP2
    have hEN : ∀ w g cap, Env w → InsAt w g [parseI l] → Calls Tryz.prog 139 #[.slice (some ⟨g, 0, none⟩) 1 cap] w (EncQ w [parseI l]) := fun w g cap he hi => encode_gen [parseI l] g cap w he (by simp) hi
    have HEN := Lib.hid hEN
    have HO : Hid (o = if rightB (parseI l) then some [encW (parseI l)] else none) := Lib.hid HO2.out
    clear hP hP2 HO2 hb hEN
    generalize parseI l = I at *
    obtain ⟨op, rd, a, b, imm, csr, aq, rl⟩ := I
    go_wp2_with (fail)
    (with_reducible refine (HP.out _ (HE.out.below HB2.out)).mono ?_)
    rintro e w3 ⟨rfl, hb3⟩
    have HB3 := Lib.hid (HB2.out.trans (hb3.mono HB2.out.size))
    clear hb3
    go_wp2_with (fail)
    have hb4 : Below w.heap.size w ((w3.alloc (.cells #[.int .i64 op, .int .i64 rd, .int .i64 a, .int .i64 b, .int .i64 imm, .int .i64 csr, .bool aq, .bool rl] 23)).alloc (.cells #[.int .i64 op, .int .i64 rd, .int .i64 a, .int .i64 b, .int .i64 imm, .int .i64 csr, .bool aq, .bool rl] 23)) := (HB3.out.alloc HB3.out.size _).alloc (by have := HB3.out.size; simp; omega) _
    have hrow : InsAt ((w3.alloc (.cells #[.int .i64 op, .int .i64 rd, .int .i64 a, .int .i64 b, .int .i64 imm, .int .i64 csr, .bool aq, .bool rl] 23)).alloc (.cells #[.int .i64 op, .int .i64 rd, .int .i64 a, .int .i64 b, .int .i64 imm, .int .i64 csr, .bool aq, .bool rl] 23)) (w3.heap.size + 1) [⟨op, rd, a, b, imm, csr, aq, rl⟩] := by
      have := heap_alloc_new (w3.alloc (.cells #[.int .i64 op, .int .i64 rd, .int .i64 a, .int .i64 b, .int .i64 imm, .int .i64 csr, .bool aq, .bool rl] 23)) (.cells #[.int .i64 op, .int .i64 rd, .int .i64 a, .int .i64 b, .int .i64 imm, .int .i64 csr, .bool aq, .bool rl] 23)
      rw [World.size_alloc] at this
      exact insAt_row (l := [⟨op, rd, a, b, imm, csr, aq, rl⟩]) this
    (with_reducible refine (HEN.out _ _ _ (HE.out.below hb4) hrow).mono ?_)
    rintro e w5 hq
    have HB4 := Lib.hid hb4
    clear hb4 hrow
    cases hall : rightB ⟨op, rd, a, b, imm, csr, aq, rl⟩ with
    | true =>
      have h9 := hq.1 (by simp [hall])
      have HR : Hid (o = some [encW ⟨op, rd, a, b, imm, csr, aq, rl⟩]) := Lib.hid (by rw [HO.out, hall]; rfl)
      clear hq HEN hall HO
      have h9' : EncEnd _ [encW ⟨op, rd, a, b, imm, csr, aq, rl⟩] e w5 := h9
      clear h9
      generalize [encW ⟨op, rd, a, b, imm, csr, aq, rl⟩] = ws at *
      obtain ⟨v, rfl, ho, hb⟩ := h9'
      obtain ⟨A, C9, rfl⟩ := ownW_slice ho
      have HOW := Lib.hid ho
      have HB := Lib.hid hb
      clear ho hb
      go_wp2
      go_ret2
      exact aimEnd_yes HR.out ((fun e (h : EncEnd _ ws e w5) => encEnd_mono h HB4.out) _ ⟨_, rfl, HOW.out, HB.out⟩)
    | false =>
      have h9 := hq.2 (by simp [hall])
      have HR : Hid (o = none) := Lib.hid (by rw [HO.out, hall]; rfl)
      obtain ⟨rfl, hb⟩ := h9
      have HB := Lib.hid hb
      clear hq HEN hb hall HO
      go_wp2
      go_ret2
      exact aimEnd_no HR.out ⟨rfl, HB4.out.trans (HB.out.mono HB4.out.size)⟩


theorem readWords_any (l : Bs) (hl : l.length ≤ 100000) (w : World) (he : Env w) : Calls Tryz.prog 108 #[str l] w (AimEnd w (wordsS l)) := by
  by_cases c1 : (cut l [32]).1 = liT
  · exact readWords_li l c1 hl w he
  · by_cases c2 : (cut l [32]).1 = wordT
    · exact readWords_word l c1 c2 hl w he
    · exact readWords_parse l c1 c2 hl w he

end Go.Proofs.YtakdhdaoklcidaaGreatDoor

namespace Go.Proofs.YtakdhdaoklcidaaGreatDoor
open Go.Shelf
set_option linter.unusedVariables false
set_option maxRecDepth 100000

def splitLays_ren : Go.Shelf.Ren := ⟨fun | 146 => 74 | 221 => 104 | 268 => 126 | 138 => 127 | 143 => 128 | 195 => 151 | 197 => 152 | 218 => 153 | 219 => 94 | 260 => 161 | 217 => 114 | 225 => 115 | 224 => 116 | 267 => 117 | 266 => 145 | 314 => 146 | n => n, fun | 9 => 9 | 31 => 100 | 3 => 3 | 4 => 4 | 0 => 0 | 105 => 199 | 21 => 21 | 5 => 5 | 46 => 75 | 119 => 208 | 139 => 211 | 138 => 210 | 146 => 192 | 51 => 43 | n => n, fun | 1 => 2 | 3 => 7 | 4 => 8 | n => n⟩
theorem splitLays : Go.Proofs.Lays.n146 Tryz.prog splitLays_ren where
  mixed := by kernel_rfl
  f138 := Tryz.func127.trans (congrArg some (by kernel_rfl))
  f143 := Tryz.func128.trans (congrArg some (by kernel_rfl))
  f146 := Tryz.func74.trans (congrArg some (by kernel_rfl))
  f195 := Tryz.func151.trans (congrArg some (by kernel_rfl))
  f197 := Tryz.func152.trans (congrArg some (by kernel_rfl))
  f217 := Tryz.func114.trans (congrArg some (by kernel_rfl))
  f218 := Tryz.func153.trans (congrArg some (by kernel_rfl))
  f219 := Tryz.func94.trans (congrArg some (by kernel_rfl))
  f221 := Tryz.func104.trans (congrArg some (by kernel_rfl))
  f224 := Tryz.func116.trans (congrArg some (by kernel_rfl))
  f225 := Tryz.func115.trans (congrArg some (by kernel_rfl))
  f260 := Tryz.func161.trans (congrArg some (by kernel_rfl))
  f266 := Tryz.func145.trans (congrArg some (by kernel_rfl))
  f267 := Tryz.func117.trans (congrArg some (by kernel_rfl))
  f268 := Tryz.func126.trans (congrArg some (by kernel_rfl))
  f314 := Tryz.func146.trans (congrArg some (by kernel_rfl))
  t0 := Tryz.underlying0
  a0 := Tryz.isAgg0
  z0 := Tryz.sizeOf0
  v0 := Tryz.zeroValue0
  t3 := Tryz.underlying3
  a3 := Tryz.isAgg3
  z3 := Tryz.sizeOf3
  v3 := Tryz.zeroValue3
  t4 := Tryz.underlying4
  a4 := Tryz.isAgg4
  z4 := Tryz.sizeOf4
  v4 := Tryz.zeroValue4
  t5 := Tryz.underlying5
  a5 := Tryz.isAgg5
  z5 := Tryz.sizeOf5
  v5 := Tryz.zeroValue5
  t9 := Tryz.underlying9
  a9 := Tryz.isAgg9
  z9 := Tryz.sizeOf9
  v9 := Tryz.zeroValue9
  t21 := Tryz.underlying21
  a21 := Tryz.isAgg21
  z21 := Tryz.sizeOf21
  v21 := Tryz.zeroValue21
  t31 := Tryz.underlying100
  a31 := Tryz.isAgg100
  z31 := Tryz.sizeOf100
  v31 := Tryz.zeroValue100
  t46 := Tryz.underlying75
  a46 := Tryz.isAgg75
  z46 := Tryz.sizeOf75
  v46 := Tryz.zeroValue75
  t51 := Tryz.underlying43
  a51 := Tryz.isAgg43
  z51 := Tryz.sizeOf43
  v51 := Tryz.zeroValue43
  t105 := Tryz.underlying199
  a105 := Tryz.isAgg199
  z105 := Tryz.sizeOf199
  v105 := Tryz.zeroValue199
  t119 := Tryz.underlying208
  a119 := Tryz.isAgg208
  z119 := Tryz.sizeOf208
  t138 := Tryz.underlying210
  a138 := Tryz.isAgg210
  z138 := Tryz.sizeOf210
  v138 := Tryz.zeroValue210
  t139 := Tryz.underlying211
  a139 := Tryz.isAgg211
  z139 := Tryz.sizeOf211
  v139 := Tryz.zeroValue211
  t146 := Tryz.underlying192
  a146 := Tryz.isAgg192
  z146 := Tryz.sizeOf192
  v146 := Tryz.zeroValue192
  g1 := by kernel_rfl
  g3 := by kernel_rfl
  g4 := by kernel_rfl

def trimLays_ren : Go.Shelf.Ren := ⟨fun | 160 => 105 | 232 => 130 | 231 => 129 | 227 => 131 | 234 => 133 | 233 => 132 | 236 => 135 | 235 => 134 | 228 => 154 | 271 => 156 | 151 => 155 | 197 => 152 | 120 => 163 | 152 => 162 | 260 => 161 | 137 => 164 | 119 => 165 | 224 => 116 | 225 => 115 | 217 => 114 | 266 => 145 | n => n, fun | 9 => 9 | 4 => 4 | 3 => 3 | 5 => 5 | 117 => 180 | 116 => 179 | 0 => 0 | 124 => 183 | 21 => 21 | 105 => 199 | 46 => 75 | 119 => 208 | 139 => 211 | 138 => 210 | n => n, fun | 3 => 7 | 4 => 8 | n => n⟩
theorem trimLays : Go.Proofs.Lays.n160 Tryz.prog trimLays_ren where
  mixed := by kernel_rfl
  f119 := Tryz.func165.trans (congrArg some (by kernel_rfl))
  f120 := Tryz.func163.trans (congrArg some (by kernel_rfl))
  f137 := Tryz.func164.trans (congrArg some (by kernel_rfl))
  f151 := Tryz.func155.trans (congrArg some (by kernel_rfl))
  f152 := Tryz.func162.trans (congrArg some (by kernel_rfl))
  f160 := Tryz.func105.trans (congrArg some (by kernel_rfl))
  f197 := Tryz.func152.trans (congrArg some (by kernel_rfl))
  f217 := Tryz.func114.trans (congrArg some (by kernel_rfl))
  f224 := Tryz.func116.trans (congrArg some (by kernel_rfl))
  f225 := Tryz.func115.trans (congrArg some (by kernel_rfl))
  f227 := Tryz.func131.trans (congrArg some (by kernel_rfl))
  f228 := Tryz.func154.trans (congrArg some (by kernel_rfl))
  f231 := Tryz.func129.trans (congrArg some (by kernel_rfl))
  f232 := Tryz.func130.trans (congrArg some (by kernel_rfl))
  f233 := Tryz.func132.trans (congrArg some (by kernel_rfl))
  f234 := Tryz.func133.trans (congrArg some (by kernel_rfl))
  f235 := Tryz.func134.trans (congrArg some (by kernel_rfl))
  f236 := Tryz.func135.trans (congrArg some (by kernel_rfl))
  f260 := Tryz.func161.trans (congrArg some (by kernel_rfl))
  f266 := Tryz.func145.trans (congrArg some (by kernel_rfl))
  f271 := Tryz.func156.trans (congrArg some (by kernel_rfl))
  t0 := Tryz.underlying0
  a0 := Tryz.isAgg0
  z0 := Tryz.sizeOf0
  v0 := Tryz.zeroValue0
  t3 := Tryz.underlying3
  a3 := Tryz.isAgg3
  z3 := Tryz.sizeOf3
  v3 := Tryz.zeroValue3
  t4 := Tryz.underlying4
  a4 := Tryz.isAgg4
  z4 := Tryz.sizeOf4
  v4 := Tryz.zeroValue4
  t5 := Tryz.underlying5
  a5 := Tryz.isAgg5
  z5 := Tryz.sizeOf5
  v5 := Tryz.zeroValue5
  t9 := Tryz.underlying9
  a9 := Tryz.isAgg9
  z9 := Tryz.sizeOf9
  v9 := Tryz.zeroValue9
  t21 := Tryz.underlying21
  a21 := Tryz.isAgg21
  z21 := Tryz.sizeOf21
  v21 := Tryz.zeroValue21
  t46 := Tryz.underlying75
  a46 := Tryz.isAgg75
  z46 := Tryz.sizeOf75
  v46 := Tryz.zeroValue75
  t105 := Tryz.underlying199
  a105 := Tryz.isAgg199
  z105 := Tryz.sizeOf199
  v105 := Tryz.zeroValue199
  t116 := Tryz.underlying179
  a116 := Tryz.isAgg179
  z116 := Tryz.sizeOf179
  t117 := Tryz.underlying180
  a117 := Tryz.isAgg180
  z117 := Tryz.sizeOf180
  v117 := Tryz.zeroValue180
  t119 := Tryz.underlying208
  a119 := Tryz.isAgg208
  z119 := Tryz.sizeOf208
  t124 := Tryz.underlying183
  a124 := Tryz.isAgg183
  z124 := Tryz.sizeOf183
  v124 := Tryz.zeroValue183
  t138 := Tryz.underlying210
  a138 := Tryz.isAgg210
  z138 := Tryz.sizeOf210
  v138 := Tryz.zeroValue210
  t139 := Tryz.underlying211
  a139 := Tryz.isAgg211
  z139 := Tryz.sizeOf211
  v139 := Tryz.zeroValue211
  g3 := by kernel_rfl
  g4 := by kernel_rfl

end Go.Proofs.YtakdhdaoklcidaaGreatDoor

namespace Go.Proofs.YtakdhdaoklcidaaGreatDoor
open Go.RowKit Go.Lib
set_option linter.unusedVariables false
set_option maxRecDepth 100000

theorem trimP (l : Bs) (w : World) (hs : l.length ≤ 1000000) : Calls Tryz.prog 105 #[str l, .string ⟨#[32, 9]⟩] w fun e w' => e = .returned (str (trimS l [32, 9])) ∧ Below w.heap.size w w' := by
  have h := Any.strings_Trim_laid trimLays (by kernel_rfl) ⟨l.toArray⟩ ⟨#[32, 9]⟩ w (by show l.toArray.size ≤ _; rw [List.size_toArray]; omega) (by decide) (ascii_of_all (by decide))
  exact h
/-- What a line says whose remark and blanks are gone. -/
def readS (s : Bs) : Option Stm :=
  if s = [] then some .none
  else if hasSuffix s [58] then (if nameOK (trimSuffix s [58]) then some (.label (trimSuffix s [58])) else none)
  else if (cut s [44, 32, 64]).2.2 then namingS (cut s [44, 32, 64]).1 (cut s [44, 32, 64]).2.1
  else (wordsS s).map .words
def coreS (line : Bs) : Bs := trimS (cut line [35]).1 [32, 9]
def lineS (line : Bs) : Option Stm := readS (coreS line)

theorem four_one {c0 c1 c2 c3 : Value} (o0 : c0.oneCell' = true) (o1 : c1.oneCell' = true) (o2 : c2.oneCell' = true) (o3 : c3.oneCell' = true) : (#[c0, c1, c2, c3] : Array Value).all (·.oneCell') = true := by
  simp [o0, o1, o2, o3]

theorem trimS_len (l c : Bs) : (trimS l c).length ≤ l.length := by
  unfold trimS trimLeftS trimRightS
  refine Nat.le_trans (List.dropWhile_sublist _).length_le ?_
  rw [List.length_reverse]
  refine Nat.le_trans (List.dropWhile_sublist _).length_le ?_
  rw [List.length_reverse]; exact Nat.le_refl _
set_option maxHeartbeats 4000000 in
theorem readL (l : Bs) (hl : l.length ≤ 100000) (w : World) (he : Env w) : Calls Tryz.prog 75 #[str l] w (NmEnd w (lineS l)) := by
  have hC1 : ∀ w, Env w → Calls Tryz.prog 34 #[str l, .string ⟨#[35]⟩] w fun e w' => e = .returned (.tuple #[str (cut l [35]).1, str (cut l [35]).2.1, .bool (cut l [35]).2.2]) ∧ Below w.heap.size w w' := fun w he => cutP l [35] w (by omega) he
  have hcl := (cut_len l [35]).1
  have hT : ∀ w, Calls Tryz.prog 105 #[str (cut l [35]).1, .string ⟨#[32, 9]⟩] w fun e w' => e = .returned (str (coreS l)) ∧ Below w.heap.size w w' := fun w => trimP _ w (by omega)
  have hsl : (coreS l).length ≤ 100000 := Nat.le_trans (trimS_len _ _) (by omega)
  have hlS : lineS l = readS (coreS l) := rfl
  rw [hlS]
  have HC1 := Lib.hid hC1; have HT := Lib.hid hT; have HE := Lib.hid he
  clear hC1 hT he hcl hlS hl
  generalize (cut l [35]).1 = k1 at *
  generalize (cut l [35]).2.1 = k2 at *
  generalize (cut l [35]).2.2 = k3 at *
  generalize coreS l = s at *
  have hSU : ∀ w, Calls Tryz.prog 69 #[str s, .string ⟨#[58]⟩] w fun e w' => e = .returned (.tuple #[str (trimSuffix s [58]), .bool (hasSuffix s [58])]) ∧ w = w' := fun w => sufP s [58] w (by omega)
  have hC2 : ∀ w, Env w → Calls Tryz.prog 34 #[str s, .string ⟨#[44, 32, 64]⟩] w fun e w' => e = .returned (.tuple #[str (cut s [44, 32, 64]).1, str (cut s [44, 32, 64]).2.1, .bool (cut s [44, 32, 64]).2.2]) ∧ Below w.heap.size w w' := fun w he => cutP s [44, 32, 64] w (by omega) he
  have hcl2 := (cut_len s [44, 32, 64]).1
  have hNM := fun w he => readNaming_any (cut s [44, 32, 64]).1 (cut s [44, 32, 64]).2.1 (by omega) w he
  have hWD := fun w he => readWords_any s hsl w he
  have hIN := fun w => isNameP (trimSuffix s [58]) w
  have hS : readS s = if s = [] then some .none
  else if hasSuffix s [58] then (if nameOK (trimSuffix s [58]) then some (.label (trimSuffix s [58])) else none)
  else if (cut s [44, 32, 64]).2.2 then namingS (cut s [44, 32, 64]).1 (cut s [44, 32, 64]).2.1
  else (wordsS s).map .words := rfl
  have HSU := Lib.hid hSU; have HC2 := Lib.hid hC2; have HNM := Lib.hid hNM; have HWD := Lib.hid hWD; have HIN := Lib.hid hIN; have HS := Lib.hid hS
  clear hSU hC2 hcl2 hNM hWD hIN hS hsl
  generalize readS s = o at *
  generalize trimSuffix s [58] = nm at *
  generalize hasSuffix s [58] = q1 at *
  generalize namingS (cut s [44, 32, 64]).1 (cut s [44, 32, 64]).2.1 = on at *
  generalize (cut s [44, 32, 64]).1 = a1 at *
  generalize (cut s [44, 32, 64]).2.1 = a2 at *
  generalize (cut s [44, 32, 64]).2.2 = q2 at *
  generalize wordsS s = ow at *
  go_enter Tryz.func75, Tryz.ntmps75
  go_wp2_with (fail)
  (with_reducible refine (HC1.out _ (HE.out.below ((Below.refl _ _).alloc (Nat.le_refl _) _))).mono ?_)
  rintro e w1 ⟨rfl, hb1⟩
  have HR : Hid (w1.heap[w.heap.size]? = some (.cells #[.string ⟨#[]⟩, .slice none 0 0, .string ⟨#[]⟩, .nilFunc] 129 (0, 0))) := Lib.hid ((hb1.block _ (by simp)).trans (heap_alloc_new _ _))
  have HB1 := Lib.hid (((Below.refl _ _).alloc (Nat.le_refl _) (.cells #[.string ⟨#[]⟩, .slice none 0 0, .string ⟨#[]⟩, .nilFunc] 129)).trans (hb1.mono (by simp)))
  have HZ1 : Hid (w.heap.size < w1.heap.size) := Lib.hid (by have := hb1.size; simp at this; omega)
  clear hb1
  go_wp2_with (fail)
  (with_reducible refine (HT.out _).mono ?_)
  rintro e w2 ⟨rfl, hb2⟩
  have HR : Hid (w2.heap[w.heap.size]? = some (.cells #[.string ⟨#[]⟩, .slice none 0 0, .string ⟨#[]⟩, .nilFunc] 129 (0, 0))) := Lib.hid ((hb2.block _ HZ1.out).trans HR.out)
  have HB2 := Lib.hid (HB1.out.trans (hb2.mono HB1.out.size))
  have HZ2 : Hid (w.heap.size < w2.heap.size) := Lib.hid (by have := hb2.size; have := HZ1.out; omega)
  clear hb2
  by_cases hs : s = []
  · have hO : o = some .none := by have := HS.out; rw [if_pos hs] at this; exact this
    subst hO
    subst hs
    clear HS HSU HC2 HNM HWD HIN HT HC1
    go_wp2_with (refine wpList_store_row rfl _ _ _ rfl w.heap.size _ rfl rfl 129 _ HR.out size_stm rfl (by simp [Value.oneCell']) ?_)
    exact bodyPost_ret (v := .tuple #[.agg #[.string ⟨#[]⟩, .slice none 0 0, .string ⟨#[]⟩, .nilFunc], .bool true]) (results_cell_tmp (show Tryz.f75.results = #[.cell 2 129, .tmp 3] by kernel_rfl) _ _ w.heap.size 129 _ _ _ rfl (setRow_heap _ _ _ _ _ _ HR.out) Tryz.underlying129 rfl size_stm) rfl ⟨(fun s h => by cases h; exact ⟨_, rfl, _, _, _, _, rfl, rfl, rfl, rfl, rfl⟩), (fun h => by cases h), below_setRow HB2.out (Nat.le_refl _) _⟩
  · have hO : o = if q1 then (if nameOK nm then some (.label nm) else none) else if q2 then on else ow.map .words := by have := HS.out; rw [if_neg hs] at this; exact this
    have HO := Lib.hid hO
    have hsq : (s == []) = false := beq_eq_false_iff_ne.2 hs
    clear hO HS hs HT HC1
    go_wp2_with (fail)
    (with_reducible refine (HSU.out _).mono ?_)
    rintro e wu ⟨rfl, rfl⟩
    cases q1 with
    | true =>
      have hO : o = if nameOK nm then some (.label nm) else none := HO.out
      have HO2 := Lib.hid hO
      clear hO HO
      generalize nameOK nm = nq at *
      go_wp2_with (fail)
      (with_reducible refine (HIN.out _).mono ?_)
      rintro e w3 ⟨rfl, hb3⟩
      have HR : Hid (w3.heap[w.heap.size]? = some (.cells #[.string ⟨#[]⟩, .slice none 0 0, .string ⟨#[]⟩, .nilFunc] 129 (0, 0))) := Lib.hid ((hb3.block _ HZ2.out).trans HR.out)
      have HB3 := Lib.hid (HB2.out.trans (hb3.mono HB2.out.size))
      have HZ3 : Hid (w.heap.size < w3.heap.size) := Lib.hid (by have := hb3.size; have := HZ2.out; omega)
      clear hb3
      go_wp2_with (refine wpList_store_row rfl _ _ _ rfl w.heap.size _ rfl rfl 129 _ HR.out size_stm rfl (by simp [Value.oneCell']) ?_)
      cases nq with
      | true =>
        have hO : o = some (.label nm) := HO2.out
        subst hO
        exact bodyPost_ret (v := .tuple #[.agg #[str nm, .slice none 0 0, .string ⟨#[]⟩, .nilFunc], .bool true]) (results_cell_tmp (show Tryz.f75.results = #[.cell 2 129, .tmp 3] by kernel_rfl) _ _ w.heap.size 129 _ _ _ rfl (setRow_heap _ _ _ _ _ _ HR.out) Tryz.underlying129 rfl size_stm) rfl ⟨(fun s h => by cases h; exact ⟨_, rfl, _, _, _, _, rfl, rfl, rfl, rfl, rfl⟩), (fun h => by cases h), below_setRow HB3.out (Nat.le_refl _) _⟩
      | false =>
        have hO : o = none := HO2.out
        subst hO
        exact bodyPost_ret (v := .tuple #[.agg #[str nm, .slice none 0 0, .string ⟨#[]⟩, .nilFunc], .bool false]) (results_cell_tmp (show Tryz.f75.results = #[.cell 2 129, .tmp 3] by kernel_rfl) _ _ w.heap.size 129 _ _ _ rfl (setRow_heap _ _ _ _ _ _ HR.out) Tryz.underlying129 rfl size_stm) rfl ⟨(fun s h => by cases h), fun _ => ⟨_, rfl, _, _, _, _, rfl, rfl, rfl, rfl, rfl⟩, below_setRow HB3.out (Nat.le_refl _) _⟩
    | false =>
      have hO : o = if q2 then on else ow.map .words := HO.out
      have HO2 := Lib.hid hO
      clear hO HO
      go_wp2_with (fail)
      (with_reducible refine (HC2.out _ (HE.out.below HB2.out)).mono ?_)
      rintro e w3 ⟨rfl, hb3⟩
      have HR : Hid (w3.heap[w.heap.size]? = some (.cells #[.string ⟨#[]⟩, .slice none 0 0, .string ⟨#[]⟩, .nilFunc] 129 (0, 0))) := Lib.hid ((hb3.block _ HZ2.out).trans HR.out)
      have HB3 := Lib.hid (HB2.out.trans (hb3.mono HB2.out.size))
      have HZ3 : Hid (w.heap.size < w3.heap.size) := Lib.hid (by have := hb3.size; have := HZ2.out; omega)
      clear hb3
      cases q2 with
      | true =>
        have hO : o = on := HO2.out
        subst hO
        clear HO2
        go_wp2_with (fail)
        (with_reducible refine (HNM.out _ (HE.out.below HB3.out)).mono ?_)
        rintro e w4 ⟨hy, hno, hb4⟩
        have HSZ3 := Lib.hid HB3.out.size
        have HR : Hid (w4.heap[w.heap.size]? = some (.cells #[.string ⟨#[]⟩, .slice none 0 0, .string ⟨#[]⟩, .nilFunc] 129 (0, 0))) := Lib.hid ((hb4.block _ HZ3.out).trans HR.out)
        have HB4 := Lib.hid (HB3.out.trans (hb4.mono HB3.out.size))
        have HZ4 : Hid (w.heap.size < w4.heap.size) := Lib.hid (by have := hb4.size; have := HZ3.out; omega)
        clear hb4
        cases o with
        | none =>
          obtain ⟨v, rfl, c0, c1, c2, c3, rfl, o0, o1, o2, o3⟩ := hno rfl
          clear hy hno
          go_wp2_with (refine wpList_store_row rfl _ _ _ rfl w.heap.size _ rfl rfl 129 _ HR.out size_stm rfl (four_one o0 o1 o2 o3) ?_)
          exact bodyPost_ret (v := .tuple #[.agg #[c0, c1, c2, c3], .bool false]) (results_cell_tmp (show Tryz.f75.results = #[.cell 2 129, .tmp 3] by kernel_rfl) _ _ w.heap.size 129 _ _ _ rfl (setRow_heap _ _ _ _ _ _ HR.out) Tryz.underlying129 rfl size_stm) rfl ⟨(fun s h => by cases h), fun _ => ⟨_, rfl, _, _, _, _, rfl, o0, o1, o2, o3⟩, below_setRow HB4.out (Nat.le_refl _) _⟩
        | some st =>
          obtain ⟨v, rfl, c0, c1, c2, c3, rfl, hst⟩ := hy st rfl
          obtain ⟨o0, o1, o2, o3⟩ := stmV_four hst
          have HST := Lib.hid hst
          clear hy hno hst
          go_wp2_with (refine wpList_store_row rfl _ _ _ rfl w.heap.size _ rfl rfl 129 _ HR.out size_stm rfl (four_one o0 o1 o2 o3) ?_)
          have hst2 := stmV_base (stmV_row HST.out (Nat.lt_of_lt_of_le HZ3.out (Nat.le_refl _)) (setRow_only w4 w.heap.size #[c0, c1, c2, c3]) (fun k h1 _ h2 => by have := HZ3.out; omega)) HSZ3.out
          exact bodyPost_ret (v := .tuple #[.agg #[c0, c1, c2, c3], .bool true]) (results_cell_tmp (show Tryz.f75.results = #[.cell 2 129, .tmp 3] by kernel_rfl) _ _ w.heap.size 129 _ _ _ rfl (setRow_heap _ _ _ _ _ _ HR.out) Tryz.underlying129 rfl size_stm) rfl ⟨(fun s h => by cases h; exact ⟨_, rfl, _, _, _, _, rfl, hst2⟩), (fun h => by cases h), below_setRow HB4.out (Nat.le_refl _) _⟩
      | false =>
        have hO : o = ow.map .words := HO2.out
        subst hO
        clear HO2
        go_wp2_with (fail)
        (with_reducible refine (HWD.out _ (HE.out.below HB3.out)).mono ?_)
        rintro e w4 hy
        cases ow with
        | none =>
          obtain ⟨rfl, hb4⟩ := hy
          have HR : Hid (w4.heap[w.heap.size]? = some (.cells #[.string ⟨#[]⟩, .slice none 0 0, .string ⟨#[]⟩, .nilFunc] 129 (0, 0))) := Lib.hid ((hb4.block _ HZ3.out).trans HR.out)
          have HB4 := Lib.hid (HB3.out.trans (hb4.mono HB3.out.size))
          have HZ4 : Hid (w.heap.size < w4.heap.size) := Lib.hid (by have := hb4.size; have := HZ3.out; omega)
          clear hb4
          go_wp2_with (refine wpList_store_row rfl _ _ _ rfl w.heap.size _ rfl rfl 129 _ HR.out size_stm rfl (by simp [Value.oneCell']) ?_)
          exact bodyPost_ret (v := .tuple #[.agg #[.string ⟨#[]⟩, .slice none 0 0, .string ⟨#[]⟩, .nilFunc], .bool false]) (results_cell_tmp (show Tryz.f75.results = #[.cell 2 129, .tmp 3] by kernel_rfl) _ _ w.heap.size 129 _ _ _ rfl (setRow_heap _ _ _ _ _ _ HR.out) Tryz.underlying129 rfl size_stm) rfl ⟨(fun s h => by cases h), fun _ => ⟨_, rfl, _, _, _, _, rfl, rfl, rfl, rfl, rfl⟩, below_setRow HB4.out (Nat.le_refl _) _⟩
        | some ws =>
          obtain ⟨v, rfl, how, hb4⟩ := hy
          obtain ⟨A, C, rfl⟩ := ownW_slice how
          have HOW := Lib.hid how
          have HSZ3 := Lib.hid HB3.out.size
          clear how
          have HR : Hid (w4.heap[w.heap.size]? = some (.cells #[.string ⟨#[]⟩, .slice none 0 0, .string ⟨#[]⟩, .nilFunc] 129 (0, 0))) := Lib.hid ((hb4.block _ HZ3.out).trans HR.out)
          have HB4 := Lib.hid (HB3.out.trans (hb4.mono HB3.out.size))
          have HZ4 : Hid (w.heap.size < w4.heap.size) := Lib.hid (by have := hb4.size; have := HZ3.out; omega)
          clear hb4
          go_wp2_with (refine wpList_store_row rfl _ _ _ rfl w.heap.size _ rfl rfl 129 _ HR.out size_stm rfl (by simp [Value.oneCell']) ?_)
          have hst : StmV w4 w3.heap.size (.words ws) (str []) (.slice A ws.length C) (str []) .nilFunc := ⟨rfl, HOW.out, rfl, rfl⟩
          have hst2 := stmV_base (stmV_row hst HZ3.out (setRow_only w4 w.heap.size #[.string ⟨#[]⟩, .slice A ws.length C, .string ⟨#[]⟩, .nilFunc]) (fun k h1 _ h2 => by have := HZ3.out; omega)) HSZ3.out
          exact bodyPost_ret (v := .tuple #[.agg #[.string ⟨#[]⟩, .slice A ws.length C, .string ⟨#[]⟩, .nilFunc], .bool true]) (results_cell_tmp (show Tryz.f75.results = #[.cell 2 129, .tmp 3] by kernel_rfl) _ _ w.heap.size 129 _ _ _ rfl (setRow_heap _ _ _ _ _ _ HR.out) Tryz.underlying129 rfl size_stm) rfl ⟨(fun s h => by cases h; exact ⟨_, rfl, _, _, _, _, rfl, hst2⟩), (fun h => by cases h), below_setRow HB4.out (Nat.le_refl _) _⟩

end Go.Proofs.YtakdhdaoklcidaaGreatDoor

namespace Go.Proofs.YtakdhdaoklcidaaGreatDoor
open Go.RowKit Go.Lib
set_option linter.unusedVariables false
set_option maxRecDepth 100000

/-- A text's lines. -/
def linesT (l : Bs) : List Bs := Lib.split l [10]
theorem splitK_len : ∀ (k : Nat) (l : Bs), (splitK [10] 0 k l).length ≤ k + 1 ∧ ∀ x ∈ splitK [10] 0 k l, x.length ≤ l.length
  | 0, l => ⟨by simp [splitK], fun x hx => by simp [splitK] at hx; rw [hx]; exact Nat.le_refl _⟩
  | k + 1, l => by
    unfold splitK
    split
    · exact ⟨by simp, fun x hx => by rw [List.mem_singleton.1 hx]; exact Nat.le_refl _⟩
    · have := splitK_len k (l.drop ((index l [10]).toNat + [10].length))
      refine ⟨by simp; exact this.1, fun x hx => ?_⟩
      rcases List.mem_cons.1 hx with h | h
      · rw [h]; simp; omega
      · have := this.2 x h; simp at this; omega
theorem splitP (l : Bs) (w : World) (hs : l.length ≤ 1000000) (he : Env w) : Calls Tryz.prog 74 #[str l, .string ⟨#[10]⟩] w fun e w' => e = .returned (.slice (some ⟨w.heap.size, 0, none⟩) (linesT l).length (linesT l).length) ∧ w' = w.alloc (.cells ((linesT l).map str).toArray 9) := by
  obtain ⟨m, hm⟩ := he.mlen
  have h := Any.strings_Split splitLays (by kernel_rfl) ⟨l.toArray⟩ ⟨#[10]⟩ m w (by show l.toArray.size < _; rw [List.size_toArray]; omega) hm (by decide)
  have e1 : (splitB ⟨#[10]⟩ 0 (countB ⟨l.toArray⟩ ⟨#[10]⟩) ⟨l.toArray⟩).map (·.data.toList) = linesT l := splitB_data _ _ _ _
  have e2 : (splitB ⟨#[10]⟩ 0 (countB ⟨l.toArray⟩ ⟨#[10]⟩) ⟨l.toArray⟩).map Value.string = (linesT l).map str := by
    rw [← e1, List.map_map]
    refine List.map_congr_left fun s _ => ?_
    show Value.string s = str s.data.toList
    rw [show str s.data.toList = Value.string ⟨s.data.toList.toArray⟩ from rfl, mk_data]
  have e3 : countB ⟨l.toArray⟩ ⟨#[10]⟩ + 1 = (linesT l).length := by
    rw [← e1, List.length_map]
    exact (splitB_all ⟨#[10]⟩ (by decide) 0 _ _ rfl).symm
  rw [e2, e3] at h
  exact h

/-- Four cells of a line. -/
abbrev Q4 := Value × Value × Value × Value
def q4C (q : Q4) : List Value := [q.1, q.2.1, q.2.2.1, q.2.2.2]
def q4Cs (l : List Q4) : List Value := l.flatMap q4C
theorem q4Cs_app (a b : List Q4) : q4Cs (a ++ b) = q4Cs a ++ q4Cs b := by unfold q4Cs; exact List.flatMap_append
theorem info_stmP : (Tryz.prog.info? 129).map (fun i => (i.zero, i.size, i.bytes)) = some (some (.agg #[.string ⟨#[]⟩, .slice none 0 0, .string ⟨#[]⟩, .nilFunc]), 4, 64) := by kernel_rfl
abbrev OwnS (w : World) (B : Nat) (v : Value) (qs : List Q4) : Prop := w.ownsRow B 129 4 v qs.length (q4Cs qs)
theorem ownS_slice {w : World} {B : Nat} {v : Value} {l : List Q4} (h : OwnS w B v l) : ∃ A C, v = .slice A l.length C := own_slice' h
theorem ownS_keep {w w' : World} {B : Nat} {v : Value} {l : List Q4} (h : OwnS w B v l) {S : Nat → Prop} (o : Only S w w') (hS : ∀ g, v.ownBlock = some g → ¬ S g) : OwnS w' B v l := by
  refine ⟨h.1, ?_⟩
  rcases h.2 with hn | ⟨g, cap, cur, rfl, hb, hg, rest⟩
  · exact .inl hn
  · exact .inr ⟨g, cap, cur, rfl, hb, o.keeps (hS g rfl) hg, rest⟩
theorem ownS_lt {w : World} {B : Nat} {v : Value} {l : List Q4} (h : OwnS w B v l) : ∀ g, v.ownBlock = some g → B ≤ g ∧ g < w.heap.size ∧ ∃ cs fr, w.heap[g]? = some (.cells cs 129 fr) := by
  intro g hg
  rcases h.2 with ⟨rfl, _⟩ | ⟨g', cap, cur, rfl, hb, hc, _⟩
  · simp [Value.ownBlock] at hg
  · simp [Value.ownBlock] at hg
    subst hg
    exact ⟨hb, (Array.getElem?_eq_some_iff.1 hc).1, _, _, hc⟩
theorem ownS_below {w w' : World} {B : Nat} {v : Value} {l : List Q4} (h : OwnS w B v l) (hb : Below w.heap.size w w') : OwnS w' B v l :=
  ownS_keep (S := fun k => w.heap.size ≤ k) h (Only.of_below _ hb) (fun g hg hs => by have := (ownS_lt h g hg).2.1; omega)
/-- What a line says stands while only blocks of lines' rows turn. -/
theorem stmV_typed {w w' : World} {B : Nat} {s : Stm} {c0 c1 c2 c3 : Value} (h : StmV w B s c0 c1 c2 c3) {S : Nat → Prop} (o : Only S w w') (hS : ∀ k, S k → ∃ cs fr, w.heap[k]? = some (.cells cs 129 fr)) : StmV w' B s c0 c1 c2 c3 := by
  have no : ∀ k cs t fr, w.heap[k]? = some (.cells cs t fr) → t ≠ 129 → ¬ S k := fun k cs t fr h1 h2 h3 => by
    obtain ⟨cs', fr', h4⟩ := hS k h3
    rw [h1] at h4
    injection h4 with h4
    injection h4 with _ h5
    exact h2 h5
  have nw : ∀ v ws, OwnW w B v ws → OwnW w' B v ws := fun v ws h1 => ownW_keep h1 o (fun k hk => by
    rcases h1.2 with ⟨rfl, _⟩ | ⟨g', cap, cur, rfl, hb, hc, _⟩
    · simp [Value.ownBlock] at hk
    · simp [Value.ownBlock] at hk
      subst hk
      exact no _ _ _ _ hc (by decide))
  cases s with
  | none => exact h
  | label l => exact h
  | words ws => exact ⟨h.1, nw _ _ h.2.1, h.2.2⟩
  | la rd l =>
    obtain ⟨h0, ⟨ws, hl, h1⟩, h2, b, h3, h4, h5⟩ := h
    exact ⟨h0, ⟨ws, hl, nw _ _ h1⟩, h2, b, h3, h4, o.keeps (no _ _ _ _ h5 (by decide)) h5⟩
  | jump i l =>
    obtain ⟨h0, ⟨ws, hl, h1⟩, h2, b, h3, h4, m, h5⟩ := h
    exact ⟨h0, ⟨ws, hl, nw _ _ h1⟩, h2, b, h3, h4, m, o.keeps (no _ _ _ _ h5 (by decide)) h5⟩
theorem stmV_below {w w' : World} {B : Nat} {s : Stm} {c0 c1 c2 c3 : Value} (h : StmV w B s c0 c1 c2 c3) (hb : Below w.heap.size w w') : StmV w' B s c0 c1 c2 c3 :=
  stmV_typed (S := fun _ => False) h ⟨hb.os, hb.tape, hb.output, hb.size, fun k hk _ => hb.block k hk⟩ (fun k hk => hk.elim)
/-- A row of lines' meanings. -/
structure StmRow (w : World) (B : Nat) (v : Value) (ss : List Stm) (qs : List Q4) : Prop where
  own : OwnS w B v qs
  len : qs.length = ss.length
  at' : ∀ k (hk : k < ss.length) (hq : k < qs.length), StmV w B ss[k] qs[k].1 qs[k].2.1 qs[k].2.2.1 qs[k].2.2.2
theorem stmRow_nil (w : World) (B : Nat) : StmRow w B (.slice none 0 0) [] [] := ⟨⟨rfl, .inl ⟨rfl, rfl⟩⟩, rfl, fun k hk => by simp at hk⟩
theorem stmRow_below {w w' : World} {B : Nat} {v : Value} {ss : List Stm} {qs : List Q4} (h : StmRow w B v ss qs) (hb : Below w.heap.size w w') : StmRow w' B v ss qs :=
  ⟨ownS_below h.own hb, h.len, fun k hk hq => stmV_below (h.at' k hk hq) hb⟩
/-- One line more. -/
theorem stmRow_push (w : World) (B : Nat) (v : Value) (ss : List Stm) (qs : List Q4) (n : Nat) (hn : qs.length = n) (h : StmRow w B v ss qs) (hl : n ≤ 1000000) (hB : B ≤ w.heap.size) (s : Stm) (q : Q4) (hs : StmV w B s q.1 q.2.1 q.2.2.1 q.2.2.2) (ty : TypeId) :
    ∃ A C w', (Builtin.append_ #[76, 76] ty #[v, .slice (some ⟨w.heap.size, 0, none⟩) 1 1]).run Tryz.prog (w.alloc (.cells #[q.1, q.2.1, q.2.2.1, q.2.2.2] 129)) = .ok (.slice A (n + 1) C) w' ∧ StmRow w' B (.slice A (n + 1) C) (ss ++ [s]) (qs ++ [q]) ∧ (∀ B0 w0, Below B0 w0 w → B0 ≤ B → B0 ≤ w.heap.size → Below B0 w0 w') := by
  obtain ⟨i0, hi, hz0, hz1, hz2⟩ := info_parts info_stmP
  have ha : Below w.heap.size w (w.alloc (.cells #[q.1, q.2.1, q.2.2.1, q.2.2.2] 129)) := (Below.refl _ _).alloc (Nat.le_refl _) _
  have h2 := stmRow_below h ha
  have hs2 := stmV_below hs ha
  have hc := heap_alloc_new w (.cells #[q.1, q.2.1, q.2.2.1, q.2.2.2] 129)
  have hBa := Nat.le_trans hB ha.size
  have hold := ha.size
  generalize w.alloc (.cells #[q.1, q.2.1, q.2.2.1, q.2.2.2] 129) = wa at *
  have hone := stmV_four hs
  have hn1 : ∀ j u, (q4C q)[j]? = some u → wa.cell? ((⟨w.heap.size, 0, none⟩ : Addr).add j) = some u := by
    intro j u hj
    rw [Lib.add_plain, Nat.zero_add, Lib.cell_of_heap hc]
    simpa [q4C] using hj
  have h1 : ∀ u ∈ q4C q, u.oneCell' = true := by
    intro u hu
    simp [q4C] at hu
    rcases hu with rfl | rfl | rfl | rfl
    · exact hone.1
    · exact hone.2.1
    · exact hone.2.2.1
    · exact hone.2.2.2
  obtain ⟨v', w', hr, ho, hg, _, h5⟩ := run_append_own_at (P := Tryz.prog) wa B 76 ty 129 i0 _ 4 64 Tryz.underlying76 hi hz0 hz1 hz2 rfl (by decide) v qs.length _ h2.own ⟨w.heap.size, 0, none⟩ 1 1 (q4C q) rfl hn1 h1 (by unfold maxLen; omega) (by omega) hBa
  have ho' : OwnS w' B v' (qs ++ [q]) := by
    unfold OwnS
    rw [q4Cs_app, List.length_append]
    simpa [q4Cs] using ho
  have hon : Only (fun k => v.ownBlock = some k) wa w' := (Only.refl _ wa).grown hg (fun k hk => .inl hk)
  have hty : ∀ k, v.ownBlock = some k → ∃ cs fr, wa.heap[k]? = some (.cells cs 129 fr) := fun k hk => (ownS_lt h2.own k hk).2.2
  obtain ⟨A, C, rfl⟩ := ownS_slice ho'
  have e : (qs ++ [q]).length = n + 1 := by simp [hn]
  rw [e] at hr ho'
  refine ⟨A, C, w', hr, ⟨ho', by simp [h.len], fun k hk hq => ?_⟩, fun B0 w0 hb h1 h2' => ?_⟩
  · by_cases c : k < ss.length
    · have c2 : k < qs.length := by rw [h.len]; exact c
      rw [List.getElem_append_left c, List.getElem_append_left c2]
      exact stmV_typed (h2.at' k c c2) hon hty
    · have hk2 : k = ss.length := by simp at hk; omega
      subst hk2
      have hq2 : ss.length = qs.length := h.len.symm
      have e1 : (ss ++ [s])[ss.length] = s := by simp
      have e2 : ∀ (i : Nat) (hi : i < (qs ++ [q]).length), i = qs.length → (qs ++ [q])[i] = q := fun i hi hh => by subst hh; simp
      rw [e1, e2 _ hq hq2]
      exact stmV_typed hs2 hon hty
  · have hbw := hb
    have hb3 : Below B0 w0 wa := hb.trans (ha.mono h2')
    exact Below.thenOnly hb3 hon (fun k hk => Nat.le_trans h1 (ownS_lt h2.own k hk).1) (Nat.le_trans h2' hold)

end Go.Proofs.YtakdhdaoklcidaaGreatDoor

namespace Go.Proofs.YtakdhdaoklcidaaGreatDoor
open Go.RowKit Go.Lib
set_option linter.unusedVariables false
set_option maxRecDepth 100000

def RaEnd (w : World) (ls : List Bs) (e : Ending) (w' : World) : Prop :=
  (∃ k, k < ls.length ∧ (∀ i, i < k → ∃ s, lineS (ls.getD i []) = some s) ∧ lineS (ls.getD k []) = none ∧ e = .returned (.tuple #[.slice none 0 0, .int .i64 ((k : Int) + 1)]) ∧ Below w.heap.size w w') ∨
  ((∀ i, i < ls.length → ∃ s, lineS (ls.getD i []) = some s) ∧ ∃ v qs, e = .returned (.tuple #[v, .int .i64 0]) ∧ StmRow w' w.heap.size v (ls.filterMap lineS) qs ∧ Below w.heap.size w w')
theorem stmRow_base {w : World} {B B' : Nat} {v : Value} {ss : List Stm} {qs : List Q4} (h : StmRow w B v ss qs) (hB : B' ≤ B) : StmRow w B' v ss qs := by
  refine ⟨⟨h.own.1, ?_⟩, h.len, fun k hk hq => stmV_base (h.at' k hk hq) hB⟩
  rcases h.own.2 with hn | ⟨g, cap, cur, rfl, hb, rest⟩
  · exact .inl hn
  · exact .inr ⟨g, cap, cur, rfl, by omega, rest⟩

set_option maxHeartbeats 4000000 in
theorem readAll_any (l : Bs) (hl : l.length ≤ 70000) (w : World) (he : Env w) : Calls Tryz.prog 43 #[str l] w (RaEnd w (linesT l)) := by
  have HSP := Lib.hid (splitP l w (by omega) he)
  have hlen : ∀ x ∈ linesT l, x.length ≤ l.length := (splitK_len _ l).2
  have HLN := Lib.hid hlen
  have HE := Lib.hid he
  have hnl : (linesT l).length ≤ 1000000 := by
    have h1 := (splitK_len (Lib.count l [10]) l).1
    have h2 : Lib.count l [10] ≤ l.length := by rw [Lib.count_one]; exact List.count_le_length
    have h3 : (linesT l).length = (splitK [10] 0 (Lib.count l [10]) l).length := rfl
    omega
  clear he hlen
  generalize linesT l = ls at *
  go_enter Tryz.func43, Tryz.ntmps43
  go_wp2_with (fail)
  (with_reducible refine HSP.out.mono ?_)
  rintro e w1 ⟨rfl, hw1⟩
  have HCL : Hid (∀ j, j < ls.length → w1.cell? ⟨w.heap.size, j, none⟩ = some (str (ls.getD j []))) := Lib.hid fun j hj => by
    rw [hw1, Lib.cell_of_heap (heap_alloc_new w _)]
    simp [List.getD_eq_getElem?_getD, List.getElem?_eq_getElem hj]
  have HB1 : Hid (Below w.heap.size w w1) := Lib.hid (by rw [hw1]; exact (Below.refl _ _).alloc (Nat.le_refl _) _)
  clear hw1 HSP
  go_wp2
  go_loopw [2, 11] (fun v k wr => ∃ (j : Nat) (qs : List Q4), j ≤ ls.length ∧ k = .int .i64 j ∧ (∀ i, i < j → ∃ s, lineS (ls.getD i []) = some s) ∧ StmRow wr w1.heap.size v ((ls.take j).filterMap lineS) qs ∧ ((ls.take j).filterMap lineS).length = j ∧ Below w1.heap.size w1 wr) (fun _ k _ => ls.length - (RowKit.intOf k).toNat)
  case atStart => exact ⟨0, [], Nat.zero_le _, rfl, fun i hi => by omega, stmRow_nil _ _, rfl, Below.refl _ _⟩
  case round =>
    obtain ⟨j, qs, hj, rfl, hall, hrow, hsl, hb⟩ := hrel
    obtain ⟨A, C, rfl⟩ := ownS_slice hrow.own
    have hqn : qs.length = j := by rw [hrow.len, hsl]
    rw [hqn]
    have HALL := Lib.hid hall
    have HROW := Lib.hid hrow
    have HB := Lib.hid hb
    have HQN := Lib.hid hqn
    have HSL := Lib.hid hsl
    clear hall hqn hsl
    by_cases hlt : j < ls.length
    · have hx := HCL.out j hlt
      have hxw := cell_stays HB.out hx
      have hmem : ls.getD j [] ∈ ls := by rw [List.getD_eq_getElem?_getD, List.getElem?_eq_getElem hlt]; exact List.getElem_mem hlt
      have hll := HLN.out _ hmem
      have htk : ls.take (j + 1) = ls.take j ++ [ls.getD j []] := by rw [List.take_succ_eq_append_getElem hlt, List.getD_eq_getElem?_getD, List.getElem?_eq_getElem hlt]; rfl
      have HTK := Lib.hid htk
      have HRD := Lib.hid (fun w he => readL (ls.getD j []) (by omega) w he)
      have HSZ := Lib.hid hb.size
      have HEW := Lib.hid ((HE.out.below HB1.out).below HB.out)
      clear hx hmem hll htk hb hrow
      generalize hlj : ls.getD j [] = lj at *
      have HLJ := Lib.hid hlj
      clear hlj
      go_wp2_with (fail)
      (with_reducible refine (HRD.out _ HEW.out).mono ?_)
      rintro e w2 ⟨hy, hno, hb2⟩
      have HB2 := Lib.hid (HB.out.trans (hb2.mono HB.out.size))
      have HROW2 := Lib.hid (stmRow_below HROW.out hb2)
      clear hxw
      cases hls : lineS lj with
      | none =>
        obtain ⟨v, rfl, c0, c1, c2, c3, rfl, o0, o1, o2, o3⟩ := hno hls
        have HLS := Lib.hid hls
        clear hy hno hb2 hls
        go_wp2_with (refine wpList_store_row rfl _ _ _ rfl w2.heap.size _ rfl rfl 129 _ (heap_alloc_new w2 _) size_stm rfl (four_one o0 o1 o2 o3) ?_)
        go_ret2
        exact Or.inl ⟨j, hlt, HALL.out, by rw [HLJ.out]; exact HLS.out, rfl, HB1.out.trans ((below_setRow (HB2.out.alloc HB2.out.size _) HB2.out.size _).mono HB1.out.size)⟩
      | some st =>
        obtain ⟨v, rfl, c0, c1, c2, c3, rfl, hst⟩ := hy st hls
        obtain ⟨o0, o1, o2, o3⟩ := stmV_four hst
        have HST := Lib.hid (stmV_base hst HSZ.out)
        have HLS := Lib.hid hls
        have HB2S := Lib.hid hb2.size
        clear hy hno hls hst hb2
        go_wp2_with (first
          | (refine wpList_store_row rfl _ _ _ rfl w2.heap.size _ rfl rfl 129 _ (heap_alloc_new w2 _) size_stm rfl (four_one o0 o1 o2 o3) ?_; refine Hid.out ?_))
        have hbww : Below w2.heap.size w2 ((w2.alloc (.cells #[.string ⟨#[]⟩, .slice none 0 0, .string ⟨#[]⟩, .nilFunc] 129)).setRow w2.heap.size #[c0, c1, c2, c3]) := below_setRow ((Below.refl _ _).alloc (Nat.le_refl _) _) (Nat.le_refl _) _
        have hcw : ((w2.alloc (.cells #[.string ⟨#[]⟩, .slice none 0 0, .string ⟨#[]⟩, .nilFunc] 129)).setRow w2.heap.size #[c0, c1, c2, c3]).heap[w2.heap.size]? = some (.cells #[c0, c1, c2, c3] 129 (0, 0)) := setRow_heap _ _ _ _ _ _ (heap_alloc_new w2 _)
        generalize (w2.alloc (.cells #[.string ⟨#[]⟩, .slice none 0 0, .string ⟨#[]⟩, .nilFunc] 129)).setRow w2.heap.size #[c0, c1, c2, c3] = ww at *
        have HROW3 := stmRow_below HROW2.out hbww
        have HST3 := stmV_below HST.out hbww
        have HB3 := HB2.out.trans (hbww.mono HB2.out.size)
        have HCW := Lib.hid hcw
        obtain ⟨A4, C4, w4, hr4, hrow4, hb4⟩ := stmRow_push ww w1.heap.size _ _ qs j HQN.out HROW3 (by omega) HB3.size st (c0, c1, c2, c3) HST3 76
        rw [HQN.out] at hr4
        have HRUN := Lib.hid hr4
        have HROW4 := Lib.hid hrow4
        have HB4 := Lib.hid (hb4 w1.heap.size w1 HB3 (Nat.le_refl _) HB3.size)
        have HALL4 : Hid (∀ i, i < j + 1 → ∃ s, lineS (ls.getD i []) = some s) := Lib.hid fun i hi => by
          by_cases c : i < j
          · exact HALL.out i c
          · obtain rfl : i = j := by omega
            exact ⟨st, by rw [HLJ.out]; exact HLS.out⟩
        have HFM : Hid ((ls.take (j + 1)).filterMap lineS = (ls.take j).filterMap lineS ++ [st]) := Lib.hid (by
          rw [HTK.out, List.filterMap_append]
          simp [HLS.out])
        clear hbww hcw HROW3 HST3 HB3 hr4 hrow4 hb4 HROW2 HST HB2 HB2S
        refine Lib.hid ?_
        go_wp2_with (first
          | (refine wpList_load_row rfl _ _ rfl w2.heap.size rfl 129 _ _ _ HCW.out Tryz.underlying129 rfl size_stm ?_)
          | (at_builtin; refine wpList_append_run rfl _ _ _ rfl (.slice A j C) (.slice (some ⟨ww.heap.size, 0, none⟩) 1 1) (.slice A4 (j + 1) C4) w4 rfl rfl HRUN.out ?_))
        go_roundw
        case rel => exact ⟨j + 1, qs ++ [(c0, c1, c2, c3)], by omega, by go_num, HALL4.out, by rw [HFM.out]; exact HROW4.out, by rw [HFM.out, List.length_append, HSL.out]; rfl, HB4.out⟩
        case measure => simp [RowKit.intOf]; omega
    · obtain rfl : j = ls.length := by omega
      rw [List.take_length] at HROW
      clear HCL
      go_wp2
      go_ret2
      exact Or.inr ⟨HALL.out, _, qs, rfl, by have := stmRow_base HROW.out HB1.out.size; rw [HQN.out] at *; exact this, HB1.out.trans (HB.out.mono HB1.out.size)⟩

end Go.Proofs.YtakdhdaoklcidaaGreatDoor

namespace Go.Proofs.YtakdhdaoklcidaaGreatDoor
open Go.RowKit Go.Lib Go.Maps Go.WideMaps
set_option linter.unusedVariables false
set_option maxRecDepth 100000

/-- Block mb is a map from labels to addresses, of at most n entries. -/
def LabMap (w : World) (mb n : Nat) (f : Bs → Option Int) : Prop :=
  ∃ D : DataW Unit, w.ownsMap Tryz.prog 9 (plainElem Tryz.prog 36) mb n D ∧ (∀ l, Maps.has D (.string l) = (f l).isSome) ∧ (∀ l, D.atKey (.string l) (.lit (.int .u64 0)) = .lit (.int .u64 ((f l).getD 0)))
theorem labKeyed : Keyed Tryz.prog 9 := string_keyed Tryz.underlying9
theorem labKey (l : Bs) (hl : l.length ≤ 1000000) : keyOf Tryz.prog 9 (str l) = some (.string l) := by
  have h := Go.WideMaps.keyOf_string_mk (P := Tryz.prog) (k := 9) Tryz.underlying9 (s := ⟨l.toArray⟩) (by show l.toArray.size ≤ _; rw [List.size_toArray]; unfold maxLen; omega)
  exact h
theorem LabMap.made (w : World) : LabMap (w.alloc (.map #[] 0)) w.heap.size 0 fun _ => none :=
  ⟨_, World.ownsMap_made w Tryz.prog _ _, fun l => rfl, fun l => rfl⟩
theorem LabMap.lt {w : World} {mb n : Nat} {f : Bs → Option Int} (h : LabMap w mb n f) : mb < w.heap.size := by obtain ⟨D, h1, _⟩ := h; exact h1.lt
theorem LabMap.keeps {w w' : World} {mb n : Nat} {f : Bs → Option Int} {S : Nat → Prop} (h : LabMap w mb n f) (o : Only S w w') (hs : ¬ S mb) : LabMap w' mb n f := by
  obtain ⟨D, h1, h2⟩ := h
  have hlt := h1.lt
  obtain ⟨es, clock, hb, r⟩ := h1
  exact ⟨D, ⟨es, clock, (o.block mb hlt hs).trans hb, r⟩, h2⟩
theorem LabMap.below {w w' : World} {mb n : Nat} {f : Bs → Option Int} (h : LabMap w mb n f) (hb : Below w.heap.size w w') : LabMap w' mb n f :=
  h.keeps (S := fun k => w.heap.size ≤ k) (Only.of_below _ hb) (by have := h.lt; omega)
theorem LabMap.look {w : World} {mb n : Nat} {f : Bs → Option Int} (h : LabMap w mb n f) (l : Bs) (hl : l.length ≤ 1000000) :
    (Instr.lookup 79 (.map (some mb)) (str l) true).run Tryz.prog w = .ok (.tuple #[.int .u64 ((f l).getD 0), .bool (f l).isSome]) w := by
  obtain ⟨D, h1, h2, h3⟩ := h
  obtain ⟨v, ps, hr, hv⟩ := h1.look_ok labKeyed Tryz.underlying79 (Tryz.zeroValue36 w) (plainElem_int (H := Unit) Tryz.underlying36 (a := 0) (by decide)) (labKey l hl)
  obtain ⟨a, rfl, ha, _⟩ := plainElem_int_inv Tryz.underlying36 hv
  have e := congrArg Prod.fst ha
  simp only [] at e
  rw [h3 l] at e
  injection e with e
  injection e with _ e
  rw [hr, h2 l, ← e]
theorem LabMap.put {w : World} {mb n : Nat} {f : Bs → Option Int} (h : LabMap w mb n f) (hn : n ≤ 1000000) (l : Bs) (hl : l.length ≤ 1000000) (a : Int) (ha : 0 ≤ a ∧ a < 18446744073709551616) :
    ∃ w', (Instr.mapUpdate 79 (.map (some mb)) (str l) (.int .u64 a)).run Tryz.prog w = .ok () w' ∧ LabMap w' mb (n + 1) (fun x => if x = l then some a else f x) ∧ Only (fun k => k = mb) w w' := by
  obtain ⟨D, h1, h2, h3⟩ := h
  have hw : (Lit.int .u64 a).wf = true := by simp [Lit.wf, IntKind.min, IntKind.max, IntKind.signed, IntKind.bits]; omega
  obtain ⟨w', hr, ho, hg⟩ := h1.store labKeyed Tryz.underlying79 (by unfold maxLen; omega) (labKey l hl) (plainElem_int (H := Unit) Tryz.underlying36 hw)
  have g := hg.grown
  refine ⟨w', hr, ⟨_, ho, fun x => ?_, fun x => ?_⟩, ⟨g.os, g.tape, g.output, g.size, fun i hi hn => g.block i hi (by intro e; cases e; exact hn rfl)⟩⟩
  · by_cases e : x = l
    · subst e
      show _ = (if x = x then some a else f x).isSome
      rw [if_pos rfl, Maps.has_put_same h1.isMap (labKeyed.key (labKey x hl))]; rfl
    · show _ = (if x = l then some a else f x).isSome
      rw [if_neg e, Maps.has_put_other (by intro h; injection h with h; exact e h)]; exact h2 x
  · by_cases e : x = l
    · subst e
      show _ = DataW.lit (.int .u64 ((if x = x then some a else f x).getD 0))
      rw [if_pos rfl]; exact Maps.atKey_put_same h1.isMap (labKeyed.key (labKey x hl)) _ _
    · show _ = DataW.lit (.int .u64 ((if x = l then some a else f x).getD 0))
      rw [if_neg e, Maps.atKey_put_other (by intro h; injection h with h; exact e h)]; exact h3 x

/-- The label that a line is; how many words it has. -/
def labOf : Stm → Bs
  | .label l => l
  | _ => []
def sizeS : Stm → Nat
  | .none => 0
  | .label _ => 0
  | .words ws => ws.length
  | .la _ _ => 2
  | .jump _ _ => 1
/-- Where the k-th line's words stand. -/
def atK (ss : List Stm) (base : Int) : Nat → Int
  | 0 => base
  | k + 1 => (atK ss base k + 4 * ((sizeS (ss.getD k .none) : Nat) : Int)) % 18446744073709551616
/-- The labels of the first k lines. -/
def labF (ss : List Stm) (base : Int) : Nat → Bs → Option Int
  | 0 => fun _ => none
  | k + 1 => fun l => if labOf (ss.getD k .none) ≠ [] ∧ l = labOf (ss.getD k .none) then some (atK ss base k) else labF ss base k l
/-- Whether the k-th line is a label that stands in a line ahead. -/
def dupAt (ss : List Stm) (base : Int) (k : Nat) : Bool := !(labOf (ss.getD k .none)).isEmpty && (labF ss base k (labOf (ss.getD k .none))).isSome
theorem atK_in (ss : List Stm) (base : Int) (h : 0 ≤ base ∧ base < 18446744073709551616) (k : Nat) : 0 ≤ atK ss base k ∧ atK ss base k < 18446744073709551616 := by
  cases k with
  | zero => exact h
  | succ k => unfold atK; omega
theorem stm_c0 {w : World} {B : Nat} {s : Stm} {c0 c1 c2 c3 : Value} (h : StmV w B s c0 c1 c2 c3) : c0 = str (labOf s) ∧ ∃ A C, c1 = .slice A (sizeS s) C := by
  cases s with
  | none => exact ⟨h.1, _, _, h.2.1⟩
  | label l => exact ⟨h.1, _, _, h.2.1⟩
  | words ws => obtain ⟨A, C, hv⟩ := ownW_slice h.2.1; exact ⟨h.1, _, _, hv⟩
  | la rd l => obtain ⟨h0, ⟨ws, hl, h1⟩, _⟩ := h; obtain ⟨A, C, hv⟩ := ownW_slice h1; exact ⟨h0, A, C, by rw [hv, hl]; rfl⟩
  | jump i l => obtain ⟨h0, ⟨ws, hl, h1⟩, _⟩ := h; obtain ⟨A, C, hv⟩ := ownW_slice h1; exact ⟨h0, A, C, by rw [hv, hl]; rfl⟩
/-- The cells of a row of lines. -/
theorem q4Cs_at : ∀ (l : List Q4) (k j : Nat) (hk : k < l.length), j < 4 → (q4Cs l)[k * 4 + j]? = some ((q4C l[k]).getD j undef)
  | [], k, j, hk, hj => by simp at hk
  | q :: l, 0, j, hk, hj => by
    have e : q4Cs (q :: l) = q4C q ++ q4Cs l := by simp [q4Cs]
    rw [e, Nat.zero_mul, Nat.zero_add, List.getElem?_append_left (by simpa [q4C] using hj)]
    simp only [List.getElem_cons_zero]
    rw [List.getD_eq_getElem?_getD, List.getElem?_eq_getElem (by simpa [q4C] using hj)]; rfl
  | q :: l, k + 1, j, hk, hj => by
    have e : q4Cs (q :: l) = q4C q ++ q4Cs l := by simp [q4Cs]
    have h4 : (q4C q).length = 4 := rfl
    rw [e, List.getElem?_append_right (by rw [h4]; omega), h4, show (k + 1) * 4 + j - 4 = k * 4 + j by omega]
    simp only [List.getElem_cons_succ]
    exact q4Cs_at l k j (by simpa using hk) hj
def SAt (w : World) (g : Nat) (qs : List Q4) : Prop := ∀ k (hk : k < qs.length), w.cell? ⟨g, k * 4, none⟩ = some qs[k].1 ∧ w.cell? ⟨g, k * 4 + 1, none⟩ = some qs[k].2.1 ∧ w.cell? ⟨g, k * 4 + 2, none⟩ = some qs[k].2.2.1 ∧ w.cell? ⟨g, k * 4 + 3, none⟩ = some qs[k].2.2.2
theorem sAt_own {w : World} {B : Nat} {v : Value} {l : List Q4} (h : OwnS w B v l) (hl : l ≠ []) : ∃ g C, v = .slice (some ⟨g, 0, none⟩) l.length C ∧ SAt w g l ∧ g < w.heap.size := by
  rcases h.2 with ⟨rfl, h0⟩ | ⟨g, cap, cur, rfl, hb, hc, hn, _, hcs, ht⟩
  · exact absurd (List.eq_nil_of_length_eq_zero h0) hl
  · refine ⟨g, cap, rfl, fun k hk => ?_, (Array.getElem?_eq_some_iff.1 hc).1⟩
    have at1 : ∀ j, j < 4 → w.cell? ⟨g, k * 4 + j, none⟩ = some ((q4C l[k]).getD j undef) := fun j hj => by
      rw [Lib.cell_of_heap hc]
      have h1 := q4Cs_at l k j hk hj
      rw [← ht, List.getElem?_take, if_pos (by omega)] at h1
      simpa using h1
    exact ⟨at1 0 (by decide), at1 1 (by decide), at1 2 (by decide), at1 3 (by decide)⟩
theorem sAt_below {w w' : World} {g : Nat} {l : List Q4} (h : SAt w g l) (hb : Below w.heap.size w w') : SAt w' g l := fun k hk =>
  ⟨cell_stays hb (h k hk).1, cell_stays hb (h k hk).2.1, cell_stays hb (h k hk).2.2.1, cell_stays hb (h k hk).2.2.2⟩

end Go.Proofs.YtakdhdaoklcidaaGreatDoor

namespace Go.Proofs.YtakdhdaoklcidaaGreatDoor
open Go.RowKit Go.Lib Go.Maps Go.WideMaps
set_option linter.unusedVariables false
set_option maxRecDepth 100000

def PlEnd (w : World) (ss : List Stm) (base : Int) (e : Ending) (w' : World) : Prop :=
  (∃ k, k < ss.length ∧ (∀ i, i < k → dupAt ss base i = false) ∧ dupAt ss base k = true ∧ e = .returned (.tuple #[.map none, .int .i64 ((k : Int) + 1)]) ∧ Below w.heap.size w w') ∨
  ((∀ i, i < ss.length → dupAt ss base i = false) ∧ ∃ mb n, e = .returned (.tuple #[.map (some mb), .int .i64 0]) ∧ w.heap.size ≤ mb ∧ LabMap w' mb n (labF ss base ss.length) ∧ Below w.heap.size w w')
theorem dup_no {ss : List Stm} {base : Int} {k : Nat} {f : Bs → Option Int} {l : Bs} (hf : labF ss base k = f) (hl : labOf (ss.getD k .none) = l) (h : l = [] ∨ f l = none) : dupAt ss base k = false := by
  unfold dupAt
  rw [hf, hl]
  rcases h with h | h
  · simp [h]
  · simp [h]
theorem dup_yes {ss : List Stm} {base : Int} {k : Nat} {f : Bs → Option Int} {l : Bs} {a : Int} (hf : labF ss base k = f) (hl : labOf (ss.getD k .none) = l) (h0 : l ≠ []) (h : f l = some a) : dupAt ss base k = true := by
  unfold dupAt
  rw [hf, hl]
  cases l with
  | nil => exact absurd rfl h0
  | cons a l => simp [h]
theorem labF_no {ss : List Stm} {base : Int} {k : Nat} (hl : labOf (ss.getD k .none) = []) : labF ss base (k + 1) = labF ss base k := by
  funext l
  show (if labOf (ss.getD k .none) ≠ [] ∧ l = labOf (ss.getD k .none) then some (atK ss base k) else labF ss base k l) = _
  rw [if_neg (fun h => h.1 hl)]
theorem labF_yes {ss : List Stm} {base : Int} {k : Nat} {l : Bs} (hl : labOf (ss.getD k .none) = l) (h0 : l ≠ []) : labF ss base (k + 1) = fun x => if x = l then some (atK ss base k) else labF ss base k x := by
  funext x
  show (if labOf (ss.getD k .none) ≠ [] ∧ x = labOf (ss.getD k .none) then some (atK ss base k) else labF ss base k x) = _
  rw [hl]
  by_cases c : x = l
  · rw [if_pos ⟨h0, c⟩, if_pos c]
  · rw [if_neg (fun h => c h.2), if_neg c]
/-- What place asks of the lines' cells. -/
structure QAt (ss : List Stm) (qs : List Q4) : Prop where
  len : qs.length = ss.length
  at' : ∀ k (hk : k < ss.length), ∃ A C c2 c3, qs[k]? = some (str (labOf (ss.getD k .none)), .slice A (sizeS (ss.getD k .none)) C, c2, c3) ∧ c2.oneCell' = true ∧ c3.oneCell' = true
  size : ∀ k, sizeS (ss.getD k .none) ≤ 100
  lab : ∀ k, (labOf (ss.getD k .none)).length ≤ 1000000

set_option maxHeartbeats 4000000 in
theorem place_any (ss : List Stm) (qs : List Q4) (hQ : QAt ss qs) (base : Int) (hbase : 0 ≤ base ∧ base < 18446744073709551616) (hn : ss.length ≤ 900000) (w : World) (g C : Nat) (hS : SAt w g qs) (hg : g < w.heap.size) :
    Calls Tryz.prog 44 #[.slice (some ⟨g, 0, none⟩) ss.length C, .int .u64 base] w (PlEnd w ss base) := by
  have HQ := Lib.hid hQ
  have HS := Lib.hid hS
  have HMD := Lib.hid (LabMap.made w)
  have hmm : ∀ w, (Instr.makeMap 79 none).run Tryz.prog w = .ok (.map (some w.heap.size)) (w.alloc (.map #[] 0)) := fun w => rfl
  have HAI := Lib.hid (fun k => atK_in ss base hbase k)
  clear hQ hS
  go_enter Tryz.func44, Tryz.ntmps44
  go_wp2

  have HB0 : Hid (Below w.heap.size w (w.alloc (.map #[] 0))) := Lib.hid ((Below.refl _ _).alloc (Nat.le_refl _) _)
  have HSZ0 : Hid (w.heap.size < (w.alloc (.map #[] 0)).heap.size) := Lib.hid (by rw [World.size_alloc]; omega)
  generalize w.alloc (.map #[] 0) = w1 at *
  go_loopw [4, 6, 15] (fun m4 v k wr => ∃ (j n : Nat), j ≤ ss.length ∧ n ≤ j ∧ m4 = .map (some w.heap.size) ∧ k = .int .i64 j ∧ v = .int .u64 (atK ss base j) ∧ (∀ i, i < j → dupAt ss base i = false) ∧ LabMap wr w.heap.size n (labF ss base j) ∧ Below w.heap.size w wr ∧ w.heap.size < wr.heap.size) (fun _ _ k _ => ss.length - (RowKit.intOf k).toNat)
  case atStart => exact ⟨0, 0, Nat.zero_le _, Nat.le_refl _, rfl, rfl, rfl, fun i hi => by omega, HMD.out, HB0.out, HSZ0.out⟩
  case round =>
    obtain ⟨j, n, hj, hnj, rfl, rfl, rfl, hdup, hmap, hbw, hsz⟩ := hrel
    have HDUP := Lib.hid hdup
    have HMAP := Lib.hid hmap
    have HBW := Lib.hid hbw
    have HSZ := Lib.hid hsz
    clear hdup hmap hbw
    by_cases hlt : j < ss.length
    · obtain ⟨A, C2, c2, c3, hq, o2, o3⟩ := HQ.out.at' j hlt
      have hsj := HQ.out.size j
      have hlj := HQ.out.lab j
      have hai := HAI.out j
      have hat : atK ss base (j + 1) = (atK ss base j + 4 * ((sizeS (ss.getD j .none) : Nat) : Int)) % 18446744073709551616 := rfl
      have hjq : j < qs.length := by rw [HQ.out.len]; exact hlt
      rw [List.getElem?_eq_getElem hjq] at hq
      injection hq with hq
      have h4 := HS.out j hjq
      rw [hq] at h4
      obtain ⟨x0, x1, x2, x3⟩ := h4
      have y0 := (HBW.out.cell (p := ⟨g, j * 4, none⟩) hg).trans x0
      have y1 := (HBW.out.cell (p := ⟨g, j * 4 + 1, none⟩) hg).trans x1
      have y2 := (HBW.out.cell (p := ⟨g, j * 4 + 2, none⟩) hg).trans x2
      have y3 := (HBW.out.cell (p := ⟨g, j * 4 + 3, none⟩) hg).trans x3
      clear x0 x1 x2 x3 hq
      generalize hll : labOf (ss.getD j .none) = l at *
      generalize sizeS (ss.getD j .none) = sz at *
      have HAT := Lib.hid hat
      have HLL := Lib.hid hll
      generalize hf : labF ss base j = f at *
      have HF := Lib.hid hf
      generalize hatj : atK ss base j = a at *
      have HATJ := Lib.hid hatj
      clear hat hll hf hatj
      go_wp2_with (first
        | (refine wpList_store_row rfl _ _ _ rfl wr.heap.size _ rfl rfl 129 _ (heap_alloc_new wr _) size_stm rfl (four_one rfl rfl o2 o3) ?_; refine Hid.out ?_))
      have hbww : Below w.heap.size w ((wr.alloc (.cells #[.string ⟨#[]⟩, .slice none 0 0, .string ⟨#[]⟩, .nilFunc] 129)).setRow wr.heap.size #[str l, .slice A sz C2, c2, c3]) := below_setRow (HBW.out.alloc HBW.out.size _) HBW.out.size _
      have hcw : ((wr.alloc (.cells #[.string ⟨#[]⟩, .slice none 0 0, .string ⟨#[]⟩, .nilFunc] 129)).setRow wr.heap.size #[str l, .slice A sz C2, c2, c3]).heap[wr.heap.size]? = some (.cells #[str l, .slice A sz C2, c2, c3] 129 (0, 0)) := setRow_heap _ _ _ _ _ _ (heap_alloc_new wr _)
      have hmw : LabMap ((wr.alloc (.cells #[.string ⟨#[]⟩, .slice none 0 0, .string ⟨#[]⟩, .nilFunc] 129)).setRow wr.heap.size #[str l, .slice A sz C2, c2, c3]) w.heap.size n f := HMAP.out.below (below_setRow ((Below.refl _ _).alloc (Nat.le_refl _) _) (Nat.le_refl _) _)
      have hrz : wr.heap.size < ((wr.alloc (.cells #[.string ⟨#[]⟩, .slice none 0 0, .string ⟨#[]⟩, .nilFunc] 129)).setRow wr.heap.size #[str l, .slice A sz C2, c2, c3]).heap.size := (Array.getElem?_eq_some_iff.1 hcw).1
      clear y0 y1 y2 y3
      generalize (wr.alloc (.cells #[.string ⟨#[]⟩, .slice none 0 0, .string ⟨#[]⟩, .nilFunc] 129)).setRow wr.heap.size #[str l, .slice A sz C2, c2, c3] = ww at *
      have hz0 : ww.cell? ⟨wr.heap.size, 0, none⟩ = some (str l) := by rw [Lib.cell_of_heap hcw]; rfl
      have hz1 : ww.cell? ⟨wr.heap.size, 1, none⟩ = some (.slice A sz C2) := by rw [Lib.cell_of_heap hcw]; rfl
      have HBWW := Lib.hid hbww
      have HMW := Lib.hid hmw
      have hlk := hmw.look l hlj
      have hnx : ∀ (_ : Unit), dupAt ss base j = false → ∀ i, i < j + 1 → dupAt ss base i = false := fun _ hd i hi => by
        by_cases c : i < j
        · exact HDUP.out i c
        · obtain rfl : i = j := by omega
          exact hd
      by_cases hl0 : l = []
      · subst hl0
        clear hlk hcw hbww hmw
        refine Lib.hid ?_
        go_wp2
        case roundEnd => exact ⟨⟨j + 1, n, by omega, by omega, rfl, rfl, congrArg (Value.int .u64) (by rw [HAT.out]; rfl), hnx () (dup_no HF.out HLL.out (.inl rfl)), by rw [labF_no HLL.out, HF.out]; exact HMW.out, HBWW.out, by have := HSZ.out; omega⟩, by simp [RowKit.intOf]; omega⟩
      · have hne : (!l.isEmpty) = true := by cases l with | nil => exact absurd rfl hl0 | cons _ _ => rfl
        cases hfl : f l with
        | some a' =>
          rw [hfl] at hlk
          have HFL := Lib.hid hfl
          clear hcw hbww hmw hfl
          refine Lib.hid ?_
          go_wp2
          go_ret2
          exact Or.inl ⟨j, hlt, HDUP.out, dup_yes HF.out HLL.out hl0 HFL.out, rfl, HBWW.out⟩
        | none =>
          rw [hfl] at hlk
          obtain ⟨w5, hput, hm5, ho5⟩ := hmw.put (by omega) l hlj a ⟨hai.1, hai.2⟩
          have hz1' : w5.cell? ⟨wr.heap.size, 1, none⟩ = some (.slice A sz C2) := by rw [Lib.cell_of_heap (ho5.keeps (by show ¬ wr.heap.size = w.heap.size; have := HSZ.out; omega) hcw)]; rfl
          have HM5 := Lib.hid hm5
          have HB5 : Hid (Below w.heap.size w w5) := Lib.hid (Below.thenOnly HBWW.out ho5 (fun k hk => by rw [hk]; exact Nat.le_refl _) (by have := HSZ.out; omega))
          have HZ5 : Hid (w.heap.size < w5.heap.size) := Lib.hid (by have := ho5.size; have := HSZ.out; omega)
          have HFL := Lib.hid hfl
          have HL0 := Lib.hid hl0
          clear hcw hbww hmw hfl hm5 ho5
          refine Lib.hid ?_
          go_wp2
          case roundEnd => exact ⟨⟨j + 1, n + 1, by omega, by omega, rfl, rfl, congrArg (Value.int .u64) (by rw [HAT.out]; rfl), hnx () (dup_no HF.out HLL.out (.inr HFL.out)), by rw [labF_yes HLL.out HL0.out, HATJ.out, HF.out]; exact HM5.out, HB5.out, HZ5.out⟩, by simp [RowKit.intOf]; omega⟩
    · obtain rfl : j = ss.length := by omega
      go_wp2
      go_ret2
      exact Or.inr ⟨HDUP.out, _, _, rfl, Nat.le_refl _, HMAP.out, HBW.out⟩

end Go.Proofs.YtakdhdaoklcidaaGreatDoor

namespace Go.Proofs.YtakdhdaoklcidaaGreatDoor
open Go.RowKit Go.Lib Go.Maps Go.WideMaps
set_option linter.unusedVariables false
set_option maxRecDepth 100000

theorem pourV (w : World) (B B' : Nat) (v vm : Value) (l m : List Int) (n k : Nat) (hn : l.length = n) (hk : m.length = k) (h : OwnW w B v l) (hm : OwnW w B' vm m) (hl : n + k ≤ 1000000) (hB : B ≤ w.heap.size) (ty : TypeId) :
    ∃ A C w', (Builtin.append_ #[37, 37] ty #[v, vm]).run Tryz.prog w = .ok (.slice A (n + k) C) w' ∧ OwnW w' B (.slice A (n + k) C) (l ++ m) ∧ Only (fun k => v.ownBlock = some k) w w' := by
  obtain ⟨i0, hi, hz0, hz1, hz2⟩ := info_parts info_u32
  rcases hm.2 with ⟨rfl, h0⟩ | ⟨g, cap, cur, rfl, hb, hg, hn1, hn2, hn3, ht⟩
  · have hm0 := List.eq_nil_of_length_eq_zero h0
    subst hm0
    subst hn
    subst hk
    have hr := run_append_owned_none (P := Tryz.prog) (w := w) B 37 ty 43 i0 1 Tryz.underlying37 hi v l.length _ h
    obtain ⟨A, C, rfl⟩ := ownW_slice h
    exact ⟨A, C, w, hr, by simpa using h, Only.refl _ _⟩
  · subst hn
    subst hk
    obtain ⟨v', w', hr, ho, hon, _⟩ := run_pourW w B v l m l.length rfl h (by omega) hB g 0 cap (fun j hj => by
      rw [Nat.zero_add, Lib.cell_of_heap hg]
      have e : (wordCs m)[j]? = some (.int .u32 (m.getD j 0)) := by simp [wordCs, List.getElem?_eq_getElem hj, List.getD_eq_getElem?_getD]
      rw [← ht, List.getElem?_take, if_pos (by omega)] at e
      simpa using e) ty
    obtain ⟨A, C, rfl⟩ := ownW_slice ho
    rw [List.length_append] at hr ho
    exact ⟨A, C, w', hr, by simpa using ho, hon⟩

/-- From w on only jumps' numbers turned, in blocks from B on. -/
structure Turn (B : Nat) (w wr : World) : Prop where
  only : Only (fun k => B ≤ k ∧ ∃ i, HoldsI w k i) w wr
  holds : ∀ k i, HoldsI w k i → HoldsI wr k i
theorem holdsI_lt {w : World} {k : Nat} {i : Ins} (h : HoldsI w k i) : k < w.heap.size := by obtain ⟨m, h⟩ := h; exact (Array.getElem?_eq_some_iff.1 h).1
theorem Turn.refl (B : Nat) (w : World) : Turn B w w := ⟨Only.refl _ _, fun _ _ h => h⟩
theorem Turn.bel {B : Nat} {w wr : World} (h : Turn B w wr) (hB : B ≤ w.heap.size) : Below B w wr := h.only.below (fun k hk => hk.1) hB
theorem Turn.below {B : Nat} {w wr w2 : World} (h : Turn B w wr) (hb : Below w.heap.size wr w2) : Turn B w w2 := by
  refine ⟨h.only.step (T := fun k => w.heap.size ≤ k) ⟨hb.os, hb.tape, hb.output, hb.size, fun k hk hs => hb.block k (by omega)⟩ (fun k hk => .inr hk), fun k i hi => ?_⟩
  obtain ⟨m, hm⟩ := h.holds k i hi
  exact ⟨m, (hb.block k (holdsI_lt hi)).trans hm⟩
theorem Turn.set {B : Nat} {w wr : World} (h : Turn B w wr) (p : Addr) (hp : w.heap.size ≤ p.block) (u : Value) : Turn B w (wr.setCell p u) :=
  h.below (((Only.refl (fun k => k = p.block) wr).setCell (.inl rfl) u).below (fun k hk => by rw [hk]; exact hp) h.only.size)
theorem insC_inj {i j : Ins} (h : insC i = insC j) : i = j := by
  obtain ⟨a, b, c, d, e, f, g, k⟩ := i
  obtain ⟨a', b', c', d', e', f', g', k'⟩ := j
  simp only [insC, List.cons.injEq, Value.int.injEq, Value.bool.injEq, true_and, and_true] at h
  obtain ⟨rfl, rfl, rfl, rfl, rfl, rfl, rfl, rfl⟩ := h
  rfl
theorem holdsI_same {w w2 : World} {b : Nat} {i j : Ins} (h : HoldsI w b i) (h2 : HoldsI w2 b i) (k : HoldsI w b j) : HoldsI w2 b j := by
  obtain ⟨m, hm⟩ := h
  obtain ⟨n, hn⟩ := k
  obtain ⟨p, hp⟩ := h2
  rw [hm] at hn
  injection hn with hn
  injection hn with hn _ _
  have e := insC_inj (congrArg Array.toList hn)
  refine ⟨p, ?_⟩
  have e2 : withImm i p = withImm j p := by
    have := congrArg (fun x => withImm x p) e
    exact this
  rw [hp, e2]
theorem Turn.jump {B : Nat} {w wr w2 : World} {b : Nat} {i : Ins} (h : Turn B w wr) (hb : B ≤ b) (hi : HoldsI w b i) (h2 : HoldsI w2 b i) (o : Only (fun k => k = b) wr w2) : Turn B w w2 := by
  refine ⟨h.only.step o (fun k hk => .inl ⟨by rw [hk]; exact hb, i, by rw [hk]; exact hi⟩), fun k j hj => ?_⟩
  by_cases c : k = b
  · subst c; exact holdsI_same hi h2 hj
  · obtain ⟨m, hm⟩ := h.holds k j hj
    exact ⟨m, o.keeps c hm⟩
theorem Turn.cells {B0 : Nat} {w wr : World} (h : Turn B0 w wr) {g : Nat} {cs : Array Value} {t : TypeId} {fr : Nat × Nat} (hg : w.heap[g]? = some (.cells cs t fr)) (ht : t ≠ 23) : wr.heap[g]? = some (.cells cs t fr) :=
  h.only.keeps (fun ⟨_, i, m, hm⟩ => by rw [hg] at hm; injection hm with hm; injection hm with _ e _; exact ht e) hg
theorem Turn.map {B0 : Nat} {w wr : World} (h : Turn B0 w wr) {mb n : Nat} {f : Bs → Option Int} (hm : LabMap w mb n f) : LabMap wr mb n f :=
  hm.keeps h.only (fun ⟨_, i, m, hi⟩ => by obtain ⟨D, ⟨es, clock, hb, _⟩, _⟩ := hm; rw [hb] at hi; injection hi with hi; cases hi)
theorem Turn.words {B0 : Nat} {w wr : World} (h : Turn B0 w wr) {B : Nat} {v : Value} {ws : List Int} (hw : OwnW w B v ws) : OwnW wr B v ws :=
  ownW_keep hw h.only (fun g hg ⟨_, i, m, hm⟩ => by
    rcases hw.2 with ⟨rfl, _⟩ | ⟨g', cap, cur, rfl, hb, hc, _⟩
    · simp [Value.ownBlock] at hg
    · simp [Value.ownBlock] at hg
      subst hg
      rw [hc] at hm
      injection hm with hm
      injection hm with _ e _
      exact absurd e (by decide))
theorem Turn.stm {B0 : Nat} {w wr : World} (h : Turn B0 w wr) {B : Nat} {s : Stm} {c0 c1 c2 c3 : Value} (hs : StmV w B s c0 c1 c2 c3) : StmV wr B s c0 c1 c2 c3 := by
  cases s with
  | none => exact hs
  | label l => exact hs
  | words ws => exact ⟨hs.1, h.words hs.2.1, hs.2.2⟩
  | la rd l => obtain ⟨h0, ⟨ws, hl, h1⟩, h2, b, h3, h4, h5⟩ := hs; exact ⟨h0, ⟨ws, hl, h.words h1⟩, h2, b, h3, h4, h.cells h5 (by decide)⟩
  | jump i l => obtain ⟨h0, ⟨ws, hl, h1⟩, h2, b, h3, h4, h5⟩ := hs; exact ⟨h0, ⟨ws, hl, h.words h1⟩, h2, b, h3, h4, h.holds _ _ h5⟩

/-- How far a label is. -/
def farZ (a at' : Int) : Int := wrap64 (IntKind.u64.wrap (a - at'))
def jumpW (i : Ins) (far : Int) : Option (List Int) := if rightB (withImm i far) then some [encW (withImm i far)] else none
/-- What comes of a label that a line names. -/
def aimS (o : Option Int) (g : Int → Option (List Int)) (at' : Int) : Int × List Int :=
  match o with
  | none => (101, [])
  | some a => match g (farZ a at') with
    | none => (102, [])
    | some ws => (0, ws)
theorem aimS_none (g : Int → Option (List Int)) (at' : Int) : aimS none g at' = (101, []) := rfl
theorem aimS_far {g : Int → Option (List Int)} {at' a : Int} (h : g (farZ a at') = none) : aimS (some a) g at' = (102, []) := by unfold aimS; simp only [h]
theorem aimS_ok {g : Int → Option (List Int)} {at' a : Int} {ws : List Int} (h : g (farZ a at') = some ws) : aimS (some a) g at' = (0, ws) := by unfold aimS; simp only [h]
theorem aimS_len {o : Option Int} {g : Int → Option (List Int)} {at' : Int} {n : Nat} (hg : ∀ x ws, g x = some ws → ws.length = n) (h : (aimS o g at').1 = 0) : (aimS o g at').2.length = n := by
  cases o with
  | none => rw [aimS_none] at h; exact absurd h (by decide)
  | some a =>
    cases hw : g (farZ a at') with
    | none => rw [aimS_far hw] at h; exact absurd h (by decide)
    | some ws => rw [aimS_ok hw]; exact hg _ _ hw
theorem laW_len (rd x : Int) (ws : List Int) (h : laW rd x = some ws) : ws.length = 2 := by
  unfold laW at h
  split at h
  · cases h
  · split at h
    · injection h with h; subst h; simp [laL]
    · cases h
theorem jumpW_len (i : Ins) (x : Int) (ws : List Int) (h : jumpW i x = some ws) : ws.length = 1 := by
  unfold jumpW at h
  split at h
  · injection h with h; subst h; rfl
  · cases h
/-- A line's fault, or its words. -/
def linkS (f : Bs → Option Int) (at' : Int) : Stm → Int × List Int
  | .none => (0, [])
  | .label _ => (0, [])
  | .words ws => (0, ws)
  | .la rd l => aimS (f l) (laW rd) at'
  | .jump i l => aimS (f l) (jumpW i) at'
def lkAt (ss : List Stm) (f : Bs → Option Int) (base : Int) (k : Nat) : Int × List Int := linkS f (atK ss base k) (ss.getD k .none)
/-- The words of the first k lines. -/
def outW (ss : List Stm) (f : Bs → Option Int) (base : Int) : Nat → List Int
  | 0 => []
  | k + 1 => outW ss f base k ++ (lkAt ss f base k).2
def LkEnd (B : Nat) (w : World) (ss : List Stm) (f : Bs → Option Int) (base : Int) (e : Ending) (w' : World) : Prop :=
  (∃ k, k < ss.length ∧ (∀ i, i < k → (lkAt ss f base i).1 = 0) ∧ (lkAt ss f base k).1 ≠ 0 ∧ e = .returned (.tuple #[.slice none 0 0, .int .i64 ((k : Int) + 1), .int .i64 (lkAt ss f base k).1]) ∧ Turn B w w') ∨
  ((∀ i, i < ss.length → (lkAt ss f base i).1 = 0) ∧ ∃ v, e = .returned (.tuple #[v, .int .i64 0, .int .i64 0]) ∧ OwnW w' w.heap.size v (outW ss f base ss.length) ∧ Turn B w w')
theorem link_len {f : Bs → Option Int} {a : Int} {s : Stm} (h : (linkS f a s).1 = 0) : (linkS f a s).2.length = sizeS s := by
  cases s with
  | none => rfl
  | label l => rfl
  | words ws => rfl
  | la rd l => exact aimS_len (laW_len rd) h
  | jump i l => exact aimS_len (jumpW_len i) h

theorem out_len {ss : List Stm} {f : Bs → Option Int} {base : Int} (hs : ∀ k, sizeS (ss.getD k .none) ≤ 100) : ∀ k, (∀ i, i < k → (lkAt ss f base i).1 = 0) → (outW ss f base k).length ≤ 100 * k
  | 0, _ => Nat.le_refl _
  | k + 1, h => by
    have h1 := out_len hs k (fun i hi => h i (by omega))
    have h2 : (lkAt ss f base k).2.length = _ := link_len (h k (by omega))
    have h3 := hs k
    show (outW ss f base k ++ (lkAt ss f base k).2).length ≤ _
    rw [List.length_append, h2]
    omega
/-- Lines that name no label, and those that do. -/
theorem stmV_kinds {w : World} {B : Nat} {s : Stm} {c0 c1 c2 c3 : Value} (h : StmV w B s c0 c1 c2 c3) : (c3 = .nilFunc ∧ ∃ ws, OwnW w B c1 ws ∧ (∀ f a, linkS f a s = (0, ws))) ∨ (∃ rd l, s = .la rd l) ∨ (∃ i l, s = .jump i l) := by
  cases s with
  | none => obtain ⟨rfl, rfl, rfl, rfl⟩ := h; exact .inl ⟨rfl, [], ownW_nil _ _, fun _ _ => rfl⟩
  | label l => obtain ⟨rfl, rfl, rfl, rfl⟩ := h; exact .inl ⟨rfl, [], ownW_nil _ _, fun _ _ => rfl⟩
  | words ws => obtain ⟨rfl, h1, rfl, rfl⟩ := h; exact .inl ⟨rfl, ws, h1, fun _ _ => rfl⟩
  | la rd l => exact .inr (.inl ⟨rd, l, rfl⟩)
  | jump i l => exact .inr (.inr ⟨i, l, rfl⟩)
/-- The label that a line names. -/
def namOf : Stm → Bs
  | .la _ l => l
  | .jump _ l => l
  | _ => []
theorem la_any (rd far : Int) (b : Nat) (w : World) (he : Env w) (hc : w.cell? ⟨b, 0, none⟩ = some (.int .i64 rd)) : Calls Tryz.prog 157 #[.int .i64 far, .pointer (some ⟨b, 0, none⟩)] w (AimEnd w (laW rd far)) := by
  by_cases h : far < -2147483648 ∨ 2147481599 < far
  · have := la_out rd far b h w
    rw [show laW rd far = none by unfold laW; rw [if_pos h]]; exact this
  · exact la_in rd far b (by omega) (by omega) w he hc

end Go.Proofs.YtakdhdaoklcidaaGreatDoor

namespace Go.Proofs.YtakdhdaoklcidaaGreatDoor
open Go.RowKit Go.Lib Go.Maps Go.WideMaps
set_option linter.unusedVariables false
set_option maxRecDepth 100000

theorem lk_push {ss : List Stm} {f : Bs → Option Int} {base : Int} {j : Nat} (h : ∀ i, i < j → (lkAt ss f base i).1 = 0) (hj : (lkAt ss f base j).1 = 0) : ∀ i, i < j + 1 → (lkAt ss f base i).1 = 0 := fun i hi => by
  by_cases c : i < j
  · exact h i c
  · obtain rfl : i = j := by omega
    exact hj
theorem out_push {ss : List Stm} {f : Bs → Option Int} {base : Int} {j : Nat} {ws : List Int} (h : lkAt ss f base j = (0, ws)) : outW ss f base (j + 1) = outW ss f base j ++ ws := by
  show outW ss f base j ++ (lkAt ss f base j).2 = _
  rw [h]
theorem at_push {ss : List Stm} {f : Bs → Option Int} {base : Int} {j k : Nat} {ws : List Int} (h : lkAt ss f base j = (0, ws)) (hk : ws.length = k) : atK ss base (j + 1) = (atK ss base j + 4 * (k : Int)) % 18446744073709551616 := by
  have h1 : (lkAt ss f base j).2.length = sizeS (ss.getD j .none) := link_len (by show (lkAt ss f base j).1 = 0; rw [h])
  rw [h] at h1
  show (atK ss base j + 4 * ((sizeS (ss.getD j .none) : Nat) : Int)) % 18446744073709551616 = _
  rw [← h1, hk]

theorem neq_nilF (w : World) : (binOp .neq 127 .nilFunc .nilFunc).run Tryz.prog w = .ok (.bool false) w := by
  first | rfl | kernel_rfl | simp [binOp]
theorem neq_fun (c : Fn) (a b : Array Value) (w : World) : (binOp .neq 127 (.func c a b) .nilFunc).run Tryz.prog w = .ok (.bool true) w := by
  first | rfl | kernel_rfl | simp [binOp]

set_option maxHeartbeats 4000000 in
theorem link_any (ss : List Stm) (qs : List Q4) (f : Bs → Option Int) (base : Int) (hn : ss.length ≤ 9000) (w : World) (B : Nat) (hB : B ≤ w.heap.size) (hsz : ∀ k, sizeS (ss.getD k .none) ≤ 100) (hnm : ∀ k, (namOf (ss.getD k .none)).length ≤ 1000000)
    (hlen : qs.length = ss.length) (g C mb n : Nat) (cs : Array Value) (fr : Nat × Nat) (hg : w.heap[g]? = some (.cells cs 129 fr)) (hS : SAt w g qs) (hst : ∀ k, k < ss.length → ∃ c0 c1 c2 c3, qs[k]? = some (c0, c1, c2, c3) ∧ StmV w B (ss.getD k .none) c0 c1 c2 c3) (hmap : LabMap w mb n f) (hE : ∀ w', Below B w w' → Env w') :
    Calls Tryz.prog 45 #[.slice (some ⟨g, 0, none⟩) ss.length C, .map (some mb), .int .u64 base] w (LkEnd B w ss f base) := by
  have HS := Lib.hid hS
  have HST := Lib.hid hst
  have HMP := Lib.hid hmap
  have HE := Lib.hid hE
  have HSI := Lib.hid hsz
  have HNM := Lib.hid hnm
  have HG := Lib.hid hg
  have hgl := (Array.getElem?_eq_some_iff.1 hg).1
  clear hS hst hmap hE hsz hnm hg
  go_enter Tryz.func45, Tryz.ntmps45
  go_wp2
  go_loopw [6, 9, 17] (fun v a k wr => ∃ (j : Nat), j ≤ ss.length ∧ k = .int .i64 j ∧ a = .int .u64 (atK ss base j) ∧ (∀ i, i < j → (lkAt ss f base i).1 = 0) ∧ OwnW wr w.heap.size v (outW ss f base j) ∧ Turn B w wr) (fun _ _ k _ => ss.length - (RowKit.intOf k).toNat)
  case atStart => exact ⟨0, Nat.zero_le _, rfl, rfl, fun i hi => by omega, ownW_nil _ _, Turn.refl _ _⟩
  case round =>
    obtain ⟨j, hj, rfl, rfl, hpre, how, htn⟩ := hrel
    have hol := out_len HSI.out j hpre
    obtain ⟨A, C2, rfl⟩ := ownW_slice how
    have HPRE := Lib.hid hpre
    clear hpre
    by_cases hlt : j < ss.length
    · obtain ⟨c0, c1, c2, c3, hq, hst0⟩ := HST.out j hlt
      obtain ⟨o0, o1, o2, o3⟩ := stmV_four hst0
      have hjq : j < qs.length := by rw [hlen]; exact hlt
      rw [List.getElem?_eq_getElem hjq] at hq
      injection hq with hq
      have h4 := HS.out j hjq
      rw [hq] at h4
      obtain ⟨x0, x1, x2, x3⟩ := h4
      have hgr := htn.cells HG.out (by decide)
      have cl : ∀ k v, w.cell? ⟨g, k, none⟩ = some v → wr.cell? ⟨g, k, none⟩ = some v := fun k v h => by
        rw [Lib.cell_of_heap HG.out] at h
        rw [Lib.cell_of_heap hgr]; exact h
      have y0 := cl _ _ x0
      have y1 := cl _ _ x1
      have y2 := cl _ _ x2
      have y3 := cl _ _ x3
      clear x0 x1 x2 x3 hq cl hgr
      have HAP := Lib.hid (fun ws k => at_push (ss := ss) (f := f) (base := base) (j := j) (k := k) (ws := ws))
      have HOP := Lib.hid (fun ws => out_push (ss := ss) (f := f) (base := base) (j := j) (ws := ws))
      have HLK : Hid (lkAt ss f base j = linkS f (atK ss base j) (ss.getD j .none)) := Lib.hid rfl
      have hnmj := HNM.out j
      have hszj := HSI.out j
      generalize outW ss f base j = out at *
      generalize hno : out.length = no at *
      generalize hsj : ss.getD j .none = s at *
      have HNO := Lib.hid hno
      have HTN := Lib.hid htn
      have HST0 := Lib.hid hst0
      have HOW := Lib.hid how
      clear hno hsj htn hst0 how
      generalize atK ss base j = a at *
      go_wp2_with (first
        | (refine wpList_store_row rfl _ _ _ rfl wr.heap.size _ rfl rfl 129 _ (heap_alloc_new wr _) size_stm rfl (four_one o0 o1 o2 o3) ?_; refine Hid.out ?_))
      have hwz : w.heap.size ≤ wr.heap.size := HTN.out.only.size
      have hbl : Below wr.heap.size wr ((wr.alloc (.cells #[.string ⟨#[]⟩, .slice none 0 0, .string ⟨#[]⟩, .nilFunc] 129)).setRow wr.heap.size #[c0, c1, c2, c3]) := below_setRow ((Below.refl _ _).alloc (Nat.le_refl _) _) (Nat.le_refl _) _
      have hcw : ((wr.alloc (.cells #[.string ⟨#[]⟩, .slice none 0 0, .string ⟨#[]⟩, .nilFunc] 129)).setRow wr.heap.size #[c0, c1, c2, c3]).heap[wr.heap.size]? = some (.cells #[c0, c1, c2, c3] 129 (0, 0)) := setRow_heap _ _ _ _ _ _ (heap_alloc_new wr _)
      have hrz : wr.heap.size < ((wr.alloc (.cells #[.string ⟨#[]⟩, .slice none 0 0, .string ⟨#[]⟩, .nilFunc] 129)).setRow wr.heap.size #[c0, c1, c2, c3]).heap.size := (Array.getElem?_eq_some_iff.1 hcw).1
      clear y0 y1 y2 y3
      generalize (wr.alloc (.cells #[.string ⟨#[]⟩, .slice none 0 0, .string ⟨#[]⟩, .nilFunc] 129)).setRow wr.heap.size #[c0, c1, c2, c3] = ww at *
      have how2 := ownW_below HOW.out hbl
      have htw : Turn B w ww := HTN.out.below (hbl.mono hwz)
      have z0 : ww.cell? ⟨wr.heap.size, 0, none⟩ = some c0 := by rw [Lib.cell_of_heap hcw]; rfl
      have z1 : ww.cell? ⟨wr.heap.size, 1, none⟩ = some c1 := by rw [Lib.cell_of_heap hcw]; rfl
      have z2 : ww.cell? ⟨wr.heap.size, 2, none⟩ = some c2 := by rw [Lib.cell_of_heap hcw]; rfl
      have z3 : ww.cell? ⟨wr.heap.size, 3, none⟩ = some c3 := by rw [Lib.cell_of_heap hcw]; rfl
      have hst2 := htw.stm HST0.out
      have hob : (Value.slice A no C2).ownBlock ≠ some wr.heap.size := fun e => by have := (ownW_lt HOW.out _ e).2; omega
      have HOB := Lib.hid hob
      have HTW := Lib.hid htw
      have HCW := Lib.hid hcw
      have HOW2 := Lib.hid how2
      clear HOW HTN hbl hcw htw how2 hob
      rcases stmV_kinds hst2 with ⟨rfl, ws, hw, hlk⟩ | ⟨rd, l, rfl⟩ | ⟨i, l, rfl⟩
      · have hkl : lkAt ss f base j = (0, ws) := HLK.out.trans (hlk _ _)
        obtain ⟨A1, C1, rfl⟩ := ownW_slice hw
        generalize hk1 : ws.length = k1 at *
        have hk1b : k1 ≤ 100 := by
          have h1 := link_len (f := f) (a := a) (s := s) (by rw [hlk])
          rw [hlk] at h1
          have h2 : ws.length = sizeS s := h1
          omega
        obtain ⟨A4, C4, w4, hr4, ho4, hon4⟩ := pourV ww w.heap.size B _ _ out ws no k1 HNO.out hk1 HOW2.out hw (by omega) (by omega) 37
        have z1' : w4.cell? ⟨wr.heap.size, 1, none⟩ = some (.slice A1 k1 C1) := by rw [Lib.cell_of_heap (hon4.keeps HOB.out HCW.out)]; rfl
        have HO4 := Lib.hid ho4
        have hnf := neq_nilF ww
        have HB4 : Hid (Turn B w w4) := Lib.hid (HTW.out.below (hon4.below (fun k hk => (ownW_lt HOW2.out k hk).1) (by omega)))
        have HKL := Lib.hid hkl
        clear hkl hlk hw hst2 ho4 hon4
        refine Lib.hid ?_
        go_wp2_with (at_builtin; refine wpList_append_run rfl _ _ _ rfl (.slice A no C2) (.slice A1 k1 C1) (.slice A4 (no + k1) C4) w4 rfl rfl hr4 ?_)
        case roundEnd => exact ⟨⟨j + 1, by omega, rfl, congrArg (Value.int .u64) (by rw [HAP.out _ _ HKL.out hk1]; rfl), lk_push HPRE.out (by rw [HKL.out]), by rw [HOP.out _ HKL.out]; exact HO4.out, HB4.out⟩, by simp [RowKit.intOf]; omega⟩
      · obtain ⟨rfl, ⟨ws0, hl0, hw0⟩, rfl, b, rfl, hBb, hcb⟩ := hst2
        obtain ⟨A1, C1, rfl⟩ := ownW_slice hw0
        have hlk := (HTW.out.map HMP.out).look l hnmj
        have hnf := neq_fun (.func 157) #[] #[.pointer (some ⟨b, 0, none⟩)] ww
        have HCB := Lib.hid hcb
        have HBB := Lib.hid hBb
        clear hw0 hl0 hBb hcb
        cases hfl : f l with
        | none =>
          rw [hfl] at hlk
          have HKL : Hid (lkAt ss f base j = (101, [])) := Lib.hid (by rw [HLK.out]; show aimS (f l) _ _ = _; rw [hfl]; rfl)
          clear hfl
          refine Lib.hid ?_
          go_wp2
          go_ret3
          exact Or.inl ⟨j, hlt, HPRE.out, by rw [HKL.out]; decide, by rw [HKL.out]; rfl, HTW.out⟩
        | some a' =>
          rw [hfl] at hlk
          have HKL0 : Hid (lkAt ss f base j = aimS (some a') (laW rd) a) := Lib.hid (by rw [HLK.out]; show aimS (f l) _ _ = _; rw [hfl])
          clear hfl
          have hc0 : ww.cell? ⟨b, 0, none⟩ = some (.int .i64 rd) := by rw [Lib.cell_of_heap HCB.out]; rfl
          have hli : Calls Tryz.prog 157 #[.int .i64 (wrap64 (IntKind.u64.wrap (a' - a))), .pointer (some ⟨b, 0, none⟩)] ww (AimEnd ww (laW rd (wrap64 (IntKind.u64.wrap (a' - a))))) := la_any rd _ b ww (HE.out _ (HTW.out.bel hB)) hc0
          have HLI := Lib.hid hli
          clear hli hc0
          refine Lib.hid ?_
          go_wp2_with (fail)
          (with_reducible refine HLI.out.mono ?_)
          rintro e w3 h3
          have hZ := z3
          clear z0 z1 z2 z3 hlk hnf hZ
          cases hw : laW rd (wrap64 (IntKind.u64.wrap (a' - a))) with
          | none =>
            rw [hw] at h3
            obtain ⟨rfl, hb3⟩ := h3
            have HKL : Hid (lkAt ss f base j = (102, [])) := Lib.hid (HKL0.out.trans (aimS_far hw))
            have HT3 : Hid (Turn B w w3) := Lib.hid (HTW.out.below (hb3.mono (by omega)))
            have HC3 := Lib.hid ((hb3.block _ hrz).trans HCW.out)
            clear hw hb3
            have f1 : w3.frozen? ⟨wr.heap.size, 1, none⟩ = false := Lib.frozen_of_heap HC3.out 1
            have z1 : w3.cell? ⟨wr.heap.size, 1, none⟩ = some (.slice A1 ws0.length C1) := by rw [Lib.cell_of_heap HC3.out]; rfl
            have z3 : w3.cell? ⟨wr.heap.size, 3, none⟩ = some (.func (.func 157) #[] #[.pointer (some ⟨b, 0, none⟩)]) := by rw [Lib.cell_of_heap HC3.out]; rfl
            go_wp2
            go_ret3
            exact Or.inl ⟨j, hlt, HPRE.out, by rw [HKL.out]; decide, by rw [HKL.out]; rfl, HT3.out.set _ hwz _⟩
          | some ws =>
            rw [hw] at h3
            obtain ⟨v2, rfl, ho2, hb3⟩ := h3
            have HKL : Hid (lkAt ss f base j = (0, ws)) := Lib.hid (HKL0.out.trans (aimS_ok hw))
            have hk2 := laW_len _ _ _ hw
            have HT3 : Hid (Turn B w w3) := Lib.hid (HTW.out.below (hb3.mono (by omega)))
            have HC3 := Lib.hid ((hb3.block _ hrz).trans HCW.out)
            have how3 := ownW_below HOW2.out hb3
            have hz3 := hb3.size
            clear hw hb3
            obtain ⟨A2, C3, rfl⟩ := ownW_slice ho2
            generalize hwl : ws.length = k2 at *
            have hk2b : k2 ≤ 100 := by omega
            clear hk2
            have f1 : w3.frozen? ⟨wr.heap.size, 1, none⟩ = false := Lib.frozen_of_heap HC3.out 1
            have z1 : w3.cell? ⟨wr.heap.size, 1, none⟩ = some (.slice A1 ws0.length C1) := by rw [Lib.cell_of_heap HC3.out]; rfl
            have hset : Only (fun k => k = wr.heap.size) w3 (w3.setCell ⟨wr.heap.size, 1, none⟩ (.slice A2 k2 C3)) := (Only.refl (fun k => k = wr.heap.size) w3).setCell (p := ⟨wr.heap.size, 1, none⟩) (.inl rfl) _
            have h4 := hset.size
            obtain ⟨A4, C4, w5, hr5, ho5, hon5⟩ := pourV (w3.setCell ⟨wr.heap.size, 1, none⟩ (.slice A2 k2 C3)) w.heap.size ww.heap.size (.slice A no C2) (.slice A2 k2 C3) out ws no k2 HNO.out hwl (ownW_keep how3 hset (fun k hk h => HOB.out (by rw [hk, h]))) (ownW_keep ho2 hset (fun k hk h => by have := (ownW_lt ho2 k hk).1; omega)) (by omega) (by have := HT3.out.only.size; omega) 37
            have hrow4 := setCell_row HC3.out 1 (.slice A2 k2 C3)
            have z1b : (w3.setCell ⟨wr.heap.size, 1, none⟩ (.slice A2 k2 C3)).cell? ⟨wr.heap.size, 1, none⟩ = some (.slice A2 k2 C3) := by rw [Lib.cell_of_heap hrow4]; rfl
            have z1' : w5.cell? ⟨wr.heap.size, 1, none⟩ = some (.slice A2 k2 C3) := by rw [Lib.cell_of_heap (hon5.keeps HOB.out hrow4)]; rfl
            have HO5 := Lib.hid ho5
            have HB5 : Hid (Turn B w w5) := Lib.hid ((HT3.out.set ⟨wr.heap.size, 1, none⟩ hwz (.slice A2 k2 C3)).below (hon5.below (fun k hk => by have := (ownW_lt how3 k hk).1; omega) (by have := HT3.out.only.size; omega)))
            have HWL := Lib.hid hwl
            clear ho2 how3 hset hrow4 ho5 hon5 hwl
            go_wp2_with (at_builtin; refine wpList_append_run rfl _ _ _ rfl (.slice A no C2) (.slice A2 k2 C3) (.slice A4 (no + k2) C4) w5 rfl rfl hr5 ?_)
            case roundEnd => exact ⟨⟨j + 1, by omega, rfl, congrArg (Value.int .u64) (by rw [HAP.out _ _ HKL.out HWL.out]; rfl), lk_push HPRE.out (by rw [HKL.out]), by rw [HOP.out _ HKL.out]; exact HO5.out, HB5.out⟩, by simp [RowKit.intOf]; omega⟩
      · obtain ⟨rfl, ⟨ws0, hl0, hw0⟩, rfl, b, rfl, hBb, hcb⟩ := hst2
        obtain ⟨A1, C1, rfl⟩ := ownW_slice hw0
        have hlk := (HTW.out.map HMP.out).look l hnmj
        have hnf := neq_fun (.func 159) #[] #[.pointer (some ⟨b, 0, none⟩)] ww
        have HCB := Lib.hid hcb
        have HBB := Lib.hid hBb
        clear hw0 hl0 hBb hcb
        cases hfl : f l with
        | none =>
          rw [hfl] at hlk
          have HKL : Hid (lkAt ss f base j = (101, [])) := Lib.hid (by rw [HLK.out]; show aimS (f l) _ _ = _; rw [hfl]; rfl)
          clear hfl
          refine Lib.hid ?_
          go_wp2
          go_ret3
          exact Or.inl ⟨j, hlt, HPRE.out, by rw [HKL.out]; decide, by rw [HKL.out]; rfl, HTW.out⟩
        | some a' =>
          rw [hfl] at hlk
          have HKL0 : Hid (lkAt ss f base j = aimS (some a') (jumpW i) a) := Lib.hid (by rw [HLK.out]; show aimS (f l) _ _ = _; rw [hfl])
          clear hfl
          have hI0 : HoldsI w b i := by
            obtain ⟨_, _, _, b', he', _, hI'⟩ := HST0.out
            injection he' with _ _ he'
            have he2 : b = b' := by simpa using he'
            rw [he2]; exact hI'
          have hbw := holdsI_lt hI0
          have HI0 := Lib.hid hI0
          have hli : Calls Tryz.prog 159 #[.int .i64 (wrap64 (IntKind.u64.wrap (a' - a))), .pointer (some ⟨b, 0, none⟩)] ww (JumpEnd ww b i (wrap64 (IntKind.u64.wrap (a' - a)))) := jump_any i _ b ww (fun w' o => HE.out _ ((HTW.out.bel hB).trans (o.below (fun k hk => by rw [hk]; exact HBB.out) (Nat.le_trans hB HTW.out.only.size)))) HCB.out
          have HLI := Lib.hid hli
          clear hli hI0
          refine Lib.hid ?_
          go_wp2_with (fail)
          (with_reducible refine HLI.out.mono ?_)
          rintro e w3 ⟨hy, hno, hI3, ho3⟩
          clear z0 z1 z2 z3 hlk hnf
          have HT3 : Hid (Turn B w w3) := Lib.hid (HTW.out.jump HBB.out HI0.out hI3 ho3)
          have HC3 := Lib.hid (ho3.keeps (g := wr.heap.size) (by show ¬ wr.heap.size = b; omega) HCW.out)
          cases hw : rightB (withImm i (wrap64 (IntKind.u64.wrap (a' - a)))) with
          | false =>
            obtain rfl := hno hw
            have HKL : Hid (lkAt ss f base j = (102, [])) := Lib.hid (HKL0.out.trans (aimS_far (by show jumpW i (wrap64 (IntKind.u64.wrap (a' - a))) = none; unfold jumpW; rw [hw]; rfl)))
            clear hw hy hno hI3 ho3
            have f1 : w3.frozen? ⟨wr.heap.size, 1, none⟩ = false := Lib.frozen_of_heap HC3.out 1
            have z1 : w3.cell? ⟨wr.heap.size, 1, none⟩ = some (.slice A1 ws0.length C1) := by rw [Lib.cell_of_heap HC3.out]; rfl
            have z3 : w3.cell? ⟨wr.heap.size, 3, none⟩ = some (.func (.func 159) #[] #[.pointer (some ⟨b, 0, none⟩)]) := by rw [Lib.cell_of_heap HC3.out]; rfl
            go_wp2
            go_ret3
            exact Or.inl ⟨j, hlt, HPRE.out, by rw [HKL.out]; decide, by rw [HKL.out]; rfl, HT3.out.set _ hwz _⟩
          | true =>
            obtain ⟨v2, rfl, ho2⟩ := hy hw
            have HKL1 : Hid (lkAt ss f base j = (0, [encW (withImm i (wrap64 (IntKind.u64.wrap (a' - a))))])) := Lib.hid (HKL0.out.trans (aimS_ok (by show jumpW i (wrap64 (IntKind.u64.wrap (a' - a))) = some _; unfold jumpW; rw [hw]; rfl)))
            have hk2 : [encW (withImm i (wrap64 (IntKind.u64.wrap (a' - a))))].length = 1 := rfl
            have how3 := ownW_keep HOW2.out ho3 (fun g hg hk => by have := (ownW_lt HOW2.out g hg).1; omega)
            have hz3 := ho3.size
            clear hw hy hno hI3 ho3
            generalize [encW (withImm i (wrap64 (IntKind.u64.wrap (a' - a))))] = ws at *
            have HKL := Lib.hid HKL1.out
            obtain ⟨A2, C3, rfl⟩ := ownW_slice ho2
            generalize hwl : ws.length = k2 at *
            have hk2b : k2 ≤ 100 := by omega
            clear hk2
            have f1 : w3.frozen? ⟨wr.heap.size, 1, none⟩ = false := Lib.frozen_of_heap HC3.out 1
            have z1 : w3.cell? ⟨wr.heap.size, 1, none⟩ = some (.slice A1 ws0.length C1) := by rw [Lib.cell_of_heap HC3.out]; rfl
            have hset : Only (fun k => k = wr.heap.size) w3 (w3.setCell ⟨wr.heap.size, 1, none⟩ (.slice A2 k2 C3)) := (Only.refl (fun k => k = wr.heap.size) w3).setCell (p := ⟨wr.heap.size, 1, none⟩) (.inl rfl) _
            have h4 := hset.size
            obtain ⟨A4, C4, w5, hr5, ho5, hon5⟩ := pourV (w3.setCell ⟨wr.heap.size, 1, none⟩ (.slice A2 k2 C3)) w.heap.size ww.heap.size (.slice A no C2) (.slice A2 k2 C3) out ws no k2 HNO.out hwl (ownW_keep how3 hset (fun k hk h => HOB.out (by rw [hk, h]))) (ownW_keep ho2 hset (fun k hk h => by have := (ownW_lt ho2 k hk).1; omega)) (by omega) (by have := HT3.out.only.size; omega) 37
            have hrow4 := setCell_row HC3.out 1 (.slice A2 k2 C3)
            have z1b : (w3.setCell ⟨wr.heap.size, 1, none⟩ (.slice A2 k2 C3)).cell? ⟨wr.heap.size, 1, none⟩ = some (.slice A2 k2 C3) := by rw [Lib.cell_of_heap hrow4]; rfl
            have z1' : w5.cell? ⟨wr.heap.size, 1, none⟩ = some (.slice A2 k2 C3) := by rw [Lib.cell_of_heap (hon5.keeps HOB.out hrow4)]; rfl
            have HO5 := Lib.hid ho5
            have HB5 : Hid (Turn B w w5) := Lib.hid ((HT3.out.set ⟨wr.heap.size, 1, none⟩ hwz (.slice A2 k2 C3)).below (hon5.below (fun k hk => by have := (ownW_lt how3 k hk).1; omega) (by have := HT3.out.only.size; omega)))
            have HWL := Lib.hid hwl
            clear ho2 how3 hset hrow4 ho5 hon5 hwl
            go_wp2_with (at_builtin; refine wpList_append_run rfl _ _ _ rfl (.slice A no C2) (.slice A2 k2 C3) (.slice A4 (no + k2) C4) w5 rfl rfl hr5 ?_)
            case roundEnd => exact ⟨⟨j + 1, by omega, rfl, congrArg (Value.int .u64) (by rw [HAP.out _ _ HKL.out HWL.out]; rfl), lk_push HPRE.out (by rw [HKL.out]), by rw [HOP.out _ HKL.out]; exact HO5.out, HB5.out⟩, by simp [RowKit.intOf]; omega⟩
    · obtain rfl : j = ss.length := by omega
      go_wp2
      go_ret3
      exact Or.inr ⟨HPRE.out, _, rfl, how, htn⟩

end Go.Proofs.YtakdhdaoklcidaaGreatDoor

namespace Go.Proofs.YtakdhdaoklcidaaGreatDoor
open Go.RowKit Go.Lib Go.Maps Go.WideMaps
set_option linter.unusedVariables false
set_option maxRecDepth 100000

theorem name_le {l : Bs} (h : nameOK l = true) : l.length ≤ 32 := by
  unfold nameOK at h
  simp only [Bool.and_eq_true, decide_eq_true_eq] at h
  exact h.1.1.2
/-- What a line says is short. -/
theorem line_bound {x : Bs} {s : Stm} (h : lineS x = some s) : sizeS s ≤ 100 ∧ (labOf s).length ≤ 32 ∧ (namOf s).length ≤ 32 := by
  unfold lineS at h
  generalize coreS x = y at h
  unfold readS at h
  split at h
  · injection h with h; subst h; exact ⟨Nat.le_of_ble_eq_true rfl, Nat.le_of_ble_eq_true rfl, Nat.le_of_ble_eq_true rfl⟩
  · split at h
    · split at h
      · rename_i hn
        injection h with h; subst h; exact ⟨Nat.le_of_ble_eq_true rfl, name_le hn, Nat.le_of_ble_eq_true rfl⟩
      · cases h
    · split at h
      · unfold namingS at h
        split at h
        · rename_i hn
          split at h
          · split at h
            · injection h with h; subst h; exact ⟨Nat.le_of_ble_eq_true rfl, Nat.le_of_ble_eq_true rfl, name_le hn⟩
            · cases h
          · split at h
            · split at h
              · injection h with h; subst h; exact ⟨Nat.le_of_ble_eq_true rfl, Nat.le_of_ble_eq_true rfl, name_le hn⟩
              · cases h
            · cases h
        · cases h
      · cases hw : wordsS y with
        | none => rw [hw] at h; cases h
        | some ws =>
          rw [hw] at h
          injection h with h; subst h
          refine ⟨?_, Nat.le_of_ble_eq_true rfl, Nat.le_of_ble_eq_true rfl⟩
          show ws.length ≤ 100
          unfold wordsS wordsG at hw
          split at hw
          · split at hw
            · split at hw
              · split at hw
                · injection hw with hw; subst hw
                  rw [List.length_map]
                  have := liF_len (regP (cut (cut y [32]).2.1 sepC).1) 4 (numP (cut (cut (cut y [32]).2.1 sepC).2.1 sepC).1)
                  omega
                · cases hw
              · cases hw
            · cases hw
          · split at hw
            · split at hw
              · split at hw
                · injection hw with hw; subst hw; exact Nat.le_of_ble_eq_true rfl
                · cases hw
              · cases hw
            · split at hw
              · split at hw
                · injection hw with hw; subst hw; show 1 ≤ 100; decide
                · cases hw
              · cases hw
/-- The first number below n that has it. -/
def firstN (p : Nat → Bool) (n : Nat) : Option Nat := (List.range n).find? p
theorem firstN_some {p : Nat → Bool} {n k : Nat} (hk : k < n) (h : p k = true) (h0 : ∀ i, i < k → p i = false) : firstN p n = some k := by
  unfold firstN
  rw [List.find?_range_eq_some]
  exact ⟨h, List.mem_range.2 hk, fun j hj => by rw [h0 j hj]; rfl⟩
theorem firstN_none {p : Nat → Bool} {n : Nat} (h0 : ∀ i, i < n → p i = false) : firstN p n = none := by
  unfold firstN
  rw [List.find?_range_eq_none]
  intro i hi
  rw [h0 i hi]; rfl
/-- What Assemble tells: the words, the line and the fault. -/
def asmL (ss : List Stm) (base : Int) : List Int × Int × Int :=
  match firstN (dupAt ss base) ss.length with
  | some k => ([], (k : Int) + 1, 101)
  | none => match firstN (fun k => (lkAt ss (labF ss base ss.length) base k).1 != 0) ss.length with
    | some k => ([], (k : Int) + 1, (lkAt ss (labF ss base ss.length) base k).1)
    | none => (outW ss (labF ss base ss.length) base ss.length, 0, 0)
def asmT (ls : List Bs) (base : Int) : List Int × Int × Int :=
  match firstN (fun k => (lineS (ls.getD k [])).isNone) ls.length with
  | some k => ([], (k : Int) + 1, 100)
  | none => asmL (ls.filterMap lineS) base
def asmF (l : Bs) (base : Int) : List Int × Int × Int := if base % 4 = 0 then asmT (linesT l) base else ([], 0, 1)
def AsEnd (w : World) (r : List Int × Int × Int) (e : Ending) (w' : World) : Prop :=
  ∃ v, e = .returned (.tuple #[v, .int .i64 r.2.1, .int .i64 r.2.2]) ∧ OwnW w' w.heap.size v r.1 ∧ Below w.heap.size w w'
theorem lines_ne (l : Bs) : linesT l ≠ [] := by
  show splitK [10] 0 (Lib.count l [10]) l ≠ []
  cases Lib.count l [10] with
  | zero => simp [splitK]
  | succ k => unfold splitK; split <;> simp
theorem filterMap_get (ls : List Bs) (h : ∀ i, i < ls.length → ∃ s, lineS (ls.getD i []) = some s) : (ls.filterMap lineS).length = ls.length ∧ ∀ i, i < ls.length → lineS (ls.getD i []) = some ((ls.filterMap lineS).getD i .none) := by
  induction ls with
  | nil => exact ⟨rfl, fun i hi => by simp at hi⟩
  | cons x ls ih =>
    obtain ⟨s, hs⟩ := h 0 (by simp)
    have hs' : lineS x = some s := hs
    obtain ⟨h1, h2⟩ := ih (fun i hi => by have := h (i + 1) (by simp; omega); simpa using this)
    rw [List.filterMap_cons_some hs']
    refine ⟨by simp [h1], fun i hi => ?_⟩
    cases i with
    | zero => simpa using hs'
    | succ i => simpa using h2 i (by simpa using hi)
theorem asm_bad {ls : List Bs} {base : Int} {k : Nat} (hk : k < ls.length) (h0 : ∀ i, i < k → ∃ s, lineS (ls.getD i []) = some s) (h : lineS (ls.getD k []) = none) : asmT ls base = ([], (k : Int) + 1, 100) := by
  unfold asmT
  rw [firstN_some hk (by rw [h]; rfl) (fun i hi => by obtain ⟨s, hs⟩ := h0 i hi; rw [hs]; rfl)]
theorem asm_good {ls : List Bs} {base : Int} (h0 : ∀ i, i < ls.length → ∃ s, lineS (ls.getD i []) = some s) : asmT ls base = asmL (ls.filterMap lineS) base := by
  unfold asmT
  rw [firstN_none (fun i hi => by obtain ⟨s, hs⟩ := h0 i hi; rw [hs]; rfl)]
theorem asm_dup {ss : List Stm} {base : Int} {k : Nat} (hk : k < ss.length) (h0 : ∀ i, i < k → dupAt ss base i = false) (h : dupAt ss base k = true) : asmL ss base = ([], (k : Int) + 1, 101) := by
  unfold asmL
  rw [firstN_some hk h h0]
theorem asm_far {ss : List Stm} {base : Int} {k : Nat} (hd : ∀ i, i < ss.length → dupAt ss base i = false) (hk : k < ss.length) (h0 : ∀ i, i < k → (lkAt ss (labF ss base ss.length) base i).1 = 0) (h : (lkAt ss (labF ss base ss.length) base k).1 ≠ 0) : asmL ss base = ([], (k : Int) + 1, (lkAt ss (labF ss base ss.length) base k).1) := by
  unfold asmL
  rw [firstN_none hd]
  simp only []
  rw [firstN_some hk (by simpa using h) (fun i hi => by simpa using h0 i hi)]
theorem asm_all {ss : List Stm} {base : Int} (hd : ∀ i, i < ss.length → dupAt ss base i = false) (h0 : ∀ i, i < ss.length → (lkAt ss (labF ss base ss.length) base i).1 = 0) : asmL ss base = (outW ss (labF ss base ss.length) base ss.length, 0, 0) := by
  unfold asmL
  rw [firstN_none hd]
  simp only []
  rw [firstN_none (fun i hi => by simpa using h0 i hi)]

set_option maxHeartbeats 4000000 in
theorem assemble_any (l : Bs) (hl : l.length ≤ 8000) (base : Int) (hbase : 0 ≤ base ∧ base < 18446744073709551616) (w : World) (he : Env w) : Calls Tryz.prog 18 #[str l, .int .u64 base] w (AsEnd w (asmF l base)) := by
  have HRA := Lib.hid (readAll_any l (by omega) w he)
  have hnl : (linesT l).length ≤ l.length + 1 := by
    have h1 := (splitK_len (Lib.count l [10]) l).1
    have h2 : Lib.count l [10] ≤ l.length := by rw [Lib.count_one]; exact List.count_le_length
    have h3 : (linesT l).length = (splitK [10] 0 (Lib.count l [10]) l).length := rfl
    omega
  have hne := lines_ne l
  have HE := Lib.hid he
  by_cases hb4 : base % 4 = 0
  · have hR : asmF l base = asmT (linesT l) base := by unfold asmF; rw [if_pos hb4]
    rw [hR]
    generalize linesT l = ls at *
    clear hR he
    go_enter Tryz.func18, Tryz.ntmps18
    go_wp2_with (fail)
    (with_reducible refine HRA.out.mono ?_)
    rintro e w1 h1
    rcases h1 with ⟨k, hk, hall, hbad, rfl, hb1⟩ | ⟨hall, v, qs, rfl, hrow, hb1⟩
    · have HB1 := Lib.hid hb1
      have hk0 : decide ((k : Int) + 1 = 0) = false := decide_eq_false (by omega)
      have HR := Lib.hid (asm_bad (base := base) hk hall hbad)
      clear hall hbad hb1
      go_wp2_with (fail)
      go_ret3
      exact ⟨_, by rw [HR.out]; rfl, by rw [HR.out]; exact ownW_nil _ _, HB1.out⟩
    · obtain ⟨hsl, hsg⟩ := filterMap_get ls hall
      have HR := Lib.hid (asm_good (base := base) hall)
      have hbd : ∀ k, sizeS ((ls.filterMap lineS).getD k .none) ≤ 100 ∧ (labOf ((ls.filterMap lineS).getD k .none)).length ≤ 32 ∧ (namOf ((ls.filterMap lineS).getD k .none)).length ≤ 32 := fun k => by
        by_cases c : k < ls.length
        · exact line_bound (hsg k c)
        · rw [List.getD_eq_getElem?_getD, List.getElem?_eq_none (by omega)]; exact ⟨Nat.zero_le _, Nat.zero_le _, Nat.zero_le _⟩
      have hsne : ls.filterMap lineS ≠ [] := fun h => hne (List.eq_nil_of_length_eq_zero (by rw [← hsl, h]; rfl))
      generalize ls.filterMap lineS = ss at *
      have hqn : qs.length = ss.length := hrow.len
      have hqne : qs ≠ [] := fun h => hsne (List.eq_nil_of_length_eq_zero (by rw [← hqn, h]; rfl))
      obtain ⟨g, C, rfl, hSA, hgl⟩ := sAt_own hrow.own hqne
      obtain ⟨_, _, cs, fr, hg⟩ := ownS_lt hrow.own g rfl
      rw [hqn]
      have hst : ∀ k, k < ss.length → ∃ c0 c1 c2 c3, qs[k]? = some (c0, c1, c2, c3) ∧ StmV w1 w.heap.size (ss.getD k .none) c0 c1 c2 c3 := fun k hk => by
        have hq : k < qs.length := by omega
        have h := hrow.at' k hk hq
        refine ⟨qs[k].1, qs[k].2.1, qs[k].2.2.1, qs[k].2.2.2, List.getElem?_eq_getElem hq, ?_⟩
        rw [List.getD_eq_getElem?_getD, List.getElem?_eq_getElem hk]; exact h
      have hQA : QAt ss qs := ⟨hqn, fun k hk => by
        obtain ⟨c0, c1, c2, c3, h1, h2⟩ := hst k hk
        obtain ⟨rfl, A, C', rfl⟩ := stm_c0 h2
        have h3 := stmV_four h2
        exact ⟨A, C', c2, c3, h1, h3.2.2.1, h3.2.2.2⟩, fun k => (hbd k).1, fun k => Nat.le_trans (hbd k).2.1 (by decide)⟩
      have HPL := Lib.hid (place_any ss qs hQA base hbase (by omega) w1 g C hSA hgl)
      have HB1 := Lib.hid hb1
      have HST := Lib.hid hst
      have HBD := Lib.hid hbd
      have HG := Lib.hid hg
      have HSA := Lib.hid hSA
      have hss : ss.length ≤ 9000 := by omega
      clear hall hsl hsg hbd hrow hSA hg hst hQA hb1 hqne hsne
      go_wp2_with (fail)
      (with_reducible refine HPL.out.mono ?_)
      rintro e w2 h2
      rcases h2 with ⟨k, hk, hnd, hd, rfl, hb2⟩ | ⟨hnd, mb, n, rfl, hmb, hmap, hb2⟩
      · have HB2 := Lib.hid (HB1.out.trans (hb2.mono HB1.out.size))
        have hk0 : decide ((k : Int) + 1 = 0) = false := decide_eq_false (by omega)
        have HR2 := Lib.hid (HR.out.trans (asm_dup hk hnd hd))
        clear hnd hd hb2
        go_wp2_with (fail)
        go_ret3
        exact ⟨_, by rw [HR2.out]; rfl, by rw [HR2.out]; exact ownW_nil _ _, HB2.out⟩
      · have HB2 := Lib.hid (HB1.out.trans (hb2.mono HB1.out.size))
        have HND := Lib.hid hnd
        have hlk := link_any ss qs (labF ss base ss.length) base hss w2 w.heap.size HB2.out.size (fun k => (HBD.out k).1) (fun k => Nat.le_trans (HBD.out k).2.2 (by decide)) hqn g C mb n cs fr ((hb2.block _ hgl).trans HG.out) (sAt_below HSA.out hb2) (fun k hk => by
          obtain ⟨c0, c1, c2, c3, h1, h2⟩ := HST.out k hk
          exact ⟨c0, c1, c2, c3, h1, stmV_below h2 hb2⟩) hmap (fun w' hb' => HE.out.below (HB2.out.trans hb'))
        have HLK := Lib.hid hlk
        clear hnd hb2 hmap hlk
        go_wp2_with (fail)
        (with_reducible refine HLK.out.mono ?_)
        rintro e w3 h3
        rcases h3 with ⟨k, hk, h0, hf, rfl, ht⟩ | ⟨h0, v, rfl, how, ht⟩
        · have HR2 := Lib.hid (HR.out.trans (asm_far HND.out hk h0 hf))
          have HB3 := Lib.hid (HB2.out.trans (ht.bel HB2.out.size))
          clear h0 hf ht
          generalize (lkAt ss (labF ss base ss.length) base k).1 = er at *
          go_wp2_with (fail)
          go_ret3
          exact ⟨_, by rw [HR2.out]; rfl, by rw [HR2.out]; exact ownW_nil _ _, HB3.out⟩
        · have HR2 := Lib.hid (HR.out.trans (asm_all HND.out h0))
          have HB3 := Lib.hid (HB2.out.trans (ht.bel HB2.out.size))
          have HOW := Lib.hid (ownW_base how HB2.out.size)
          clear h0 ht how
          go_wp2_with (fail)
          go_ret3
          exact ⟨_, by rw [HR2.out]; rfl, by rw [HR2.out]; exact HOW.out, HB3.out⟩
  · have hR : asmF l base = ([], 0, 1) := by unfold asmF; rw [if_neg hb4]
    rw [hR]
    clear HRA hR he hnl hne
    go_enter Tryz.func18, Tryz.ntmps18
    go_wp2_with (fail)
    go_ret3
    exact ⟨_, rfl, ownW_nil _ _, Below.refl _ _⟩

end Go.Proofs.YtakdhdaoklcidaaGreatDoor

namespace Go.Proofs.YtakdhdaoklcidaaGreatDoor
open Go.RowKit Go.Lib
set_option linter.unusedVariables false
set_option maxRecDepth 100000

def wakeT : Bs := [97, 58, 10, 98, 101, 113, 32, 120, 48, 44, 32, 120, 48, 44, 32, 64, 97, 10, 106, 97, 108, 32, 120, 48, 44, 32, 64, 98, 10, 98, 58]
def wakeI : Ins := ⟨22, 1, 2, 0, -5, 0, false, false⟩
theorem wakeI_right : rightB wakeI = true := by decide +kernel
theorem wakeI_text : printT wakeI = [97, 100, 100, 105, 32, 120, 49, 44, 32, 120, 50, 44, 32, 45, 53] := by decide +kernel
theorem wakeT_is : asmF wakeT 0 = ([99, 4194415], 0, 0) := by decide +kernel

set_option maxHeartbeats 1000000 in
theorem wakes10 (w : World) (he : Env w) : Calls Tryz.prog 12 #[] w fun e w' => e = .returned (.bool true) ∧ Below w.heap.size w w' := by
  have hP : ∀ w, Env w → Calls Tryz.prog 10 #[.agg #[.int .i64 22, .int .i64 1, .int .i64 2, .int .i64 0, .int .i64 (-5), .int .i64 0, .bool false, .bool false]] w fun e w' => e = .returned (.tuple #[.string ⟨#[97, 100, 100, 105, 32, 120, 49, 44, 32, 120, 50, 44, 32, 45, 53]⟩, .int .i64 0]) ∧ Below w.heap.size w w' := fun w he => by
    have h := print_yes wakeI wakeI_right w he
    rw [wakeI_text] at h; exact h
  have hA : ∀ w, Env w → Calls Tryz.prog 18 #[.string ⟨#[97, 58, 10, 98, 101, 113, 32, 120, 48, 44, 32, 120, 48, 44, 32, 64, 97, 10, 106, 97, 108, 32, 120, 48, 44, 32, 64, 98, 10, 98, 58]⟩, .int .u64 0] w (AsEnd w ([99, 4194415], 0, 0)) := fun w he => by
    have h := assemble_any wakeT (by decide) 0 (by decide) w he
    rw [wakeT_is] at h; exact h
  have HP := Lib.hid hP
  have HA := Lib.hid hA
  have HE := Lib.hid he
  clear hP hA he
  go_enter Tryz.func12, Tryz.ntmps12
  go_wp2_with (fail)
  (with_reducible refine (HP.out _ HE.out).mono ?_)
  rintro e w1 ⟨rfl, hb1⟩
  have HB1 := Lib.hid hb1
  clear hb1
  go_wp2_with (fail)
  (with_reducible refine (HA.out _ (HE.out.below HB1.out)).mono ?_)
  rintro e w2 ⟨v, rfl, how, hb2⟩
  have HB2 := Lib.hid (HB1.out.trans (hb2.mono HB1.out.size))
  rcases how.2 with ⟨_, h0⟩ | ⟨g, cap, cur, rfl, hb, hg, hn1, hn2, hn3, ht⟩
  · cases h0
  · have hc : ∀ j u, (wordCs [99, 4194415])[j]? = some u → w2.cell? ⟨g, j, none⟩ = some u := fun j u h => by
      rw [Lib.cell_of_heap hg, ← h, ← ht, List.getElem?_take]
      have hj := (List.getElem?_eq_some_iff.1 h).1
      rw [if_pos (by simpa [wordCs] using hj)]; simp
    have c0 := hc 0 _ rfl
    have c1 := hc 1 _ rfl
    clear hc ht hg how hb2
    go_wp2
    go_ret
    exact ⟨rfl, HB2.out⟩

end Go.Proofs.YtakdhdaoklcidaaGreatDoor

namespace Go.Proofs.YtakdhdaoklcidaaGreatDoor
open Go.RowKit Go.Lib
set_option linter.unusedVariables false
set_option maxRecDepth 100000

/-- Which operands a form has, by letters. -/
def lettersT (f : Nat) : Bs := ([[114, 105], [114, 105], [114, 97, 105], [97, 98, 105], [97, 98, 105], [114, 97, 105], [114, 97, 105], [114, 97, 98], [114, 97], [114, 97, 98], [], [97, 98], [114, 97, 99], [114, 105, 99], [114, 97]] : List Bs).getD f []
/-- An operand by its letter. -/
def opOf (i : Ins) (c : UInt8) : Bs := if c = 114 then xr i.rd else if c = 97 then xr i.a else if c = 98 then xr i.b else if c = 105 then itoa i.imm else itoa i.csr
theorem ops_letters (f : Nat) (hf : f < 15) (i : Ins) : opsF (frm f) i = (lettersT f).map (opOf i) := by
  match f, hf with
  | 0, _ => rfl
  | 1, _ => rfl
  | 2, _ => rfl
  | 3, _ => rfl
  | 4, _ => rfl
  | 5, _ => rfl
  | 6, _ => rfl
  | 7, _ => rfl
  | 8, _ => rfl
  | 9, _ => rfl
  | 10, _ => rfl
  | 11, _ => rfl
  | 12, _ => rfl
  | 13, _ => rfl
  | 14, _ => rfl
theorem letters_0 (w : World) : Calls Tryz.prog 32 #[.int .u8 85] w fun e w' => e = .returned (str (lettersT 0)) ∧ w = w' := by
  go_enter Tryz.func32, Tryz.ntmps32
  go_wp2
  go_ret
  exact ⟨rfl, rfl⟩
theorem letters_1 (w : World) : Calls Tryz.prog 32 #[.int .u8 74] w fun e w' => e = .returned (str (lettersT 1)) ∧ w = w' := by
  go_enter Tryz.func32, Tryz.ntmps32
  go_wp2
  go_ret
  exact ⟨rfl, rfl⟩
theorem letters_2 (w : World) : Calls Tryz.prog 32 #[.int .u8 73] w fun e w' => e = .returned (str (lettersT 2)) ∧ w = w' := by
  go_enter Tryz.func32, Tryz.ntmps32
  go_wp2
  go_ret
  exact ⟨rfl, rfl⟩
theorem letters_3 (w : World) : Calls Tryz.prog 32 #[.int .u8 66] w fun e w' => e = .returned (str (lettersT 3)) ∧ w = w' := by
  go_enter Tryz.func32, Tryz.ntmps32
  go_wp2
  go_ret
  exact ⟨rfl, rfl⟩
theorem letters_4 (w : World) : Calls Tryz.prog 32 #[.int .u8 83] w fun e w' => e = .returned (str (lettersT 4)) ∧ w = w' := by
  go_enter Tryz.func32, Tryz.ntmps32
  go_wp2
  go_ret
  exact ⟨rfl, rfl⟩
theorem letters_5 (w : World) : Calls Tryz.prog 32 #[.int .u8 72] w fun e w' => e = .returned (str (lettersT 5)) ∧ w = w' := by
  go_enter Tryz.func32, Tryz.ntmps32
  go_wp2
  go_ret
  exact ⟨rfl, rfl⟩
theorem letters_6 (w : World) : Calls Tryz.prog 32 #[.int .u8 87] w fun e w' => e = .returned (str (lettersT 6)) ∧ w = w' := by
  go_enter Tryz.func32, Tryz.ntmps32
  go_wp2
  go_ret
  exact ⟨rfl, rfl⟩
theorem letters_7 (w : World) : Calls Tryz.prog 32 #[.int .u8 82] w fun e w' => e = .returned (str (lettersT 7)) ∧ w = w' := by
  go_enter Tryz.func32, Tryz.ntmps32
  go_wp2
  go_ret
  exact ⟨rfl, rfl⟩
theorem letters_8 (w : World) : Calls Tryz.prog 32 #[.int .u8 76] w fun e w' => e = .returned (str (lettersT 8)) ∧ w = w' := by
  go_enter Tryz.func32, Tryz.ntmps32
  go_wp2
  go_ret
  exact ⟨rfl, rfl⟩
theorem letters_9 (w : World) : Calls Tryz.prog 32 #[.int .u8 65] w fun e w' => e = .returned (str (lettersT 9)) ∧ w = w' := by
  go_enter Tryz.func32, Tryz.ntmps32
  go_wp2
  go_ret
  exact ⟨rfl, rfl⟩
theorem letters_10 (w : World) : Calls Tryz.prog 32 #[.int .u8 78] w fun e w' => e = .returned (str (lettersT 10)) ∧ w = w' := by
  go_enter Tryz.func32, Tryz.ntmps32
  go_wp2
  go_ret
  exact ⟨rfl, rfl⟩
theorem letters_11 (w : World) : Calls Tryz.prog 32 #[.int .u8 70] w fun e w' => e = .returned (str (lettersT 11)) ∧ w = w' := by
  go_enter Tryz.func32, Tryz.ntmps32
  go_wp2
  go_ret
  exact ⟨rfl, rfl⟩
theorem letters_12 (w : World) : Calls Tryz.prog 32 #[.int .u8 67] w fun e w' => e = .returned (str (lettersT 12)) ∧ w = w' := by
  go_enter Tryz.func32, Tryz.ntmps32
  go_wp2
  go_ret
  exact ⟨rfl, rfl⟩
theorem letters_13 (w : World) : Calls Tryz.prog 32 #[.int .u8 90] w fun e w' => e = .returned (str (lettersT 13)) ∧ w = w' := by
  go_enter Tryz.func32, Tryz.ntmps32
  go_wp2
  go_ret
  exact ⟨rfl, rfl⟩
theorem letters_14 (w : World) : Calls Tryz.prog 32 #[.int .u8 86] w fun e w' => e = .returned (str (lettersT 14)) ∧ w = w' := by
  go_enter Tryz.func32, Tryz.ntmps32
  go_wp2
  go_ret
  exact ⟨rfl, rfl⟩
theorem letters_any (f : Nat) (hf : f < 15) (w : World) : Calls Tryz.prog 32 #[.int .u8 (letT f)] w fun e w' => e = .returned (str (lettersT f)) ∧ w = w' := by
  match f, hf with
  | 0, _ => exact letters_0 w
  | 1, _ => exact letters_1 w
  | 2, _ => exact letters_2 w
  | 3, _ => exact letters_3 w
  | 4, _ => exact letters_4 w
  | 5, _ => exact letters_5 w
  | 6, _ => exact letters_6 w
  | 7, _ => exact letters_7 w
  | 8, _ => exact letters_8 w
  | 9, _ => exact letters_9 w
  | 10, _ => exact letters_10 w
  | 11, _ => exact letters_11 w
  | 12, _ => exact letters_12 w
  | 13, _ => exact letters_13 w
  | 14, _ => exact letters_14 w
/-- Digits, none for nought. -/
def digs (u : Nat) : Bs := if u = 0 then [] else decDigits u
theorem digs_step {u : Nat} (h : ¬ u = 0) : digs u = digs (u / 10) ++ [UInt8.ofNat (48 + u % 10)] := by
  unfold digs
  rw [if_neg h]
  by_cases c : u < 10
  · rw [if_pos (by omega)]
    rw [decDigits, dif_pos c, Nat.mod_eq_of_lt c]; rfl
  · rw [if_neg (by omega)]
    rw [decDigits, dif_neg c]

set_option maxHeartbeats 1000000 in
theorem digits_neg (n : Int) (h0 : -9223372036854775808 ≤ n) (h1 : n < 0) (w : World) : Calls Tryz.prog 33 #[.int .i64 n] w fun e w' => e = .returned (str (itoa n)) ∧ Below w.heap.size w w' := by
  have hi : itoa n = 45 :: digs n.natAbs := by unfold itoa digs; rw [if_pos h1, if_neg (by omega)]
  have hn0 : (n == 0) = false := beq_eq_false_iff_ne.2 (by omega)
  have hu : IntKind.u64.wrap (-(IntKind.u64.wrap n)) = (n.natAbs : Int) := by
    show (-(n % 18446744073709551616)) % 18446744073709551616 = _
    omega
  have HI := Lib.hid hi
  have hab : n.natAbs ≤ 9223372036854775808 := by omega
  have hdl : (digs n.natAbs).length ≤ 30 := by
    have h := itoa_length_le n (by omega) (by omega)
    rw [hi] at h
    simp at h; omega
  clear hi
  go_enter Tryz.func33, Tryz.ntmps33
  go_wp2
  go_loopw [3, 4] (fun x s wr => ∃ (U : Nat) (S : Bs), x = .int .u64 U ∧ s = str S ∧ digs U ++ S = digs n.natAbs ∧ U ≤ 9223372036854775808 ∧ Below w.heap.size w wr) (fun x _ _ => (RowKit.intOf x).toNat)
  case atStart => exact ⟨n.natAbs, [], rfl, rfl, List.append_nil _, hab, Below.refl _ _⟩
  case round =>
    obtain ⟨U, S, rfl, rfl, hS, hUb, hb⟩ := hrel
    have HB := Lib.hid hb
    have hsl : S.length ≤ 30 := by have := congrArg List.length hS; rw [List.length_append] at this; omega
    have HS := Lib.hid hS
    clear hS hb
    by_cases hU : U = 0
    · have hU0 : ¬ (0 : Int) < (U : Int) := by omega
      have HE : Hid (S = digs n.natAbs) := Lib.hid (by have := HS.out; rw [hU, show digs 0 = [] from rfl, List.nil_append] at this; exact this)
      clear hU
      go_wp2
      go_ret
      exact ⟨by rw [HI.out, ← HE.out]; show Ending.returned (Value.string (⟨([45] : Bs).toArray⟩ ++ ⟨S.toArray⟩)) = _; rw [str_cat]; rfl, HB.out⟩
    · have hU0 : (0 : Int) < (U : Int) := by omega
      have HST : Hid (digs (U / 10) ++ (UInt8.ofNat (48 + U % 10) :: S) = digs n.natAbs) := Lib.hid (by rw [← HS.out, digs_step hU]; simp)
      have eu : (UInt8.ofNat (48 + U % 10)).toNat = 48 + U % 10 := by rw [UInt8.toNat_ofNat']; exact Nat.mod_eq_of_lt (by show _ < 256; omega)
      generalize UInt8.ofNat (48 + U % 10) = c at *
      have hcv : (convert 48 9 (.slice (some ⟨wr.heap.size, 0, none⟩) 1 1)).run Tryz.prog (wr.alloc (.cells #[.int .u8 (48 + (U : Int) % 10)] 5)) = .ok (.string ⟨([c] : Bs).toArray⟩) (wr.alloc (.cells #[.int .u8 (48 + (U : Int) % 10)] 5)) :=
        run_convert_bytes_back _ _ _ 5 ⟨wr.heap.size, 0, none⟩ 1 [c] Tryz.underlying48 Tryz.underlying5 Tryz.underlying9 (fun i hi => by
          rw [Lib.add_plain, Nat.zero_add, Lib.cell_of_heap (heap_alloc_new _ _)]
          have hi2 : i = 0 := by simpa using hi
          subst hi2
          show _ = some (Value.int .u8 (c.toNat : Int))
          rw [eu]; simp)
      have HEU := Lib.hid eu
      clear hU eu
      go_wp2
      case roundEnd => exact ⟨⟨U / 10, c :: S, by simp, by show Value.string (⟨([c] : Bs).toArray⟩ ++ ⟨S.toArray⟩) = _; rw [str_cat]; rfl, HST.out, by omega, HB.out.alloc HB.out.size _⟩, by simp [RowKit.intOf]; omega⟩
      all_goals (exfalso; omega)
set_option maxHeartbeats 1000000 in
theorem digits_pos (n : Int) (h0 : 0 < n) (h1 : n ≤ 9223372036854775807) (w : World) : Calls Tryz.prog 33 #[.int .i64 n] w fun e w' => e = .returned (str (itoa n)) ∧ Below w.heap.size w w' := by
  have hi : itoa n = digs n.toNat := by unfold itoa digs; rw [if_neg (by omega), if_neg (by omega)]
  have hn0 : (n == 0) = false := beq_eq_false_iff_ne.2 (by omega)
  have hu : IntKind.u64.wrap n = n := by
    show n % 18446744073709551616 = _
    omega
  have hnn : ¬ n < 0 := by omega
  have HI := Lib.hid hi
  have hab : n.toNat ≤ 9223372036854775808 := by omega
  have hdl : (digs n.toNat).length ≤ 30 := by
    have h := itoa_length_le n (by omega) (by omega)
    rw [hi] at h
    omega
  clear hi
  go_enter Tryz.func33, Tryz.ntmps33
  go_wp2
  go_loopw [3, 4] (fun x s wr => ∃ (U : Nat) (S : Bs), x = .int .u64 U ∧ s = str S ∧ digs U ++ S = digs n.toNat ∧ U ≤ 9223372036854775808 ∧ Below w.heap.size w wr) (fun x _ _ => (RowKit.intOf x).toNat)
  case atStart => exact ⟨n.toNat, [], congrArg (Value.int .u64) (Int.toNat_of_nonneg (by omega)).symm, rfl, List.append_nil _, hab, Below.refl _ _⟩
  case round =>
    obtain ⟨U, S, rfl, rfl, hS, hUb, hb⟩ := hrel
    have HB := Lib.hid hb
    have hsl : S.length ≤ 30 := by have := congrArg List.length hS; rw [List.length_append] at this; omega
    have HS := Lib.hid hS
    clear hS hb
    by_cases hU : U = 0
    · have hU0 : ¬ (0 : Int) < (U : Int) := by omega
      have HE : Hid (S = digs n.toNat) := Lib.hid (by have := HS.out; rw [hU, show digs 0 = [] from rfl, List.nil_append] at this; exact this)
      clear hU
      go_wp2
      go_ret
      exact ⟨by rw [HI.out, ← HE.out]; rfl, HB.out⟩
    · have hU0 : (0 : Int) < (U : Int) := by omega
      have HST : Hid (digs (U / 10) ++ (UInt8.ofNat (48 + U % 10) :: S) = digs n.toNat) := Lib.hid (by rw [← HS.out, digs_step hU]; simp)
      have eu : (UInt8.ofNat (48 + U % 10)).toNat = 48 + U % 10 := by rw [UInt8.toNat_ofNat']; exact Nat.mod_eq_of_lt (by show _ < 256; omega)
      generalize UInt8.ofNat (48 + U % 10) = c at *
      have hcv : (convert 48 9 (.slice (some ⟨wr.heap.size, 0, none⟩) 1 1)).run Tryz.prog (wr.alloc (.cells #[.int .u8 (48 + (U : Int) % 10)] 5)) = .ok (.string ⟨([c] : Bs).toArray⟩) (wr.alloc (.cells #[.int .u8 (48 + (U : Int) % 10)] 5)) :=
        run_convert_bytes_back _ _ _ 5 ⟨wr.heap.size, 0, none⟩ 1 [c] Tryz.underlying48 Tryz.underlying5 Tryz.underlying9 (fun i hi => by
          rw [Lib.add_plain, Nat.zero_add, Lib.cell_of_heap (heap_alloc_new _ _)]
          have hi2 : i = 0 := by simpa using hi
          subst hi2
          show _ = some (Value.int .u8 (c.toNat : Int))
          rw [eu]; simp)
      have HEU := Lib.hid eu
      clear hU eu
      go_wp2
      case roundEnd => exact ⟨⟨U / 10, c :: S, by simp, by show Value.string (⟨([c] : Bs).toArray⟩ ++ ⟨S.toArray⟩) = _; rw [str_cat]; rfl, HST.out, by omega, HB.out.alloc HB.out.size _⟩, by simp [RowKit.intOf]; omega⟩
      all_goals (exfalso; omega)
theorem digits_zero (w : World) : Calls Tryz.prog 33 #[.int .i64 0] w fun e w' => e = .returned (str (itoa 0)) ∧ Below w.heap.size w w' := by
  rw [show itoa 0 = [48] by decide +kernel]
  go_enter Tryz.func33, Tryz.ntmps33
  go_wp2
  go_ret
  exact ⟨rfl, Below.refl _ _⟩
theorem digits_any (n : Int) (h0 : -9223372036854775808 ≤ n) (h1 : n ≤ 9223372036854775807) (w : World) : Calls Tryz.prog 33 #[.int .i64 n] w fun e w' => e = .returned (str (itoa n)) ∧ Below w.heap.size w w' := by
  by_cases c : n < 0
  · exact digits_neg n h0 c w
  · by_cases z : n = 0
    · subst z; exact digits_zero w
    · exact digits_pos n (by omega) h1 w

end Go.Proofs.YtakdhdaoklcidaaGreatDoor
