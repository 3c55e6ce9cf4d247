/- The document's memory of layer 3: bytes put and told, new ones, twins. -/
import Derived.Test.YtgfnhledfhhkoaaR3d
namespace Go.Proofs.Ytgfnhledfhhkoaa
open Go.RowKit
set_option linter.unusedVariables false

/-- The slice value reads as xs, out of block g. -/
def ReadsIn (k : IntKind) (g : Nat) (w : World) (v : Value) (xs : List Int) : Prop :=
  ∃ a c, v = .slice a xs.length c ∧ xs.length ≤ maxLen ∧ (xs = [] ∨ ∃ off, a = some ⟨g, off, none⟩ ∧ g < w.heap.size ∧ ∀ i, i < xs.length → w.cell? ⟨g, off + i, none⟩ = some (.int k (xs.getD i 0)))
theorem ReadsIn.keeps {S : Nat → Prop} {k : IntKind} {g : Nat} {w w' : World} {v : Value} {xs : List Int} (h : ReadsIn k g w v xs) (o : Only S w w') (hg : ¬ S g) : ReadsIn k g w' v xs := by
  obtain ⟨a, c, hv, hm, h⟩ := h
  refine ⟨a, c, hv, hm, ?_⟩
  rcases h with h | ⟨off, ha, hlt, hc⟩
  · exact .inl h
  · exact .inr ⟨off, ha, Nat.lt_of_lt_of_le hlt o.size, fun i hi => (World.cell?_of_block (w := w) (o.block g hlt hg)).trans (hc i hi)⟩
theorem ReadsIn.below {k : IntKind} {g : Nat} {w w' : World} {v : Value} {xs : List Int} (h : ReadsIn k g w v xs) (o : Below w.heap.size w w') : ReadsIn k g w' v xs :=
  h.keeps (Only.of_below (fun _ => False) o) id
theorem ReadsL.inBlock {k : IntKind} {B : Nat} {w : World} {v : Value} {xs : List Int} (h : ReadsL k B w v xs) (hB : B ≤ w.heap.size) : ∃ g, (g < B ∨ xs = []) ∧ ReadsIn k g w v xs := by
  obtain ⟨a, c, hv, hm, h⟩ := h
  rcases h with h | ⟨b, off, ha, hlt, hc⟩
  · exact ⟨0, .inr h, a, c, hv, hm, .inl h⟩
  · exact ⟨b, .inl hlt, a, c, hv, hm, .inr ⟨off, ha, by omega, hc⟩⟩
theorem ReadsIn.own {k : IntKind} {base : Nat} {e : TypeId} {w : World} {v : Value} {xs : List Int} (h : w.ownsRow base e 1 v xs.length (xs.map (Value.int k))) : ∃ g, (base ≤ g ∨ xs = []) ∧ ReadsIn k g w v xs := by
  rcases h.2 with ⟨hv, h0⟩ | ⟨g, cap, cur, hv, hb, hg, hn, hc, _, _⟩
  · have : xs = [] := List.eq_nil_of_length_eq_zero h0
    subst this
    exact ⟨0, .inr rfl, none, 0, hv, Nat.zero_le _, .inl rfl⟩
  · subst hv
    refine ⟨g, .inl hb, _, cap, rfl, by omega, .inr ⟨0, rfl, (Array.getElem?_eq_some_iff.1 hg).1, fun i hi => ?_⟩⟩
    have := h.cells (g := g) rfl i (.int k (xs.getD i 0)) (by simp [List.getD, hi])
    rwa [add_none] at this

/-- Memory behind bytes were put at x. -/
def putF (m : Int → Int) (x : Int) : List Int → Int → Int
  | [], y => m y
  | v :: vs, y => putF (fun z => if z = x then v else m z) (x + 1) vs y
def putM (base size : Int) (m : Int → Int) (x : Int) (xs : List Int) : Int → Int := if hasZ base size x xs.length = true then putF m x xs else m
theorem putF_out {m : Int → Int} {x : Int} {xs : List Int} {y : Int} (h : y < x ∨ x + xs.length ≤ y) : putF m x xs y = m y := by
  induction xs generalizing m x with
  | nil => rfl
  | cons v vs ih =>
    simp only [List.length_cons] at h
    unfold putF
    rw [ih (by omega)]
    show (if y = x then v else m y) = m y
    rw [if_neg (by omega)]
theorem putF_at {m : Int → Int} {x : Int} {xs : List Int} {i : Nat} (h : i < xs.length) : putF m x xs (x + i) = xs.getD i 0 := by
  induction xs generalizing m x i with
  | nil => simp at h
  | cons v vs ih =>
    unfold putF
    cases i with
    | zero => rw [putF_out (by omega)]; simp
    | succ i =>
      rw [show x + ((i + 1 : Nat) : Int) = x + 1 + i by omega, ih (by simpa using h)]; simp
def Bytes255 (xs : List Int) : Prop := ∀ i, i < xs.length → 0 ≤ xs.getD i 0 ∧ xs.getD i 0 ≤ 255
theorem drop_getD {xs : List Int} {k : Nat} (h : k < xs.length) : xs.drop k = xs.getD k 0 :: xs.drop (k + 1) := by
  rw [List.drop_eq_getElem_cons h]; simp [List.getD, h]

/-- In the loop: what is still to be put. -/
def Putting (w wr : World) (b g : Nat) (base size : Int) (N : Nat) (m : Int → Int) (x : Int) (xs : List Int) (k : Nat) : Prop :=
  Only (fun i => i = b) w wr ∧ ∃ g' m', (g' = g ∨ w.heap.size ≤ g') ∧ RefMem wr b g' base size (N + k) m' ∧ ∀ y, putF m' (x + k) (xs.drop k) y = putF m x xs y
theorem Putting.next {e : Ending} {w wr w' : World} {b g : Nat} {base size : Int} {N : Nat} {m m1 : Int → Int} {x : Int} {xs : List Int} {k : Nat} (ho : Only (fun i => i = b) w wr) (hk : k < xs.length)
    (hy : ∀ y, putF m1 (x + k) (xs.drop k) y = putF m x xs y) (hs : MemSet wr b base size (N + k + 1) (fun y => if y = x + k then xs.getD k 0 else m1 y) e w') : Putting w w' b g base size N m x xs (k + 1) := by
  obtain ⟨_, ho2, g', hg, hr⟩ := hs
  refine ⟨ho.trans ho2, g', _, .inr (Nat.le_trans ho.size hg), hr, fun y => ?_⟩
  rw [← hy y, drop_getD hk, show x + ((k + 1 : Nat) : Int) = x + k + 1 by omega]; rfl

set_option maxHeartbeats 4000000 in
theorem mem_put (w : World) (b g gx : Nat) (base size : Int) (N : Nat) (m : Int → Int) (x : Int) (v : Value) (xs : List Int) (h : RefMem w b g base size N m) (hf : Fits base size) (hx : In64 x) (hr : ReadsIn .u8 gx w v xs) (hxs : Bytes255 xs) (hgx : xs = [] ∨ gx ≠ b) (hl : xs.length ≤ 10000) (hN : N < 900000) :
    Calls Try.prog 38 #[.pointer (some ⟨b, 0, none⟩), .int .u64 x, v] w (MemEnd w b g base size (N + xs.length) (putM base size m x xs) (hasZ base size x xs.length)) := by
  have HRD := hr
  obtain ⟨a, c, rfl, hm, _⟩ := hr
  have HH := Lib.hid h
  have HX := Lib.hid hx
  have HF := Lib.hid hf
  have HL := Lib.hid hl
  by_cases hh : hasZ base size x xs.length = true
  · have R : Hid (putM base size m x xs = putF m x xs) := by
      refine Lib.hid ?_
      unfold putM; rw [if_pos hh]
    have hb := hh
    unfold hasZ at hb
    rw [decide_eq_true_eq] at hb
    have xb : xs = [] ∨ x + xs.length ≤ 9223372036854775808 := by
      obtain ⟨f1, f2, f3, f4⟩ := hf
      rcases hb.2 with h0 | h0
      · exact .inl (List.eq_nil_of_length_eq_zero (by omega))
      · exact .inr (by omega)
    have XB := Lib.hid xb
    have x0 := hx.1
    clear h hf hx hb xb hl
    unfold maxLen at hm
    go_enter Try.func38, Try.ntmps38
    go_wp2_with fail
    refine (mem_has _ b g base size N m _ _ HH.out HF.out HX.out).mono ?_
    rintro e w1 ⟨rfl, hb1⟩
    have W0 : Putting w w1 b g base size N m x xs 0 := ⟨Only.of_below _ hb1, g, m, .inl rfl, HH.out.below hb1, fun y => by rw [show x + ((0 : Nat) : Int) = x by omega]; rfl⟩
    go_wp2_with fail
    go_loopw [7] (fun i wr => ∃ k : Nat, k ≤ xs.length ∧ i = .int .i64 k ∧ Putting w wr b g base size N m x xs k) (fun i _ => xs.length - (intOf i).toNat)
    case atStart => exact ⟨0, by omega, rfl, W0⟩
    case round =>
      clear W0 hb1
      obtain ⟨k, hk, rfl, hW⟩ := hrel
      by_cases hlt : k < xs.length
      · obtain ⟨ho, g1, m1, hg1, hr1, hy⟩ := hW
        have hgb : gx ≠ b := by
          rcases hgx with h0 | h0
          · subst h0; simp at hlt
          · exact h0
        obtain ⟨a', c', hv', _, hc'⟩ := HRD.keeps ho (fun h => hgb h)
        have hxl : x + xs.length ≤ 9223372036854775808 := by
          rcases XB.out with h0 | h0
          · subst h0; simp at hlt
          · exact h0
        rcases hc' with h0 | ⟨off, rfl, _, hcell⟩
        · subst h0; simp at hlt
        injection hv' with hva _ hvc
        subst hva
        have hcl := hcell k hlt
        have hbd := hxs k hlt
        obtain ⟨u, hu⟩ : ∃ u, xs.getD k 0 = u := ⟨_, rfl⟩
        rw [hu] at hcl hbd
        have HU := Lib.hid hu
        clear hu
        have HBD := Lib.hid hbd
        have HR := Lib.hid hr1
        have HY := Lib.hid hy
        have HO := Lib.hid ho
        have IX := Lib.hid (show In64 (x + k) from ⟨by omega, by omega⟩)
        have HNN := Lib.hid (show N + k < 1000000 by have := HL.out; omega)
        clear hr1 hy ho hg1 hcell hbd hvc
        go_wp2_with fail
        refine (mem_set _ b g1 base size (N + k) m1 _ _ HR.out HNN.out IX.out HBD.out.1 HBD.out.2).mono ?_
        rintro e w2 hs
        have HS := Lib.hid (Putting.next (g := g) HO.out hlt HY.out (by rw [HU.out]; exact hs))
        obtain ⟨⟨u', rfl⟩, _⟩ := hs
        go_wp2
        go_roundw
        case rel => exact ⟨k + 1, by omega, by go_num, HS.out⟩
        case measure => simp [intOf]; omega
      · obtain rfl : k = xs.length := by omega
        obtain ⟨ho, g1, m1, hg1, hr1, hy⟩ := hW
        have HE := Lib.hid hy
        have HR := Lib.hid hr1
        clear hy hr1
        go_wp2
        go_ret
        exact ⟨by rw [hh]; rfl, ho, g1, hg1, HR.out.congr (fun y => by rw [R.out, ← HE.out y, List.drop_length]; rfl) (by omega)⟩
  · have hh2 : hasZ base size x xs.length = false := by simpa using hh
    have R : Hid (putM base size m x xs = m) := by
      refine Lib.hid ?_
      unfold putM; rw [hh2]; rfl
    clear h hf hx hh hl
    go_enter Try.func38, Try.ntmps38
    go_wp2_with fail
    refine (mem_has _ b g base size N m _ _ HH.out HF.out HX.out).mono ?_
    rintro e w1 ⟨rfl, hb1⟩
    go_wp2
    go_ret
    exact ⟨by rw [hh2]; rfl, Only.of_below _ hb1, g, .inl rfl, (HH.out.below hb1).congr (fun y => by rw [R.out]) (by omega)⟩

theorem putNil_any (x : Int) (a : Option Addr) (n c : Nat) (w : World) :
    Calls Try.prog 38 #[.pointer none, .int .u64 x, .slice a n c] w fun e w' => e = .returned (.bool false) ∧ w = w' := by
  go_enter Try.func38, Try.ntmps38
  go_wp2_with (go_at_call 40; refine (refHas_nil _ _ _).mono ?_; rintro e w1 ⟨rfl, rfl⟩)
  go_ret
  exact ⟨rfl, rfl⟩

end Go.Proofs.Ytgfnhledfhhkoaa
