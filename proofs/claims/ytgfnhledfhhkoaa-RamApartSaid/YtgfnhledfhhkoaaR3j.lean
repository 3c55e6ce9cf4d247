/- The document's memory of layer 3: the pages that are not all noughts. -/
import Derived.Test.YtgfnhledfhhkoaaR3i
namespace Go.Proofs.Ytgfnhledfhhkoaa
open Go.RowKit
set_option linter.unusedVariables false

theorem own_mono {w : World} {b b' : Nat} {e : TypeId} {s : Nat} {v : Value} {n : Nat} {xs : List Value} (h : w.ownsRow b e s v n xs) (hb : b' ≤ b) : w.ownsRow b' e s v n xs := by
  refine ⟨h.1, ?_⟩
  rcases h.2 with h0 | ⟨g, cap, cur, hv, hg, hh⟩
  · exact .inl h0
  · exact .inr ⟨g, cap, cur, hv, by omega, hh⟩

/-- Numbers that rise. -/
def Rises (ps : List Int) : Prop := ps.Pairwise (· < ·)
theorem rises_put {ps : List Int} {p : Int} {k : Nat} (h : Rises ps) (hk : k ≤ ps.length) (h1 : ∀ j, j < k → ps.getD j 0 < p) (h2 : k < ps.length → p < ps.getD k 0) : Rises (ps.take k ++ [p] ++ ps.drop k) := by
  unfold Rises at *
  rw [List.append_assoc, List.pairwise_append]
  have hd : ∀ b ∈ ps.drop k, p < b := by
    intro b hb
    obtain ⟨j, hj, rfl⟩ := List.getElem_of_mem hb
    have hlt : k < ps.length := by simp at hj; omega
    have h3 := h2 hlt
    rw [List.getElem_drop]
    have e : ps.getD k 0 = ps[k] := by simp [List.getD, hlt]
    rw [e] at h3
    cases j with
    | zero => simpa using h3
    | succ j => exact Int.lt_trans h3 ((List.pairwise_iff_getElem.1 h) k (k + (j + 1)) hlt (by simp at hj; omega) (by omega))
  refine ⟨h.sublist (List.take_sublist _ _), ?_, ?_⟩
  · rw [List.singleton_append, List.pairwise_cons]
    exact ⟨hd, h.sublist (List.drop_sublist _ _)⟩
  · intro a ha b hb
    obtain ⟨j, hj, rfl⟩ := List.getElem_of_mem ha
    have hj2 : j < k ∧ j < ps.length := by simp at hj; omega
    have ea : ps.getD j 0 = (ps.take k)[j] := by simp [List.getD, hj2.2]
    have hap := h1 j hj2.1
    rw [ea] at hap
    rw [List.singleton_append, List.mem_cons] at hb
    rcases hb with rfl | hb
    · exact hap
    · exact Int.lt_trans hap (hd b hb)
theorem put_mem {ps : List Int} {p q : Int} {k : Nat} : q ∈ ps.take k ++ [p] ++ ps.drop k ↔ q = p ∨ q ∈ ps := by
  rw [List.mem_append, List.mem_append, List.mem_singleton]
  constructor
  · rintro ((h | h) | h)
    · exact .inr (List.mem_of_mem_take h)
    · exact .inl h
    · exact .inr (List.mem_of_mem_drop h)
  · rintro (h | h)
    · exact .inl (.inr h)
    · rw [← List.take_append_drop k ps, List.mem_append] at h
      rcases h with h | h
      · exact .inl (.inl h)
      · exact .inr h
theorem put_len (ps : List Int) (p : Int) {k : Nat} (hk : k ≤ ps.length) : (ps.take k ++ [p] ++ ps.drop k).length = ps.length + 1 := by simp; omega

def pageOf (x : Int) : Int := x / 4096 * 4096
/-- The pages of the first k entries. -/
def PagesTo (l : List (Int × Int)) (k : Nat) (ps : List Int) : Prop := Rises ps ∧ ps.length ≤ k ∧ (∀ p ∈ ps, In64 p) ∧ ∀ p, p ∈ ps ↔ ∃ j, j < k ∧ pageOf (l.getD j (0, 0)).1 = p
theorem pages_zero (l : List (Int × Int)) : PagesTo l 0 [] := ⟨List.Pairwise.nil, by simp, by simp, by simp⟩
theorem pages_have {l : List (Int × Int)} {k : Nat} {ps : List Int} (h : PagesTo l k ps) (hp : pageOf (l.getD k (0, 0)).1 ∈ ps) : PagesTo l (k + 1) ps := by
  obtain ⟨h1, h2, h3, h4⟩ := h
  refine ⟨h1, by omega, h3, fun p => ⟨fun hh => ?_, fun ⟨j, hj, e⟩ => ?_⟩⟩
  · obtain ⟨j, hj, e⟩ := (h4 p).1 hh; exact ⟨j, by omega, e⟩
  · by_cases hjk : j < k
    · exact (h4 p).2 ⟨j, hjk, e⟩
    · obtain rfl : j = k := by omega
      rw [← e]; exact hp
theorem pages_more {l : List (Int × Int)} {k : Nat} {ps : List Int} {kk : Nat} {p : Int} (h : PagesTo l k ps) (ep : pageOf (l.getD k (0, 0)).1 = p) (ip : In64 p) (hk : kk ≤ ps.length) (h1 : ∀ j, j < kk → ps.getD j 0 < p) (h2 : kk < ps.length → p < ps.getD kk 0) :
    PagesTo l (k + 1) (ps.take kk ++ [p] ++ ps.drop kk) := by
  obtain ⟨a1, a2, a3, a4⟩ := h
  refine ⟨rises_put a1 hk h1 h2, by rw [put_len ps p hk]; omega, fun q hq => ?_, fun q => ?_⟩
  · rcases put_mem.1 hq with rfl | hq
    · exact ip
    · exact a3 q hq
  · rw [put_mem, a4]
    constructor
    · rintro (rfl | ⟨j, hj, e⟩)
      · exact ⟨k, by omega, ep⟩
      · exact ⟨j, by omega, e⟩
    · rintro ⟨j, hj, e⟩
      by_cases hjk : j < k
      · exact .inr ⟨j, hjk, e⟩
      · obtain rfl : j = k := by omega
        exact .inl (by rw [← e, ep])

/-- What Pages answers. -/
def PagesEnd (w : World) (m : Int → Int) (e : Ending) (w' : World) : Prop :=
  Below w.heap.size w w' ∧ ∃ a n c ps, e = .returned (.slice a n c) ∧ w'.ownsRow w.heap.size 26 1 (.slice a n c) ps.length (ps.map (Value.int .u64)) ∧ Rises ps ∧ ∀ p, p ∈ ps ↔ ∃ y, ¬ m y = 0 ∧ pageOf y = p

theorem info_u64 : (Try.prog.info? 26).map (fun i => (i.zero, i.size, i.bytes)) = some (some (.int .u64 0), 1, 8) := by kernel_rfl
theorem pages_all {l : List (Int × Int)} {m : Int → Int} {ps : List Int} (hf : Fine l) (hm : ∀ y, look l y = m y) (h : PagesTo l l.length ps) : ∀ p, p ∈ ps ↔ ∃ y, ¬ m y = 0 ∧ pageOf y = p := by
  intro p
  rw [h.2.2.2 p]
  constructor
  · rintro ⟨j, hj, e⟩
    have hc : l.getD j (0, 0) ∈ l := by simp [List.getD, hj]
    exact ⟨_, by rw [← hm, look_of_mem hf hc]; have := hf.1 _ hc; omega, e⟩
  · rintro ⟨y, hy, e⟩
    rw [← hm] at hy
    obtain ⟨c, hc, rfl⟩ := List.mem_map.1 (look_key hy)
    obtain ⟨j, hj, rfl⟩ := List.getElem_of_mem hc
    exact ⟨j, hj, by simpa [List.getD, hj] using e⟩

theorem append64_none (w : World) (A : Option Addr) (n C : Nat) (h : n ≤ C) : (Builtin.append_ #[35, 35] 35 #[.slice A n C, .slice none 0 0]).run Try.prog w = .ok (.slice A n C) w := by
  obtain ⟨i0, hi, hz0, hz1, hz2⟩ := info_parts info_u64
  cases A with
  | none => simp [Builtin.append_, run_underlying Try.underlying35, sizeOf, typeInfo, hi, Builtin.lenOf, Builtin.firstCells, loadCells, loadCellsFrom, storeCells, h]
  | some a => simp [Builtin.append_, run_underlying Try.underlying35, sizeOf, typeInfo, hi, Builtin.lenOf, Builtin.firstCells, loadCells, loadCellsFrom, storeCells, h]

theorem one_cell (w : World) (v : Value) (t : TypeId) : ∀ j u, [v][j]? = some u → (w.alloc (.cells #[v] t)).cell? ((⟨w.heap.size, 0, none⟩ : Addr).add j) = some u := by
  intro j u hj
  match j, hj with
  | 0, hj => simp at hj; subst hj; simp [Addr.add]
theorem ints_one (k : IntKind) (xs : List Int) : ∀ u ∈ xs.map (Value.int k), u.oneCell' = true := by
  intro u hu; obtain ⟨z, _, rfl⟩ := List.mem_map.1 hu; rfl
theorem take_cells {w : World} {g : Nat} {k : IntKind} {xs : List Int} {n : Nat} (h : Lays w g (xs.map (Value.int k))) : ∀ j u, ((xs.take n).map (Value.int k))[j]? = some u → w.cell? ((⟨g, 0, none⟩ : Addr).add j) = some u := by
  intro j u hj
  rw [add_none, Nat.zero_add]
  refine h.cell ?_
  rw [List.map_take, List.getElem?_take] at hj
  by_cases c : j < n
  · rwa [if_pos c] at hj
  · rw [if_neg c] at hj; cases hj
theorem row_cells {w : World} {g : Nat} {k : IntKind} {xs : List Int} (h : Lays w g (xs.map (Value.int k))) : ∀ j u, (xs.map (Value.int k))[j]? = some u → w.cell? ((⟨g, 0, none⟩ : Addr).add j) = some u := by
  intro j u hj
  rw [add_none, Nat.zero_add]
  exact h.cell hj
theorem drop_cells {w : World} {g : Nat} {k : IntKind} {xs : List Int} {n : Nat} (h : Lays w g (xs.map (Value.int k))) : ∀ j u, ((xs.drop n).map (Value.int k))[j]? = some u → w.cell? ((⟨g, n, none⟩ : Addr).add j) = some u := by
  intro j u hj
  rw [add_none]
  refine h.cell ?_
  rwa [List.map_drop, List.getElem?_drop] at hj

theorem refPages_nil (w : World) : Calls Try.prog 25 #[.pointer none] w fun e w' => e = .returned (.slice none 0 0) ∧ w = w' := by
  go_enter Try.func25, Try.ntmps25
  go_wp2
  go_loop [3, 4] (fun s i => s = .slice none 0 0 ∧ i = .int .i64 0) (fun _ _ => 0)
  case atStart => exact ⟨rfl, rfl⟩
  case round =>
    obtain ⟨rfl, rfl⟩ := hrel
    go_wp2
    go_ret
    exact ⟨rfl, rfl⟩

set_option maxHeartbeats 4000000 in
theorem refPages_any (w : World) (b g : Nat) (base size : Int) (N : Nat) (m : Int → Int) (h : RefMem w b g base size N m) :
    Calls Try.prog 25 #[.pointer (some ⟨b, 0, none⟩)] w (PagesEnd w m) := by
  obtain ⟨i0, hi, hz0, hz1, hz2⟩ := info_parts info_u64
  obtain ⟨l, hr, hfi, hlo, hN⟩ := h
  obtain ⟨a, c, hb, hm, hx⟩ := hr
  have hbl : b < w.heap.size := (Array.getElem?_eq_some_iff.1 hb).1
  have HFI := Lib.hid hfi
  have HLO := Lib.hid hlo
  have HB := Lib.hid hb
  have HX := Lib.hid hx
  clear hfi hlo hb hx
  go_enter Try.func25, Try.ntmps25
  go_wp2
  go_loopw [3, 4] (fun s i wr => ∃ (k : Nat) (ps : List Int), k ≤ l.length ∧ i = .int .i64 k ∧ wr.ownsRow w.heap.size 26 1 s ps.length (ps.map (Value.int .u64)) ∧ PagesTo l k ps ∧ Below w.heap.size w wr) (fun _ i _ => l.length - (intOf i).toNat)
  case atStart => exact ⟨0, [], Nat.zero_le _, rfl, World.ownsRow_nil _ _ _ _, pages_zero l, Below.refl _ _⟩
  case round =>
    obtain ⟨k, ps, hk, rfl, hown, hpg, hbr⟩ := hrel
    have hbb := (hbr.block b hbl).trans HB.out
    have c2 : wr.cell? ⟨b, 2, none⟩ = some (.slice a l.length c) := by rw [cell_of_row wr b 2 _ _ _ hbb]; rfl
    clear hbb
    by_cases hlt : k < l.length
    · rcases HX.out with h0 | ⟨ha, hne, hl⟩
      · subst h0; simp at hlt
      subst ha
      have hl2 := hl.keeps (Only.of_below (fun _ => False) hbr) id
      obtain ⟨cc, hcc⟩ : ∃ cc, l.getD k (0, 0) = cc := ⟨_, rfl⟩
      have hA := hl2.cell (cellsOf_get l k hlt).1
      rw [hcc] at hA
      have hmem : cc ∈ l := by rw [← hcc]; simp [List.getD, hlt]
      have hc64 := (HFI.out.1 cc hmem).1
      obtain ⟨q, hq⟩ : ∃ q, IntKind.u64.wrap (cc.1.tdiv 4096) = q := ⟨_, rfl⟩
      obtain ⟨p, hp⟩ : ∃ p, IntKind.u64.wrap (q * 4096) = p := ⟨_, rfl⟩
      have hpp : pageOf cc.1 = p := by
        have := hc64.1
        have := hc64.2
        rw [IntKind.wrap_u64, Int.tdiv_eq_ediv_of_nonneg hc64.1] at hq
        rw [IntKind.wrap_u64] at hp
        unfold pageOf; omega
      have ip : In64 p := by rw [← hp, wrap_eq]; exact U_in _
      have HP := Lib.hid (show pageOf (l.getD k (0, 0)).1 = p by rw [hcc]; exact hpp)
      have HIP := Lib.hid ip
      have HPG := Lib.hid hpg
      have hpl := hpg.2.1
      clear hcc hl hl2 hmem hc64 hpp ip hpg
      rcases Lays.own hown with ⟨hs, h0, hv⟩ | ⟨gs, cap, hs, hgs, hls⟩
      · subst hs
        obtain rfl : ps = [] := List.length_eq_zero_iff.1 h0
        clear h0 hv
        go_wp2
        go_loop [6] (fun i => i = .int .i64 0) (fun _ => 0)
        case atStart => rfl
        case round =>
          subst hrel
          go_wp2_with (first
            | (at_builtin; refine wpList_append_run rfl _ _ _ rfl (.slice none 0 0) (.slice none 0 0) (.slice none 0 0) _ rfl rfl (append64_none _ none 0 0 (Nat.le_refl _)) ?_)
            | (at_builtin; refine wpList_append_own _ rfl _ _ 35 rfl w.heap.size 26 i0 (.int .u64 0) 1 8 Try.underlying35 hi hz0 hz1 hz2 rfl (by decide) (.slice none 0 0) 0 [] rfl (World.ownsRow_nil _ _ _ _) ⟨wr.heap.size, 0, none⟩ 1 1 [.int .u64 p] rfl rfl ?c1 ?c2 ?c3 ?c4 ?c5 ?_))
          case c2 => rfl
          case c3 => (try unfold maxLen); omega
          case c5 => have := hbr.size; (try simp); omega
          intro v' w2 hown' hgrow _
          have hb2 : Below w.heap.size w w2 := (hbr.alloc (by have := hbr.size; omega) _).grown hgrow (by have := hbr.size; simp; omega) (fun j hj => by cases hj)
          rcases Lays.own hown' with ⟨_, h0, _⟩ | ⟨g2, cap2, rfl, _, _⟩
          · exact absurd h0 (by omega)
          have hcap : 0 + 1 ≤ cap2 := by
            rcases hown'.2 with ⟨hv, _⟩ | ⟨_, _, _, hv, _, _, hn, _⟩
            · cases hv
            · injection hv with _ _ h3; omega
          have HO := Lib.hid hown'
          have HPN : Hid (PagesTo l (k + 1) [p]) := Lib.hid (pages_more (kk := 0) HPG.out HP.out HIP.out (Nat.le_refl _) (fun j hj => absurd hj (by omega)) (fun hj => absurd hj (by simp)))
          clear hown' hgrow hown
          go_wp2_with (at_builtin; refine wpList_append_run rfl _ _ _ rfl (.slice (some ⟨g2, 0, none⟩) (0 + 1) cap2) (.slice none 0 0) (.slice (some ⟨g2, 0, none⟩) (0 + 1) cap2) _ rfl rfl (append64_none _ _ _ _ hcap) ?_)
          go_roundw
          case rel => exact ⟨k + 1, [p], by omega, by go_num, HO.out, HPN.out, hb2⟩
          case measure => simp [intOf]; omega
      · subst hs
        have hnc : ps.length ≤ cap ∧ cap ≤ maxLen := by
          rcases hown.2 with ⟨hv, _⟩ | ⟨_, _, _, hv, _, _, hn, hm2, _⟩
          · cases hv
          · injection hv with _ _ h3; exact ⟨by omega, by omega⟩
        obtain ⟨hn1, hn2⟩ := hnc
        unfold maxLen at hn2
        have hgl := hls.lt
        go_wp2
        go_loop [6] (fun i => ∃ kk : Nat, kk ≤ ps.length ∧ i = .int .i64 kk ∧ ∀ j, j < kk → ps.getD j 0 < p) (fun i => ps.length - (intOf i).toNat)
        case atStart => exact ⟨0, Nat.zero_le _, rfl, fun j hj => absurd hj (by omega)⟩
        case round =>
          obtain ⟨kk, hkk, rfl, hno⟩ := hrel
          have HNO := Lib.hid hno
          have HOWN := Lib.hid hown
          have HLS := Lib.hid hls
          clear hno hown hls
          by_cases hk2 : kk < ps.length
          · obtain ⟨u, hu⟩ : ∃ u, ps.getD kk 0 = u := ⟨_, rfl⟩
            have hcell : wr.cell? ⟨gs, kk, none⟩ = some (.int .u64 u) := HLS.out.cell (by rw [← hu]; simp [List.getD, hk2])
            have HU := Lib.hid hu
            clear hu
            by_cases hup : u < p
            · go_wp2
              go_round
              case rel => exact ⟨kk + 1, by omega, by go_num, fun j hj => (by
                by_cases hjk : j < kk
                · exact HNO.out j hjk
                · obtain rfl : j = kk := by omega
                  rw [HU.out]; exact hup)⟩
              case measure => simp [intOf]; omega
            · by_cases heq : u = p
              · have hee : (u == p) = true := by simpa using heq
                have HE := Lib.hid heq
                clear heq
                go_wp2
                go_roundw
                case rel => exact ⟨k + 1, ps, by omega, by go_num, HOWN.out, pages_have HPG.out (by rw [HP.out, ← HE.out, ← HU.out]; simp [List.getD, hk2]), hbr⟩
                case measure => simp [intOf]; omega
              · have hee : (u == p) = false := by simpa using heq
                have hlt2 : p < u := by omega
                clear heq
                have hck : ¬ cap = kk := by omega
                have hl1 : ((ps.take kk).map (Value.int .u64)).length = kk * 1 := by simp; omega
                go_wp2_with (at_builtin; refine wpList_append_own _ rfl _ _ 35 rfl wr.heap.size 26 i0 (.int .u64 0) 1 8 Try.underlying35 hi hz0 hz1 hz2 rfl (by decide) (.slice none 0 0) 0 [] rfl (World.ownsRow_nil _ _ _ _) ⟨gs, 0, none⟩ kk cap ((ps.take kk).map (Value.int .u64)) rfl hl1 (take_cells HLS.out) (ints_one _ _) (by unfold maxLen; omega) (by omega) (Nat.le_refl _) ?_)
                intro v1 w1 hown1 hgrow1 _
                have B1 : Below wr.heap.size wr w1 := (Below.refl _ _).grown hgrow1 (Nat.le_refl _) (fun j hj => by cases hj)
                have hs1 := B1.size
                obtain ⟨A1, m1, C1, rfl⟩ := own_slice hown1
                have HO1 := Lib.hid hown1
                clear hgrow1 hown1
                go_wp2_with (at_builtin; refine wpList_append_own _ rfl _ _ 35 rfl wr.heap.size 26 i0 (.int .u64 0) 1 8 Try.underlying35 hi hz0 hz1 hz2 rfl (by decide) (.slice A1 m1 C1) kk _ rfl (HO1.out.alloc _) ⟨w1.heap.size, 0, none⟩ 1 1 [.int .u64 p] rfl rfl (one_cell _ _ _) (by simp [Value.oneCell']) (by unfold maxLen; omega) (by omega) (by rw [World.size_alloc]; omega) ?_)
                intro v2 w2 hown2 hgrow2 _
                have B2 : Below wr.heap.size wr w2 := (B1.alloc hs1 _).grown hgrow2 (by rw [World.size_alloc]; omega) (fun j hj => (HO1.out.lt j hj).1)
                have HO2 := Lib.hid hown2
                obtain ⟨A2, m2, C2, rfl⟩ := own_slice hown2
                have hs2 := B2.size
                have HL2 := Lib.hid (HLS.out.keeps (Only.of_below (fun _ => False) B2) id)
                clear hown2 hgrow2
                have hl3 : ((ps.drop kk).map (Value.int .u64)).length = (ps.length - kk) * 1 := by simp
                go_wp2_with (at_builtin; refine wpList_append_own _ rfl _ _ 35 rfl wr.heap.size 26 i0 (.int .u64 0) 1 8 Try.underlying35 hi hz0 hz1 hz2 rfl (by decide) (.slice A2 m2 C2) (kk + 1) _ rfl HO2.out ⟨gs, kk, none⟩ (ps.length - kk) (cap - kk) ((ps.drop kk).map (Value.int .u64)) rfl hl3 (drop_cells HL2.out) (ints_one _ _) (by unfold maxLen; omega) (by omega) (by omega) ?_)
                intro v3 w3 hown3 hgrow3 _
                have B3 : Below wr.heap.size wr w3 := B2.grown hgrow3 (by omega) (fun j hj => (HO2.out.lt j hj).1)
                have R3 : w3.ownsRow w.heap.size 26 1 v3 (ps.take kk ++ [p] ++ ps.drop kk).length ((ps.take kk ++ [p] ++ ps.drop kk).map (Value.int .u64)) := by
                  have h0 := own_mono hown3 hbr.size
                  have e1 : (ps.take kk ++ [p] ++ ps.drop kk).length = kk + 1 + (ps.length - kk) := by simp; omega
                  rw [e1]
                  simpa using h0
                have HPN : Hid (PagesTo l (k + 1) (ps.take kk ++ [p] ++ ps.drop kk)) := Lib.hid (pages_more HPG.out HP.out HIP.out hkk HNO.out (fun _ => by rw [HU.out]; exact hlt2))
                have HR3 := Lib.hid R3
                have HB3 := Lib.hid (hbr.trans (B3.mono hbr.size))
                clear hown3 hgrow3 R3
                go_wp2
                go_roundw
                case rel => exact ⟨k + 1, _, by omega, by go_num, HR3.out, HPN.out, HB3.out⟩
                case measure => simp [intOf]; omega
          · obtain rfl : kk = ps.length := by omega
            by_cases hck : cap = ps.length
            · subst hck
              have hl1 : (ps.map (Value.int .u64)).length = ps.length * 1 := by simp
              go_wp2_with (at_builtin; refine wpList_append_own _ rfl _ _ 35 rfl wr.heap.size 26 i0 (.int .u64 0) 1 8 Try.underlying35 hi hz0 hz1 hz2 rfl (by decide) (.slice none 0 0) 0 [] rfl (World.ownsRow_nil _ _ _ _) ⟨gs, 0, none⟩ ps.length ps.length (ps.map (Value.int .u64)) rfl hl1 (row_cells HLS.out) (ints_one _ _) (by unfold maxLen; omega) (by omega) (Nat.le_refl _) ?_)
              intro v1 w1 hown1 hgrow1 _
              have B1 : Below wr.heap.size wr w1 := (Below.refl _ _).grown hgrow1 (Nat.le_refl _) (fun j hj => by cases hj)
              have hs1 := B1.size
              obtain ⟨A1, m1, C1, rfl⟩ := own_slice hown1
              have HO1 := Lib.hid hown1
              clear hgrow1 hown1
              go_wp2_with (at_builtin; refine wpList_append_own _ rfl _ _ 35 rfl wr.heap.size 26 i0 (.int .u64 0) 1 8 Try.underlying35 hi hz0 hz1 hz2 rfl (by decide) (.slice A1 m1 C1) ps.length _ rfl (HO1.out.alloc _) ⟨w1.heap.size, 0, none⟩ 1 1 [.int .u64 p] rfl rfl (one_cell _ _ _) (by simp [Value.oneCell']) (by unfold maxLen; omega) (by omega) (by rw [World.size_alloc]; omega) ?_)
              intro v2 w2 hown2 hgrow2 _
              have B2 : Below wr.heap.size wr w2 := (B1.alloc hs1 _).grown hgrow2 (by rw [World.size_alloc]; omega) (fun j hj => (HO1.out.lt j hj).1)
              have HO2 := Lib.hid hown2
              obtain ⟨A2, m2, C2, rfl⟩ := own_slice hown2
              have hs2 := B2.size
              have HL2 := Lib.hid (HLS.out.keeps (Only.of_below (fun _ => False) B2) id)
              clear hown2 hgrow2
              go_wp2_with (at_builtin; refine wpList_append_own _ rfl _ _ 35 rfl wr.heap.size 26 i0 (.int .u64 0) 1 8 Try.underlying35 hi hz0 hz1 hz2 rfl (by decide) (.slice A2 m2 C2) (ps.length + 1) _ rfl HO2.out ⟨gs, 0, none⟩ 0 0 [] rfl rfl (fun j u hj => by simp at hj) (fun u hu => by simp at hu) (by unfold maxLen; omega) (by omega) (by omega) ?_)
              intro v3 w3 hown3 hgrow3 _
              have B3 : Below wr.heap.size wr w3 := B2.grown hgrow3 (by omega) (fun j hj => (HO2.out.lt j hj).1)
              have R3 : w3.ownsRow w.heap.size 26 1 v3 (ps ++ [p]).length ((ps ++ [p]).map (Value.int .u64)) := by
                have h0 := own_mono hown3 hbr.size
                have e1 : (ps ++ [p]).length = ps.length + 1 := by simp
                rw [e1]
                simpa using h0
              have HPN : Hid (PagesTo l (k + 1) (ps ++ [p])) := Lib.hid (by have := pages_more HPG.out HP.out HIP.out hkk HNO.out (fun hj => absurd hj (by omega)); rwa [List.take_length, List.drop_length, List.append_nil] at this)
              have HR3 := Lib.hid R3
              have HB3 := Lib.hid (hbr.trans (B3.mono hbr.size))
              clear hown3 hgrow3 R3
              go_wp2
              go_roundw
              case rel => exact ⟨k + 1, _, by omega, by go_num, HR3.out, HPN.out, HB3.out⟩
              case measure => simp [intOf]; omega
            · skip
              have hl1 : (ps.map (Value.int .u64)).length = ps.length * 1 := by simp
              go_wp2_with (at_builtin; refine wpList_append_own _ rfl _ _ 35 rfl wr.heap.size 26 i0 (.int .u64 0) 1 8 Try.underlying35 hi hz0 hz1 hz2 rfl (by decide) (.slice none 0 0) 0 [] rfl (World.ownsRow_nil _ _ _ _) ⟨gs, 0, none⟩ ps.length cap (ps.map (Value.int .u64)) rfl hl1 (row_cells HLS.out) (ints_one _ _) (by unfold maxLen; omega) (by omega) (Nat.le_refl _) ?_)
              intro v1 w1 hown1 hgrow1 _
              have B1 : Below wr.heap.size wr w1 := (Below.refl _ _).grown hgrow1 (Nat.le_refl _) (fun j hj => by cases hj)
              have hs1 := B1.size
              obtain ⟨A1, m1, C1, rfl⟩ := own_slice hown1
              have HO1 := Lib.hid hown1
              clear hgrow1 hown1
              go_wp2_with (at_builtin; refine wpList_append_own _ rfl _ _ 35 rfl wr.heap.size 26 i0 (.int .u64 0) 1 8 Try.underlying35 hi hz0 hz1 hz2 rfl (by decide) (.slice A1 m1 C1) ps.length _ rfl (HO1.out.alloc _) ⟨w1.heap.size, 0, none⟩ 1 1 [.int .u64 p] rfl rfl (one_cell _ _ _) (by simp [Value.oneCell']) (by unfold maxLen; omega) (by omega) (by rw [World.size_alloc]; omega) ?_)
              intro v2 w2 hown2 hgrow2 _
              have B2 : Below wr.heap.size wr w2 := (B1.alloc hs1 _).grown hgrow2 (by rw [World.size_alloc]; omega) (fun j hj => (HO1.out.lt j hj).1)
              have HO2 := Lib.hid hown2
              obtain ⟨A2, m2, C2, rfl⟩ := own_slice hown2
              have hs2 := B2.size
              have HL2 := Lib.hid (HLS.out.keeps (Only.of_below (fun _ => False) B2) id)
              clear hown2 hgrow2
              go_wp2_with (at_builtin; refine wpList_append_own _ rfl _ _ 35 rfl wr.heap.size 26 i0 (.int .u64 0) 1 8 Try.underlying35 hi hz0 hz1 hz2 rfl (by decide) (.slice A2 m2 C2) (ps.length + 1) _ rfl HO2.out ⟨gs, ps.length, none⟩ 0 (cap - ps.length) [] rfl rfl (fun j u hj => by simp at hj) (fun u hu => by simp at hu) (by unfold maxLen; omega) (by omega) (by omega) ?_)
              intro v3 w3 hown3 hgrow3 _
              have B3 : Below wr.heap.size wr w3 := B2.grown hgrow3 (by omega) (fun j hj => (HO2.out.lt j hj).1)
              have R3 : w3.ownsRow w.heap.size 26 1 v3 (ps ++ [p]).length ((ps ++ [p]).map (Value.int .u64)) := by
                have h0 := own_mono hown3 hbr.size
                have e1 : (ps ++ [p]).length = ps.length + 1 := by simp
                rw [e1]
                simpa using h0
              have HPN : Hid (PagesTo l (k + 1) (ps ++ [p])) := Lib.hid (by have := pages_more HPG.out HP.out HIP.out hkk HNO.out (fun hj => absurd hj (by omega)); rwa [List.take_length, List.drop_length, List.append_nil] at this)
              have HR3 := Lib.hid R3
              have HB3 := Lib.hid (hbr.trans (B3.mono hbr.size))
              clear hown3 hgrow3 R3
              go_wp2
              go_roundw
              case rel => exact ⟨k + 1, _, by omega, by go_num, HR3.out, HPN.out, HB3.out⟩
              case measure => simp [intOf]; omega

    · obtain rfl : k = l.length := by omega
      obtain ⟨A, n', C, rfl⟩ := own_slice hown
      have HO := Lib.hid hown
      have HPG := Lib.hid hpg
      clear hown hpg
      go_wp2
      go_ret
      exact ⟨hbr, _, _, _, ps, rfl, HO.out, HPG.out.1, pages_all HFI.out HLO.out HPG.out⟩

end Go.Proofs.Ytgfnhledfhhkoaa
