/- The document's memory of layer 3: whether two are the same. -/
import Derived.Test.YtgfnhledfhhkoaaR3h
namespace Go.Proofs.Ytgfnhledfhhkoaa
open Go.RowKit
set_option linter.unusedVariables false

theorem look_cons (d : Int × Int) (l : List (Int × Int)) (x : Int) : look (d :: l) x = if d.1 = x then d.2 else look l x := by
  unfold look
  by_cases e : d.1 = x
  · rw [if_pos e]; simp [e]
  · rw [if_neg e]; simp [e]
theorem look_of_mem {l : List (Int × Int)} (h : Fine l) {c : Int × Int} (hc : c ∈ l) : look l c.1 = c.2 := by
  have hn := h.2
  clear h
  induction l with
  | nil => simp at hc
  | cons d l ih =>
    rw [look_cons]
    simp only [List.map_cons, List.nodup_cons] at hn
    rcases List.mem_cons.1 hc with rfl | hc
    · rw [if_pos rfl]
    · rw [if_neg (fun e => hn.1 (by rw [e]; exact List.mem_map.2 ⟨c, hc, rfl⟩))]
      exact ih hc hn.2
theorem sub_len {l1 l2 : List Int} (h : l1.Nodup) (hs : ∀ x ∈ l1, x ∈ l2) : l1.length ≤ l2.length := by
  induction l1 generalizing l2 with
  | nil => simp
  | cons a l ih =>
    simp only [List.nodup_cons] at h
    have ha := hs a (by simp)
    have h1 := ih (l2 := l2.erase a) h.2 (fun x hx => (List.mem_erase_of_ne (fun e => h.1 (by rw [← e]; exact hx))).2 (hs x (by simp [hx])))
    rw [List.length_erase_of_mem ha] at h1
    have h2 := List.length_pos_of_mem ha
    simp; omega
theorem sub_all {l1 l2 : List Int} (h : l1.Nodup) (hs : ∀ x ∈ l1, x ∈ l2) (hl : l2.length ≤ l1.length) : ∀ x ∈ l2, x ∈ l1 := by
  intro x hx
  by_cases c : x ∈ l1
  · exact c
  · have := sub_len (l1 := x :: l1) (l2 := l2) (by simp [c, h]) (by intro y hy; rcases List.mem_cons.1 hy with rfl | hy; exact hx; exact hs y hy)
    simp at this; omega
theorem look_key {l : List (Int × Int)} {x : Int} (h : ¬ look l x = 0) : x ∈ l.map (·.1) := by
  rcases look_mem (l := l) (x := x) with e | ⟨c, hc, e, _⟩
  · exact absurd e h
  · exact List.mem_map.2 ⟨c, hc, e⟩
theorem look_nokey {l : List (Int × Int)} {x : Int} (h : x ∉ l.map (·.1)) : look l x = 0 := by
  by_cases c : look l x = 0
  · exact c
  · exact absurd (look_key c) h
/-- Of two lists of one length, each entry of the one told by the other: they tell the same. -/
theorem same_look {l1 l2 : List (Int × Int)} (h1 : Fine l1) (h2 : Fine l2) (hl : l1.length = l2.length) (h : ∀ c ∈ l1, look l2 c.1 = c.2) (y : Int) : look l1 y = look l2 y := by
  have hk : ∀ x ∈ l1.map (·.1), x ∈ l2.map (·.1) := by
    intro x hx
    obtain ⟨c, hc, rfl⟩ := List.mem_map.1 hx
    exact look_key (by rw [h c hc]; have := h1.1 c hc; omega)
  have hk2 := sub_all h1.2 hk (by simp [hl])
  by_cases hy : y ∈ l1.map (·.1)
  · obtain ⟨c, hc, rfl⟩ := List.mem_map.1 hy
    rw [look_of_mem h1 hc, h c hc]
  · rw [look_nokey hy, look_nokey (fun k => hy (hk2 y k))]
theorem look_len {l1 l2 : List (Int × Int)} (h1 : Fine l1) (h2 : Fine l2) (h : ∀ y, look l1 y = look l2 y) : l1.length = l2.length := by
  have f : ∀ {l l' : List (Int × Int)}, Fine l → (∀ y, look l y = look l' y) → ∀ x ∈ l.map (·.1), x ∈ l'.map (·.1) := by
    intro l l' hl he x hx
    obtain ⟨c, hc, rfl⟩ := List.mem_map.1 hx
    exact look_key (by rw [← he, look_of_mem hl hc]; have := hl.1 c hc; omega)
  have a := sub_len h1.2 (f h1 h)
  have b := sub_len h2.2 (f h2 fun y => (h y).symm)
  simp at a b; omega

/-- What Same answers. -/
def SameEnd (w : World) (p : Prop) (e : Ending) (w' : World) : Prop := Below w.heap.size w w' ∧ ∃ r : Bool, e = .returned (.bool r) ∧ (r = true ↔ p)

theorem refSame_nil (w : World) : Calls Try.prog 27 #[.pointer none, .pointer none] w fun e w' => e = .returned (.bool true) ∧ w = w' := by
  go_enter Try.func27, Try.ntmps27
  go_wp2
  go_ret
  exact ⟨rfl, rfl⟩
theorem refSame_left (w : World) (a : Addr) : Calls Try.prog 27 #[.pointer none, .pointer (some a)] w fun e w' => e = .returned (.bool false) ∧ w = w' := by
  go_enter Try.func27, Try.ntmps27
  go_wp2
  go_ret
  exact ⟨rfl, rfl⟩
theorem refSame_right (w : World) (a : Addr) : Calls Try.prog 27 #[.pointer (some a), .pointer none] w fun e w' => e = .returned (.bool false) ∧ w = w' := by
  go_enter Try.func27, Try.ntmps27
  go_wp2
  go_ret
  exact ⟨rfl, rfl⟩

set_option maxHeartbeats 2000000 in
theorem refSame_any (w : World) (b1 g1 b2 g2 : Nat) (base1 size1 base2 size2 : Int) (N1 N2 : Nat) (m1 m2 : Int → Int) (h1 : RefMem w b1 g1 base1 size1 N1 m1) (h2 : RefMem w b2 g2 base2 size2 N2 m2) :
    Calls Try.prog 27 #[.pointer (some ⟨b1, 0, none⟩), .pointer (some ⟨b2, 0, none⟩)] w (SameEnd w (base1 = base2 ∧ size1 = size2 ∧ ∀ y, m1 y = m2 y)) := by
  have H2 := Lib.hid h2
  obtain ⟨l1, r1, f1, lo1, n1⟩ := h1
  obtain ⟨l2, r2, f2, lo2, n2⟩ := h2
  have p0 := r1.base
  have p1 := r1.size
  have q0 := r2.base
  have q1 := r2.size
  obtain ⟨a1, c1, hb1, hm1, hx1⟩ := r1
  obtain ⟨a2, c2, hb2, hm2, hx2⟩ := r2
  have p2 : w.cell? ⟨b1, 2, none⟩ = some (.slice a1 l1.length c1) := by rw [cell_of_row w b1 2 _ _ _ hb1]; rfl
  have q2 : w.cell? ⟨b2, 2, none⟩ = some (.slice a2 l2.length c2) := by rw [cell_of_row w b2 2 _ _ _ hb2]; rfl
  have L1 := Lib.hid lo1
  have L2 := Lib.hid lo2
  have F1 := Lib.hid f1
  have F2 := Lib.hid f2
  have HB1 := Lib.hid hb1
  have HB2 := Lib.hid hb2
  have HX1 := Lib.hid hx1
  clear lo1 lo2 f1 f2 hb1 hb2 hx1 hx2
  by_cases e1 : base1 = base2
  · have k1 : (base1 != base2) = false := by simpa using e1
    by_cases e2 : size1 = size2
    · have k2 : (size1 != size2) = false := by simpa using e2
      by_cases e3 : l1.length = l2.length
      · have k3 : ((l1.length : Int) != (l2.length : Int)) = false := by rw [e3]; simp
        have E1 := Lib.hid e1
        have E2 := Lib.hid e2
        have E3 := Lib.hid e3
        clear e1 e2 e3
        go_enter Try.func27, Try.ntmps27
        go_wp2
        go_quiet (fail)
        go_wp2
        go_loopw [5] (fun i wr => ∃ k : Nat, k ≤ l1.length ∧ i = .int .i64 k ∧ (∀ j, j < k → look l2 (l1.getD j (0, 0)).1 = (l1.getD j (0, 0)).2) ∧ Below w.heap.size w wr) (fun i _ => l1.length - (intOf i).toNat)
        case atStart => exact ⟨0, Nat.zero_le _, rfl, fun j hj => absurd hj (by omega), below_drewN (Below.refl _ _) nq⟩
        case round =>
          obtain ⟨k, hk, rfl, hno, hbr⟩ := hrel
          have hb1l : b1 < w.heap.size := (Array.getElem?_eq_some_iff.1 HB1.out).1
          have hbb := (hbr.block b1 hb1l).trans HB1.out
          have c2' : wr.cell? ⟨b1, 2, none⟩ = some (.slice a1 l1.length c1) := by rw [cell_of_row wr b1 2 _ _ _ hbb]; rfl
          have HN := Lib.hid hno
          have HR := Lib.hid (H2.out.below hbr)
          clear hno hbb p0 p1 p2 q0 q1 q2
          by_cases hlt : k < l1.length
          · rcases HX1.out with h0 | ⟨ha, hne, hl⟩
            · subst h0; simp at hlt
            subst ha
            have hl2 := hl.keeps (Only.of_below (fun _ => False) hbr) id
            obtain ⟨cc, hcc⟩ : ∃ cc, l1.getD k (0, 0) = cc := ⟨_, rfl⟩
            have hA := hl2.cell (cellsOf_get l1 k hlt).1
            have hB := hl2.cell (cellsOf_get l1 k hlt).2
            rw [hcc] at hA hB
            have HC := Lib.hid hcc
            have hmem : cc ∈ l1 := by rw [← hcc]; simp [List.getD, hlt]
            have HM := Lib.hid hmem
            clear hcc hl hl2 hmem
            by_cases hm : m2 cc.1 = cc.2
            · have hmm : (m2 cc.1 != cc.2) = false := by simpa using hm
              have HMM := Lib.hid hm
              clear hm
              go_wp2
              go_quiet ((go_at_call 43; exact Calls.quiet_of_same ((mem_at _ b2 g2 base2 size2 N2 m2 _ (HR.out.below (below_drewN (Below.refl _ _) _))).mono fun e w' h => ⟨h.1, h.2.symm⟩)))
              go_wp2
              go_roundw
              case rel => exact ⟨k + 1, by omega, by go_num, fun j hj => (by
                by_cases hjk : j < k
                · exact HN.out j hjk
                · obtain rfl : j = k := by omega
                  rw [HC.out, L2.out]; exact HMM.out), below_drewN hbr _⟩
              case measure => simp [intOf]; omega
            · have hmm : (m2 cc.1 != cc.2) = true := by simpa using hm
              have HMM := Lib.hid hm
              clear hm
              go_wp2
              go_quiet ((go_at_call 43; exact Calls.quiet_of_same ((mem_at _ b2 g2 base2 size2 N2 m2 _ (HR.out.below (below_drewN (Below.refl _ _) _))).mono fun e w' h => ⟨h.1, h.2.symm⟩)))
              go_wp2
              go_ret
              exact ⟨below_drewN hbr _, false, rfl, by simp; intro _ _; refine Classical.not_forall.1 fun h => HMM.out ?_; rw [← h, ← L1.out]; exact look_of_mem F1.out HM.out⟩
          · obtain rfl : k = l1.length := by omega
            go_wp2
            go_ret
            have hy : ∀ y, m1 y = m2 y := fun y => by
              rw [← L1.out, ← L2.out]
              refine same_look F1.out F2.out E3.out (fun c hc => ?_) y
              obtain ⟨j, hj, rfl⟩ := List.getElem_of_mem hc
              have := HN.out j hj
              simpa [List.getD, hj] using this
            exact ⟨hbr, true, rfl, fun _ => ⟨E1.out, E2.out, hy⟩, fun _ => rfl⟩
      · have k3 : ((l1.length : Int) != (l2.length : Int)) = true := by simp; omega
        have E1 := Lib.hid e1
        have E2 := Lib.hid e2
        have E3 := Lib.hid e3
        clear e1 e2 e3
        go_enter Try.func27, Try.ntmps27
        go_wp2
        go_quiet (fail)
        go_wp2
        go_ret
        exact ⟨below_drewN (Below.refl _ _) nq, false, rfl, by simp; intro _ _; refine Classical.not_forall.1 fun h => E3.out (look_len F1.out F2.out fun y => by rw [L1.out, L2.out, h])⟩
    · have k2 : (size1 != size2) = true := by simpa using e2
      have E1 := Lib.hid e1
      have E2 := Lib.hid e2
      clear e1 e2
      go_enter Try.func27, Try.ntmps27
      go_wp2
      go_quiet (fail)
      go_wp2
      go_ret
      exact ⟨below_drewN (Below.refl _ _) nq, false, rfl, by simp; intro _ h; exact absurd h E2.out⟩
  · have k1 : (base1 != base2) = true := by simpa using e1
    have E1 := Lib.hid e1
    clear e1
    go_enter Try.func27, Try.ntmps27
    go_wp2
    go_quiet (fail)
    go_wp2
    go_ret
    exact ⟨below_drewN (Below.refl _ _) nq, false, rfl, by simp; intro h; exact absurd h E1.out⟩

end Go.Proofs.Ytgfnhledfhhkoaa
