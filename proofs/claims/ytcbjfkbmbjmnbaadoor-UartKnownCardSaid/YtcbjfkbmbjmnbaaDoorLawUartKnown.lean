/- The law UartKnown, walked. -/
import Derived.Test.YtcbjfkbmbjmnbaaDoorUv
namespace Go.Proofs.YtcbjfkbmbjmnbaaDoor
open Go.RowKit
set_option linter.unusedVariables false

def u64A (ls : List Int) : Array Value := (ls.map (Value.int .u64)).toArray
/-- What reads tells of a uart of the law's own: bytes as a string. -/
theorem ownReads (w0 w : World) (b : Nat) (F : Nat → Prop) (t t' : US) (h : OwnU w0 w b F t) (ls : List Int) (s : ByteArray) (cs : Array Value) (hcs : cs = u64A ls) (hl : ls.length ≤ 100) (ho : ∀ o ∈ ls, 0 ≤ o ∧ o < 8) (ht : runT t ls = t') (hs : strOfNums (runX t ls) = s) :
    Calls Tryd.prog 13 #[.pointer (some ⟨b, 0, none⟩), .slice (some ⟨w.heap.size, 0, none⟩) ls.length ls.length] (w.alloc (.cells cs 27))
      fun e w' => ∃ a n c F', e = .returned (.slice a n c) ∧ (convert 28 9 (.slice a n c)).run Tryd.prog w' = .ok (.string s) w' ∧ OwnU w0 w' b F' t' := by
  subst hcs ht hs
  have h2 := h.below (below_alloc w (.cells (u64A ls) 27))
  refine (reads_any _ b F t h2.obj w.heap.size ls (fun j hj => ?_) (fun hi => by have := h.obj.lt _ hi; omega) (by rw [World.size_alloc]; omega) hl (fun j hj => ?_)).mono ?_
  · rw [cell_of_row _ _ _ _ _ _ (heap_alloc_new w _)]
    unfold u64A
    simp [hj, List.getD]
  · have : ls.getD j 0 = ls[j] := by simp [List.getD, hj]
    rw [this]; exact ho _ (List.getElem_mem hj)
  · rintro e w' ⟨a, c, he, hr, k⟩
    obtain ⟨F', hk⟩ := h2.turn k
    exact ⟨a, _, c, F', he, by have hc := conv_row hr (by rw [runX_len]; omega); exact hc, hk⟩
/-- The loop's states. -/
def tk (k : Nat) : US := ⟨(List.range (min k 16)).map Int.ofNat, [107], 2, 0, 3, 0, 0, 9, 0, decide (k = 17), false⟩
theorem upto17 {P : Nat → Prop} (h : ∀ i : Fin 17, P i.val) (k : Nat) (hk : k < 17) : P k := h ⟨k, hk⟩
theorem seventeen {k : Nat} (h : k < 17) : k = 0 ∨ k = 1 ∨ k = 2 ∨ k = 3 ∨ k = 4 ∨ k = 5 ∨ k = 6 ∨ k = 7 ∨ k = 8 ∨ k = 9 ∨ k = 10 ∨ k = 11 ∨ k = 12 ∨ k = 13 ∨ k = 14 ∨ k = 15 ∨ k = 16 := by omega
theorem tk_feed {k : Nat} (hk : k < 17) : feedT (tk k) k = tk (k + 1) ∧ feedK (tk k) = decide ((k : Int) < 16) := by
  rcases seventeen hk with rfl | rfl | rfl | rfl | rfl | rfl | rfl | rfl | rfl | rfl | rfl | rfl | rfl | rfl | rfl | rfl | rfl <;> exact ⟨rfl, by decide⟩

set_option maxRecDepth 100000 in
set_option maxHeartbeats 8000000 in
theorem uartKnown_walk (w : World) (h0 : Tab w) : Calls Tryd.prog 3 #[] w fun e w' => e = .returned (.bool true) ∧ Below w.heap.size w w' := by
  have H0 := Lib.hid h0
  clear h0
  go_enter Tryd.func3, Tryd.ntmps3
  go_wp2_with fail
  refine (ownNew w w H0.out (Below.refl _ _)).mono ?_
  rintro e w1 ⟨b, rfl, F, ho⟩
  have HO := Lib.hid ho
  clear ho
  go_wp2_with fail
  refine (ownFeed w w1 b F _ ⟨[65], [], 0, 0, 0, 0, 0, 0, 0, false, false⟩ HO.out _ true (by decide) (by rfl) (by decide)).mono ?_
  rintro e w3 ⟨rfl, F, ho⟩
  replace HO := Lib.hid ho
  clear ho
  go_wp2_with fail
  refine (ownLine w w3 b F _ HO.out false (by decide)).mono ?_
  rintro e wq ⟨rfl, rfl⟩
  go_wp2_with fail
  refine (ownWrite w w3 b F _ ⟨[65], [], 1, 0, 0, 0, 0, 0, 0, false, false⟩ HO.out _ _ _ true in64_of in64_of (by rfl) (by decide)).mono ?_
  rintro e w4 ⟨rfl, F, ho⟩
  replace HO := Lib.hid ho
  clear ho
  go_wp2_with fail
  refine (ownLine w w4 b F _ HO.out true (by decide)).mono ?_
  rintro e wq ⟨rfl, rfl⟩
  go_wp2_with fail
  refine (ownReads w w4 b F _ ⟨[], [], 1, 0, 0, 0, 0, 0, 0, false, false⟩ HO.out [2, 5, 0, 0, 2] ⟨#[4, 97, 65, 0, 1]⟩ _ (by rfl) (by decide) (by decide) (by rfl) (by rfl)).mono ?_
  rintro e w5 ⟨a_w5, n_w5, c_w5, F, rfl, hc_w5, ho⟩
  replace HO := Lib.hid ho
  clear ho
  go_wp2_with fail
  refine (ownWrite w w5 b F _ ⟨[], [107], 1, 0, 0, 0, 0, 0, 0, false, true⟩ HO.out _ _ _ true in64_of in64_of (by rfl) (by decide)).mono ?_
  rintro e w6 ⟨rfl, F, ho⟩
  replace HO := Lib.hid ho
  clear ho
  go_wp2_with fail
  refine (ownOut w w6 b F _ HO.out ⟨#[107]⟩ (by rfl)).mono ?_
  rintro e w7 ⟨a_w7, n_w7, c_w7, F, rfl, hc_w7, hn, ho⟩
  replace HO := Lib.hid ho
  clear ho
  clear hn
  go_wp2_with fail
  refine (ownLine w w7 b F _ HO.out false (by decide)).mono ?_
  rintro e wq ⟨rfl, rfl⟩
  go_wp2_with fail
  refine (ownWrite w w7 b F _ ⟨[], [107], 2, 0, 0, 0, 0, 0, 0, false, true⟩ HO.out _ _ _ true in64_of in64_of (by rfl) (by decide)).mono ?_
  rintro e w8 ⟨rfl, F, ho⟩
  replace HO := Lib.hid ho
  clear ho
  go_wp2_with fail
  refine (ownLine w w8 b F _ HO.out true (by decide)).mono ?_
  rintro e wq ⟨rfl, rfl⟩
  go_wp2_with fail
  refine (ownReads w w8 b F _ ⟨[], [107], 2, 0, 0, 0, 0, 0, 0, false, false⟩ HO.out [2, 2] ⟨#[2, 1]⟩ _ (by rfl) (by decide) (by decide) (by rfl) (by rfl)).mono ?_
  rintro e w9 ⟨a_w9, n_w9, c_w9, F, rfl, hc_w9, ho⟩
  replace HO := Lib.hid ho
  clear ho
  go_wp2_with fail
  refine (ownWrite w w9 b F _ ⟨[], [107], 2, 0, 131, 0, 0, 0, 0, false, false⟩ HO.out _ _ _ true in64_of in64_of (by rfl) (by decide)).mono ?_
  rintro e w10 ⟨rfl, F, ho⟩
  replace HO := Lib.hid ho
  clear ho
  go_wp2_with fail
  refine (ownWrite w w10 b F _ ⟨[], [107], 2, 0, 131, 0, 0, 9, 0, false, false⟩ HO.out _ _ _ true in64_of in64_of (by rfl) (by decide)).mono ?_
  rintro e w11 ⟨rfl, F, ho⟩
  replace HO := Lib.hid ho
  clear ho
  go_wp2_with fail
  refine (ownReads w w11 b F _ ⟨[], [107], 2, 0, 131, 0, 0, 9, 0, false, false⟩ HO.out [0] ⟨#[9]⟩ _ (by rfl) (by decide) (by decide) (by rfl) (by rfl)).mono ?_
  rintro e w12 ⟨a_w12, n_w12, c_w12, F, rfl, hc_w12, ho⟩
  replace HO := Lib.hid ho
  clear ho
  go_wp2_with fail
  refine (ownOut w w12 b F _ HO.out ⟨#[107]⟩ (by rfl)).mono ?_
  rintro e w13 ⟨a_w13, n_w13, c_w13, F, rfl, hc_w13, hn, ho⟩
  replace HO := Lib.hid ho
  clear ho
  clear hn
  go_wp2_with fail
  refine (ownWrite w w13 b F _ ⟨[], [107], 2, 0, 3, 0, 0, 9, 0, false, false⟩ HO.out _ _ _ true in64_of in64_of (by rfl) (by decide)).mono ?_
  rintro e w14 ⟨rfl, F, ho⟩
  replace HO := Lib.hid ho
  clear ho
  go_wp2_with fail
  refine (ownReads w w14 b F _ ⟨[], [107], 2, 0, 3, 0, 0, 9, 0, false, false⟩ HO.out [0] ⟨#[0]⟩ _ (by rfl) (by decide) (by decide) (by rfl) (by rfl)).mono ?_
  rintro e w15 ⟨a_w15, n_w15, c_w15, F, rfl, hc_w15, ho⟩
  replace HO := Lib.hid ho
  clear ho
  go_wp2
  clear hc_w5 hc_w7 hc_w9 hc_w12 hc_w13 hc_w15
  go_loopw [3] (fun i wr => ∃ k : Nat, k ≤ 17 ∧ i = .int .i64 k ∧ ∃ F, OwnU w wr b F (tk k)) (fun i _ => 17 - (intOf i).toNat)
  case atStart => exact ⟨0, Nat.zero_le _, rfl, F, HO.out⟩
  case round =>
    obtain ⟨k, hk, rfl, F, hT⟩ := hrel
    replace HO := Lib.hid hT
    clear hT
    by_cases hlt : k < 17
    · obtain ⟨hf, hfk⟩ := tk_feed hlt
      have HFE := Lib.hid (ownFeed w wr b F _ _ HO.out k _ (by omega) hf hfk)
      have hw : IntKind.u8.wrap (k : Int) = k := by rw [wrap8 _ (by omega)]; omega
      clear hf hfk
      go_wp2_with fail
      (with_reducible refine (HFE.out).mono ?_)
      rintro e w60 ⟨rfl, F, ho⟩
      have HO2 := Lib.hid ho
      clear ho HFE
      go_wp2
      exact ⟨⟨k + 1, by omega, by go_num, F, HO2.out⟩, by simp [intOf]; omega⟩
    · obtain rfl : k = 17 := by omega
      have e17 : tk 17 = ⟨[0, 1, 2, 3, 4, 5, 6, 7, 8, 9, 10, 11, 12, 13, 14, 15], [107], 2, 0, 3, 0, 0, 9, 0, true, false⟩ := rfl
      rw [e17] at HO
      clear e17
      go_wp2_with fail
      refine (ownReads w wr b F _ ⟨[0, 1, 2, 3, 4, 5, 6, 7, 8, 9, 10, 11, 12, 13, 14, 15], [107], 2, 0, 3, 0, 0, 9, 0, false, false⟩ HO.out [5, 5] ⟨#[99, 97]⟩ _ (by rfl) (by decide) (by decide) (by rfl) (by rfl)).mono ?_
      rintro e w16 ⟨a_w16, n_w16, c_w16, F, rfl, hc_w16, ho⟩
      replace HO := Lib.hid ho
      clear ho
      go_wp2_with fail
      refine (ownWrite w w16 b F _ ⟨[], [107], 2, 1, 3, 0, 0, 9, 0, false, false⟩ HO.out _ _ _ true in64_of in64_of (by rfl) (by decide)).mono ?_
      rintro e w17 ⟨rfl, F, ho⟩
      replace HO := Lib.hid ho
      clear ho
      go_wp2_with fail
      refine (ownWaiting w w17 b F _ HO.out 0 (by rfl)).mono ?_
      rintro e wq ⟨rfl, rfl⟩
      go_wp2_with fail
      refine (ownReads w w17 b F _ ⟨[], [107], 2, 1, 3, 0, 0, 9, 0, false, false⟩ HO.out [2] ⟨#[193]⟩ _ (by rfl) (by decide) (by decide) (by rfl) (by rfl)).mono ?_
      rintro e w18 ⟨a_w18, n_w18, c_w18, F, rfl, hc_w18, ho⟩
      replace HO := Lib.hid ho
      clear ho
      go_wp2_with fail
      refine (ownRead w w18 b F _ ⟨[], [107], 2, 1, 3, 0, 0, 9, 0, false, false⟩ HO.out _ _ 0 false in64_of (by rfl) (by rfl) (by decide)).mono ?_
      rintro e w19 ⟨rfl, F, ho⟩
      replace HO := Lib.hid ho
      clear ho
      go_wp2_with fail
      refine (ownRead w w19 b F _ ⟨[], [107], 2, 1, 3, 0, 0, 9, 0, false, false⟩ HO.out _ _ 0 false in64_of (by rfl) (by rfl) (by decide)).mono ?_
      rintro e w20 ⟨rfl, F, ho⟩
      replace HO := Lib.hid ho
      clear ho
      go_wp2_with fail
      refine (read_nil _ _ _).mono ?_
      rintro e wq ⟨rfl, rfl⟩
      go_wp2_with fail
      refine (awake_any _ HO.out.tab).mono ?_
      rintro e w90 ⟨rfl, hb⟩
      replace HO := Lib.hid (HO.out.below hb)
      clear hb
      go_wp2_with fail
      refine (ownWrite w w90 b F _ ⟨[], [107], 2, 1, 3, 0, 0, 9, 0, false, false⟩ HO.out _ _ _ false in64_of in64_of (by rfl) (by decide)).mono ?_
      rintro e w21 ⟨rfl, F, ho⟩
      replace HO := Lib.hid ho
      clear ho
      go_wp2_with fail
      refine (write_nil _ _ _ _).mono ?_
      rintro e wq ⟨rfl, rfl⟩
      go_wp2_with fail
      refine (feed_nil _ _).mono ?_
      rintro e wq ⟨rfl, rfl⟩
      go_wp2_with fail
      refine (line_nil _).mono ?_
      rintro e wq ⟨rfl, rfl⟩
      go_wp2_with fail
      refine (waiting_nil _).mono ?_
      rintro e wq ⟨rfl, rfl⟩
      go_wp2_with fail
      refine (out_nil _).mono ?_
      rintro e wq ⟨rfl, rfl⟩
      go_wp2_with fail
      refine (twin_nil _).mono ?_
      rintro e wq ⟨rfl, rfl⟩
      go_wp2_with fail
      refine (same_nn _).mono ?_
      rintro e wq ⟨rfl, rfl⟩
      go_wp2
      go_ret
      exact ⟨rfl, HO.out.bel⟩

end Go.Proofs.YtcbjfkbmbjmnbaaDoor
