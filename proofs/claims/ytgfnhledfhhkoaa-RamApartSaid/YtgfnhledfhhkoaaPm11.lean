/- The program's memory of layer 3: Write, Put, Bytes. -/
import Derived.Test.YtgfnhledfhhkoaaPm10
namespace Go.Proofs.Ytgfnhledfhhkoaa
open Go.RowKit Go.Maps
set_option linter.unusedVariables false

/-- The first N bytes of a word. -/
def leL (v : Int) (N : Nat) : List Int := (List.range N).map (leB v)
theorem leL_len (v : Int) (N : Nat) : (leL v N).length = N := by unfold leL; simp
theorem leL_get (v : Int) {N i : Nat} (h : i < N) : (leL v N).getD i 0 = leB v i := by unfold leL; simp [List.getD, h]
theorem leL_bytes (v : Int) (N : Nat) : Bytes255 (leL v N) := fun i hi => by
  rw [leL_len] at hi; rw [leL_get v hi]; exact leB_in v i
theorem putF_leL (m : Int → Int) (x v : Int) (N : Nat) : putF m x (leL v N) = wrN m x v N := by
  funext y
  rw [putF_eq, leL_len]
  by_cases c : x ≤ y ∧ y < x + N
  · rw [if_pos c, leL_get v (by omega)]
    have := wrN_at (m := m) (x := x) (v := v) (c := N) (i := (y - x).toNat) (by omega)
    rw [show x + ((y - x).toNat : Int) = y by omega] at this
    rw [this]; rfl
  · rw [if_neg c, wrN_out (by omega)]

/-- What Write and Put leave, out of what store leaves. -/
theorem prog_end {w w1 w2 : World} {b : Nat} {S : Nat → Prop} {base size : Int} {m : Int → Int} {e : Ending} (hb : Below w.heap.size w w1) (h : StoreEnd w1 b S base size m e w2) : ProgEnd ProgMem w b S base size m true (.returned (.bool true)) w2 := by
  obtain ⟨_, ho, S', hS, hM⟩ := h
  refine ⟨rfl, (Only.of_below S hb).trans ho, S', fun k hk => ?_, hM⟩
  rcases hS k hk with h1 | h1
  · exact .inl h1
  · exact .inr (Nat.le_trans hb.size h1)
theorem prog_no {w w1 : World} {b : Nat} {S : Nat → Prop} {base size : Int} {m : Int → Int} (h : ProgMem w b S base size m) (hb : Below w.heap.size w w1) : ProgEnd ProgMem w b S base size m false (.returned (.bool false)) w1 :=
  ⟨rfl, Only.of_below S hb, S, fun k hk => .inl hk, h.keeps (Only.of_below (fun _ => False) hb) (fun _ _ => id)⟩

theorem store_none {w : World} {b : Nat} (x : Int) (a : Option Addr) (c : Nat) :
    Calls Try.prog 31 #[.pointer (some ⟨b, 0, none⟩), .int .u64 x, .slice a 0 c] w fun e w' => (∃ u, e = .returned u) ∧ w = w' := by
  go_enter Try.func31, Try.ntmps31
  go_wp2
  refine wp_loop_rounds 1 ?_
  rw [rounds_succ]
  go_wp2
  go_end0
  exact ⟨⟨_, rfl⟩, rfl⟩

set_option maxRecDepth 100000 in
set_option maxHeartbeats 2000000 in
theorem progWrite_any {w : World} {b : Nat} {S : Nat → Prop} {base size : Int} {m : Int → Int} (x n v : Int) (h : ProgMem w b S base size m) (hf : Fits base size) (hx : In64 x) (hn : In63 n) (hv : In64 v) :
    Calls Try.prog 9 #[.pointer (some ⟨b, 0, none⟩), .int .u64 x, .int .i64 n, .int .u64 v] w (ProgEnd ProgMem w b S base size (writeM base size m x n v) (okN n && hasZ base size x n)) := by
  have HP := Lib.hid h
  have HF := Lib.hid hf
  have HX := Lib.hid hx
  have HN := Lib.hid hn
  have HV := Lib.hid hv
  clear h hf hx hn hv
  cases hk : okN n
  · have H := Lib.hid hk
    have HE : Hid (writeM base size m x n v = m) := Lib.hid (by unfold writeM; rw [hk]; rfl)
    clear hk
    rw [HE.out, Bool.false_and]
    go_enter Try.func9, Try.ntmps9
    go_wp2_with (go_at_call 29; refine (isLength_any _ _).mono ?_; rintro e w' ⟨rfl, rfl⟩; rw [H.out])
    go_ret
    exact prog_no HP.out (Below.refl _ _)
  · rw [Bool.true_and]
    cases hz : hasZ base size x n
    · have H := Lib.hid hk
      have HZ := Lib.hid hz
      have HE : Hid (writeM base size m x n v = m) := Lib.hid (by unfold writeM; rw [hk, hz]; rfl)
      clear hk hz
      rw [HE.out]
      go_enter Try.func9, Try.ntmps9
      go_wp2_with (first
        | (go_at_call 29; refine (isLength_any _ _).mono ?_; rintro e w' ⟨rfl, rfl⟩; rw [H.out])
        | (go_at_call 16; refine (progHas_any _ _ HP.out HF.out HX.out HN.out).mono ?_; rintro e w' ⟨rfl, rfl⟩; rw [HZ.out]))
      go_ret
      exact prog_no HP.out (Below.refl _ _)
    · obtain ⟨N, rfl, hN0, hN8⟩ := okN_cases hk
      have HI := Lib.hid (hasZ_in hz hN0)
      have H := Lib.hid hk
      have HZ := Lib.hid hz
      have HE : Hid (writeM base size m x N v = wrN m x v N) := Lib.hid (by unfold writeM; rw [hk, hz]; rfl)
      clear hk hz
      rw [HE.out, ← putF_leL]
      go_enter Try.func9, Try.ntmps9
      go_wp2_with (first
        | (go_at_call 29; refine (isLength_any _ _).mono ?_; rintro e w' ⟨rfl, rfl⟩; rw [H.out])
        | (go_at_call 16; refine (progHas_any _ _ HP.out HF.out HX.out HN.out).mono ?_; rintro e w' ⟨rfl, rfl⟩; rw [HZ.out]))
      refine (littleEnd_any v HV.out _).mono ?_
      rintro e w1 ⟨rfl, hb1⟩
      have hb2 : Below w.heap.size w (w1.alloc (.cells #[.int .u8 0, .int .u8 0, .int .u8 0, .int .u8 0, .int .u8 0, .int .u8 0, .int .u8 0, .int .u8 0] 66)) := hb1.alloc hb1.size _
      have hu : HoldsU (w1.alloc (.cells #[.int .u8 0, .int .u8 0, .int .u8 0, .int .u8 0, .int .u8 0, .int .u8 0, .int .u8 0, .int .u8 0] 66)) w1.heap.size 66 8 (fun _ => 0) := heap_alloc_new w1 _
      have hsl := fun w' => run_slice_upto (w := w') Try.underlying66 (Try.sizeOf5 w') w1.heap.size N hN8 (by omega)
      have HU := Lib.hid hu
      have HU2 := Lib.hid (hu.setRow (leB v))
      have HB2 := Lib.hid (below_setRow hb2 hb1.size (uarr 8 (leB v)))
      have HSZ := Lib.hid hb1.size
      clear hu hb2 hb1
      go_wp2_with (refine wpList_store_row rfl _ _ _ rfl w1.heap.size _ rfl rfl 66 _ HU.out ?_ (by rw [uarr_size, uarr_size]) (uarr_one _ _) ?_; · exact size8.trans (by rw [uarr_size]))
      generalize ((w1.alloc (.cells #[.int .u8 0, .int .u8 0, .int .u8 0, .int .u8 0, .int .u8 0, .int .u8 0, .int .u8 0, .int .u8 0] 66)).setRow w1.heap.size (uarr 8 (leB v))) = w2 at *
      have HG : Hid (¬ S w1.heap.size) := Lib.hid (fun hs => by obtain ⟨mb, pg, hp⟩ := HP.out.parts; have := hp.ok.lt _ hs; have := HSZ.out; omega)
      have hr : ReadsIn .u8 w1.heap.size w2 (.slice (some ⟨w1.heap.size, 0, none⟩) (leL v N).length 8) (leL v N) := by
        refine ⟨_, _, rfl, by rw [leL_len]; unfold maxLen; omega, .inr ⟨0, rfl, HU2.out.lt, fun i hi => ?_⟩⟩
        rw [leL_len] at hi
        rw [leL_get v hi, Nat.zero_add]
        exact HU2.out.cell (by omega)
      have hcall := store_some x (leL v N) (HP.out.keeps (Only.of_below (fun _ => False) HB2.out) (fun _ _ => id)) HF.out HI.out.1 (by rw [leL_len]; exact HI.out.2) hr (by rw [leL_len]; exact hN8) (leL_bytes v N) HG.out
      rw [leL_len] at hcall
      refine hcall.mono ?_
      rintro e w3 hE
      obtain ⟨u, rfl⟩ := hE.1
      have HEND := Lib.hid (prog_end HB2.out hE)
      clear hE hr hcall
      go_wp2
      go_ret
      exact HEND.out

set_option maxHeartbeats 1000000 in
theorem progPut_any {w : World} {b g : Nat} {S : Nat → Prop} {base size : Int} {m : Int → Int} (x : Int) (v : Value) (xs : List Int) (h : ProgMem w b S base size m) (hf : Fits base size) (hx : In64 x) (hv : ReadsIn .u8 g w v xs) (hb : Bytes255 xs) (hs : xs = [] ∨ ¬ S g) (hl : xs.length ≤ 10000) (hc : ∀ a n c, v = .slice a n c → n ≤ c) :
    Calls Try.prog 17 #[.pointer (some ⟨b, 0, none⟩), .int .u64 x, v] w (ProgEnd ProgMem w b S base size (putM base size m x xs) (hasZ base size x xs.length)) := by
  have HP := Lib.hid h
  have HF := Lib.hid hf
  have HX := Lib.hid hx
  have HB := Lib.hid hb
  have HV := Lib.hid hv
  have hin : Hid (In63 xs.length) := Lib.hid (by unfold In63; omega)
  obtain ⟨a, c, rfl, _, hr⟩ := hv
  have HC := Lib.hid (hc _ _ _ rfl)
  have HS := Lib.hid hs
  clear h hf hx hb hc hs
  cases hz : hasZ base size x xs.length
  · have HZ := Lib.hid hz
    have HE : Hid (putM base size m x xs = m) := Lib.hid (by unfold putM; rw [hz]; rfl)
    clear hz hr
    rw [HE.out]
    go_enter Try.func17, Try.ntmps17
    go_wp2_with (go_at_call 16; refine (progHas_any _ _ HP.out HF.out HX.out hin.out).mono ?_; rintro e w' ⟨rfl, rfl⟩; rw [HZ.out])
    go_ret
    exact prog_no HP.out (Below.refl _ _)
  · have HZ := Lib.hid hz
    have HE : Hid (putM base size m x xs = putF m x xs) := Lib.hid (by unfold putM; rw [hz]; rfl)
    rw [HE.out]
    by_cases h0 : xs = []
    · subst h0
      clear hz hr
      go_enter Try.func17, Try.ntmps17
      go_wp2_with (first
        | (go_at_call 16; refine (progHas_any _ _ HP.out HF.out HX.out hin.out).mono ?_; rintro e w' ⟨rfl, rfl⟩; rw [HZ.out])
        | (go_at_call 31; refine (store_none _ _ _).mono ?_; rintro e w' ⟨⟨u, rfl⟩, rfl⟩))
      go_ret
      exact ⟨rfl, Only.refl _ _, S, fun k hk => .inl hk, HP.out⟩
    · obtain ⟨off, rfl, hg, _⟩ := hr.resolve_left h0
      have HI := Lib.hid (hasZ_in hz (List.length_pos_iff.2 h0))
      have HG := Lib.hid (HS.out.resolve_left h0)
      clear hz hr h0
      go_enter Try.func17, Try.ntmps17
      go_wp2_with (go_at_call 16; refine (progHas_any _ _ HP.out HF.out HX.out hin.out).mono ?_; rintro e w' ⟨rfl, rfl⟩; rw [HZ.out])
      refine (store_some x xs HP.out HF.out HI.out.1 HI.out.2 HV.out HC.out HB.out HG.out).mono ?_
      rintro e w3 hE
      obtain ⟨u, rfl⟩ := hE.1
      have HEND := Lib.hid (prog_end (Below.refl _ _) hE)
      clear hE
      go_wp2
      go_ret
      exact HEND.out

theorem made_u8 (n : Nat) : madeCells (Value.int .u8 0).cells n = uarr n fun _ => 0 := by
  apply Array.ext
  · simp [madeCells, uarr_size]
  · intro i h1 h2
    have := uarr_get n (fun _ => 0) i (by simpa [uarr_size] using h2)
    rw [Array.getElem?_eq_getElem h2] at this
    injection this with this
    rw [this]
    simp [madeCells, Value.cells, Nat.mod_one]

set_option maxHeartbeats 1000000 in
theorem progBytes_any {w : World} {b : Nat} {S : Nat → Prop} {base size : Int} {m : Int → Int} (x n : Int) (h : ProgMem w b S base size m) (hf : Fits base size) (hx : In64 x) (hn : In63 n) :
    Calls Try.prog 11 #[.pointer (some ⟨b, 0, none⟩), .int .u64 x, .int .i64 n] w (BytesEnd w (bytesV base size m x n) (hasZ base size x n)) := by
  have HP := Lib.hid h
  have HF := Lib.hid hf
  have HX := Lib.hid hx
  have HN := Lib.hid hn
  cases hz : hasZ base size x n
  · have HZ := Lib.hid hz
    have HE : Hid (bytesV base size m x n = []) := Lib.hid (by unfold bytesV; rw [hz]; rfl)
    clear hz h hf hx hn
    rw [HE.out]
    go_enter Try.func11, Try.ntmps11
    go_wp2_with (go_at_call 16; refine (progHas_any _ _ HP.out HF.out HX.out HN.out).mono ?_; rintro e w' ⟨rfl, rfl⟩; rw [HZ.out])
    go_ret2
    exact ⟨Below.refl _ _, _, _, _, rfl, World.ownsRow_nil _ _ _ _⟩
  · obtain ⟨N, rfl⟩ : ∃ N : Nat, n = N := ⟨n.toNat, by unfold hasZ at hz; rw [decide_eq_true_eq] at hz; omega⟩
    have hNs : N ≤ 67108864 := by
      by_cases h0 : 0 < N
      · have := hasZ_in hz h0
        unfold Fits at hf
        unfold In64 at hx
        omega
      · omega
    have HI : Hid (0 < N → base ≤ x ∧ x + N ≤ base + size) := Lib.hid (hasZ_in hz)
    have HZ := Lib.hid hz
    have HE : Hid (bytesV base size m x N = bytesL m x N) := Lib.hid (by unfold bytesV; rw [hz]; rfl)
    obtain ⟨i0, hi, hz0, hz1, hz2⟩ := info_parts info_u8
    have hmk : (Instr.makeSlice 30 (.int .i64 (N : Int)) (.int .i64 (N : Int))).run Try.prog w = .ok (.slice (some ⟨w.heap.size, 0, none⟩) N N) (w.alloc (.cells (uarr N fun _ => 0) 5)) := by
      have := run_make (P := Try.prog) w 30 5 i0 _ Try.underlying30 hi hz0 .i64 .i64 N N (by omega) (by omega) (by rw [hz2]; omega) (by omega)
      rw [hz1, made_u8] at this
      simpa using this
    have hb1 : Below w.heap.size w (w.alloc (.cells (uarr N fun _ => 0) 5)) := (Below.refl _ _).alloc (Nat.le_refl _) _
    have hu : HoldsU (w.alloc (.cells (uarr N fun _ => 0) 5)) w.heap.size 5 N (fun _ => 0) := heap_alloc_new w _
    have HU := Lib.hid hu
    have HB1 := Lib.hid hb1
    have HP1 := Lib.hid (HP.out.keeps (Only.of_below (fun _ => False) hb1) (fun _ _ => id))
    have HG : Hid (¬ S w.heap.size) := Lib.hid (fun hs => by obtain ⟨mb, pg, hp⟩ := HP.out.parts; have := hp.ok.lt _ hs; omega)
    clear hz h hf hx hn hu hb1 hi hz0 hz1 hz2
    rw [HE.out]
    go_enter Try.func11, Try.ntmps11
    go_wp2_with (go_at_call 16; refine (progHas_any _ _ HP.out HF.out HX.out HN.out).mono ?_; rintro e w' ⟨rfl, rfl⟩; rw [HZ.out])
    refine (load_some (off := 0) (L0 := N) (c := N) (n := N) (t := 5) (f := fun _ => 0) x HP1.out HF.out (fun h => (HI.out h).1) (fun h => (HI.out h).2) HX.out HU.out (fun _ => rfl) (by omega) (by omega) (by omega) (fun _ _ _ => rfl) HG.out).mono ?_
    rintro e w2 ⟨⟨u, rfl⟩, ho, hr⟩
    have HO := Lib.hid (HB1.out.trans (ho.below (B := w.heap.size) (by rintro k rfl; exact Nat.le_refl _) HB1.out.size))
    have HR := Lib.hid hr
    clear ho hr hmk
    go_wp2
    go_ret2
    refine ⟨HO.out, _, _, _, rfl, by simp [bytesL_len], .inr ⟨w.heap.size, N, _, by rw [bytesL_len], Nat.le_refl _, HR.out, by rw [bytesL_len]; exact Nat.le_refl _, by unfold maxLen; omega, by rw [uarr_size]; omega, ?_⟩⟩
    rw [bytesL_len]
    have e1 : (uarr N (readU (fun _ => 0) 0 m x N)).toList = (bytesL m x N).map (Value.int .u8) := by
      unfold uarr varr bytesL
      show (List.range N).map _ = _
      rw [List.map_map]
      refine List.map_congr_left fun i hi => ?_
      have := List.mem_range.1 hi
      show Value.int .u8 (readU (fun _ => 0) 0 m x N i) = Value.int .u8 (m (x + i))
      unfold readU
      rw [if_pos ⟨by omega, by omega⟩, Nat.sub_zero]
    rw [e1, Nat.mul_one, List.take_of_length_le (by simp [bytesL_len])]

end Go.Proofs.Ytgfnhledfhhkoaa
