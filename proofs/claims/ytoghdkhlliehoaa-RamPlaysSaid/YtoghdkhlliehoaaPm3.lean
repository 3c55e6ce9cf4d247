/- The program's memory of layer 3: numbers as eight bytes, and back; whether bytes are all 0; New. -/
import Derived.Test.YtoghdkhlliehoaaPm2
import Derived.Test.YtoghdkhlliehoaaByt
import Derived.Test.YtoghdkhlliehoaaOfBits
import Derived.Outline
namespace Go.Proofs.Ytoghdkhlliehoaa
open Go.RowKit Go.Maps
set_option linter.unusedVariables false
set_option maxRecDepth 100000

/-- Block g of the world holds these bytes, and may be written. -/
def HoldsU (w : World) (g : Nat) (t : TypeId) (n : Nat) (f : Nat → Int) : Prop := w.heap[g]? = some (.cells (uarr n f) t (0, 0))
theorem HoldsU.cell {w : World} {g : Nat} {t : TypeId} {n : Nat} {f : Nat → Int} (h : HoldsU w g t n f) {j : Nat} (hj : j < n) : w.cell? ⟨g, j, none⟩ = some (.int .u8 (f j)) := by
  rw [cell_of_row w g j _ t _ h]; exact uarr_get n _ j hj
theorem HoldsU.frozen {w : World} {g : Nat} {t : TypeId} {n : Nat} {f : Nat → Int} (h : HoldsU w g t n f) (j : Nat) : w.frozen? ⟨g, j, none⟩ = false := frozen_of_row w g j _ t h
theorem uarr_set (n : Nat) (f : Nat → Int) (k : Nat) (v : Int) : (uarr n f).setIfInBounds k (.int .u8 v) = uarr n fun j => if j = k then v else f j := by
  unfold uarr; rw [varr_set]
  exact varr_congr fun i _ => by by_cases e : i = k <;> simp [e]
theorem HoldsU.set {w : World} {g : Nat} {t : TypeId} {n : Nat} {f : Nat → Int} (h : HoldsU w g t n f) (k : Nat) (v : Int) : HoldsU (w.setCell ⟨g, k, none⟩ (.int .u8 v)) g t n fun j => if j = k then v else f j := by
  unfold HoldsU; rw [heap_setCell_same w g k _ t _ h, uarr_set]
theorem HoldsU.other {w : World} {g : Nat} {t : TypeId} {n : Nat} {f : Nat → Int} (h : HoldsU w g t n f) {a : Addr} (ha : g ≠ a.block) (v : Value) : HoldsU (w.setCell a v) g t n f := by
  unfold HoldsU; rw [heap_setCell_other w a g v ha]; exact h
theorem HoldsU.congr {w : World} {g : Nat} {t : TypeId} {n : Nat} {f k : Nat → Int} (h : HoldsU w g t n f) (e : ∀ i, i < n → f i = k i) : HoldsU w g t n k := by
  unfold HoldsU at *; rw [h, uarr_congr e]
theorem HoldsU.lt {w : World} {g : Nat} {t : TypeId} {n : Nat} {f : Nat → Int} (h : HoldsU w g t n f) : g < w.heap.size := (Array.getElem?_eq_some_iff.1 h).1
theorem HoldsU.setRow {w : World} {g : Nat} {t : TypeId} {n : Nat} {f : Nat → Int} (h : HoldsU w g t n f) (k : Nat → Int) : HoldsU (w.setRow g (uarr n k)) g t n k := setRow_heap w g _ _ t _ h
theorem HoldsU.keeps {S : Nat → Prop} {w w' : World} {g : Nat} {t : TypeId} {n : Nat} {f : Nat → Int} (h : HoldsU w g t n f) (o : Only S w w') (hs : ¬ S g) : HoldsU w' g t n f := o.keeps hs h

theorem below_drewN {B : Nat} {a w : World} (h : Below B a w) (n : Nat) : Below B a (w.drewN n) := ⟨h.os, h.tape, h.output, h.size, h.block⟩
theorem HoldsU.drewN {w : World} {g : Nat} {t : TypeId} {n : Nat} {f : Nat → Int} (h : HoldsU w g t n f) (k : Nat) : HoldsU (w.drewN k) g t n f := h

theorem zero8 : (#[.int .u8 0, .int .u8 0, .int .u8 0, .int .u8 0, .int .u8 0, .int .u8 0, .int .u8 0, .int .u8 0] : Array Value) = uarr 8 fun _ => 0 := rfl
theorem size8 : (Try.prog.info? 69).map (·.size) = some 8 := by kernel_rfl
theorem sizeU8 (w : World) : (sizeOf 5).run Try.prog w = .ok 1 w := Try.sizeOf5 w

theorem index_uarr8 (f : Nat → Int) (k : Nat) (hk : k < 8) (w : World) : (Instr.index 69 (.agg (uarr 8 f)) (.int .i64 k)).run Try.prog w = .ok (.int .u8 (f k)) w := by
  have hg : (uarr 8 f)[k]? = some (.int .u8 (f k)) := uarr_get 8 _ k hk
  have h1 : (0 : Int) ≤ k ∧ (k : Int) < ((8 : Nat) : Int) := by omega
  simp only [Instr.index, Sem.run_bind, asIntOf, Sem.run_pure, Result.andThen_ok, run_underlying Try.underlying69 w]
  rw [if_pos h1]
  simp [Sem.run_bind, sizeU8 w, part, hg]

set_option maxHeartbeats 1000000 in
set_option maxRecDepth 100000 in
theorem number_any (m : Int → Int) (x : Int) (hm : Bytey m) (w : World) :
    Calls Try.prog 34 #[.agg (uarr 8 fun i => m (x + i))] w fun e w' => e = .returned (.int .u64 (rdN m x 8)) ∧ Below w.heap.size w w' := by
  have h1 : HoldsU (w.alloc (.cells (uarr 8 fun i => m (x + i)) 69)) w.heap.size 69 8 (fun i => m (x + i)) := heap_alloc_new w _
  have HM := Lib.hid hm
  have HB : Hid (Below w.heap.size w (w.alloc (.cells (uarr 8 fun i => m (x + i)) 69))) := Lib.hid ((Below.refl _ _).alloc (Nat.le_refl _) _)
  have H1 := Lib.hid h1
  clear hm h1
  go_enter Try.func34, Try.ntmps34
  go_wp2_with (refine wpList_load_row rfl _ _ rfl w.heap.size rfl 69 _ _ _ H1.out Try.underlying69 rfl ?_ ?_; · exact size8.trans (by rw [uarr_size]))
  generalize (w.alloc (.cells (uarr 8 fun i => m (x + i)) 69)) = w1 at *
  go_loop [3, 7] (fun v i => ∃ k : Nat, k ≤ 8 ∧ i = .int .i64 k ∧ v = .int .u64 (rdN m x k)) (fun _ i => 8 - (intOf i).toNat)
  case atStart => exact ⟨0, Nat.zero_le _, rfl, rfl⟩
  case round =>
    obtain ⟨k, hk, rfl, rfl⟩ := hrel
    by_cases hlt : k < 8
    · have HI := index_uarr8 (fun i => m (x + i)) k hlt w1
      have y0 := (HM.out (x + k)).1
      have y1 := (HM.out (x + k)).2
      have r := rdN_in HM.out x k
      have HP := Lib.hid (put_byte hlt r.1 r.2 y0 y1)
      have HS := Lib.hid (rdN_snoc m x k)
      have HV := (rdN_8 HM.out x (c := k) (by omega))
      have HV2 : Hid (In64 (rdN m x k)) := Lib.hid (by unfold In64; omega)
      clear r HV
      go_wp2_with (go_at_call 44; refine (put_any _ _ _ _ HV2.out _).mono ?_; rintro e w2 ⟨rfl, rfl⟩)
      go_round
      case rel => exact ⟨k + 1, by omega, by go_num, by rw [HS.out, ← HP.out]⟩
      case measure => simp [intOf]; omega
    · obtain rfl : k = 8 := by omega
      go_wp2
      go_ret
      exact ⟨rfl, HB.out⟩

/-- The eight bytes of a word. -/
def leB (v : Int) (i : Nat) : Int := v / 256 ^ i % 256
theorem leB_in (v : Int) (i : Nat) : 0 ≤ leB v i ∧ leB v i ≤ 255 := by unfold leB; omega

set_option maxHeartbeats 1000000 in
set_option maxRecDepth 100000 in
theorem littleEnd_any (v : Int) (hv : In64 v) (w : World) :
    Calls Try.prog 31 #[.int .u64 v] w fun e w' => e = .returned (.agg (uarr 8 (leB v))) ∧ Below w.heap.size w w' := by
  have HV := Lib.hid hv
  clear hv
  go_enter Try.func31, Try.ntmps31
  go_wp2
  simp only [zero8]
  go_loopw [5] (fun i wr => ∃ k : Nat, k ≤ 8 ∧ i = .int .i64 k ∧ HoldsU wr w.heap.size 69 8 (fun _ => 0) ∧ HoldsU wr (w.heap.size + 1) 69 8 (fun j => if j < k then leB v j else 0) ∧ Below w.heap.size w wr)
    (fun i _ => 8 - (intOf i).toNat)
  case atStart =>
    refine ⟨0, Nat.zero_le _, rfl, heap_alloc2_old w _ _, (heap_alloc2_new w _ _).trans ?_, ((Below.refl _ _).alloc (Nat.le_refl _) _).alloc (by simp) _⟩
    simp
  case round =>
    obtain ⟨k, hk, rfl, h1, h2, hb⟩ := hrel
    by_cases hlt : k < 8
    · have hc := h2.cell hlt
      have hf := h2.frozen k
      have HL := Lib.hid (field_byte HV.out hlt)
      have l0 := (leB_in v k).1
      have l1 := (leB_in v k).2
      have HW : Hid (IntKind.u8.wrap (leB v k) = leB v k) := Lib.hid (by rw [IntKind.wrap_u8]; omega)
      have H1 := Lib.hid h1
      have H2 := Lib.hid h2
      have HB := Lib.hid hb
      clear h1 h2 hb
      go_wp2_with (go_at_call 41; refine (field_any _ _ _ HV.out _).mono ?_; rintro e w2 ⟨rfl, n, rfl⟩; rw [HL.out])
      refine ⟨⟨k + 1, by omega, by go_num, (H1.out.drewN n).other (by simp) _, ((H2.out.drewN n).set k _).congr fun i hi => ?_, (below_drewN HB.out n).setCell (by simp) _⟩, by simp [intOf]; omega⟩
      by_cases e : i = k
      · subst e; rw [if_pos rfl, if_pos (by omega)]; rfl
      · simp only [e, if_false]
        by_cases c : i < k
        · rw [if_pos c, if_pos (by omega)]
        · rw [if_neg c, if_neg (by omega)]
    · obtain rfl : k = 8 := by omega
      have h3 : HoldsU wr (w.heap.size + 1) 69 8 (leB v) := h2.congr fun i hi => by rw [if_pos hi]
      have HB := Lib.hid hb
      have H1 := Lib.hid h1
      have H3 := Lib.hid h3
      clear h2 h1 hb h3
      go_wp2_with (first
        | (refine wpList_load_row rfl _ _ rfl (w.heap.size + 1) rfl 69 _ _ _ H3.out Try.underlying69 rfl ?_ ?_; · exact size8.trans (by rw [uarr_size]))
        | (refine wpList_store_row rfl _ _ _ rfl w.heap.size _ rfl rfl 69 _ H1.out ?_ (by rw [uarr_size, uarr_size]) (uarr_one _ _) ?_; · exact size8.trans (by rw [uarr_size])))
      refine bodyPost_ret (v := .agg (uarr 8 (leB v))) (results_cell_row (show Try.f31.results = #[.cell 2 69] by kernel_rfl) _ _ w.heap.size 69 _ _ _ rfl (H1.out.setRow _) Try.underlying69 rfl (size8.trans (by rw [uarr_size]))) rfl ⟨rfl, below_setRow HB.out (Nat.le_refl _) _⟩

/-- All of them are 0. -/
def noughts (xs : List Int) : Bool := xs.all fun x => x == 0
theorem noughts_iff {xs : List Int} : noughts xs = true ↔ ∀ i, i < xs.length → xs.getD i 0 = 0 := by
  unfold noughts
  rw [List.all_eq_true]
  constructor
  · intro h i hi
    have := h xs[i] (List.getElem_mem hi)
    simpa [List.getD, hi] using this
  · intro h x hx
    obtain ⟨i, hi, rfl⟩ := List.getElem_of_mem hx
    have := h i hi
    simpa [List.getD, hi] using this
theorem countZero (xs : List Int) (h : Bytes255 xs) : (((Lib.countByte (Lib.bytesOf xs) (0 : Int).toNat.toUInt8 : Nat) : Int) == (xs.length : Int)) = noughts xs := by
  rw [Bool.eq_iff_iff, noughts_iff, beq_iff_eq]
  unfold Lib.countByte Lib.bytesOf
  have e : (xs.map fun n => UInt8.ofNat n.toNat).length = xs.length := by simp
  rw [← e, Int.natCast_inj, List.count_eq_length]
  constructor
  · intro hh i hi0
    have hi : i < xs.length := by simpa using hi0
    have h1 := h i hi
    have h2 := hh (UInt8.ofNat xs[i].toNat) (List.mem_map.2 ⟨xs[i], List.getElem_mem hi, rfl⟩)
    have e2 : xs.getD i 0 = xs[i] := by simp [List.getD, hi]
    rw [e2] at h1 ⊢
    have h3 := congrArg UInt8.toNat h2
    simp at h3
    omega
  · intro hh b hb
    obtain ⟨x, hx, rfl⟩ := List.mem_map.1 hb
    obtain ⟨i, hi, rfl⟩ := List.getElem_of_mem hx
    have := hh i (by simpa using hi)
    have e2 : xs.getD i 0 = xs[i] := by simp [List.getD, hi]
    rw [e2] at this
    rw [this]
    try rfl

set_option maxHeartbeats 2000000 in
set_option maxRecDepth 1000000 in
theorem count_any (xs : List Int) (a : Addr) (c b2 : Nat) (d : Nat) (w : World) (hc : ∀ i, i < xs.length → w.cell? (a.add i) = some (.int .u8 (xs.getD i 0))) (hc2 : w.cell? ⟨b2, 0, none⟩ = some (.int .u8 0)) :
    Calls Try.prog 62 #[.slice (some a) xs.length c, .slice (some ⟨b2, 0, none⟩) 1 d] w fun e w' => e = .returned (.int .i64 (Lib.countByte (Lib.bytesOf xs) (0 : Int).toNat.toUInt8)) ∧ w = w' := by
  go_enter Try.func62, Try.ntmps62
  go_wp2
  rw [run_callFunc_extern Try.func70 (by kernel_rfl) (by kernel_rfl) (by kernel_rfl) (e := Extern.BytealgCount.count) (by kernel_rfl), Lib.run_countAt w a xs.length c xs rfl hc 0]
  simp only [Result.andThen]
  rw [Oper.upon_value]
  go_wp2
  go_ret
  exact ⟨rfl, rfl⟩

theorem isNought_any (g : Nat) (v : Value) (xs : List Int) (w : World) (h : ReadsIn .u8 g w v xs) (hb : Bytes255 xs) (h0 : xs ≠ []) :
    Calls Try.prog 50 #[v] w fun e w' => e = .returned (.bool (noughts xs)) ∧ Below w.heap.size w w' := by
  obtain ⟨a, c, rfl, hl, h⟩ := h
  obtain ⟨off, rfl, hg, hc⟩ := h.resolve_left h0
  have hc1 : ∀ i, i < xs.length → (w.alloc (.cells #[.int .u8 0] 5)).cell? ((⟨g, off, none⟩ : Addr).add i) = some (.int .u8 (xs.getD i 0)) := fun i hi => by
    rw [add_none]
    exact (((Below.refl w.heap.size w).alloc (Nat.le_refl _) (.cells #[.int .u8 0] 5)).cell (p := ⟨g, off + i, none⟩) hg).trans (hc i hi)
  have HC := Lib.hid hc1
  have HZ := Lib.hid (countZero xs hb)
  have HL := Lib.hid hl
  clear hc hc1 hl h0 hb h
  go_enter Try.func50, Try.ntmps50
  go_wp2_with (go_at_call 62; refine (count_any xs _ c _ _ _ HC.out ?_).mono ?_; · simp [go_sem])
  rintro e w' ⟨rfl, rfl⟩
  go_wp2
  go_ret
  exact ⟨ret_bool HZ.out, (Below.refl _ _).alloc (Nat.le_refl _) _⟩

end Go.Proofs.Ytoghdkhlliehoaa
