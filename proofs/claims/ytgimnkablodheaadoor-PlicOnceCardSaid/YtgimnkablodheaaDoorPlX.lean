/- Layer 5: the document's Read, Write and Line, as the program's are told. -/
import Derived.Test.YtgimnkablodheaaDoorPlW
namespace Go.Proofs.YtgimnkablodheaaDoor
open Go.RowKit
set_option linter.unusedVariables false

theorem tells_end {w : World} {b : Nat} {t : PS} {x : Int} {r : Bool} (h : RefP w b t) {e : Ending} {w' : World} (k : TellsP w x r e w') : RefPEnd w b (.tuple #[.int .u64 x, .bool r]) t e w' := by
  obtain ⟨rfl, rfl⟩ := k
  exact ⟨rfl, Only.refl _ _, h⟩
theorem refRead_any (w : World) (b : Nat) (t : PS) (h : RefP w b t) (off n : Int) (ho : In64 off) :
    Calls Tryd.prog 32 #[.pointer (some ⟨b, 0, none⟩), .int .u64 off, .int .i64 n] w (RefPEnd w b (.tuple #[.int .u64 (rdX t (plcK off n)), .bool (okP (plcK off n))]) (rdT t (plcK off n))) := by
  rcases plc_cases off n ho.1 with ⟨rfl, k, hk, hk4, hp⟩ | ⟨rfl, rfl, hp⟩ | ⟨rfl, rfl, hp⟩ | ⟨rfl, rfl, hp⟩ | ⟨rfl, rfl, hp⟩ | ⟨rfl, rfl, hp⟩ | ⟨rfl, rfl, hp⟩ | ⟨rfl, rfl, hp⟩ | ⟨rfl, hn, hp⟩ | ⟨hn, hp⟩
  all_goals rw [hp]
  · exact (refRead_prio w b t h k hk off hk4).mono fun e w' k => tells_end h k
  · exact (refRead_pend w b t h).mono fun e w' k => tells_end h k
  · exact (refRead_on0 w b t h).mono fun e w' k => tells_end h k
  · exact (refRead_on1 w b t h).mono fun e w' k => tells_end h k
  · exact (refRead_floor0 w b t h).mono fun e w' k => tells_end h k
  · exact (refRead_floor1 w b t h).mono fun e w' k => tells_end h k
  · exact refRead_claim0 w b t h _ rfl
  · exact refRead_claim1 w b t h _ rfl
  · exact (refRead_no w b off hn ho.1).mono fun e w' k => tells_end h k
  · exact (refRead_len w b off n hn).mono fun e w' k => tells_end h k
theorem same_end {w : World} {b : Nat} {t : PS} {r : Value} (h : RefP w b t) {e : Ending} {w' : World} (k : e = .returned r ∧ w = w') : RefPEnd w b r t e w' := by
  obtain ⟨rfl, rfl⟩ := k
  exact ⟨rfl, Only.refl _ _, h⟩
theorem refWrite_any (w : World) (b : Nat) (t : PS) (h : RefP w b t) (off n v : Int) (ho : In64 off) (hv : In64 v) :
    Calls Tryd.prog 31 #[.pointer (some ⟨b, 0, none⟩), .int .u64 off, .int .i64 n, .int .u64 v] w (RefPEnd w b (.bool (okP (plcK off n))) (wrT t (plcK off n) v)) := by
  have hx1 := Int.emod_nonneg v (show (4294967296 : Int) ≠ 0 by decide)
  rcases plc_cases off n ho.1 with ⟨rfl, k, hk, hk4, hp⟩ | ⟨rfl, rfl, hp⟩ | ⟨rfl, rfl, hp⟩ | ⟨rfl, rfl, hp⟩ | ⟨rfl, rfl, hp⟩ | ⟨rfl, rfl, hp⟩ | ⟨rfl, rfl, hp⟩ | ⟨rfl, rfl, hp⟩ | ⟨rfl, hn, hp⟩ | ⟨hn, hp⟩
  all_goals rw [hp]
  · by_cases k0 : k = 0
    · subst k0
      obtain rfl : off = 0 := by omega
      exact (refWrite_prio0 w b v).mono fun e w' k => same_end h k
    · rw [show wrT t (0, k) v = prioT t k (v % 8) from if_neg k0]
      exact refWrite_prio w b t h k (by omega) hk off v hk4 hv.1
  · exact (refWrite_pend w b v).mono fun e w' k => same_end h k
  · exact refWrite_on0 w b t h v hv
  · exact refWrite_on1 w b t h v hv
  · exact refWrite_floor0 w b t h v hv.1
  · exact refWrite_floor1 w b t h v hv.1
  · exact refWrite_done0 w b t h v _ hv.1 (by omega)
  · exact refWrite_done1 w b t h v _ hv.1 (by omega)
  · exact (refWrite_no w b off v hn ho.1).mono fun e w' k => same_end h k
  · exact (refWrite_len w b off n v hn).mono fun e w' k => same_end h k
set_option maxHeartbeats 2000000 in
theorem refLine_none (w : World) (t : PS) (c : Int) (h0 : ¬ c = 0) (h1 : ¬ c = 1) : Calls Tryd.prog 17 #[refPV t, .int .i64 c] w fun e w' => e = .returned (.bool false) ∧ Below w.heap.size w w' := by
  have HB := Lib.hid ((Below.refl w.heap.size w).alloc (Nat.le_refl _) (.cells (varr 194 (cellR t)) 45))
  have hsz : (varr 194 (cellR t)).size = 194 := varr_size _ _
  have HSZ := Lib.hid hsz
  have HBEST := Lib.hid (fun w' => refBest_none w' t c h0 h1)
  unfold refPV at HBEST
  clear hsz h0 h1
  show Calls Tryd.prog 17 #[.agg (varr 194 (cellR t)), .int .i64 c] w _
  have HR : Hid ((w.alloc (.cells (varr 194 (cellR t)) 45)).heap[w.heap.size]? = some (.cells (varr 194 (cellR t)) 45 (0, 0))) := Lib.hid (heap_alloc_new w _)
  generalize varr 194 (cellR t) = row at *
  go_enter Tryd.func17, Tryd.ntmps17
  go_wp2_with (refine wpList_load_row rfl _ _ rfl w.heap.size rfl 45 _ _ _ HR.out Tryd.underlying45 rfl ?_ ?_; · exact size_refP.trans (by rw [HSZ.out]))
  refine (HBEST.out _).mono ?_
  rintro e w2 ⟨rfl, hb⟩
  have HB2 := Lib.hid (HB.out.trans (hb.mono HB.out.size))
  clear hb HBEST HR
  go_wp2_with fail
  go_quiet (fail)
  go_wp2
  go_ret
  exact ⟨rfl, ⟨HB2.out.os, HB2.out.tape, HB2.out.output, HB2.out.size, HB2.out.block⟩⟩
theorem refLine_any (w : World) (t : PS) (c : Int) : Calls Tryd.prog 17 #[refPV t, .int .i64 c] w fun e w' => e = .returned (.bool (lineT t c)) ∧ Below w.heap.size w w' := by
  by_cases h0 : c = 0
  · subst h0
    have e : lineT t 0 = lineC t 0 := by unfold lineT; rw [show isC 0 = true by decide, Bool.true_and]
    rw [e]; exact refLine_0 w t
  by_cases h1 : c = 1
  · subst h1
    have e : lineT t 1 = lineC t 1 := by unfold lineT; rw [show isC 1 = true by decide, Bool.true_and]
    rw [e]; exact refLine_1 w t
  have e : lineT t c = false := by unfold lineT; rw [isC_no h0 h1, Bool.false_and]
  rw [e]; exact refLine_none w t c h0 h1

/-! ### what is always so, stays so -/
theorem ok_pend {t : PS} (h : t.ok) {f : Nat → Bool} (h0 : f 0 = false) : PS.ok { t with pend := f } := ⟨h.prio0, h.on0, h0, h.up0, h.pr, h.fl⟩
theorem ok_busy {t : PS} (h : t.ok) (f : Nat → Bool) : PS.ok { t with busy := f } := ⟨h.prio0, h.on0, h.pend0, h.up0, h.pr, h.fl⟩

end Go.Proofs.YtgimnkablodheaaDoor
