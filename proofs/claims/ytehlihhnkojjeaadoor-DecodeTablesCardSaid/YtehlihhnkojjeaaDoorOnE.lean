/- Layer 9: (*Decoder).Decode. -/
import Derived.Test.YtehlihhnkojjeaaDoorOnD
import Derived.Test.YtehlihhnkojjeaaDoorDv
namespace Go.Proofs.YtehlihhnkojjeaaDoor
open Go.RowKit
set_option linter.unusedVariables false
set_option maxRecDepth 100000

theorem low7 {j : Nat} {x : Int} (h1 : 1 ≤ j) (h2 : j < 114) (hx : In32 x) (h : isT j x = true) : x % 128 = ((matT j % 128 : Nat) : Int) := by
  refine ext32 (by unfold In32; omega) (by unfold In32; omega) fun q hq => ?_
  have e : ((matT j % 128 : Nat) : Int) = (matT j : Int) % 128 := by omega
  rw [e, show (128 : Int) = 2 ^ 7 from rfl, tb_mod, tb_mod]
  by_cases c : q < 7
  · have hm : (mskT j).testBit q = true := by
      have hb : (mskT j &&& 127).testBit q = (127 : Nat).testBit q := by rw [tab_low j h2 h1]
      have h127 : ∀ q, q < 7 → (127 : Nat).testBit q = true := by decide
      rw [Nat.testBit_and, h127 q c, Bool.and_true] at hb; exact hb
    rw [isT_tb h hq hm]
  · rw [decide_eq_false c]; rfl
/-- What the method answers and leaves. -/
def DecE (w : World) (b : Nat) (x : Int) (e : Ending) (w' : World) : Prop := e = .returned (.tuple #[.agg #[.int .i64 (decI x).op, .int .i64 (decI x).rd, .int .i64 (decI x).a, .int .i64 (decI x).b, .int .i64 (decI x).imm, .int .i64 (decI x).csr, .bool (decI x).aq, .bool (decI x).rl], .bool (decB x)]) ∧ Only (fun i => i = b) w w' ∧ ∃ B K V, Tbl w' b B 1 0 K V (lowL 114)
set_option maxHeartbeats 1000000 in
theorem decN_is (x : Int) (w : World) (ht : Tab w) :
    Calls Tryd.prog 19 #[.pointer none, .int .u32 x] w fun e w' => e = .returned (.tuple #[.agg #[.int .i64 (decI x).op, .int .i64 (decI x).rd, .int .i64 (decI x).a, .int .i64 (decI x).b, .int .i64 (decI x).imm, .int .i64 (decI x).csr, .bool (decI x).aq, .bool (decI x).rl], .bool (decB x)]) ∧ Below w.heap.size w w' := by
  have H1 := Lib.hid fun w ht => decode_is x w ht
  have HT := Lib.hid ht
  clear ht
  generalize hI : decI x = I at *
  generalize hq : decB x = q at *
  have HI := Lib.hid hI
  have HQ := Lib.hid hq
  clear hI hq
  go_enter Tryd.func19, Tryd.ntmps19
  go_wp2_with (first
    | (go_at_call 10; (with_reducible refine (H1.out _ ((Zr.new w).tab HT.out)).mono ?_); rintro e1 w1 ⟨rfl, hb1⟩; have HZ1 := Lib.hid ((Zr.new w).go hb1); clear hb1)
    | (refine wpList_store_row rfl _ _ _ rfl w.heap.size _ rfl rfl 24 _ HZ1.out.row size_ins rfl (by simp [Value.oneCell']) ?_))
  have hlv := run_loadVar_row (P := Tryd.prog) (w1.setRow w.heap.size #[.int .i64 I.op, .int .i64 I.rd, .int .i64 I.a, .int .i64 I.b, .int .i64 I.imm, .int .i64 I.csr, .bool I.aq, .bool I.rl]) w.heap.size 24 24 #[.int .i64 I.op, .int .i64 I.rd, .int .i64 I.a, .int .i64 I.b, .int .i64 I.imm, .int .i64 I.csr, .bool I.aq, .bool I.rl] (0, 0) _ (setRow_heap _ _ _ _ _ _ HZ1.out.row) Tryd.underlying24 rfl size_ins
  exact bodyPost_ret (v := .tuple #[.agg #[.int .i64 I.op, .int .i64 I.rd, .int .i64 I.a, .int .i64 I.b, .int .i64 I.imm, .int .i64 I.csr, .bool I.aq, .bool I.rl], .bool q]) (by simp [results, Tryd.results19, hlv, asAddr]) rfl ⟨rfl, below_setRow HZ1.out.bel (Nat.le_refl _) _⟩

theorem decE_end {w w2 w5 : World} {b B : Nat} {K : Nat → Nat} {V : Nat → Value} (ho : Only (fun i => i = b) w w2) (hn : w.heap.size < w2.heap.size) (hbn : b < w.heap.size) (ht : Tbl w2 b B 1 0 K V (lowL 114)) (hb : Below w2.heap.size w2 w5) (hlab : ∀ a, a < 128 → ¬ (V a).ownBlock = some w.heap.size) (cs : Array Value) :
    Only (fun i => i = b) w (w5.setRow w.heap.size cs) ∧ ∃ B K V, Tbl (w5.setRow w.heap.size cs) b B 1 0 K V (lowL 114) := by
  have o5 := ho.thenBelow hb
  have t5 := ht.below hb
  have oS : Only (fun i => i = w.heap.size) w5 (w5.setRow w.heap.size cs) := (Only.refl (fun i => i = w.heap.size) w5).setRow (.inl rfl) cs
  exact ⟨o5.setRow (.inr (Nat.le_refl _)) cs, B, K, V, ⟨oS.keeps (by omega) t5.obj, t5.bB, fun a ha => own_only (t5.rows a ha) oS fun g hg e => hlab a ha (by rw [hg, e]), t5.lab⟩⟩
set_option maxHeartbeats 4000000 in
theorem decD_is (b : Nat) (x : Int) (hx : In32 x) (w : World) (ht : Tab w) (hb : b < w.heap.size) (hg : ¬ b = 0)
    (hDO : Calls Tryd.prog 29 #[.pointer (some ⟨b, 0, none⟩), .func (.func 30) #[.pointer (some ⟨b, 0, none⟩)] #[]] (w.alloc (.cells #[.int .i64 0, .int .i64 0, .int .i64 0, .int .i64 0, .int .i64 0, .int .i64 0, .bool false, .bool false] 24)) fun e w' => e = .returned (.tuple #[]) ∧ Only (fun i => i = b) (w.alloc (.cells #[.int .i64 0, .int .i64 0, .int .i64 0, .int .i64 0, .int .i64 0, .int .i64 0, .bool false, .bool false] 24)) w' ∧ ∃ B K V, Tbl w' b B 1 0 K V (lowL 114) ∧ ∀ a, a < 128 → ¬ (V a).ownBlock = some w.heap.size) :
    Calls Tryd.prog 19 #[.pointer (some ⟨b, 0, none⟩), .int .u32 x] w (DecE w b x) := by
  have HDO := Lib.hid hDO
  have HT := Lib.hid ht
  have HX := Lib.hid hx
  have hx0 := hx.1
  have hmod : x % 128 = (((x % 128).toNat : Nat) : Int) := by omega
  have ha : (x % 128).toNat < 128 := by omega
  have hmf : ∀ (fn : Fn) (first cap : Array Value) (w : World), (Instr.makeFunc fn first cap).run Tryd.prog w = .ok (.func fn first cap) w := fun _ _ _ _ => rfl
  have HA : Hid ((((x % 128).toNat : Nat) : Int) = x % 128) := Lib.hid hmod.symm
  have hlen := lowL_len 114 (x % 128).toNat
  generalize (x % 128).toNat = a at *
  clear hDO ht hx
  have ha2 : (a : Int) < 128 := by omega
  have ha0 : (0 : Int) ≤ a := by omega
  go_enter Tryd.func19, Tryd.ntmps19
  go_wp2_with (go_at_call 29; refine HDO.out.mono ?_; rintro e1 w2 ⟨rfl, ho, B, K, V, ht2, hlab⟩; have hcell := ht2.at ha; have HOWN := Lib.hid (ht2.rows a ha); obtain ⟨A, C, hv⟩ := own_slice' HOWN.out; rw [hv] at hcell; have HV := Lib.hid hv; have HT2' := Lib.hid ht2; have HO := Lib.hid (((Only.refl (fun i => i = b) w).alloc (.cells #[.int .i64 0, .int .i64 0, .int .i64 0, .int .i64 0, .int .i64 0, .int .i64 0, .bool false, .bool false] 24)).trans ho); have HZ2 : Hid (w2.heap[w.heap.size]? = some (.cells #[.int .i64 0, .int .i64 0, .int .i64 0, .int .i64 0, .int .i64 0, .int .i64 0, .bool false, .bool false] 24 (0, 0))) := Lib.hid (ho.keeps (by omega) (heap_alloc_new w _)); have HT2 : Hid (Tab w2) := Lib.hid (by obtain ⟨tt, fr, hh⟩ := HT.out; exact ⟨tt, fr, HO.out.keeps (by intro hh2; exact hg hh2.symm) hh⟩); have HLAB := Lib.hid hlab; clear ho ht2 hv hlab)
  have hn2 : w.heap.size < w2.heap.size := (Array.getElem?_eq_some_iff.1 HZ2.out).1
  have HC : Hid (∀ i, i < (lowL 114 a).length → ∃ g off, A = some ⟨g, off, none⟩ ∧ g < w2.heap.size ∧ w2.cell? ⟨g, off + i, none⟩ = some (.int .i64 ((lowL 114 a).getD i 0))) := Lib.hid fun i hi => by
    rcases HOWN.out.2 with ⟨hvn, h0⟩ | ⟨g, cap, cur, hvv, hbg, hgg, hrest⟩
    · omega
    · rw [HV.out] at hvv
      simp only [Value.slice.injEq] at hvv
      refine ⟨g, 0, hvv.1, (Array.getElem?_eq_some_iff.1 hgg).1, ?_⟩
      have hget : ((lowL 114 a).map (Value.int .i64))[i]? = some (.int .i64 ((lowL 114 a).getD i 0)) := by
        rw [List.getElem?_map, List.getElem?_eq_getElem hi]; simp [List.getD, hi]
      have := HOWN.out.cells (g := g) (by rw [HV.out, hvv.1]; rfl) i _ hget
      rwa [add_none] at this
  have HM : Hid (∀ i, i < (lowL 114 a).length → ∃ k : Nat, (lowL 114 a).getD i 0 = k ∧ 1 ≤ k ∧ k < 114) := Lib.hid fun i hi => by
    have hmem : (lowL 114 a).getD i 0 ∈ lowL 114 a := by rw [List.getD_eq_getElem?_getD, List.getElem?_eq_getElem hi]; exact List.getElem_mem hi
    obtain ⟨k, e, h1, h2, _⟩ := lowL_mem.1 hmem
    exact ⟨k, e, h1, h2⟩
  have HALL : Hid ((∀ i, i < (lowL 114 a).length → isT ((lowL 114 a).getD i 0).toNat x = false) → decK x = 0) := Lib.hid fun hall => by
    by_cases c : decK x = 0
    · exact c
    · obtain ⟨h1, h2, h3⟩ := decK_is c
      have hl := low7 h1 (by omega) HX.out h3
      have hmem : ((decK x : Nat) : Int) ∈ lowL 114 a := lowL_mem.2 ⟨decK x, rfl, h1, by omega, by have := HA.out; omega⟩
      obtain ⟨i, hi, e⟩ := List.mem_iff_getElem.1 hmem
      have := hall i hi
      rw [List.getD_eq_getElem?_getD, List.getElem?_eq_getElem hi, e] at this
      simp only [Option.getD_some, Int.toNat_natCast] at this
      rw [h3] at this; cases this
  clear hcell hmod
  generalize hl : lowL 114 a = l at *
  have HLL := Lib.hid hl
  clear hl
  go_loopw [30] (fun i wr => ∃ j : Nat, j ≤ l.length ∧ i = .int .i64 j ∧ (∀ m, m < j → isT (l.getD m 0).toNat x = false) ∧ Below w2.heap.size w2 wr) (fun i _ => (l.length - (intOf i).toNat))
  case atStart => exact ⟨0, by omega, rfl, fun m hm => absurd hm (Nat.not_lt_zero m), Below.refl _ _⟩
  case round =>
    obtain ⟨j, hj, rfl, hall, hbr⟩ := hrel
    have HB := Lib.hid hbr
    have HALJ := Lib.hid hall
    clear hbr hall
    by_cases hlt : j < l.length
    · obtain ⟨g, off, rfl, hgl, hce⟩ := HC.out j hlt
      obtain ⟨k, hk, k1, k2⟩ := HM.out j hlt
      have hce2 := (HB.out.cell (p := ⟨g, off + j, none⟩) hgl).trans hce
      rw [hk] at hce2
      have hff := tab_form k k2 k1
      have HF := Lib.hid fun w => dfind_any k k1 (by omega) w
      cases hq : isT k x
      · have HH := Lib.hid fun w ht => has_is k k1 (by omega) x false hq w ht
        have HNX : Hid (∀ m, m < j + 1 → isT (l.getD m 0).toNat x = false) := Lib.hid fun m hm => by
          by_cases e : m = j
          · rw [e, hk]; exact hq
          · exact HALJ.out m (by omega)
        clear hq hk hce k1 k2 hff
        generalize nameT k = nm at *
        generalize matT k = mt at *
        generalize frmT k = f at *
        go_wp2_with (first
        | (go_at_call 20; (with_reducible refine (HF.out _).mono ?_); rintro e1 w3 ⟨rfl, hb3⟩; have HB3 := Lib.hid (HB.out.trans (hb3.mono HB.out.size)); clear hb3)
        | (go_at_call 21; (with_reducible refine (HH.out _ (HT2.out.below (HB3.out.alloc HB3.out.size _))).mono ?_); rintro e2 w4 ⟨rfl, hb4⟩; have HB4 := Lib.hid ((HB3.out.alloc HB3.out.size (.cells #[.string nm, .int .u32 mt, .int .u8 f] 57)).trans (hb4.mono (HB3.out.alloc HB3.out.size (.cells #[.string nm, .int .u32 mt, .int .u8 f] 57)).size)); clear hb4))
        go_roundw
        case rel => exact ⟨j + 1, by omega, by go_num, HNX.out, HB4.out⟩
        case measure => simp [intOf]; omega
      · have HH := Lib.hid fun w ht => has_is k k1 (by omega) x true hq w ht
        have HR := Lib.hid fun w => read_any (frmT k) hff k x w
        have hK := decK_at k1 (by omega) hq
        have HI : Hid (decI x = says (frm (frmT k)) k x) := Lib.hid (by unfold decI; rw [hK, if_neg (by omega)]; rfl)
        have HQ : Hid (decB x = true) := Lib.hid (by unfold decB; rw [hK]; simp; omega)
        generalize says (frm (frmT k)) k x = I at *
        clear hq hk hce k1 k2 hK
        generalize nameT k = nm at *
        generalize matT k = mt at *
        generalize frmT k = f at *
        have HFF := Lib.hid hff
        have hf15 : (f : Int) < 15 := by omega
        have hf0 : (0 : Int) ≤ f := by omega
        clear hff
        go_wp2_with (first
        | (go_at_call 20; (with_reducible refine (HF.out _).mono ?_); rintro e1 w3 ⟨rfl, hb3⟩; have HB3 := Lib.hid (HB.out.trans (hb3.mono HB.out.size)); clear hb3)
        | (go_at_call 21; (with_reducible refine (HH.out _ (HT2.out.below (HB3.out.alloc HB3.out.size _))).mono ?_); rintro e2 w4 ⟨rfl, hb4⟩; have HB4 := Lib.hid ((HB3.out.alloc HB3.out.size (.cells #[.string nm, .int .u32 mt, .int .u8 f] 57)).trans (hb4.mono (HB3.out.alloc HB3.out.size (.cells #[.string nm, .int .u32 mt, .int .u8 f] 57)).size)); have hz4 : w3.heap.size < w4.heap.size := (by have := hb4.size; simp at this; omega); have p2 : w4.cell? ⟨w3.heap.size, 2, none⟩ = some (.int .u8 f) := ((hb4.cell (p := ⟨w3.heap.size, 2, none⟩) (by simp)).trans (World.cell?_alloc_at _ _ _ _ rfl)); obtain ⟨c0, c1, c2, c3, c4, c5, c6⟩ := forms_at (HT2.out.below HB4.out) HFF.out; clear hb4)
        | (go_at_call 22; (with_reducible refine (HR.out _).mono ?_); rintro e3 w5 ⟨rfl, hb5⟩; have HB5 := Lib.hid (HB4.out.trans (hb5.mono HB4.out.size)); clear hb5)
        | (refine wpList_store_row rfl _ _ _ rfl w.heap.size _ rfl rfl 24 _ ((HB5.out.block _ hn2).trans HZ2.out) size_ins rfl (by simp [Value.oneCell']) ?_))
        have hlv := run_loadVar_row (P := Tryd.prog) (w5.setRow w.heap.size #[.int .i64 I.op, .int .i64 I.rd, .int .i64 I.a, .int .i64 I.b, .int .i64 I.imm, .int .i64 I.csr, .bool I.aq, .bool I.rl]) w.heap.size 24 24 #[.int .i64 I.op, .int .i64 I.rd, .int .i64 I.a, .int .i64 I.b, .int .i64 I.imm, .int .i64 I.csr, .bool I.aq, .bool I.rl] (0, 0) _ (setRow_heap _ _ _ _ _ _ ((HB5.out.block _ hn2).trans HZ2.out)) Tryd.underlying24 rfl size_ins
        exact bodyPost_ret (v := .tuple #[.agg #[.int .i64 I.op, .int .i64 I.rd, .int .i64 I.a, .int .i64 I.b, .int .i64 I.imm, .int .i64 I.csr, .bool I.aq, .bool I.rl], .bool true]) (by simp [results, Tryd.results19, hlv, asAddr]) rfl ⟨by rw [HI.out, HQ.out], decE_end HO.out hn2 hb HT2'.out HB5.out HLAB.out _⟩
    · obtain rfl : j = l.length := by omega
      have hK := HALL.out HALJ.out
      have HI : Hid (decI x = insZ) := Lib.hid (by unfold decI; rw [hK, if_pos rfl])
      have HQ : Hid (decB x = false) := Lib.hid (by unfold decB; rw [hK]; simp)
      clear hK
      go_wp2_with (refine wpList_store_row rfl _ _ _ rfl w.heap.size _ rfl rfl 24 _ ((HB.out.block _ hn2).trans HZ2.out) size_ins rfl (by simp [Value.oneCell']) ?_)
      have hlv := run_loadVar_row (P := Tryd.prog) (wr.setRow w.heap.size #[.int .i64 0, .int .i64 0, .int .i64 0, .int .i64 0, .int .i64 0, .int .i64 0, .bool false, .bool false]) w.heap.size 24 24 #[.int .i64 0, .int .i64 0, .int .i64 0, .int .i64 0, .int .i64 0, .int .i64 0, .bool false, .bool false] (0, 0) _ (setRow_heap _ _ _ _ _ _ ((HB.out.block _ hn2).trans HZ2.out)) Tryd.underlying24 rfl size_ins
      exact bodyPost_ret (v := .tuple #[.agg #[.int .i64 0, .int .i64 0, .int .i64 0, .int .i64 0, .int .i64 0, .int .i64 0, .bool false, .bool false], .bool false]) (by simp [results, Tryd.results19, hlv, asAddr]) rfl ⟨by rw [HI.out, HQ.out]; rfl, decE_end HO.out hn2 hb HT2'.out HB.out HLAB.out _⟩

end Go.Proofs.YtehlihhnkojjeaaDoor
