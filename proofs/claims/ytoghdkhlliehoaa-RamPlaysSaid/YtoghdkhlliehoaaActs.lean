/- The helpers of layer 3's laws: the same bytes, the same numbers; a list of acts as it comes in. -/
import Derived.Test.YtoghdkhlliehoaaJA
import Derived.Laws.BytesArg
import Derived.Deep.Slices
import Derived.Deep.Fields
import Derived.ChangeSame
namespace Go.Proofs.Ytoghdkhlliehoaa
open Go.RowKit
set_option linter.unusedVariables false
set_option maxRecDepth 100000

theorem conv_reads {g : Nat} {w : World} {v : Value} {xs : List Int} (h : ReadsIn .u8 g w v xs) : (convert 38 9 v).run Try.prog w = .ok (.string (strOfNums xs)) w := by
  obtain ⟨a, c, rfl, hm, h⟩ := h
  rcases h with rfl | ⟨off, rfl, hlt, hc⟩
  · rw [run_convert_bytes_string w 38 9 5 a _ c Try.underlying38 Try.underlying5 Try.underlying9]
    cases a with
    | none => simp [Conv.bytesToString]; rfl
    | some a => simp [Conv.bytesToString, loadCells, loadCellsFrom]; rfl
  · exact run_convert_bytes_arg w 38 5 Try.underlying38 Try.underlying5 g off xs.length c xs rfl hc _ Try.underlying9

theorem strOf_inj {xs ys : List Int} (hx : Bytes255 xs) (hy : Bytes255 ys) (h : strOfNums xs = strOfNums ys) : xs = ys := by
  have h1 : xs.map (fun n => UInt8.ofNat n.toNat) = ys.map (fun n => UInt8.ofNat n.toNat) := by
    have := congrArg (fun s : ByteArray => s.data.toList) h
    simpa [strOfNums] using this
  have hl : xs.length = ys.length := by simpa using congrArg List.length h1
  apply List.ext_getElem hl
  intro i hi hj
  have h2 : UInt8.ofNat (xs[i]).toNat = UInt8.ofNat (ys[i]).toNat := by
    have := congrArg (fun l : List UInt8 => l[i]?) h1
    simpa [hi, hj] using this
  have a := hx i hi
  have b := hy i hj
  have ea : xs.getD i 0 = xs[i] := by simp [List.getD, hi]
  have eb : ys.getD i 0 = ys[i] := by simp [List.getD, hj]
  rw [ea] at a
  rw [eb] at b
  have h3 := congrArg UInt8.toNat h2
  simp [UInt8.toNat_ofNat'] at h3
  omega

theorem sameB_any (g g' : Nat) (v u : Value) (xs ys : List Int) (w : World) (hv : ReadsIn .u8 g w v xs) (hu : ReadsIn .u8 g' w u ys) (hx : Bytes255 xs) (hy : Bytes255 ys) :
    Calls Try.prog 25 #[v, u] w fun e w' => e = .returned (.bool (decide (xs = ys))) ∧ w = w' := by
  have c1 := conv_reads hv
  have c2 := conv_reads hu
  have HI : Hid (((strOfNums xs).toList == (strOfNums ys).toList) = decide (xs = ys)) := by
    refine Lib.hid ?_
    rw [Bool.eq_iff_iff, beq_iff_eq, decide_eq_true_eq, ByteArray.toList_eq, ByteArray.toList_eq]
    constructor
    · intro h
      refine strOf_inj hx hy ?_
      generalize strOfNums xs = s at h
      generalize strOfNums ys = u at h
      obtain ⟨⟨s⟩⟩ := s
      obtain ⟨⟨u⟩⟩ := u
      have h' : s = u := h
      rw [h']
    · intro h; rw [h]
  clear hv hu hx hy
  go_enter Try.func25, Try.ntmps25
  go_wp2
  go_ret
  exact ⟨ret_bool HI.out, rfl⟩

theorem getD_ext {xs ys : List Int} (hl : xs.length = ys.length) (h : ∀ j, j < xs.length → xs.getD j 0 = ys.getD j 0) : xs = ys := by
  apply List.ext_getElem hl
  intro i h1 h2
  have := h i h1
  simpa [List.getD, h1, h2] using this

set_option maxHeartbeats 800000 in
theorem numbers_any (v u : Value) (xs ys : List Int) (B : Nat) (w : World) (hr : ReadsL .u64 B w v xs) (hs : ReadsL .u64 B w u ys) (hB : B ≤ w.heap.size) :
    Calls Try.prog 14 #[v, u] w fun e w' => e = .returned (.bool (decide (xs = ys))) ∧ Below w.heap.size w w' := by
  obtain ⟨a, c, rfl, hm, hx⟩ := hr
  obtain ⟨a', c', rfl, hm', hy⟩ := hs
  unfold maxLen at hm hm'
  by_cases hl : xs.length = ys.length
  · have hl2 : ((xs.length : Int) != ys.length) = false := by simp [hl]
    have HL := Lib.hid hl
    have hle : (ys.length : Int) ≤ xs.length := by omega
    have hle2 : (xs.length : Int) ≤ ys.length := by omega
    have E := Lib.hid (getD_ext hl)
    clear hl
    go_enter Try.func14, Try.ntmps14
    go_wp2
    go_loopw [5] (fun i wr => ∃ k : Nat, k ≤ xs.length ∧ i = .int .i64 k ∧ Below w.heap.size w wr ∧ ∀ j : Nat, j < k → xs.getD j 0 = ys.getD j 0) (fun i _ => xs.length - (intOf i).toNat)
    case atStart => exact ⟨0, Nat.zero_le _, rfl, Below.refl _ _, fun j hj => by omega⟩
    case round =>
      obtain ⟨k, hk, rfl, hb, hall⟩ := hrel
      have HA := Lib.hid hall
      clear hall
      by_cases hlt : k < xs.length
      · rcases hx with rfl | ⟨b, off, rfl, hbb, hc⟩
        · simp at hlt
        have hL := HL.out
        rcases hy with rfl | ⟨b', off', rfl, hbb', hc'⟩
        · rw [hL] at hlt; simp at hlt
        have hcell := (hb.cell (p := ⟨b, off + k, none⟩) (by show b < _; omega)).trans (hc k hlt)
        have hcell' := (hb.cell (p := ⟨b', off' + k, none⟩) (by show b' < _; omega)).trans (hc' k (by omega))
        have i1 : (k : Int) < (xs.length : Int) := by omega
        have i2 : (k : Int) < (ys.length : Int) := by omega
        clear hc hc' hL
        have HX : Hid (∀ p q, xs.getD k 0 = p → ys.getD k 0 = q → (p = q ↔ xs.getD k 0 = ys.getD k 0)) := by intro p q h1 h2; rw [h1, h2]
        by_cases hq : xs.getD k 0 = ys.getD k 0
        · have HQ := Lib.hid hq
          rw [hq] at hcell
          clear hq
          generalize ys.getD k 0 = y at hcell hcell'
          go_wp2_with fail
          go_quiet (fail)
          go_wp2
          refine ⟨⟨k + 1, by omega, by go_num, below_drewN hb _, fun j hj => ?_⟩, by simp [intOf]; omega⟩
          by_cases e : j = k
          · subst e; exact HQ.out
          · exact HA.out j (by omega)
        · have HE : Hid (false = decide (xs = ys)) := by
            show false = decide (xs = ys)
            symm; rw [decide_eq_false_iff_not]; intro h; exact hq (by rw [h])
          have hne : (xs.getD k 0 != ys.getD k 0) = true := by simpa using hq
          clear hq
          generalize ys.getD k 0 = y at hcell' hne
          generalize xs.getD k 0 = x at hcell hne
          go_wp2_with fail
          go_quiet (fail)
          go_wp2
          go_ret
          exact ⟨ret_bool HE.out, below_drewN hb _⟩
      · go_wp2
        go_ret
        exact ⟨ret_bool (by symm; rw [decide_eq_true_eq]; exact E.out fun j hj => HA.out j (by omega)), hb⟩
  · have hl2 : ((xs.length : Int) != ys.length) = true := by simp; omega
    have HE : Hid (false = decide (xs = ys)) := by
      show false = decide (xs = ys)
      symm; rw [decide_eq_false_iff_not]; intro h; exact hl (by rw [h])
    clear hl
    go_enter Try.func14, Try.ntmps14
    go_wp2
    go_ret
    exact ⟨ret_bool HE.out, Below.refl _ _⟩

end Go.Proofs.Ytoghdkhlliehoaa
