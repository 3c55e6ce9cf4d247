/- The contracts of bits.Of and bits.Ones: words and the numbers of their ones. -/
import Derived.Test.YtbhknchpiagciaaOfBits
import Derived.Test.YtbhknchpiagciaaInts
namespace Go.Proofs.Ytbhknchpiagciaa
open Go.RowKit
set_option linter.unusedVariables false

/-- P1.4: the word whose bits are 1 of which the number stands in the list. -/
def ofB (l : List Int) : BitVec 64 := ofF fun i => decide ((i : Int) ∈ l)
/-- P1.4: the numbers of the ones among the first k bits. -/
def onesK (w : BitVec 64) (k : Nat) : List Int := ((List.range k).filter w.getLsbD).map Int.ofNat
def onesB (w : BitVec 64) : List Int := onesK w 64

theorem of_nil : ofB [] = 0#64 := ext64 fun i hi => by unfold ofB; rw [bit_ofF]; simp
theorem of_in {l : List Int} {x : Int} (h : 0 ≤ x ∧ x < 64) : bits .or .u64 (U (ofB l)) (IntKind.u64.wrap (2 ^ x.toNat)) = U (ofB (l ++ [x])) := by
  rw [bits_or, V_U, V_wrap, V_pow]
  congr 1
  refine ext64 fun i hi => ?_
  rw [BitVec.getLsbD_or, BitVec.getLsbD_twoPow]
  unfold ofB
  rw [bit_ofF, bit_ofF, decide_eq_true hi]
  have e : (x.toNat = i) = ((i : Int) = x) := propext (by omega)
  simp only [Bool.true_and, List.mem_append, List.mem_singleton, e]
  by_cases a : (i : Int) ∈ l <;> by_cases b : (i : Int) = x <;> simp [a, b] <;> omega
theorem of_out {l : List Int} {x : Int} (h : ¬ (0 ≤ x ∧ x < 64)) : ofB (l ++ [x]) = ofB l := ext64 fun i hi => by
  unfold ofB
  rw [bit_ofF, bit_ofF]
  have e : ¬ (i : Int) = x := by omega
  simp [e]

theorem ones_zero (w : BitVec 64) : onesK w 0 = [] := rfl
theorem ones_hit {w : BitVec 64} {k : Nat} (h : w.getLsbD k = true) : onesK w (k + 1) = onesK w k ++ [(k : Int)] := by
  unfold onesK; rw [List.range_succ, List.filter_append]; simp [h]
theorem ones_miss {w : BitVec 64} {k : Nat} (h : w.getLsbD k = false) : onesK w (k + 1) = onesK w k := by
  unfold onesK; rw [List.range_succ, List.filter_append]; simp [h]
theorem ones_le (w : BitVec 64) (k : Nat) : (onesK w k).length ≤ k := by
  unfold onesK; rw [List.length_map]; exact Nat.le_trans (List.length_filter_le _ _) (by simp)

set_option maxHeartbeats 800000 in
theorem of_any (v : Value) (xs : List Int) (B : Nat) (w : World) (hr : ReadsL .i64 B w v xs) :
    Calls Try.prog 19 #[v] w fun e w' => e = .returned (.int .u64 (U (ofB xs))) ∧ w = w' := by
  obtain ⟨a, c, rfl, hm, hx⟩ := hr
  unfold maxLen at hm
  go_enter Try.func19, Try.ntmps19
  go_wp2
  go_loop [3, 8] (fun r i => ∃ k : Nat, k ≤ xs.length ∧ i = .int .i64 k ∧ r = .int .u64 (U (ofB (xs.take k)))) (fun _ i => xs.length - (intOf i).toNat)
  case atStart => exact ⟨0, Nat.zero_le _, rfl, by rw [List.take_zero, of_nil]; rfl⟩
  case round =>
    obtain ⟨k, hk, rfl, rfl⟩ := hrel
    by_cases hlt : k < xs.length
    · rcases hx with rfl | ⟨b, off, rfl, _, hc⟩
      · simp at hlt
      have hcell := hc k hlt
      have HS := Lib.hid (take_snoc xs k hlt)
      clear hc
      generalize xs.getD k 0 = x at hcell HS
      by_cases h : 0 ≤ x ∧ x < 64
      · have hd : decide (0 ≤ x ∧ x < 64) = true := decide_eq_true h
        have h0 := h.1
        have h1 := h.2
        go_wp2_with (go_at_call 34; refine (isPlace_any _ _).mono ?_; rintro e w' ⟨rfl, rfl⟩)
        go_round
        case rel => exact ⟨k + 1, by omega, by go_num, by rw [HS.out, ← of_in h]⟩
        case measure => simp [intOf]; omega
      · have hd : decide (0 ≤ x ∧ x < 64) = false := decide_eq_false h
        go_wp2_with (go_at_call 34; refine (isPlace_any _ _).mono ?_; rintro e w' ⟨rfl, rfl⟩)
        go_round
        case rel => exact ⟨k + 1, by omega, by go_num, by rw [HS.out, of_out h]⟩
        case measure => simp [intOf]; omega
    · go_wp2
      go_ret
      exact ⟨ret_int (by rw [List.take_of_length_le (by omega)]), rfl⟩

theorem info_int : (Try.prog.info? 3).map (fun i => (i.zero, i.size, i.bytes)) = some (some (.int .i64 0), 1, 8) := by kernel_rfl

set_option maxHeartbeats 800000 in
theorem ones_any (x : Int) (hx : In64 x) (w : World) :
    Calls Try.prog 21 #[.int .u64 x] w fun e w' => ∃ v, e = .returned v ∧ w'.ownsRow w.heap.size 3 1 v (onesB (V x)).length ((onesB (V x)).map (Value.int .i64)) ∧ Below w.heap.size w w' := by
  obtain ⟨i0, hi, hz0, hz1, hz2⟩ := info_parts info_int
  have hx0 := hx.1
  have hx1 : x < 2 ^ 64 := hx.2
  have HX := Lib.hid hx1
  clear hx hx1
  go_enter Try.func21, Try.ntmps21
  go_wp2
  go_loopw [3, 5] (fun v i wr => ∃ k : Nat, k ≤ 64 ∧ i = .int .i64 k ∧ wr.ownsRow w.heap.size 3 1 v (onesK (V x) k).length ((onesK (V x) k).map (Value.int .i64)) ∧ Below w.heap.size w wr)
    (fun _ i _ => 64 - (intOf i).toNat)
  case atStart => exact ⟨0, Nat.zero_le _, rfl, World.ownsRow_nil _ _ _ _, Below.refl _ _⟩
  case round =>
    obtain ⟨k, hk, rfl, hown, hnx⟩ := hrel
    have hle := ones_le (V x) k
    by_cases hlt : k < 64
    · by_cases hb : (V x).getLsbD k = true
      · have hB : bitB (V x) k = true := by unfold bitB; simpa using hb
        have HB := Lib.hid hb
        clear hb
        go_wp2_with (first
          | (go_at_call 28; refine (bit64_any _ _ hx0 HX.out _).mono ?_; rintro e w' ⟨rfl, rfl⟩)
          | (at_builtin; refine wpList_append_own _ rfl _ _ 34 rfl w.heap.size 3 i0 (.int .i64 0) 1 8 Try.underlying34 hi hz0 hz1 hz2 rfl (by decide) _ _ _ rfl (hown.alloc _) ⟨wr.heap.size, 0, none⟩ 1 1 [.int .i64 k] rfl rfl ?c1 ?c2 ?c3 ?c4 ?c5 ?_))
        case c1 =>
          intro j u hj
          match j, hj with
          | 0, hj => simp at hj; subst hj; simp [Addr.add]
        case c2 => intro u hu; simp at hu; subst hu; rfl
        case c3 => unfold maxLen; omega
        case c4 => omega
        case c5 => have := hnx.size; simp; omega
        intro v' w1 hown' hgrow _
        have R : w1.ownsRow w.heap.size 3 1 v' (onesK (V x) (k + 1)).length ((onesK (V x) (k + 1)).map (Value.int .i64)) := by
          rw [ones_hit HB.out]; simpa using hown'
        have R2 : Below w.heap.size w w1 := (hnx.alloc (by have := hnx.size; omega) _).grown hgrow (by have := hnx.size; simp; omega) (fun j hj => (hown.lt j hj).1)
        clear hown' hgrow hown hnx
        go_wp2
        go_roundw
        case rel => exact ⟨k + 1, by omega, by go_num, R, R2⟩
        case measure => simp [intOf]; omega
      · have hb2 : (V x).getLsbD k = false := by simpa using hb
        have hB : bitB (V x) k = false := by unfold bitB; simpa using hb2
        have HB := Lib.hid hb2
        clear hb hb2
        go_wp2_with (go_at_call 28; refine (bit64_any _ _ hx0 HX.out _).mono ?_; rintro e w' ⟨rfl, rfl⟩)
        go_roundw
        case rel => exact ⟨k + 1, by omega, by go_num, by rw [ones_miss HB.out]; exact hown, hnx⟩
        case measure => simp [intOf]; omega
    · have hkl : k = 64 := by omega
      subst hkl
      go_wp2
      go_ret
      exact ⟨_, rfl, hown, hnx⟩

end Go.Proofs.Ytbhknchpiagciaa
