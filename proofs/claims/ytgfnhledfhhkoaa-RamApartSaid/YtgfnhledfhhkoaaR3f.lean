/- The document's memory of layer 3: bytes told, new ones, twins. -/
import Derived.Test.YtgfnhledfhhkoaaR3e
namespace Go.Proofs.Ytgfnhledfhhkoaa
open Go.RowKit
set_option linter.unusedVariables false

/-- The n bytes from x on. -/
def bytesL (m : Int → Int) (x : Int) (n : Nat) : List Int := (List.range n).map fun i : Nat => m (x + (i : Int))
theorem bytesL_len (m : Int → Int) (x : Int) (n : Nat) : (bytesL m x n).length = n := by unfold bytesL; simp
theorem bytesL_succ (m : Int → Int) (x : Int) (n : Nat) : bytesL m x (n + 1) = bytesL m x n ++ [m (x + n)] := by unfold bytesL; rw [List.range_succ, List.map_append]; rfl
theorem bytesL_get (m : Int → Int) (x : Int) (n i : Nat) (h : i < n) : (bytesL m x n).getD i 0 = m (x + i) := by unfold bytesL; simp [List.getD, h]
def bytesV (base size : Int) (m : Int → Int) (x n : Int) : List Int := if hasZ base size x n = true then bytesL m x n.toNat else []

/-- What Bytes answers. -/
def BytesEnd (w : World) (xs : List Int) (r : Bool) (e : Ending) (w' : World) : Prop :=
  Below w.heap.size w w' ∧ ∃ a n c, e = .returned (.tuple #[.slice a n c, .bool r]) ∧ w'.ownsRow w.heap.size 5 1 (.slice a n c) xs.length (xs.map (Value.int .u8))

theorem info_u8 : (Try.prog.info? 5).map (fun i => (i.zero, i.size, i.bytes)) = some (some (.int .u8 0), 1, 1) := by kernel_rfl

set_option maxHeartbeats 4000000 in
theorem mem_bytes (w : World) (b g : Nat) (base size : Int) (N : Nat) (m : Int → Int) (x n : Int) (h : RefMem w b g base size N m) (hf : Fits base size) (hx : In64 x) (hn : n ≤ 100000 ∨ 67108864 < n) :
    Calls Try.prog 39 #[.pointer (some ⟨b, 0, none⟩), .int .u64 x, .int .i64 n] w (BytesEnd w (bytesV base size m x n) (hasZ base size x n)) := by
  obtain ⟨i0, hi, hz0, hz1, hz2⟩ := info_parts info_u8
  have hm := h.bytey
  have HH := Lib.hid h
  have HX := Lib.hid hx
  have HF := Lib.hid hf
  have HM := Lib.hid hm
  by_cases hh : hasZ base size x n = true
  · have hb := hh
    unfold hasZ at hb
    rw [decide_eq_true_eq] at hb
    have R : Hid (bytesV base size m x n = bytesL m x n.toNat) := by
      refine Lib.hid ?_
      unfold bytesV; rw [if_pos hh]
    have xb : n = 0 ∨ x + n ≤ 9223372036854775808 := by
      obtain ⟨f1, f2, f3, f4⟩ := hf; omega
    have n1 : n ≤ 100000 := by
      obtain ⟨f1, f2, f3, f4⟩ := hf; omega
    obtain ⟨n', rfl⟩ := Int.eq_ofNat_of_zero_le hb.1
    have XB := Lib.hid xb
    have x0 := hx.1
    clear h hf hx hb xb hn hm
    go_enter Try.func39, Try.ntmps39
    go_wp2_with fail
    refine (mem_has _ b g base size N m _ _ HH.out HF.out HX.out).mono ?_
    rintro e w1 ⟨rfl, hb1⟩
    go_wp2_with fail
    go_loopw [8, 9] (fun s i wr => ∃ k : Nat, k ≤ n' ∧ i = .int .i64 k ∧ wr.ownsRow w.heap.size 5 1 s (bytesL m x k).length ((bytesL m x k).map (Value.int .u8)) ∧ Below w.heap.size w wr)
      (fun _ i _ => n' - (intOf i).toNat)
    case atStart => exact ⟨0, Nat.zero_le _, rfl, World.ownsRow_nil _ _ _ _, hb1⟩
    case round =>
      clear hb1
      obtain ⟨k, hk, rfl, hown, hbr⟩ := hrel
      have hlen := bytesL_len m x k
      by_cases hlt : k < n'
      · have HR := Lib.hid (HH.out.below hbr)
        have hby := HM.out (x + k)
        have hby1 := hby.1
        have hby2 := hby.2
        have xk : x + k ≤ 9223372036854775808 := by have := XB.out; omega
        have HS := Lib.hid (bytesL_succ m x k)
        rw [hlen] at hown
        clear hby
        go_wp2_with (first
          | (go_at_call 43; refine (mem_at _ b g base size N m _ HR.out).mono ?_; rintro e w' ⟨rfl, rfl⟩)
          | (at_builtin; refine wpList_append_own _ rfl _ _ 30 rfl w.heap.size 5 i0 (.int .u8 0) 1 1 Try.underlying30 hi hz0 hz1 hz2 rfl (by decide) _ _ _ rfl (hown.alloc _) ⟨wr.heap.size, 0, none⟩ 1 1 [.int .u8 (m (x + k))] rfl rfl ?c1 ?c2 ?c3 ?c4 ?c5 ?_))
        case c1 =>
          intro j u hj
          match j, hj with
          | 0, hj => simp at hj; subst hj; simp [Addr.add]
        case c2 => intro u hu; simp at hu; subst hu; rfl
        case c3 => unfold maxLen; omega
        case c4 => omega
        case c5 => have := hbr.size; simp; omega
        intro v' w2 hown' hgrow _
        have R1 : w2.ownsRow w.heap.size 5 1 v' (bytesL m x (k + 1)).length ((bytesL m x (k + 1)).map (Value.int .u8)) := by
          rw [HS.out, List.length_append, hlen]; simpa using hown'
        have R2 : Below w.heap.size w w2 := (hbr.alloc (by have := hbr.size; omega) _).grown hgrow (by have := hbr.size; simp; omega) (fun j hj => (hown.lt j hj).1)
        clear hown' hgrow hown hbr
        go_wp2
        go_roundw
        case rel => exact ⟨k + 1, by omega, by go_num, R1, R2⟩
        case measure => simp [intOf]; omega
      · obtain rfl : k = n' := by omega
        obtain ⟨A, mm, C, rfl⟩ := own_slice hown
        have HO := Lib.hid hown
        clear hown hlen
        go_wp2
        go_ret2
        exact ⟨hbr, _, _, _, by rw [hh]; rfl, by rw [R.out]; exact HO.out⟩
  · have hh2 : hasZ base size x n = false := by simpa using hh
    have R : Hid (bytesV base size m x n = []) := by
      refine Lib.hid ?_
      unfold bytesV; rw [hh2]; rfl
    clear h hf hx hh hn
    go_enter Try.func39, Try.ntmps39
    go_wp2_with fail
    refine (mem_has _ b g base size N m _ _ HH.out HF.out HX.out).mono ?_
    rintro e w1 ⟨rfl, hb1⟩
    go_wp2
    go_ret2
    exact ⟨hb1, _, _, _, by rw [hh2]; rfl, by rw [R.out]; exact World.ownsRow_nil _ _ _ _⟩

end Go.Proofs.Ytgfnhledfhhkoaa
