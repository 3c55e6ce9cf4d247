/- The document's memory of layer 3: new ones, twins. -/
import Derived.Test.YtgfnhledfhhkoaaR3f
import Derived.StillTailTactics
import Derived.Deep.AppendLies
import Derived.Deep.RegionLaw
namespace Go.Proofs.Ytgfnhledfhhkoaa
open Go.RowKit
set_option linter.unusedVariables false

/-- P3.1: which memories there are. -/
def newOk (base size : Int) : Bool := decide (base % 4096 = 0 ∧ size % 4096 = 0 ∧ 4096 ≤ size ∧ size ≤ 67108864 ∧ base ≤ 9223372036854775808 - size)
theorem newOk_fits {base size : Int} (hb : In64 base) (h : newOk base size = true) : Fits base size := by
  unfold newOk at h; rw [decide_eq_true_eq] at h
  have := hb.1
  exact ⟨this, by omega, by omega, by omega⟩

/-- What New answers. -/
def NewEnd (w : World) (base size : Int) (ok : Bool) (e : Ending) (w' : World) : Prop :=
  (ok = false ∧ e = .returned (.tuple #[.pointer none, .int .i64 1]) ∧ w = w') ∨
  (ok = true ∧ e = .returned (.tuple #[.pointer (some ⟨w.heap.size, 0, none⟩), .int .i64 0]) ∧ Below w.heap.size w w' ∧ RefMem w' w.heap.size (w.heap.size + 1) base size 0 fun _ => 0)

set_option maxHeartbeats 1000000 in
theorem refNew_any (base size : Int) (hb : In64 base) (hs : In64 size) (w : World) :
    Calls Try.prog 20 #[.int .u64 base, .int .u64 size] w (NewEnd w base size (newOk base size)) := by
  have b0 := hb.1
  have s0 := hs.1
  by_cases h : newOk base size = true
  · have h' := h
    unfold newOk at h'; rw [decide_eq_true_eq] at h'
    obtain ⟨h1, h2, h3, h4, h5⟩ := h'
    have k1 : (base % 4096 != 0) = false := by simpa using h1
    have k2 : (size % 4096 != 0) = false := by simpa using h2
    have HE : Hid (RefMem (w.alloc (.cells #[.int .u64 base, .int .u64 size, .slice none 0 0] 49)) w.heap.size (w.heap.size + 1) base size 0 fun _ => 0) :=
      ⟨[], ⟨none, 0, heap_alloc_new w _, by simp, .inl rfl⟩, ⟨by simp, by simp⟩, fun _ => rfl, by simp⟩
    have HH := Lib.hid h
    clear h1 h2 h hb hs
    go_enter Try.func20, Try.ntmps20
    go_wp2
    go_ret2
    exact .inr ⟨HH.out, rfl, (Below.refl _ _).alloc (Nat.le_refl _) _, HE.out⟩
  · have hh : newOk base size = false := by simpa using h
    have HH := Lib.hid hh
    unfold newOk at hh; rw [decide_eq_false_iff_not] at hh
    by_cases h1 : base % 4096 = 0
    · have k1 : (base % 4096 != 0) = false := by simpa using h1
      by_cases h2 : size % 4096 = 0
      · have k2 : (size % 4096 != 0) = false := by simpa using h2
        by_cases h3 : size < 4096
        · clear hh h h1 h2 hb hs
          go_enter Try.func20, Try.ntmps20
          go_wp2
          go_ret2
          exact .inl ⟨HH.out, rfl, rfl⟩
        · by_cases h4 : 67108864 < size
          · clear hh h h1 h2 hb hs
            go_enter Try.func20, Try.ntmps20
            go_wp2
            go_ret2
            exact .inl ⟨HH.out, rfl, rfl⟩
          · have h5 : 9223372036854775808 - size < base := by omega
            clear hh h h1 h2 hb hs
            go_enter Try.func20, Try.ntmps20
            go_wp2
            go_ret2
            exact .inl ⟨HH.out, rfl, rfl⟩
      · have k2 : (size % 4096 != 0) = true := by simpa using h2
        clear hh h h1 h2 hb hs
        go_enter Try.func20, Try.ntmps20
        go_wp2
        go_ret2
        exact .inl ⟨HH.out, rfl, rfl⟩
    · have k1 : (base % 4096 != 0) = true := by simpa using h1
      clear hh h h1 hb hs
      go_enter Try.func20, Try.ntmps20
      go_wp2
      go_ret2
      exact .inl ⟨HH.out, rfl, rfl⟩

end Go.Proofs.Ytgfnhledfhhkoaa
