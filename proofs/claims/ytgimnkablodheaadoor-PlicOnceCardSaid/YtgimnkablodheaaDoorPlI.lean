/- Layer 5: the document's Read at no place. -/
import Derived.Test.YtgimnkablodheaaDoorPlH
namespace Go.Proofs.YtgimnkablodheaaDoor
open Go.RowKit
set_option linter.unusedVariables false

/-- No place of a plic: what the walk asks of the tests. -/
structure NoPlic (off : Int) : Prop where
  prio : ¬ (off < 128 ∧ off % 4 = 0)
  pend : ¬ off = 4096
  on0 : ¬ off = 8192
  on1 : ¬ off = 8320
  fl0 : ¬ off = 2097152
  fl1 : ¬ off = 2101248
  cl0 : ¬ off = 2097156
  cl1 : ¬ off = 2101252
theorem neB {a b : Int} (h : ¬ a = b) : (a == b) = false := by simpa using h
set_option maxRecDepth 100000 in
set_option maxHeartbeats 2000000 in
theorem refRead_no (w : World) (b : Nat) (off : Int) (hn : NoPlic off) (h0 : 0 ≤ off) :
    Calls Tryd.prog 32 #[.pointer (some ⟨b, 0, none⟩), .int .u64 off, .int .i64 4] w (TellsP w 0 false) := by
  have hp := hn.prio
  have e1 := neB hn.pend
  have e2 := neB hn.on0
  have e3 := neB hn.on1
  have e4 := neB hn.fl0
  have e5 := neB hn.fl1
  have e6 := neB hn.cl0
  have e7 := neB hn.cl1
  clear hn
  by_cases h1 : off < 128
  · have h2 : (off % 4 == 0) = false := by simp; omega
    clear hp
    go_enter Tryd.func32, Tryd.ntmps32
    go_wp2
    go_loop [10] (fun i => i = .int .i64 0 ∨ i = .int .i64 1 ∨ i = .int .i64 2) (fun i => (2 - intOf i).toNat)
    case atStart => exact .inl rfl
    case round =>
      rcases hrel with rfl | rfl | rfl
      · go_wp2
        exact ⟨.inr (.inl rfl), by simp [intOf]⟩
      · go_wp2
        exact ⟨.inr (.inr rfl), by simp [intOf]⟩
      · go_wp2
        go_ret2
        exact ⟨rfl, rfl⟩
  · have h2 : decide (off < 128) = false := decide_eq_false h1
    clear hp
    go_enter Tryd.func32, Tryd.ntmps32
    go_wp2
    go_loop [10] (fun i => i = .int .i64 0 ∨ i = .int .i64 1 ∨ i = .int .i64 2) (fun i => (2 - intOf i).toNat)
    case atStart => exact .inl rfl
    case round =>
      rcases hrel with rfl | rfl | rfl
      · go_wp2
        exact ⟨.inr (.inl rfl), by simp [intOf]⟩
      · go_wp2
        exact ⟨.inr (.inr rfl), by simp [intOf]⟩
      · go_wp2
        go_ret2
        exact ⟨rfl, rfl⟩

end Go.Proofs.YtgimnkablodheaaDoor
