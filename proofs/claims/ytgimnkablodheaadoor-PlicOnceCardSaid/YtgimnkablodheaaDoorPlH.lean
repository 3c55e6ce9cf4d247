/- Layer 5: the document's Read: a priority; a context's threshold and its enabled sources. -/
import Derived.Test.YtgimnkablodheaaDoorPlG
namespace Go.Proofs.YtgimnkablodheaaDoor
open Go.RowKit
set_option linter.unusedVariables false

theorem refRead_prio (w : World) (b : Nat) (t : PS) (h : RefP w b t) (k : Nat) (hk : k < 32) (off : Int) (ho : off = 4 * (k : Int)) :
    Calls Tryd.prog 32 #[.pointer (some ⟨b, 0, none⟩), .int .u64 off, .int .i64 4] w (TellsP w (t.prio k) true) := by
  have c0 : w.cell? ⟨b, k * 6, none⟩ = some (.int .u64 (t.prio k)) := h.src (s := k) (j := 0) hk (by omega)
  have h0 : 0 ≤ off := by omega
  have h1 : off < 128 := by omega
  have h2 : (off % 4 == 0) = true := by rw [beq_iff_eq]; omega
  have h4 : IntKind.u64.wrap (off.tdiv 4) = (k : Int) := by rw [Int.tdiv_eq_ediv_of_nonneg h0, IntKind.wrap_u64]; omega
  have i1 : (k : Int) < 32 := by omega
  clear ho h
  go_enter Tryd.func32, Tryd.ntmps32
  go_wp2
  go_ret2
  exact ⟨rfl, rfl⟩

set_option maxRecDepth 100000 in
set_option maxHeartbeats 1000000 in
theorem refRead_floor0 (w : World) (b : Nat) (t : PS) (h : RefP w b t) :
    Calls Tryd.prog 32 #[.pointer (some ⟨b, 0, none⟩), .int .u64 2097152, .int .i64 4] w (TellsP w (t.floor 0) true) := by
  have c0 : w.cell? ⟨b, 192, none⟩ = some (.int .u64 (t.floor 0)) := h.floor_ (c := 0) (by omega)
  clear h
  go_enter Tryd.func32, Tryd.ntmps32
  go_wp2
  go_loop [10] (fun i => i = .int .i64 0) (fun _ => 0)
  case atStart => rfl
  case round =>
    obtain rfl := hrel
    go_wp2
    go_ret2
    exact ⟨rfl, rfl⟩
set_option maxRecDepth 100000 in
set_option maxHeartbeats 1000000 in
theorem refRead_floor1 (w : World) (b : Nat) (t : PS) (h : RefP w b t) :
    Calls Tryd.prog 32 #[.pointer (some ⟨b, 0, none⟩), .int .u64 2101248, .int .i64 4] w (TellsP w (t.floor 1) true) := by
  have c0 : w.cell? ⟨b, 193, none⟩ = some (.int .u64 (t.floor 1)) := h.floor_ (c := 1) (by omega)
  clear h
  go_enter Tryd.func32, Tryd.ntmps32
  go_wp2
  go_loop [10] (fun i => i = .int .i64 0 ∨ i = .int .i64 1) (fun i => (1 - intOf i).toNat)
  case atStart => exact .inl rfl
  case round =>
    rcases hrel with rfl | rfl
    · go_wp2
      exact ⟨.inr rfl, by simp [intOf]⟩
    · go_wp2
      go_ret2
      exact ⟨rfl, rfl⟩

end Go.Proofs.YtgimnkablodheaaDoor
