/- Layer 9: the program's rows: jumpOrMove. -/
import Derived.Test.YtehlihhnkojjeaaDoorDm
import Derived.Test.YtehlihhnkojjeaaDoorFdA
namespace Go.Proofs.YtehlihhnkojjeaaDoor
open Go.RowKit
set_option linter.unusedVariables false
set_option maxRecDepth 100000

section
variable {P : Program}
theorem wpList_build_atA {ops : Array Oper} {rest : List Oper} {o : Oper} {a : Act} {w : World} {Q : Exit → Act → World → Prop} (hg : o.guard = none) (t : TypeId) (parts : Array (Nat × Operand)) (ho : o.op = .build t parts) (vs : List (Nat × Value)) (hp : (parts.map fun (i, x) => (i, a.eval x)).toList = vs) (row : Array Value) (hb : P.built t vs = some row) (h : wpList P ops Q rest (a.put o.dst (.agg row)) w) : wpList P ops Q (o :: rest) a w :=
  wpList_build hg t parts ho (by rw [hp, hb]; rfl) (by rw [hp, hb]; exact h)
end

def tblA : Array Value := #[.string ⟨#[]⟩, .int .u32 0, .int .u8 0, .string ⟨#[108, 117, 105]⟩, .int .u32 55, .int .u8 0, .string ⟨#[97, 117, 105, 112, 99]⟩, .int .u32 23, .int .u8 0, .string ⟨#[106, 97, 108]⟩, .int .u32 111, .int .u8 1, .string ⟨#[106, 97, 108, 114]⟩, .int .u32 103, .int .u8 2, .string ⟨#[98, 101, 113]⟩, .int .u32 99, .int .u8 3, .string ⟨#[98, 110, 101]⟩, .int .u32 4195, .int .u8 3, .string ⟨#[98, 108, 116]⟩, .int .u32 16483, .int .u8 3, .string ⟨#[98, 103, 101]⟩, .int .u32 20579, .int .u8 3, .string ⟨#[98, 108, 116, 117]⟩, .int .u32 24675, .int .u8 3, .string ⟨#[98, 103, 101, 117]⟩, .int .u32 28771, .int .u8 3, .string ⟨#[108, 98]⟩, .int .u32 3, .int .u8 2, .string ⟨#[108, 104]⟩, .int .u32 4099, .int .u8 2, .string ⟨#[108, 119]⟩, .int .u32 8195, .int .u8 2, .string ⟨#[108, 100]⟩, .int .u32 12291, .int .u8 2, .string ⟨#[108, 98, 117]⟩, .int .u32 16387, .int .u8 2, .string ⟨#[108, 104, 117]⟩, .int .u32 20483, .int .u8 2, .string ⟨#[108, 119, 117]⟩, .int .u32 24579, .int .u8 2, .string ⟨#[115, 98]⟩, .int .u32 35, .int .u8 4, .string ⟨#[115, 104]⟩, .int .u32 4131, .int .u8 4, .string ⟨#[115, 119]⟩, .int .u32 8227, .int .u8 4, .string ⟨#[115, 100]⟩, .int .u32 12323, .int .u8 4]
theorem bldA : Tryd.prog.built 84 [(1, .agg #[.string ⟨#[108, 117, 105]⟩, .int .u32 55, .int .u8 0]), (2, .agg #[.string ⟨#[97, 117, 105, 112, 99]⟩, .int .u32 23, .int .u8 0]), (3, .agg #[.string ⟨#[106, 97, 108]⟩, .int .u32 111, .int .u8 1]), (4, .agg #[.string ⟨#[106, 97, 108, 114]⟩, .int .u32 103, .int .u8 2]), (5, .agg #[.string ⟨#[98, 101, 113]⟩, .int .u32 99, .int .u8 3]), (6, .agg #[.string ⟨#[98, 110, 101]⟩, .int .u32 4195, .int .u8 3]), (7, .agg #[.string ⟨#[98, 108, 116]⟩, .int .u32 16483, .int .u8 3]), (8, .agg #[.string ⟨#[98, 103, 101]⟩, .int .u32 20579, .int .u8 3]), (9, .agg #[.string ⟨#[98, 108, 116, 117]⟩, .int .u32 24675, .int .u8 3]), (10, .agg #[.string ⟨#[98, 103, 101, 117]⟩, .int .u32 28771, .int .u8 3]), (11, .agg #[.string ⟨#[108, 98]⟩, .int .u32 3, .int .u8 2]), (12, .agg #[.string ⟨#[108, 104]⟩, .int .u32 4099, .int .u8 2]), (13, .agg #[.string ⟨#[108, 119]⟩, .int .u32 8195, .int .u8 2]), (14, .agg #[.string ⟨#[108, 100]⟩, .int .u32 12291, .int .u8 2]), (15, .agg #[.string ⟨#[108, 98, 117]⟩, .int .u32 16387, .int .u8 2]), (16, .agg #[.string ⟨#[108, 104, 117]⟩, .int .u32 20483, .int .u8 2]), (17, .agg #[.string ⟨#[108, 119, 117]⟩, .int .u32 24579, .int .u8 2]), (18, .agg #[.string ⟨#[115, 98]⟩, .int .u32 35, .int .u8 4]), (19, .agg #[.string ⟨#[115, 104]⟩, .int .u32 4131, .int .u8 4]), (20, .agg #[.string ⟨#[115, 119]⟩, .int .u32 8227, .int .u8 4]), (21, .agg #[.string ⟨#[115, 100]⟩, .int .u32 12323, .int .u8 4])] = some tblA := by kernel_rfl
theorem idxA (k : Nat) (h1 : 1 ≤ k) (h2 : k ≤ 21) (w : World) : (Instr.index 84 (.agg tblA) (.int .i64 k)).run Tryd.prog w = .ok (.agg #[.string (nameT k), .int .u32 (matT k), .int .u8 (frmT k)]) w :=
  match k, h1, h2 with
  | 1, _, _ => by kernel_rfl
  | 2, _, _ => by kernel_rfl
  | 3, _, _ => by kernel_rfl
  | 4, _, _ => by kernel_rfl
  | 5, _, _ => by kernel_rfl
  | 6, _, _ => by kernel_rfl
  | 7, _, _ => by kernel_rfl
  | 8, _, _ => by kernel_rfl
  | 9, _, _ => by kernel_rfl
  | 10, _, _ => by kernel_rfl
  | 11, _, _ => by kernel_rfl
  | 12, _, _ => by kernel_rfl
  | 13, _, _ => by kernel_rfl
  | 14, _, _ => by kernel_rfl
  | 15, _, _ => by kernel_rfl
  | 16, _, _ => by kernel_rfl
  | 17, _, _ => by kernel_rfl
  | 18, _, _ => by kernel_rfl
  | 19, _, _ => by kernel_rfl
  | 20, _, _ => by kernel_rfl
  | 21, _, _ => by kernel_rfl
  | 0, h, _ => absurd h (by omega)
  | k + 22, _, h => absurd h (by omega)

set_option maxHeartbeats 40000000 in
theorem jumpOrMove_at (k : Nat) (nm : ByteArray) (m fr : Int) (hx : ∀ w, (Instr.index 84 (.agg tblA) (.int .i64 k)).run Tryd.prog w = .ok (.agg #[.string nm, .int .u32 m, .int .u8 fr]) w) (w : World) :
    Calls Tryd.prog 31 #[.int .i64 k] w fun e w' => e = .returned (.agg #[.string nm, .int .u32 m, .int .u8 fr]) ∧ Below w.heap.size w w' := by
  go_enter Tryd.func31, Tryd.ntmps31
  go_wp2_with (refine wpList_build_atA rfl 84 _ rfl _ (by simp [Act.eval]) _ bldA ?_)
  exact bodyPost_ret (v := .agg #[.string nm, .int .u32 m, .int .u8 fr]) (by simp [results, Tryd.results31, go_sem]) rfl ⟨rfl, (Below.refl _ _).alloc (Nat.le_refl _) _⟩
theorem jumpOrMove_any (k : Nat) (h1 : 1 ≤ k) (h2 : k ≤ 21) (w : World) :
    Calls Tryd.prog 31 #[.int .i64 k] w fun e w' => e = .returned (.agg #[.string (nameT k), .int .u32 (matT k), .int .u8 (frmT k)]) ∧ Below w.heap.size w w' :=
  jumpOrMove_at k _ _ _ (idxA k h1 h2) w

end Go.Proofs.YtehlihhnkojjeaaDoor
