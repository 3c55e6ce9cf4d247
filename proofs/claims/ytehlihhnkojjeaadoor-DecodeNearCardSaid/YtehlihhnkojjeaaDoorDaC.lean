/- Layer 9: the program's rows: atomic. -/
import Derived.Test.YtehlihhnkojjeaaDoorDm
import Derived.Test.YtehlihhnkojjeaaDoorFdA
namespace Go.Proofs.YtehlihhnkojjeaaDoor
open Go.RowKit
set_option linter.unusedVariables false
set_option maxRecDepth 100000

section
variable {P : Program}
theorem wpList_build_atC {ops : Array Oper} {rest : List Oper} {o : Oper} {a : Act} {w : World} {Q : Exit → Act → World → Prop} (hg : o.guard = none) (t : TypeId) (parts : Array (Nat × Operand)) (ho : o.op = .build t parts) (vs : List (Nat × Value)) (hp : (parts.map fun (i, x) => (i, a.eval x)).toList = vs) (row : Array Value) (hb : P.built t vs = some row) (h : wpList P ops Q rest (a.put o.dst (.agg row)) w) : wpList P ops Q (o :: rest) a w :=
  wpList_build hg t parts ho (by rw [hp, hb]; rfl) (by rw [hp, hb]; exact h)
end

def tblC : Array Value := #[.string ⟨#[]⟩, .int .u32 0, .int .u8 0, .string ⟨#[]⟩, .int .u32 0, .int .u8 0, .string ⟨#[]⟩, .int .u32 0, .int .u8 0, .string ⟨#[]⟩, .int .u32 0, .int .u8 0, .string ⟨#[]⟩, .int .u32 0, .int .u8 0, .string ⟨#[]⟩, .int .u32 0, .int .u8 0, .string ⟨#[]⟩, .int .u32 0, .int .u8 0, .string ⟨#[]⟩, .int .u32 0, .int .u8 0, .string ⟨#[]⟩, .int .u32 0, .int .u8 0, .string ⟨#[]⟩, .int .u32 0, .int .u8 0, .string ⟨#[]⟩, .int .u32 0, .int .u8 0, .string ⟨#[]⟩, .int .u32 0, .int .u8 0, .string ⟨#[]⟩, .int .u32 0, .int .u8 0, .string ⟨#[]⟩, .int .u32 0, .int .u8 0, .string ⟨#[]⟩, .int .u32 0, .int .u8 0, .string ⟨#[]⟩, .int .u32 0, .int .u8 0, .string ⟨#[]⟩, .int .u32 0, .int .u8 0, .string ⟨#[]⟩, .int .u32 0, .int .u8 0, .string ⟨#[]⟩, .int .u32 0, .int .u8 0, .string ⟨#[]⟩, .int .u32 0, .int .u8 0, .string ⟨#[]⟩, .int .u32 0, .int .u8 0, .string ⟨#[]⟩, .int .u32 0, .int .u8 0, .string ⟨#[]⟩, .int .u32 0, .int .u8 0, .string ⟨#[]⟩, .int .u32 0, .int .u8 0, .string ⟨#[]⟩, .int .u32 0, .int .u8 0, .string ⟨#[]⟩, .int .u32 0, .int .u8 0, .string ⟨#[]⟩, .int .u32 0, .int .u8 0, .string ⟨#[]⟩, .int .u32 0, .int .u8 0, .string ⟨#[]⟩, .int .u32 0, .int .u8 0, .string ⟨#[]⟩, .int .u32 0, .int .u8 0, .string ⟨#[]⟩, .int .u32 0, .int .u8 0, .string ⟨#[]⟩, .int .u32 0, .int .u8 0, .string ⟨#[]⟩, .int .u32 0, .int .u8 0, .string ⟨#[]⟩, .int .u32 0, .int .u8 0, .string ⟨#[]⟩, .int .u32 0, .int .u8 0, .string ⟨#[]⟩, .int .u32 0, .int .u8 0, .string ⟨#[]⟩, .int .u32 0, .int .u8 0, .string ⟨#[]⟩, .int .u32 0, .int .u8 0, .string ⟨#[]⟩, .int .u32 0, .int .u8 0, .string ⟨#[]⟩, .int .u32 0, .int .u8 0, .string ⟨#[]⟩, .int .u32 0, .int .u8 0, .string ⟨#[]⟩, .int .u32 0, .int .u8 0, .string ⟨#[]⟩, .int .u32 0, .int .u8 0, .string ⟨#[]⟩, .int .u32 0, .int .u8 0, .string ⟨#[]⟩, .int .u32 0, .int .u8 0, .string ⟨#[]⟩, .int .u32 0, .int .u8 0, .string ⟨#[]⟩, .int .u32 0, .int .u8 0, .string ⟨#[]⟩, .int .u32 0, .int .u8 0, .string ⟨#[]⟩, .int .u32 0, .int .u8 0, .string ⟨#[]⟩, .int .u32 0, .int .u8 0, .string ⟨#[]⟩, .int .u32 0, .int .u8 0, .string ⟨#[]⟩, .int .u32 0, .int .u8 0, .string ⟨#[]⟩, .int .u32 0, .int .u8 0, .string ⟨#[]⟩, .int .u32 0, .int .u8 0, .string ⟨#[]⟩, .int .u32 0, .int .u8 0, .string ⟨#[]⟩, .int .u32 0, .int .u8 0, .string ⟨#[]⟩, .int .u32 0, .int .u8 0, .string ⟨#[]⟩, .int .u32 0, .int .u8 0, .string ⟨#[]⟩, .int .u32 0, .int .u8 0, .string ⟨#[]⟩, .int .u32 0, .int .u8 0, .string ⟨#[]⟩, .int .u32 0, .int .u8 0, .string ⟨#[]⟩, .int .u32 0, .int .u8 0, .string ⟨#[]⟩, .int .u32 0, .int .u8 0, .string ⟨#[108, 114, 46, 119]⟩, .int .u32 268443695, .int .u8 8, .string ⟨#[115, 99, 46, 119]⟩, .int .u32 402661423, .int .u8 9, .string ⟨#[97, 109, 111, 115, 119, 97, 112, 46, 119]⟩, .int .u32 134225967, .int .u8 9, .string ⟨#[97, 109, 111, 97, 100, 100, 46, 119]⟩, .int .u32 8239, .int .u8 9, .string ⟨#[97, 109, 111, 120, 111, 114, 46, 119]⟩, .int .u32 536879151, .int .u8 9, .string ⟨#[97, 109, 111, 97, 110, 100, 46, 119]⟩, .int .u32 1610620975, .int .u8 9, .string ⟨#[97, 109, 111, 111, 114, 46, 119]⟩, .int .u32 1073750063, .int .u8 9, .string ⟨#[97, 109, 111, 109, 105, 110, 46, 119]⟩, .int .u32 2147491887, .int .u8 9, .string ⟨#[97, 109, 111, 109, 97, 120, 46, 119]⟩, .int .u32 2684362799, .int .u8 9, .string ⟨#[97, 109, 111, 109, 105, 110, 117, 46, 119]⟩, .int .u32 3221233711, .int .u8 9, .string ⟨#[97, 109, 111, 109, 97, 120, 117, 46, 119]⟩, .int .u32 3758104623, .int .u8 9, .string ⟨#[108, 114, 46, 100]⟩, .int .u32 268447791, .int .u8 8, .string ⟨#[115, 99, 46, 100]⟩, .int .u32 402665519, .int .u8 9, .string ⟨#[97, 109, 111, 115, 119, 97, 112, 46, 100]⟩, .int .u32 134230063, .int .u8 9, .string ⟨#[97, 109, 111, 97, 100, 100, 46, 100]⟩, .int .u32 12335, .int .u8 9, .string ⟨#[97, 109, 111, 120, 111, 114, 46, 100]⟩, .int .u32 536883247, .int .u8 9, .string ⟨#[97, 109, 111, 97, 110, 100, 46, 100]⟩, .int .u32 1610625071, .int .u8 9, .string ⟨#[97, 109, 111, 111, 114, 46, 100]⟩, .int .u32 1073754159, .int .u8 9, .string ⟨#[97, 109, 111, 109, 105, 110, 46, 100]⟩, .int .u32 2147495983, .int .u8 9, .string ⟨#[97, 109, 111, 109, 97, 120, 46, 100]⟩, .int .u32 2684366895, .int .u8 9, .string ⟨#[97, 109, 111, 109, 105, 110, 117, 46, 100]⟩, .int .u32 3221237807, .int .u8 9, .string ⟨#[97, 109, 111, 109, 97, 120, 117, 46, 100]⟩, .int .u32 3758108719, .int .u8 9]
theorem bldC : Tryd.prog.built 86 [(63, .agg #[.string ⟨#[108, 114, 46, 119]⟩, .int .u32 268443695, .int .u8 8]), (64, .agg #[.string ⟨#[115, 99, 46, 119]⟩, .int .u32 402661423, .int .u8 9]), (65, .agg #[.string ⟨#[97, 109, 111, 115, 119, 97, 112, 46, 119]⟩, .int .u32 134225967, .int .u8 9]), (66, .agg #[.string ⟨#[97, 109, 111, 97, 100, 100, 46, 119]⟩, .int .u32 8239, .int .u8 9]), (67, .agg #[.string ⟨#[97, 109, 111, 120, 111, 114, 46, 119]⟩, .int .u32 536879151, .int .u8 9]), (68, .agg #[.string ⟨#[97, 109, 111, 97, 110, 100, 46, 119]⟩, .int .u32 1610620975, .int .u8 9]), (69, .agg #[.string ⟨#[97, 109, 111, 111, 114, 46, 119]⟩, .int .u32 1073750063, .int .u8 9]), (70, .agg #[.string ⟨#[97, 109, 111, 109, 105, 110, 46, 119]⟩, .int .u32 2147491887, .int .u8 9]), (71, .agg #[.string ⟨#[97, 109, 111, 109, 97, 120, 46, 119]⟩, .int .u32 2684362799, .int .u8 9]), (72, .agg #[.string ⟨#[97, 109, 111, 109, 105, 110, 117, 46, 119]⟩, .int .u32 3221233711, .int .u8 9]), (73, .agg #[.string ⟨#[97, 109, 111, 109, 97, 120, 117, 46, 119]⟩, .int .u32 3758104623, .int .u8 9]), (74, .agg #[.string ⟨#[108, 114, 46, 100]⟩, .int .u32 268447791, .int .u8 8]), (75, .agg #[.string ⟨#[115, 99, 46, 100]⟩, .int .u32 402665519, .int .u8 9]), (76, .agg #[.string ⟨#[97, 109, 111, 115, 119, 97, 112, 46, 100]⟩, .int .u32 134230063, .int .u8 9]), (77, .agg #[.string ⟨#[97, 109, 111, 97, 100, 100, 46, 100]⟩, .int .u32 12335, .int .u8 9]), (78, .agg #[.string ⟨#[97, 109, 111, 120, 111, 114, 46, 100]⟩, .int .u32 536883247, .int .u8 9]), (79, .agg #[.string ⟨#[97, 109, 111, 97, 110, 100, 46, 100]⟩, .int .u32 1610625071, .int .u8 9]), (80, .agg #[.string ⟨#[97, 109, 111, 111, 114, 46, 100]⟩, .int .u32 1073754159, .int .u8 9]), (81, .agg #[.string ⟨#[97, 109, 111, 109, 105, 110, 46, 100]⟩, .int .u32 2147495983, .int .u8 9]), (82, .agg #[.string ⟨#[97, 109, 111, 109, 97, 120, 46, 100]⟩, .int .u32 2684366895, .int .u8 9]), (83, .agg #[.string ⟨#[97, 109, 111, 109, 105, 110, 117, 46, 100]⟩, .int .u32 3221237807, .int .u8 9]), (84, .agg #[.string ⟨#[97, 109, 111, 109, 97, 120, 117, 46, 100]⟩, .int .u32 3758108719, .int .u8 9])] = some tblC := by kernel_rfl
theorem idxC (k : Nat) (h1 : 63 ≤ k) (h2 : k ≤ 84) (w : World) : (Instr.index 86 (.agg tblC) (.int .i64 k)).run Tryd.prog w = .ok (.agg #[.string (nameT k), .int .u32 (matT k), .int .u8 (frmT k)]) w :=
  match k, h1, h2 with
  | 63, _, _ => by kernel_rfl
  | 64, _, _ => by kernel_rfl
  | 65, _, _ => by kernel_rfl
  | 66, _, _ => by kernel_rfl
  | 67, _, _ => by kernel_rfl
  | 68, _, _ => by kernel_rfl
  | 69, _, _ => by kernel_rfl
  | 70, _, _ => by kernel_rfl
  | 71, _, _ => by kernel_rfl
  | 72, _, _ => by kernel_rfl
  | 73, _, _ => by kernel_rfl
  | 74, _, _ => by kernel_rfl
  | 75, _, _ => by kernel_rfl
  | 76, _, _ => by kernel_rfl
  | 77, _, _ => by kernel_rfl
  | 78, _, _ => by kernel_rfl
  | 79, _, _ => by kernel_rfl
  | 80, _, _ => by kernel_rfl
  | 81, _, _ => by kernel_rfl
  | 82, _, _ => by kernel_rfl
  | 83, _, _ => by kernel_rfl
  | 84, _, _ => by kernel_rfl
  | 0, h, _ => absurd h (by omega)
  | 1, h, _ => absurd h (by omega)
  | 2, h, _ => absurd h (by omega)
  | 3, h, _ => absurd h (by omega)
  | 4, h, _ => absurd h (by omega)
  | 5, h, _ => absurd h (by omega)
  | 6, h, _ => absurd h (by omega)
  | 7, h, _ => absurd h (by omega)
  | 8, h, _ => absurd h (by omega)
  | 9, h, _ => absurd h (by omega)
  | 10, h, _ => absurd h (by omega)
  | 11, h, _ => absurd h (by omega)
  | 12, h, _ => absurd h (by omega)
  | 13, h, _ => absurd h (by omega)
  | 14, h, _ => absurd h (by omega)
  | 15, h, _ => absurd h (by omega)
  | 16, h, _ => absurd h (by omega)
  | 17, h, _ => absurd h (by omega)
  | 18, h, _ => absurd h (by omega)
  | 19, h, _ => absurd h (by omega)
  | 20, h, _ => absurd h (by omega)
  | 21, h, _ => absurd h (by omega)
  | 22, h, _ => absurd h (by omega)
  | 23, h, _ => absurd h (by omega)
  | 24, h, _ => absurd h (by omega)
  | 25, h, _ => absurd h (by omega)
  | 26, h, _ => absurd h (by omega)
  | 27, h, _ => absurd h (by omega)
  | 28, h, _ => absurd h (by omega)
  | 29, h, _ => absurd h (by omega)
  | 30, h, _ => absurd h (by omega)
  | 31, h, _ => absurd h (by omega)
  | 32, h, _ => absurd h (by omega)
  | 33, h, _ => absurd h (by omega)
  | 34, h, _ => absurd h (by omega)
  | 35, h, _ => absurd h (by omega)
  | 36, h, _ => absurd h (by omega)
  | 37, h, _ => absurd h (by omega)
  | 38, h, _ => absurd h (by omega)
  | 39, h, _ => absurd h (by omega)
  | 40, h, _ => absurd h (by omega)
  | 41, h, _ => absurd h (by omega)
  | 42, h, _ => absurd h (by omega)
  | 43, h, _ => absurd h (by omega)
  | 44, h, _ => absurd h (by omega)
  | 45, h, _ => absurd h (by omega)
  | 46, h, _ => absurd h (by omega)
  | 47, h, _ => absurd h (by omega)
  | 48, h, _ => absurd h (by omega)
  | 49, h, _ => absurd h (by omega)
  | 50, h, _ => absurd h (by omega)
  | 51, h, _ => absurd h (by omega)
  | 52, h, _ => absurd h (by omega)
  | 53, h, _ => absurd h (by omega)
  | 54, h, _ => absurd h (by omega)
  | 55, h, _ => absurd h (by omega)
  | 56, h, _ => absurd h (by omega)
  | 57, h, _ => absurd h (by omega)
  | 58, h, _ => absurd h (by omega)
  | 59, h, _ => absurd h (by omega)
  | 60, h, _ => absurd h (by omega)
  | 61, h, _ => absurd h (by omega)
  | 62, h, _ => absurd h (by omega)
  | k + 85, _, h => absurd h (by omega)

set_option maxHeartbeats 40000000 in
theorem atomic_at (k : Nat) (nm : ByteArray) (m fr : Int) (hx : ∀ w, (Instr.index 86 (.agg tblC) (.int .i64 k)).run Tryd.prog w = .ok (.agg #[.string nm, .int .u32 m, .int .u8 fr]) w) (w : World) :
    Calls Tryd.prog 33 #[.int .i64 k] w fun e w' => e = .returned (.agg #[.string nm, .int .u32 m, .int .u8 fr]) ∧ Below w.heap.size w w' := by
  go_enter Tryd.func33, Tryd.ntmps33
  go_wp2_with (refine wpList_build_atC rfl 86 _ rfl _ (by simp [Act.eval]) _ bldC ?_)
  exact bodyPost_ret (v := .agg #[.string nm, .int .u32 m, .int .u8 fr]) (by simp [results, Tryd.results33, go_sem]) rfl ⟨rfl, (Below.refl _ _).alloc (Nat.le_refl _) _⟩
theorem atomic_any (k : Nat) (h1 : 63 ≤ k) (h2 : k ≤ 84) (w : World) :
    Calls Tryd.prog 33 #[.int .i64 k] w fun e w' => e = .returned (.agg #[.string (nameT k), .int .u32 (matT k), .int .u8 (frmT k)]) ∧ Below w.heap.size w w' :=
  atomic_at k _ _ _ (idxC k h1 h2) w

end Go.Proofs.YtehlihhnkojjeaaDoor
