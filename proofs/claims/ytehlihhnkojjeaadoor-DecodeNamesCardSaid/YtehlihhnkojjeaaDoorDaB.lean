/- Layer 9: the program's rows: reckoning. -/
import Derived.Test.YtehlihhnkojjeaaDoorDm
import Derived.Test.YtehlihhnkojjeaaDoorFdA
namespace Go.Proofs.YtehlihhnkojjeaaDoor
open Go.RowKit
set_option linter.unusedVariables false
set_option maxRecDepth 100000

section
variable {P : Program}
theorem wpList_build_atB {ops : Array Oper} {rest : List Oper} {o : Oper} {a : Act} {w : World} {Q : Exit → Act → World → Prop} (hg : o.guard = none) (t : TypeId) (parts : Array (Nat × Operand)) (ho : o.op = .build t parts) (vs : List (Nat × Value)) (hp : (parts.map fun (i, x) => (i, a.eval x)).toList = vs) (row : Array Value) (hb : P.built t vs = some row) (h : wpList P ops Q rest (a.put o.dst (.agg row)) w) : wpList P ops Q (o :: rest) a w :=
  wpList_build hg t parts ho (by rw [hp, hb]; rfl) (by rw [hp, hb]; exact h)
end

def tblB : Array Value := #[.string ⟨#[]⟩, .int .u32 0, .int .u8 0, .string ⟨#[]⟩, .int .u32 0, .int .u8 0, .string ⟨#[]⟩, .int .u32 0, .int .u8 0, .string ⟨#[]⟩, .int .u32 0, .int .u8 0, .string ⟨#[]⟩, .int .u32 0, .int .u8 0, .string ⟨#[]⟩, .int .u32 0, .int .u8 0, .string ⟨#[]⟩, .int .u32 0, .int .u8 0, .string ⟨#[]⟩, .int .u32 0, .int .u8 0, .string ⟨#[]⟩, .int .u32 0, .int .u8 0, .string ⟨#[]⟩, .int .u32 0, .int .u8 0, .string ⟨#[]⟩, .int .u32 0, .int .u8 0, .string ⟨#[]⟩, .int .u32 0, .int .u8 0, .string ⟨#[]⟩, .int .u32 0, .int .u8 0, .string ⟨#[]⟩, .int .u32 0, .int .u8 0, .string ⟨#[]⟩, .int .u32 0, .int .u8 0, .string ⟨#[]⟩, .int .u32 0, .int .u8 0, .string ⟨#[]⟩, .int .u32 0, .int .u8 0, .string ⟨#[]⟩, .int .u32 0, .int .u8 0, .string ⟨#[]⟩, .int .u32 0, .int .u8 0, .string ⟨#[]⟩, .int .u32 0, .int .u8 0, .string ⟨#[]⟩, .int .u32 0, .int .u8 0, .string ⟨#[]⟩, .int .u32 0, .int .u8 0, .string ⟨#[97, 100, 100, 105]⟩, .int .u32 19, .int .u8 2, .string ⟨#[115, 108, 116, 105]⟩, .int .u32 8211, .int .u8 2, .string ⟨#[115, 108, 116, 105, 117]⟩, .int .u32 12307, .int .u8 2, .string ⟨#[120, 111, 114, 105]⟩, .int .u32 16403, .int .u8 2, .string ⟨#[111, 114, 105]⟩, .int .u32 24595, .int .u8 2, .string ⟨#[97, 110, 100, 105]⟩, .int .u32 28691, .int .u8 2, .string ⟨#[115, 108, 108, 105]⟩, .int .u32 4115, .int .u8 5, .string ⟨#[115, 114, 108, 105]⟩, .int .u32 20499, .int .u8 5, .string ⟨#[115, 114, 97, 105]⟩, .int .u32 1073762323, .int .u8 5, .string ⟨#[97, 100, 100, 105, 119]⟩, .int .u32 27, .int .u8 2, .string ⟨#[115, 108, 108, 105, 119]⟩, .int .u32 4123, .int .u8 6, .string ⟨#[115, 114, 108, 105, 119]⟩, .int .u32 20507, .int .u8 6, .string ⟨#[115, 114, 97, 105, 119]⟩, .int .u32 1073762331, .int .u8 6, .string ⟨#[97, 100, 100]⟩, .int .u32 51, .int .u8 7, .string ⟨#[115, 117, 98]⟩, .int .u32 1073741875, .int .u8 7, .string ⟨#[115, 108, 108]⟩, .int .u32 4147, .int .u8 7, .string ⟨#[115, 108, 116]⟩, .int .u32 8243, .int .u8 7, .string ⟨#[115, 108, 116, 117]⟩, .int .u32 12339, .int .u8 7, .string ⟨#[120, 111, 114]⟩, .int .u32 16435, .int .u8 7, .string ⟨#[115, 114, 108]⟩, .int .u32 20531, .int .u8 7, .string ⟨#[115, 114, 97]⟩, .int .u32 1073762355, .int .u8 7, .string ⟨#[111, 114]⟩, .int .u32 24627, .int .u8 7, .string ⟨#[97, 110, 100]⟩, .int .u32 28723, .int .u8 7, .string ⟨#[97, 100, 100, 119]⟩, .int .u32 59, .int .u8 7, .string ⟨#[115, 117, 98, 119]⟩, .int .u32 1073741883, .int .u8 7, .string ⟨#[115, 108, 108, 119]⟩, .int .u32 4155, .int .u8 7, .string ⟨#[115, 114, 108, 119]⟩, .int .u32 20539, .int .u8 7, .string ⟨#[115, 114, 97, 119]⟩, .int .u32 1073762363, .int .u8 7, .string ⟨#[109, 117, 108]⟩, .int .u32 33554483, .int .u8 7, .string ⟨#[109, 117, 108, 104]⟩, .int .u32 33558579, .int .u8 7, .string ⟨#[109, 117, 108, 104, 115, 117]⟩, .int .u32 33562675, .int .u8 7, .string ⟨#[109, 117, 108, 104, 117]⟩, .int .u32 33566771, .int .u8 7, .string ⟨#[100, 105, 118]⟩, .int .u32 33570867, .int .u8 7, .string ⟨#[100, 105, 118, 117]⟩, .int .u32 33574963, .int .u8 7, .string ⟨#[114, 101, 109]⟩, .int .u32 33579059, .int .u8 7, .string ⟨#[114, 101, 109, 117]⟩, .int .u32 33583155, .int .u8 7, .string ⟨#[109, 117, 108, 119]⟩, .int .u32 33554491, .int .u8 7, .string ⟨#[100, 105, 118, 119]⟩, .int .u32 33570875, .int .u8 7, .string ⟨#[100, 105, 118, 117, 119]⟩, .int .u32 33574971, .int .u8 7, .string ⟨#[114, 101, 109, 119]⟩, .int .u32 33579067, .int .u8 7, .string ⟨#[114, 101, 109, 117, 119]⟩, .int .u32 33583163, .int .u8 7]
theorem bldB : Tryd.prog.built 85 [(22, .agg #[.string ⟨#[97, 100, 100, 105]⟩, .int .u32 19, .int .u8 2]), (23, .agg #[.string ⟨#[115, 108, 116, 105]⟩, .int .u32 8211, .int .u8 2]), (24, .agg #[.string ⟨#[115, 108, 116, 105, 117]⟩, .int .u32 12307, .int .u8 2]), (25, .agg #[.string ⟨#[120, 111, 114, 105]⟩, .int .u32 16403, .int .u8 2]), (26, .agg #[.string ⟨#[111, 114, 105]⟩, .int .u32 24595, .int .u8 2]), (27, .agg #[.string ⟨#[97, 110, 100, 105]⟩, .int .u32 28691, .int .u8 2]), (28, .agg #[.string ⟨#[115, 108, 108, 105]⟩, .int .u32 4115, .int .u8 5]), (29, .agg #[.string ⟨#[115, 114, 108, 105]⟩, .int .u32 20499, .int .u8 5]), (30, .agg #[.string ⟨#[115, 114, 97, 105]⟩, .int .u32 1073762323, .int .u8 5]), (31, .agg #[.string ⟨#[97, 100, 100, 105, 119]⟩, .int .u32 27, .int .u8 2]), (32, .agg #[.string ⟨#[115, 108, 108, 105, 119]⟩, .int .u32 4123, .int .u8 6]), (33, .agg #[.string ⟨#[115, 114, 108, 105, 119]⟩, .int .u32 20507, .int .u8 6]), (34, .agg #[.string ⟨#[115, 114, 97, 105, 119]⟩, .int .u32 1073762331, .int .u8 6]), (35, .agg #[.string ⟨#[97, 100, 100]⟩, .int .u32 51, .int .u8 7]), (36, .agg #[.string ⟨#[115, 117, 98]⟩, .int .u32 1073741875, .int .u8 7]), (37, .agg #[.string ⟨#[115, 108, 108]⟩, .int .u32 4147, .int .u8 7]), (38, .agg #[.string ⟨#[115, 108, 116]⟩, .int .u32 8243, .int .u8 7]), (39, .agg #[.string ⟨#[115, 108, 116, 117]⟩, .int .u32 12339, .int .u8 7]), (40, .agg #[.string ⟨#[120, 111, 114]⟩, .int .u32 16435, .int .u8 7]), (41, .agg #[.string ⟨#[115, 114, 108]⟩, .int .u32 20531, .int .u8 7]), (42, .agg #[.string ⟨#[115, 114, 97]⟩, .int .u32 1073762355, .int .u8 7]), (43, .agg #[.string ⟨#[111, 114]⟩, .int .u32 24627, .int .u8 7]), (44, .agg #[.string ⟨#[97, 110, 100]⟩, .int .u32 28723, .int .u8 7]), (45, .agg #[.string ⟨#[97, 100, 100, 119]⟩, .int .u32 59, .int .u8 7]), (46, .agg #[.string ⟨#[115, 117, 98, 119]⟩, .int .u32 1073741883, .int .u8 7]), (47, .agg #[.string ⟨#[115, 108, 108, 119]⟩, .int .u32 4155, .int .u8 7]), (48, .agg #[.string ⟨#[115, 114, 108, 119]⟩, .int .u32 20539, .int .u8 7]), (49, .agg #[.string ⟨#[115, 114, 97, 119]⟩, .int .u32 1073762363, .int .u8 7]), (50, .agg #[.string ⟨#[109, 117, 108]⟩, .int .u32 33554483, .int .u8 7]), (51, .agg #[.string ⟨#[109, 117, 108, 104]⟩, .int .u32 33558579, .int .u8 7]), (52, .agg #[.string ⟨#[109, 117, 108, 104, 115, 117]⟩, .int .u32 33562675, .int .u8 7]), (53, .agg #[.string ⟨#[109, 117, 108, 104, 117]⟩, .int .u32 33566771, .int .u8 7]), (54, .agg #[.string ⟨#[100, 105, 118]⟩, .int .u32 33570867, .int .u8 7]), (55, .agg #[.string ⟨#[100, 105, 118, 117]⟩, .int .u32 33574963, .int .u8 7]), (56, .agg #[.string ⟨#[114, 101, 109]⟩, .int .u32 33579059, .int .u8 7]), (57, .agg #[.string ⟨#[114, 101, 109, 117]⟩, .int .u32 33583155, .int .u8 7]), (58, .agg #[.string ⟨#[109, 117, 108, 119]⟩, .int .u32 33554491, .int .u8 7]), (59, .agg #[.string ⟨#[100, 105, 118, 119]⟩, .int .u32 33570875, .int .u8 7]), (60, .agg #[.string ⟨#[100, 105, 118, 117, 119]⟩, .int .u32 33574971, .int .u8 7]), (61, .agg #[.string ⟨#[114, 101, 109, 119]⟩, .int .u32 33579067, .int .u8 7]), (62, .agg #[.string ⟨#[114, 101, 109, 117, 119]⟩, .int .u32 33583163, .int .u8 7])] = some tblB := by kernel_rfl
theorem idxB (k : Nat) (h1 : 22 ≤ k) (h2 : k ≤ 62) (w : World) : (Instr.index 85 (.agg tblB) (.int .i64 k)).run Tryd.prog w = .ok (.agg #[.string (nameT k), .int .u32 (matT k), .int .u8 (frmT k)]) w :=
  match k, h1, h2 with
  | 22, _, _ => by kernel_rfl
  | 23, _, _ => by kernel_rfl
  | 24, _, _ => by kernel_rfl
  | 25, _, _ => by kernel_rfl
  | 26, _, _ => by kernel_rfl
  | 27, _, _ => by kernel_rfl
  | 28, _, _ => by kernel_rfl
  | 29, _, _ => by kernel_rfl
  | 30, _, _ => by kernel_rfl
  | 31, _, _ => by kernel_rfl
  | 32, _, _ => by kernel_rfl
  | 33, _, _ => by kernel_rfl
  | 34, _, _ => by kernel_rfl
  | 35, _, _ => by kernel_rfl
  | 36, _, _ => by kernel_rfl
  | 37, _, _ => by kernel_rfl
  | 38, _, _ => by kernel_rfl
  | 39, _, _ => by kernel_rfl
  | 40, _, _ => by kernel_rfl
  | 41, _, _ => by kernel_rfl
  | 42, _, _ => by kernel_rfl
  | 43, _, _ => by kernel_rfl
  | 44, _, _ => by kernel_rfl
  | 45, _, _ => by kernel_rfl
  | 46, _, _ => by kernel_rfl
  | 47, _, _ => by kernel_rfl
  | 48, _, _ => by kernel_rfl
  | 49, _, _ => by kernel_rfl
  | 50, _, _ => by kernel_rfl
  | 51, _, _ => by kernel_rfl
  | 52, _, _ => by kernel_rfl
  | 53, _, _ => by kernel_rfl
  | 54, _, _ => by kernel_rfl
  | 55, _, _ => by kernel_rfl
  | 56, _, _ => by kernel_rfl
  | 57, _, _ => by kernel_rfl
  | 58, _, _ => by kernel_rfl
  | 59, _, _ => by kernel_rfl
  | 60, _, _ => by kernel_rfl
  | 61, _, _ => by kernel_rfl
  | 62, _, _ => by kernel_rfl
  | 0, h, _ => absurd h (by omega)
  | 1, h, _ => absurd h (by omega)
  | 2, h, _ => absurd h (by omega)
  | 3, h, _ => absurd h (by omega)
  | 4, h, _ => absurd h (by omega)
  | 5, h, _ => absurd h (by omega)
  | 6, h, _ => absurd h (by omega)
  | 7, h, _ => absurd h (by omega)
  | 8, h, _ => absurd h (by omega)
  | 9, h, _ => absurd h (by omega)
  | 10, h, _ => absurd h (by omega)
  | 11, h, _ => absurd h (by omega)
  | 12, h, _ => absurd h (by omega)
  | 13, h, _ => absurd h (by omega)
  | 14, h, _ => absurd h (by omega)
  | 15, h, _ => absurd h (by omega)
  | 16, h, _ => absurd h (by omega)
  | 17, h, _ => absurd h (by omega)
  | 18, h, _ => absurd h (by omega)
  | 19, h, _ => absurd h (by omega)
  | 20, h, _ => absurd h (by omega)
  | 21, h, _ => absurd h (by omega)
  | k + 63, _, h => absurd h (by omega)

set_option maxHeartbeats 40000000 in
theorem reckoning_at (k : Nat) (nm : ByteArray) (m fr : Int) (hx : ∀ w, (Instr.index 85 (.agg tblB) (.int .i64 k)).run Tryd.prog w = .ok (.agg #[.string nm, .int .u32 m, .int .u8 fr]) w) (w : World) :
    Calls Tryd.prog 32 #[.int .i64 k] w fun e w' => e = .returned (.agg #[.string nm, .int .u32 m, .int .u8 fr]) ∧ Below w.heap.size w w' := by
  go_enter Tryd.func32, Tryd.ntmps32
  go_wp2_with (refine wpList_build_atB rfl 85 _ rfl _ (by simp [Act.eval]) _ bldB ?_)
  exact bodyPost_ret (v := .agg #[.string nm, .int .u32 m, .int .u8 fr]) (by simp [results, Tryd.results32, go_sem]) rfl ⟨rfl, (Below.refl _ _).alloc (Nat.le_refl _) _⟩
theorem reckoning_any (k : Nat) (h1 : 22 ≤ k) (h2 : k ≤ 62) (w : World) :
    Calls Tryd.prog 32 #[.int .i64 k] w fun e w' => e = .returned (.agg #[.string (nameT k), .int .u32 (matT k), .int .u8 (frmT k)]) ∧ Below w.heap.size w w' :=
  reckoning_at k _ _ _ (idxB k h1 h2) w

end Go.Proofs.YtehlihhnkojjeaaDoor
