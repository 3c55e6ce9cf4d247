/- Layer 9: the program's rows: system. -/
import Derived.Test.YtehlihhnkojjeaaDoorDm
import Derived.Test.YtehlihhnkojjeaaDoorFdA
namespace Go.Proofs.YtehlihhnkojjeaaDoor
open Go.RowKit
set_option linter.unusedVariables false
set_option maxRecDepth 100000

section
variable {P : Program}
theorem wpList_build_atD {ops : Array Oper} {rest : List Oper} {o : Oper} {a : Act} {w : World} {Q : Exit → Act → World → Prop} (hg : o.guard = none) (t : TypeId) (parts : Array (Nat × Operand)) (ho : o.op = .build t parts) (vs : List (Nat × Value)) (hp : (parts.map fun (i, x) => (i, a.eval x)).toList = vs) (row : Array Value) (hb : P.built t vs = some row) (h : wpList P ops Q rest (a.put o.dst (.agg row)) w) : wpList P ops Q (o :: rest) a w :=
  wpList_build hg t parts ho (by rw [hp, hb]; rfl) (by rw [hp, hb]; exact h)
end

def tblD : Array Value := #[.string ⟨#[]⟩, .int .u32 0, .int .u8 0, .string ⟨#[]⟩, .int .u32 0, .int .u8 0, .string ⟨#[]⟩, .int .u32 0, .int .u8 0, .string ⟨#[]⟩, .int .u32 0, .int .u8 0, .string ⟨#[]⟩, .int .u32 0, .int .u8 0, .string ⟨#[]⟩, .int .u32 0, .int .u8 0, .string ⟨#[]⟩, .int .u32 0, .int .u8 0, .string ⟨#[]⟩, .int .u32 0, .int .u8 0, .string ⟨#[]⟩, .int .u32 0, .int .u8 0, .string ⟨#[]⟩, .int .u32 0, .int .u8 0, .string ⟨#[]⟩, .int .u32 0, .int .u8 0, .string ⟨#[]⟩, .int .u32 0, .int .u8 0, .string ⟨#[]⟩, .int .u32 0, .int .u8 0, .string ⟨#[]⟩, .int .u32 0, .int .u8 0, .string ⟨#[]⟩, .int .u32 0, .int .u8 0, .string ⟨#[]⟩, .int .u32 0, .int .u8 0, .string ⟨#[]⟩, .int .u32 0, .int .u8 0, .string ⟨#[]⟩, .int .u32 0, .int .u8 0, .string ⟨#[]⟩, .int .u32 0, .int .u8 0, .string ⟨#[]⟩, .int .u32 0, .int .u8 0, .string ⟨#[]⟩, .int .u32 0, .int .u8 0, .string ⟨#[]⟩, .int .u32 0, .int .u8 0, .string ⟨#[]⟩, .int .u32 0, .int .u8 0, .string ⟨#[]⟩, .int .u32 0, .int .u8 0, .string ⟨#[]⟩, .int .u32 0, .int .u8 0, .string ⟨#[]⟩, .int .u32 0, .int .u8 0, .string ⟨#[]⟩, .int .u32 0, .int .u8 0, .string ⟨#[]⟩, .int .u32 0, .int .u8 0, .string ⟨#[]⟩, .int .u32 0, .int .u8 0, .string ⟨#[]⟩, .int .u32 0, .int .u8 0, .string ⟨#[]⟩, .int .u32 0, .int .u8 0, .string ⟨#[]⟩, .int .u32 0, .int .u8 0, .string ⟨#[]⟩, .int .u32 0, .int .u8 0, .string ⟨#[]⟩, .int .u32 0, .int .u8 0, .string ⟨#[]⟩, .int .u32 0, .int .u8 0, .string ⟨#[]⟩, .int .u32 0, .int .u8 0, .string ⟨#[]⟩, .int .u32 0, .int .u8 0, .string ⟨#[]⟩, .int .u32 0, .int .u8 0, .string ⟨#[]⟩, .int .u32 0, .int .u8 0, .string ⟨#[]⟩, .int .u32 0, .int .u8 0, .string ⟨#[]⟩, .int .u32 0, .int .u8 0, .string ⟨#[]⟩, .int .u32 0, .int .u8 0, .string ⟨#[]⟩, .int .u32 0, .int .u8 0, .string ⟨#[]⟩, .int .u32 0, .int .u8 0, .string ⟨#[]⟩, .int .u32 0, .int .u8 0, .string ⟨#[]⟩, .int .u32 0, .int .u8 0, .string ⟨#[]⟩, .int .u32 0, .int .u8 0, .string ⟨#[]⟩, .int .u32 0, .int .u8 0, .string ⟨#[]⟩, .int .u32 0, .int .u8 0, .string ⟨#[]⟩, .int .u32 0, .int .u8 0, .string ⟨#[]⟩, .int .u32 0, .int .u8 0, .string ⟨#[]⟩, .int .u32 0, .int .u8 0, .string ⟨#[]⟩, .int .u32 0, .int .u8 0, .string ⟨#[]⟩, .int .u32 0, .int .u8 0, .string ⟨#[]⟩, .int .u32 0, .int .u8 0, .string ⟨#[]⟩, .int .u32 0, .int .u8 0, .string ⟨#[]⟩, .int .u32 0, .int .u8 0, .string ⟨#[]⟩, .int .u32 0, .int .u8 0, .string ⟨#[]⟩, .int .u32 0, .int .u8 0, .string ⟨#[]⟩, .int .u32 0, .int .u8 0, .string ⟨#[]⟩, .int .u32 0, .int .u8 0, .string ⟨#[]⟩, .int .u32 0, .int .u8 0, .string ⟨#[]⟩, .int .u32 0, .int .u8 0, .string ⟨#[]⟩, .int .u32 0, .int .u8 0, .string ⟨#[]⟩, .int .u32 0, .int .u8 0, .string ⟨#[]⟩, .int .u32 0, .int .u8 0, .string ⟨#[]⟩, .int .u32 0, .int .u8 0, .string ⟨#[]⟩, .int .u32 0, .int .u8 0, .string ⟨#[]⟩, .int .u32 0, .int .u8 0, .string ⟨#[]⟩, .int .u32 0, .int .u8 0, .string ⟨#[]⟩, .int .u32 0, .int .u8 0, .string ⟨#[]⟩, .int .u32 0, .int .u8 0, .string ⟨#[]⟩, .int .u32 0, .int .u8 0, .string ⟨#[]⟩, .int .u32 0, .int .u8 0, .string ⟨#[]⟩, .int .u32 0, .int .u8 0, .string ⟨#[]⟩, .int .u32 0, .int .u8 0, .string ⟨#[]⟩, .int .u32 0, .int .u8 0, .string ⟨#[]⟩, .int .u32 0, .int .u8 0, .string ⟨#[]⟩, .int .u32 0, .int .u8 0, .string ⟨#[]⟩, .int .u32 0, .int .u8 0, .string ⟨#[]⟩, .int .u32 0, .int .u8 0, .string ⟨#[]⟩, .int .u32 0, .int .u8 0, .string ⟨#[]⟩, .int .u32 0, .int .u8 0, .string ⟨#[]⟩, .int .u32 0, .int .u8 0, .string ⟨#[]⟩, .int .u32 0, .int .u8 0, .string ⟨#[102, 101, 110, 99, 101]⟩, .int .u32 15, .int .u8 2, .string ⟨#[102, 101, 110, 99, 101, 46, 105]⟩, .int .u32 4111, .int .u8 2, .string ⟨#[101, 99, 97, 108, 108]⟩, .int .u32 115, .int .u8 10, .string ⟨#[101, 98, 114, 101, 97, 107]⟩, .int .u32 1048691, .int .u8 10, .string ⟨#[115, 114, 101, 116]⟩, .int .u32 270532723, .int .u8 10, .string ⟨#[109, 114, 101, 116]⟩, .int .u32 807403635, .int .u8 10, .string ⟨#[119, 102, 105]⟩, .int .u32 273678451, .int .u8 10, .string ⟨#[115, 102, 101, 110, 99, 101, 46, 118, 109, 97]⟩, .int .u32 301990003, .int .u8 11, .string ⟨#[104, 102, 101, 110, 99, 101, 46, 118, 118, 109, 97]⟩, .int .u32 570425459, .int .u8 11, .string ⟨#[104, 102, 101, 110, 99, 101, 46, 103, 118, 109, 97]⟩, .int .u32 1644167283, .int .u8 11, .string ⟨#[99, 115, 114, 114, 119]⟩, .int .u32 4211, .int .u8 12, .string ⟨#[99, 115, 114, 114, 115]⟩, .int .u32 8307, .int .u8 12, .string ⟨#[99, 115, 114, 114, 99]⟩, .int .u32 12403, .int .u8 12, .string ⟨#[99, 115, 114, 114, 119, 105]⟩, .int .u32 20595, .int .u8 13, .string ⟨#[99, 115, 114, 114, 115, 105]⟩, .int .u32 24691, .int .u8 13, .string ⟨#[99, 115, 114, 114, 99, 105]⟩, .int .u32 28787, .int .u8 13, .string ⟨#[104, 108, 118, 46, 98]⟩, .int .u32 1610629235, .int .u8 14, .string ⟨#[104, 108, 118, 46, 98, 117]⟩, .int .u32 1611677811, .int .u8 14, .string ⟨#[104, 108, 118, 46, 104]⟩, .int .u32 1677738099, .int .u8 14, .string ⟨#[104, 108, 118, 46, 104, 117]⟩, .int .u32 1678786675, .int .u8 14, .string ⟨#[104, 108, 118, 120, 46, 104, 117]⟩, .int .u32 1680883827, .int .u8 14, .string ⟨#[104, 108, 118, 46, 119]⟩, .int .u32 1744846963, .int .u8 14, .string ⟨#[104, 108, 118, 46, 119, 117]⟩, .int .u32 1745895539, .int .u8 14, .string ⟨#[104, 108, 118, 120, 46, 119, 117]⟩, .int .u32 1747992691, .int .u8 14, .string ⟨#[104, 108, 118, 46, 100]⟩, .int .u32 1811955827, .int .u8 14, .string ⟨#[104, 115, 118, 46, 98]⟩, .int .u32 1644183667, .int .u8 11, .string ⟨#[104, 115, 118, 46, 104]⟩, .int .u32 1711292531, .int .u8 11, .string ⟨#[104, 115, 118, 46, 119]⟩, .int .u32 1778401395, .int .u8 11, .string ⟨#[104, 115, 118, 46, 100]⟩, .int .u32 1845510259, .int .u8 11]
theorem bldD : Tryd.prog.built 87 [(85, .agg #[.string ⟨#[102, 101, 110, 99, 101]⟩, .int .u32 15, .int .u8 2]), (86, .agg #[.string ⟨#[102, 101, 110, 99, 101, 46, 105]⟩, .int .u32 4111, .int .u8 2]), (87, .agg #[.string ⟨#[101, 99, 97, 108, 108]⟩, .int .u32 115, .int .u8 10]), (88, .agg #[.string ⟨#[101, 98, 114, 101, 97, 107]⟩, .int .u32 1048691, .int .u8 10]), (89, .agg #[.string ⟨#[115, 114, 101, 116]⟩, .int .u32 270532723, .int .u8 10]), (90, .agg #[.string ⟨#[109, 114, 101, 116]⟩, .int .u32 807403635, .int .u8 10]), (91, .agg #[.string ⟨#[119, 102, 105]⟩, .int .u32 273678451, .int .u8 10]), (92, .agg #[.string ⟨#[115, 102, 101, 110, 99, 101, 46, 118, 109, 97]⟩, .int .u32 301990003, .int .u8 11]), (93, .agg #[.string ⟨#[104, 102, 101, 110, 99, 101, 46, 118, 118, 109, 97]⟩, .int .u32 570425459, .int .u8 11]), (94, .agg #[.string ⟨#[104, 102, 101, 110, 99, 101, 46, 103, 118, 109, 97]⟩, .int .u32 1644167283, .int .u8 11]), (95, .agg #[.string ⟨#[99, 115, 114, 114, 119]⟩, .int .u32 4211, .int .u8 12]), (96, .agg #[.string ⟨#[99, 115, 114, 114, 115]⟩, .int .u32 8307, .int .u8 12]), (97, .agg #[.string ⟨#[99, 115, 114, 114, 99]⟩, .int .u32 12403, .int .u8 12]), (98, .agg #[.string ⟨#[99, 115, 114, 114, 119, 105]⟩, .int .u32 20595, .int .u8 13]), (99, .agg #[.string ⟨#[99, 115, 114, 114, 115, 105]⟩, .int .u32 24691, .int .u8 13]), (100, .agg #[.string ⟨#[99, 115, 114, 114, 99, 105]⟩, .int .u32 28787, .int .u8 13]), (101, .agg #[.string ⟨#[104, 108, 118, 46, 98]⟩, .int .u32 1610629235, .int .u8 14]), (102, .agg #[.string ⟨#[104, 108, 118, 46, 98, 117]⟩, .int .u32 1611677811, .int .u8 14]), (103, .agg #[.string ⟨#[104, 108, 118, 46, 104]⟩, .int .u32 1677738099, .int .u8 14]), (104, .agg #[.string ⟨#[104, 108, 118, 46, 104, 117]⟩, .int .u32 1678786675, .int .u8 14]), (105, .agg #[.string ⟨#[104, 108, 118, 120, 46, 104, 117]⟩, .int .u32 1680883827, .int .u8 14]), (106, .agg #[.string ⟨#[104, 108, 118, 46, 119]⟩, .int .u32 1744846963, .int .u8 14]), (107, .agg #[.string ⟨#[104, 108, 118, 46, 119, 117]⟩, .int .u32 1745895539, .int .u8 14]), (108, .agg #[.string ⟨#[104, 108, 118, 120, 46, 119, 117]⟩, .int .u32 1747992691, .int .u8 14]), (109, .agg #[.string ⟨#[104, 108, 118, 46, 100]⟩, .int .u32 1811955827, .int .u8 14]), (110, .agg #[.string ⟨#[104, 115, 118, 46, 98]⟩, .int .u32 1644183667, .int .u8 11]), (111, .agg #[.string ⟨#[104, 115, 118, 46, 104]⟩, .int .u32 1711292531, .int .u8 11]), (112, .agg #[.string ⟨#[104, 115, 118, 46, 119]⟩, .int .u32 1778401395, .int .u8 11]), (113, .agg #[.string ⟨#[104, 115, 118, 46, 100]⟩, .int .u32 1845510259, .int .u8 11])] = some tblD := by kernel_rfl
theorem idxD (k : Nat) (h1 : 85 ≤ k) (h2 : k ≤ 113) (w : World) : (Instr.index 87 (.agg tblD) (.int .i64 k)).run Tryd.prog w = .ok (.agg #[.string (nameT k), .int .u32 (matT k), .int .u8 (frmT k)]) w :=
  match k, h1, h2 with
  | 85, _, _ => by kernel_rfl
  | 86, _, _ => by kernel_rfl
  | 87, _, _ => by kernel_rfl
  | 88, _, _ => by kernel_rfl
  | 89, _, _ => by kernel_rfl
  | 90, _, _ => by kernel_rfl
  | 91, _, _ => by kernel_rfl
  | 92, _, _ => by kernel_rfl
  | 93, _, _ => by kernel_rfl
  | 94, _, _ => by kernel_rfl
  | 95, _, _ => by kernel_rfl
  | 96, _, _ => by kernel_rfl
  | 97, _, _ => by kernel_rfl
  | 98, _, _ => by kernel_rfl
  | 99, _, _ => by kernel_rfl
  | 100, _, _ => by kernel_rfl
  | 101, _, _ => by kernel_rfl
  | 102, _, _ => by kernel_rfl
  | 103, _, _ => by kernel_rfl
  | 104, _, _ => by kernel_rfl
  | 105, _, _ => by kernel_rfl
  | 106, _, _ => by kernel_rfl
  | 107, _, _ => by kernel_rfl
  | 108, _, _ => by kernel_rfl
  | 109, _, _ => by kernel_rfl
  | 110, _, _ => by kernel_rfl
  | 111, _, _ => by kernel_rfl
  | 112, _, _ => by kernel_rfl
  | 113, _, _ => by kernel_rfl
  | 0, h, _ => absurd h (by omega)
  | 1, h, _ => absurd h (by omega)
  | 2, h, _ => absurd h (by omega)
  | 3, h, _ => absurd h (by omega)
  | 4, h, _ => absurd h (by omega)
  | 5, h, _ => absurd h (by omega)
  | 6, h, _ => absurd h (by omega)
  | 7, h, _ => absurd h (by omega)
  | 8, h, _ => absurd h (by omega)
  | 9, h, _ => absurd h (by omega)
  | 10, h, _ => absurd h (by omega)
  | 11, h, _ => absurd h (by omega)
  | 12, h, _ => absurd h (by omega)
  | 13, h, _ => absurd h (by omega)
  | 14, h, _ => absurd h (by omega)
  | 15, h, _ => absurd h (by omega)
  | 16, h, _ => absurd h (by omega)
  | 17, h, _ => absurd h (by omega)
  | 18, h, _ => absurd h (by omega)
  | 19, h, _ => absurd h (by omega)
  | 20, h, _ => absurd h (by omega)
  | 21, h, _ => absurd h (by omega)
  | 22, h, _ => absurd h (by omega)
  | 23, h, _ => absurd h (by omega)
  | 24, h, _ => absurd h (by omega)
  | 25, h, _ => absurd h (by omega)
  | 26, h, _ => absurd h (by omega)
  | 27, h, _ => absurd h (by omega)
  | 28, h, _ => absurd h (by omega)
  | 29, h, _ => absurd h (by omega)
  | 30, h, _ => absurd h (by omega)
  | 31, h, _ => absurd h (by omega)
  | 32, h, _ => absurd h (by omega)
  | 33, h, _ => absurd h (by omega)
  | 34, h, _ => absurd h (by omega)
  | 35, h, _ => absurd h (by omega)
  | 36, h, _ => absurd h (by omega)
  | 37, h, _ => absurd h (by omega)
  | 38, h, _ => absurd h (by omega)
  | 39, h, _ => absurd h (by omega)
  | 40, h, _ => absurd h (by omega)
  | 41, h, _ => absurd h (by omega)
  | 42, h, _ => absurd h (by omega)
  | 43, h, _ => absurd h (by omega)
  | 44, h, _ => absurd h (by omega)
  | 45, h, _ => absurd h (by omega)
  | 46, h, _ => absurd h (by omega)
  | 47, h, _ => absurd h (by omega)
  | 48, h, _ => absurd h (by omega)
  | 49, h, _ => absurd h (by omega)
  | 50, h, _ => absurd h (by omega)
  | 51, h, _ => absurd h (by omega)
  | 52, h, _ => absurd h (by omega)
  | 53, h, _ => absurd h (by omega)
  | 54, h, _ => absurd h (by omega)
  | 55, h, _ => absurd h (by omega)
  | 56, h, _ => absurd h (by omega)
  | 57, h, _ => absurd h (by omega)
  | 58, h, _ => absurd h (by omega)
  | 59, h, _ => absurd h (by omega)
  | 60, h, _ => absurd h (by omega)
  | 61, h, _ => absurd h (by omega)
  | 62, h, _ => absurd h (by omega)
  | 63, h, _ => absurd h (by omega)
  | 64, h, _ => absurd h (by omega)
  | 65, h, _ => absurd h (by omega)
  | 66, h, _ => absurd h (by omega)
  | 67, h, _ => absurd h (by omega)
  | 68, h, _ => absurd h (by omega)
  | 69, h, _ => absurd h (by omega)
  | 70, h, _ => absurd h (by omega)
  | 71, h, _ => absurd h (by omega)
  | 72, h, _ => absurd h (by omega)
  | 73, h, _ => absurd h (by omega)
  | 74, h, _ => absurd h (by omega)
  | 75, h, _ => absurd h (by omega)
  | 76, h, _ => absurd h (by omega)
  | 77, h, _ => absurd h (by omega)
  | 78, h, _ => absurd h (by omega)
  | 79, h, _ => absurd h (by omega)
  | 80, h, _ => absurd h (by omega)
  | 81, h, _ => absurd h (by omega)
  | 82, h, _ => absurd h (by omega)
  | 83, h, _ => absurd h (by omega)
  | 84, h, _ => absurd h (by omega)
  | k + 114, _, h => absurd h (by omega)

set_option maxHeartbeats 40000000 in
theorem system_at (k : Nat) (nm : ByteArray) (m fr : Int) (hx : ∀ w, (Instr.index 87 (.agg tblD) (.int .i64 k)).run Tryd.prog w = .ok (.agg #[.string nm, .int .u32 m, .int .u8 fr]) w) (w : World) :
    Calls Tryd.prog 34 #[.int .i64 k] w fun e w' => e = .returned (.agg #[.string nm, .int .u32 m, .int .u8 fr]) ∧ Below w.heap.size w w' := by
  go_enter Tryd.func34, Tryd.ntmps34
  go_wp2_with (refine wpList_build_atD rfl 87 _ rfl _ (by simp [Act.eval]) _ bldD ?_)
  exact bodyPost_ret (v := .agg #[.string nm, .int .u32 m, .int .u8 fr]) (by simp [results, Tryd.results34, go_sem]) rfl ⟨rfl, (Below.refl _ _).alloc (Nat.le_refl _) _⟩
theorem system_any (k : Nat) (h1 : 85 ≤ k) (h2 : k ≤ 113) (w : World) :
    Calls Tryd.prog 34 #[.int .i64 k] w fun e w' => e = .returned (.agg #[.string (nameT k), .int .u32 (matT k), .int .u8 (frmT k)]) ∧ Below w.heap.size w w' :=
  system_at k _ _ _ (idxD k h1 h2) w

end Go.Proofs.YtehlihhnkojjeaaDoor
