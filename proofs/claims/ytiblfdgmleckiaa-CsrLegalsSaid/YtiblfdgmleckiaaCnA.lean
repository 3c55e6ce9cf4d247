/- Layer 11: the program's table (written by gen_cna.py). -/
import Derived.Test.YtiblfdgmleckiaaCnM
import Derived.Test.YtiblfdgmleckiaaRows
import Derived.WalkSmall
import Derived.Laws.Rows
import Derived.Laws.Tables
import Derived.WalkLawsBesides
namespace Go.Proofs.Ytiblfdgmleckiaa
open Go.RowKit
set_option linter.unusedVariables false
set_option maxRecDepth 100000

section
variable {P : Program}
theorem wpList_build_atA {ops : Array Oper} {rest : List Oper} {o : Oper} {a : Act} {w : World} {Q : Exit → Act → World → Prop} (hg : o.guard = none) (t : TypeId) (parts : Array (Nat × Operand)) (ho : o.op = .build t parts) (vs : List (Nat × Value)) (hp : (parts.map fun (i, x) => (i, a.eval x)).toList = vs) (row : Array Value) (hb : P.built t vs = some row) (h : wpList P ops Q rest (a.put o.dst (.agg row)) w) : wpList P ops Q (o :: rest) a w :=
  wpList_build hg t parts ho (by rw [hp, hb]; rfl) (by rw [hp, hb]; exact h)
end

def tblR : Array Value := #[.int .i64 256, .string ⟨#[115, 115, 116, 97, 116, 117, 115]⟩, .int .i64 260, .string ⟨#[115, 105, 101]⟩, .int .i64 261, .string ⟨#[115, 116, 118, 101, 99]⟩, .int .i64 262, .string ⟨#[115, 99, 111, 117, 110, 116, 101, 114, 101, 110]⟩, .int .i64 320, .string ⟨#[115, 115, 99, 114, 97, 116, 99, 104]⟩, .int .i64 321, .string ⟨#[115, 101, 112, 99]⟩, .int .i64 322, .string ⟨#[115, 99, 97, 117, 115, 101]⟩, .int .i64 323, .string ⟨#[115, 116, 118, 97, 108]⟩, .int .i64 324, .string ⟨#[115, 105, 112]⟩, .int .i64 384, .string ⟨#[115, 97, 116, 112]⟩, .int .i64 512, .string ⟨#[118, 115, 115, 116, 97, 116, 117, 115]⟩, .int .i64 516, .string ⟨#[118, 115, 105, 101]⟩, .int .i64 517, .string ⟨#[118, 115, 116, 118, 101, 99]⟩, .int .i64 576, .string ⟨#[118, 115, 115, 99, 114, 97, 116, 99, 104]⟩, .int .i64 577, .string ⟨#[118, 115, 101, 112, 99]⟩, .int .i64 578, .string ⟨#[118, 115, 99, 97, 117, 115, 101]⟩, .int .i64 579, .string ⟨#[118, 115, 116, 118, 97, 108]⟩, .int .i64 580, .string ⟨#[118, 115, 105, 112]⟩, .int .i64 640, .string ⟨#[118, 115, 97, 116, 112]⟩, .int .i64 768, .string ⟨#[109, 115, 116, 97, 116, 117, 115]⟩, .int .i64 769, .string ⟨#[109, 105, 115, 97]⟩, .int .i64 770, .string ⟨#[109, 101, 100, 101, 108, 101, 103]⟩, .int .i64 771, .string ⟨#[109, 105, 100, 101, 108, 101, 103]⟩, .int .i64 772, .string ⟨#[109, 105, 101]⟩, .int .i64 773, .string ⟨#[109, 116, 118, 101, 99]⟩, .int .i64 774, .string ⟨#[109, 99, 111, 117, 110, 116, 101, 114, 101, 110]⟩, .int .i64 832, .string ⟨#[109, 115, 99, 114, 97, 116, 99, 104]⟩, .int .i64 833, .string ⟨#[109, 101, 112, 99]⟩, .int .i64 834, .string ⟨#[109, 99, 97, 117, 115, 101]⟩, .int .i64 835, .string ⟨#[109, 116, 118, 97, 108]⟩, .int .i64 836, .string ⟨#[109, 105, 112]⟩, .int .i64 842, .string ⟨#[109, 116, 105, 110, 115, 116]⟩, .int .i64 843, .string ⟨#[109, 116, 118, 97, 108, 50]⟩, .int .i64 1536, .string ⟨#[104, 115, 116, 97, 116, 117, 115]⟩, .int .i64 1538, .string ⟨#[104, 101, 100, 101, 108, 101, 103]⟩, .int .i64 1539, .string ⟨#[104, 105, 100, 101, 108, 101, 103]⟩, .int .i64 1540, .string ⟨#[104, 105, 101]⟩, .int .i64 1541, .string ⟨#[104, 116, 105, 109, 101, 100, 101, 108, 116, 97]⟩, .int .i64 1542, .string ⟨#[104, 99, 111, 117, 110, 116, 101, 114, 101, 110]⟩, .int .i64 1543, .string ⟨#[104, 103, 101, 105, 101]⟩, .int .i64 1603, .string ⟨#[104, 116, 118, 97, 108]⟩, .int .i64 1604, .string ⟨#[104, 105, 112]⟩, .int .i64 1605, .string ⟨#[104, 118, 105, 112]⟩, .int .i64 1610, .string ⟨#[104, 116, 105, 110, 115, 116]⟩, .int .i64 1664, .string ⟨#[104, 103, 97, 116, 112]⟩, .int .i64 2816, .string ⟨#[109, 99, 121, 99, 108, 101]⟩, .int .i64 2818, .string ⟨#[109, 105, 110, 115, 116, 114, 101, 116]⟩, .int .i64 3072, .string ⟨#[99, 121, 99, 108, 101]⟩, .int .i64 3073, .string ⟨#[116, 105, 109, 101]⟩, .int .i64 3074, .string ⟨#[105, 110, 115, 116, 114, 101, 116]⟩, .int .i64 3602, .string ⟨#[104, 103, 101, 105, 112]⟩, .int .i64 3857, .string ⟨#[109, 118, 101, 110, 100, 111, 114, 105, 100]⟩, .int .i64 3858, .string ⟨#[109, 97, 114, 99, 104, 105, 100]⟩, .int .i64 3859, .string ⟨#[109, 105, 109, 112, 105, 100]⟩, .int .i64 3860, .string ⟨#[109, 104, 97, 114, 116, 105, 100]⟩, .int .i64 3861, .string ⟨#[109, 99, 111, 110, 102, 105, 103, 112, 116, 114]⟩]
theorem bldR : Try.prog.built 70 [(0, .agg #[.int .i64 256, .string ⟨#[115, 115, 116, 97, 116, 117, 115]⟩]), (1, .agg #[.int .i64 260, .string ⟨#[115, 105, 101]⟩]), (2, .agg #[.int .i64 261, .string ⟨#[115, 116, 118, 101, 99]⟩]), (3, .agg #[.int .i64 262, .string ⟨#[115, 99, 111, 117, 110, 116, 101, 114, 101, 110]⟩]), (4, .agg #[.int .i64 320, .string ⟨#[115, 115, 99, 114, 97, 116, 99, 104]⟩]), (5, .agg #[.int .i64 321, .string ⟨#[115, 101, 112, 99]⟩]), (6, .agg #[.int .i64 322, .string ⟨#[115, 99, 97, 117, 115, 101]⟩]), (7, .agg #[.int .i64 323, .string ⟨#[115, 116, 118, 97, 108]⟩]), (8, .agg #[.int .i64 324, .string ⟨#[115, 105, 112]⟩]), (9, .agg #[.int .i64 384, .string ⟨#[115, 97, 116, 112]⟩]), (10, .agg #[.int .i64 512, .string ⟨#[118, 115, 115, 116, 97, 116, 117, 115]⟩]), (11, .agg #[.int .i64 516, .string ⟨#[118, 115, 105, 101]⟩]), (12, .agg #[.int .i64 517, .string ⟨#[118, 115, 116, 118, 101, 99]⟩]), (13, .agg #[.int .i64 576, .string ⟨#[118, 115, 115, 99, 114, 97, 116, 99, 104]⟩]), (14, .agg #[.int .i64 577, .string ⟨#[118, 115, 101, 112, 99]⟩]), (15, .agg #[.int .i64 578, .string ⟨#[118, 115, 99, 97, 117, 115, 101]⟩]), (16, .agg #[.int .i64 579, .string ⟨#[118, 115, 116, 118, 97, 108]⟩]), (17, .agg #[.int .i64 580, .string ⟨#[118, 115, 105, 112]⟩]), (18, .agg #[.int .i64 640, .string ⟨#[118, 115, 97, 116, 112]⟩]), (19, .agg #[.int .i64 768, .string ⟨#[109, 115, 116, 97, 116, 117, 115]⟩]), (20, .agg #[.int .i64 769, .string ⟨#[109, 105, 115, 97]⟩]), (21, .agg #[.int .i64 770, .string ⟨#[109, 101, 100, 101, 108, 101, 103]⟩]), (22, .agg #[.int .i64 771, .string ⟨#[109, 105, 100, 101, 108, 101, 103]⟩]), (23, .agg #[.int .i64 772, .string ⟨#[109, 105, 101]⟩]), (24, .agg #[.int .i64 773, .string ⟨#[109, 116, 118, 101, 99]⟩]), (25, .agg #[.int .i64 774, .string ⟨#[109, 99, 111, 117, 110, 116, 101, 114, 101, 110]⟩]), (26, .agg #[.int .i64 832, .string ⟨#[109, 115, 99, 114, 97, 116, 99, 104]⟩]), (27, .agg #[.int .i64 833, .string ⟨#[109, 101, 112, 99]⟩]), (28, .agg #[.int .i64 834, .string ⟨#[109, 99, 97, 117, 115, 101]⟩]), (29, .agg #[.int .i64 835, .string ⟨#[109, 116, 118, 97, 108]⟩]), (30, .agg #[.int .i64 836, .string ⟨#[109, 105, 112]⟩]), (31, .agg #[.int .i64 842, .string ⟨#[109, 116, 105, 110, 115, 116]⟩]), (32, .agg #[.int .i64 843, .string ⟨#[109, 116, 118, 97, 108, 50]⟩]), (33, .agg #[.int .i64 1536, .string ⟨#[104, 115, 116, 97, 116, 117, 115]⟩]), (34, .agg #[.int .i64 1538, .string ⟨#[104, 101, 100, 101, 108, 101, 103]⟩]), (35, .agg #[.int .i64 1539, .string ⟨#[104, 105, 100, 101, 108, 101, 103]⟩]), (36, .agg #[.int .i64 1540, .string ⟨#[104, 105, 101]⟩]), (37, .agg #[.int .i64 1541, .string ⟨#[104, 116, 105, 109, 101, 100, 101, 108, 116, 97]⟩]), (38, .agg #[.int .i64 1542, .string ⟨#[104, 99, 111, 117, 110, 116, 101, 114, 101, 110]⟩]), (39, .agg #[.int .i64 1543, .string ⟨#[104, 103, 101, 105, 101]⟩]), (40, .agg #[.int .i64 1603, .string ⟨#[104, 116, 118, 97, 108]⟩]), (41, .agg #[.int .i64 1604, .string ⟨#[104, 105, 112]⟩]), (42, .agg #[.int .i64 1605, .string ⟨#[104, 118, 105, 112]⟩]), (43, .agg #[.int .i64 1610, .string ⟨#[104, 116, 105, 110, 115, 116]⟩]), (44, .agg #[.int .i64 1664, .string ⟨#[104, 103, 97, 116, 112]⟩]), (45, .agg #[.int .i64 2816, .string ⟨#[109, 99, 121, 99, 108, 101]⟩]), (46, .agg #[.int .i64 2818, .string ⟨#[109, 105, 110, 115, 116, 114, 101, 116]⟩]), (47, .agg #[.int .i64 3072, .string ⟨#[99, 121, 99, 108, 101]⟩]), (48, .agg #[.int .i64 3073, .string ⟨#[116, 105, 109, 101]⟩]), (49, .agg #[.int .i64 3074, .string ⟨#[105, 110, 115, 116, 114, 101, 116]⟩]), (50, .agg #[.int .i64 3602, .string ⟨#[104, 103, 101, 105, 112]⟩]), (51, .agg #[.int .i64 3857, .string ⟨#[109, 118, 101, 110, 100, 111, 114, 105, 100]⟩]), (52, .agg #[.int .i64 3858, .string ⟨#[109, 97, 114, 99, 104, 105, 100]⟩]), (53, .agg #[.int .i64 3859, .string ⟨#[109, 105, 109, 112, 105, 100]⟩]), (54, .agg #[.int .i64 3860, .string ⟨#[109, 104, 97, 114, 116, 105, 100]⟩]), (55, .agg #[.int .i64 3861, .string ⟨#[109, 99, 111, 110, 102, 105, 103, 112, 116, 114]⟩])] = some tblR := by kernel_rfl
theorem idxR (k : Nat) (h2 : k < 56) (w : World) : (Instr.index 70 (.agg tblR) (.int .i64 k)).run Try.prog w = .ok (.agg #[.int .i64 (noT k), .string (nmT k)]) w :=
  match k, h2 with
  | 0, _ => by kernel_rfl
  | 1, _ => by kernel_rfl
  | 2, _ => by kernel_rfl
  | 3, _ => by kernel_rfl
  | 4, _ => by kernel_rfl
  | 5, _ => by kernel_rfl
  | 6, _ => by kernel_rfl
  | 7, _ => by kernel_rfl
  | 8, _ => by kernel_rfl
  | 9, _ => by kernel_rfl
  | 10, _ => by kernel_rfl
  | 11, _ => by kernel_rfl
  | 12, _ => by kernel_rfl
  | 13, _ => by kernel_rfl
  | 14, _ => by kernel_rfl
  | 15, _ => by kernel_rfl
  | 16, _ => by kernel_rfl
  | 17, _ => by kernel_rfl
  | 18, _ => by kernel_rfl
  | 19, _ => by kernel_rfl
  | 20, _ => by kernel_rfl
  | 21, _ => by kernel_rfl
  | 22, _ => by kernel_rfl
  | 23, _ => by kernel_rfl
  | 24, _ => by kernel_rfl
  | 25, _ => by kernel_rfl
  | 26, _ => by kernel_rfl
  | 27, _ => by kernel_rfl
  | 28, _ => by kernel_rfl
  | 29, _ => by kernel_rfl
  | 30, _ => by kernel_rfl
  | 31, _ => by kernel_rfl
  | 32, _ => by kernel_rfl
  | 33, _ => by kernel_rfl
  | 34, _ => by kernel_rfl
  | 35, _ => by kernel_rfl
  | 36, _ => by kernel_rfl
  | 37, _ => by kernel_rfl
  | 38, _ => by kernel_rfl
  | 39, _ => by kernel_rfl
  | 40, _ => by kernel_rfl
  | 41, _ => by kernel_rfl
  | 42, _ => by kernel_rfl
  | 43, _ => by kernel_rfl
  | 44, _ => by kernel_rfl
  | 45, _ => by kernel_rfl
  | 46, _ => by kernel_rfl
  | 47, _ => by kernel_rfl
  | 48, _ => by kernel_rfl
  | 49, _ => by kernel_rfl
  | 50, _ => by kernel_rfl
  | 51, _ => by kernel_rfl
  | 52, _ => by kernel_rfl
  | 53, _ => by kernel_rfl
  | 54, _ => by kernel_rfl
  | 55, _ => by kernel_rfl
  | k + 56, h => absurd h (by omega)

set_option maxHeartbeats 40000000 in
theorem at_at (k : Nat) (no : Int) (nm : ByteArray) (hx : ∀ w, (Instr.index 70 (.agg tblR) (.int .i64 k)).run Try.prog w = .ok (.agg #[.int .i64 no, .string nm]) w) (w : World) :
    Calls Try.prog 49 #[.int .i64 k] w fun e w' => e = .returned (.agg #[.int .i64 no, .string nm]) ∧ Below w.heap.size w w' := by
  go_enter Try.func49, Try.ntmps49
  go_wp2_with (refine wpList_build_atA rfl 70 _ rfl _ (by simp [Act.eval]) _ bldR ?_)
  exact bodyPost_ret (v := .agg #[.int .i64 no, .string nm]) (by simp [results, Try.results49, go_sem]) rfl ⟨rfl, (Below.refl _ _).alloc (Nat.le_refl _) _⟩
theorem at_any (k : Nat) (h : k < 56) (w : World) :
    Calls Try.prog 49 #[.int .i64 k] w fun e w' => e = .returned (.agg #[.int .i64 (noT k), .string (nmT k)]) ∧ Below w.heap.size w w' :=
  at_at k _ _ (idxR k h) w

end Go.Proofs.Ytiblfdgmleckiaa
