/- Layer 3's laws: an act by a memory of the program and by the document's. -/
import Derived.Test.YtoghdkhlliehoaaRamSpec
namespace Go.Proofs.Ytoghdkhlliehoaa
open Go.RowKit
set_option linter.unusedVariables false
set_option maxRecDepth 100000

theorem append_copy8 (w : World) (v : Value) (xs : List Int) (hr : ReadsL .u8 w.heap.size w v xs) (hl : xs.length ≤ 3000) :
    ∃ v' w', (Builtin.append_ #[38, 38] 38 #[.slice (some ⟨w.heap.size, 0, none⟩) 0 0, v]).run Try.prog (w.alloc (.cells #[] 5)) = .ok v' w' ∧
      w'.ownsRow w.heap.size 5 1 v' xs.length (xs.map (Value.int .u8)) ∧ Below w.heap.size w w' := by
  obtain ⟨i0, hi, hz0, hz1, hz2⟩ := info_parts info_u8
  obtain ⟨a, c, rfl, hm, hx⟩ := hr
  have hs : (w.alloc (.cells #[] 5)).heap.size = w.heap.size + 1 := World.size_alloc _ _
  have hown : (w.alloc (.cells #[] 5)).ownsRow w.heap.size 5 1 (.slice (some ⟨w.heap.size, 0, none⟩) 0 0) 0 [] := World.ownsRow_made w #[] 0 (Nat.le_refl _) (Nat.zero_le _) rfl
  have hb0 : Below w.heap.size w (w.alloc (.cells #[] 5)) := (Below.refl _ _).alloc (Nat.le_refl _) _
  rcases hx with rfl | ⟨b, off, rfl, hbb, hc⟩
  · cases a with
    | none =>
      refine ⟨_, _, ?_, hown, hb0⟩
      simp [Builtin.append_, run_underlying Try.underlying38, sizeOf, typeInfo, hi, Builtin.lenOf, Builtin.firstCells, loadCells, loadCellsFrom, storeCells]
    | some a =>
      obtain ⟨v', w', h1, h2, h3, _⟩ := run_append_own (P := Try.prog) (w.alloc (.cells #[] 5)) w.heap.size 38 38 5 i0 (.int .u8 0) 1 1 Try.underlying38 hi hz0 hz1 hz2 rfl (by decide) _ 0 [] hown a 0 c [] rfl (by simp) (by simp) (by simp [maxLen]) (by omega) (by omega)
      exact ⟨v', w', h1, h2, hb0.grown h3 (by omega) (fun k hk => by simp [Value.ownBlock] at hk; omega)⟩
  · obtain ⟨v', w', h1, h2, h3, _⟩ := run_append_own (P := Try.prog) (w.alloc (.cells #[] 5)) w.heap.size 38 38 5 i0 (.int .u8 0) 1 1 Try.underlying38 hi hz0 hz1 hz2 rfl (by decide) _ 0 [] hown ⟨b, off, none⟩ xs.length c (xs.map (Value.int .u8)) (by simp)
      (fun j u hj => by
        rw [add_none, hb0.cell (p := ⟨b, off + j, none⟩) hbb]
        have hj2 : j < xs.length := by
          by_cases h : j < xs.length
          · exact h
          · rw [List.getElem?_eq_none (by simp; omega)] at hj; cases hj
        rw [hc j hj2]
        simpa [List.getD, hj2] using hj)
      (by intro u hu; obtain ⟨z, _, rfl⟩ := List.mem_map.1 hu; rfl) (by unfold maxLen; omega) (by omega) (by omega)
    rw [Nat.zero_add] at h2
    exact ⟨v', w', h1, h2, hb0.grown h3 (by omega) (fun k hk => by simp [Value.ownBlock] at hk; omega)⟩

/-- The act as a value, and in a block of its own. -/
def actCells (x : ActV) : Array Value := #[.int .i64 x.d, .int .u64 x.a, .int .i64 x.n, .int .u64 x.v, x.b]
def ActBox (w : World) (q : Nat) (x : ActV) : Prop := w.heap[q]? = some (.cells (actCells x) 40 (0, 0))
theorem ActBox.new (w : World) (x : ActV) : ActBox (w.alloc (.cells (actCells x) 40)) w.heap.size x := heap_alloc_new w _
theorem ActBox.keeps {T : Nat → Prop} {w w' : World} {q : Nat} {x : ActV} (h : ActBox w q x) (k : Only T w w') (hq : ¬ T q) : ActBox w' q x := k.keeps hq h
theorem ActBox.cells {w : World} {q : Nat} {x : ActV} (h : ActBox w q x) : w.cell? ⟨q, 0, none⟩ = some (.int .i64 x.d) ∧ w.cell? ⟨q, 1, none⟩ = some (.int .u64 x.a) ∧ w.cell? ⟨q, 2, none⟩ = some (.int .i64 x.n) ∧ w.cell? ⟨q, 3, none⟩ = some (.int .u64 x.v) ∧ w.cell? ⟨q, 4, none⟩ = some x.b :=
  ⟨by rw [cell_of_row w q 0 _ _ _ h]; rfl, by rw [cell_of_row w q 1 _ _ _ h]; rfl, by rw [cell_of_row w q 2 _ _ _ h]; rfl, by rw [cell_of_row w q 3 _ _ _ h]; rfl, by rw [cell_of_row w q 4 _ _ _ h]; rfl⟩

/-- What 'both' leaves. -/
def BothEnd (R : Spec) (w : World) (b : Nat) (S : Nat → Prop) (b2 g2 : Nat) (base size : Int) (N : Nat) (e : Ending) (w' : World) : Prop :=
  e = .returned (.bool true) ∧ ∃ m', PairEnd R w b S b2 g2 base size N m' w'

/-- What began behind new blocks began before them. -/
theorem PairEnd.before {R : Spec} {w w0 w' : World} {b : Nat} {S : Nat → Prop} {b2 g2 : Nat} {base size : Int} {N : Nat} {m : Int → Int} (h : PairEnd R w0 b S b2 g2 base size N m w') (k : Below w.heap.size w w0) : PairEnd R w b S b2 g2 base size N m w' := by
  obtain ⟨ho, S', g', hS', hg', hp⟩ := h
  have := k.size
  refine ⟨(Only.of_below _ k).trans ho, S', g', fun i hi => ?_, ?_, hp⟩
  · rcases hS' i hi with h1 | h1
    · exact .inl h1
    · exact .inr (by omega)
  · rcases hg' with h1 | h1 | h1
    · exact .inl h1
    · exact .inr (.inl h1)
    · exact .inr (.inr (by omega))

theorem both_write (R : Spec) (w : World) (b : Nat) (S : Nat → Prop) (b2 g2 : Nat) (base size : Int) (N : Nat) (m : Int → Int) (a n v : Int) (bv : Value) (bs : List Int) (h : Pair R w b S b2 g2 base size N m) (ia : In64 a) (inn : In63 n) (iv : In64 v) (hN : N < 900000) :
    Calls Try.prog 10 #[.pointer (some ⟨b, 0, none⟩), .pointer (some ⟨b2, 0, none⟩), .agg #[.int .i64 0, .int .u64 a, .int .i64 n, .int .u64 v, bv]] w (BothEnd R w b S b2 g2 base size (N + 8)) := by
  have hA := ActBox.new w ⟨0, a, n, v, bv, bs⟩
  have hB : Below w.heap.size w (w.alloc (.cells (actCells ⟨0, a, n, v, bv, bs⟩) 40)) := (Below.refl _ _).alloc (Nat.le_refl _) _
  have HP := Lib.hid (h.same hB)
  have HA := Lib.hid hA
  have HB := Lib.hid hB
  have HS := Lib.hid (R.lt h.1)
  have hb2 : b2 < w.heap.size := h.2.1.lt
  clear h hA hB
  go_enter Try.func10, Try.ntmps10
  go_wp2_with fail
  refine (R.write a n v HP.out.1 HP.out.2.2.2.2.2 ia inn iv).mono ?_
  rintro e w1 hE
  have hA1 := HA.out.keeps hE.2.1 (fun hs => Nat.lt_irrefl _ (HS.out _ hs))
  have hR1 := HP.out.2.1.keeps hE.2.1 HP.out.2.2.1 HP.out.2.2.2.1
  obtain ⟨_, q1, q2, q3, q4⟩ := hA1.cells
  have HE := Lib.hid hE
  have HR := Lib.hid hR1
  obtain ⟨rfl, _⟩ := hE
  clear hA1 hR1
  go_wp2_with fail
  refine (mem_write _ b2 g2 base size N m a n v HR.out HP.out.2.2.2.2.2 ia iv hN).mono ?_
  rintro e w2 hE2
  have HE2 := Lib.hid (Pair.both HP.out HE.out (fun g hg => by subst hg; exact hE2))
  obtain ⟨rfl, _⟩ := hE2
  generalize (okN n && hasZ base size a n) = r at *
  go_wp2
  go_ret
  exact ⟨rfl, _, HE2.out.before HB.out⟩

theorem both_read (R : Spec) (w : World) (b : Nat) (S : Nat → Prop) (b2 g2 : Nat) (base size : Int) (N : Nat) (m : Int → Int) (a n v : Int) (bv : Value) (bs : List Int) (h : Pair R w b S b2 g2 base size N m) (ia : In64 a) (inn : In63 n) :
    Calls Try.prog 10 #[.pointer (some ⟨b, 0, none⟩), .pointer (some ⟨b2, 0, none⟩), .agg #[.int .i64 1, .int .u64 a, .int .i64 n, .int .u64 v, bv]] w (BothEnd R w b S b2 g2 base size N) := by
  have hA := ActBox.new w ⟨1, a, n, v, bv, bs⟩
  have hB : Below w.heap.size w (w.alloc (.cells (actCells ⟨1, a, n, v, bv, bs⟩) 40)) := (Below.refl _ _).alloc (Nat.le_refl _) _
  have HP := Lib.hid (h.same hB)
  have HA := Lib.hid hA
  have HB := Lib.hid hB
  clear h hA hB
  go_enter Try.func10, Try.ntmps10
  go_wp2_with fail
  refine (R.read a n HP.out.1 HP.out.2.2.2.2.2 ia inn).mono ?_
  rintro e w1 ⟨rfl, hE⟩
  have hA1 := HA.out.keeps (Only.of_below (fun _ => False) hE) id
  have hP1 := HP.out.same hE
  obtain ⟨_, q1, q2, q3, q4⟩ := hA1.cells
  have HE := Lib.hid hE
  have HP1 := Lib.hid hP1
  clear hA1 hP1 hE
  go_wp2_with fail
  refine (mem_read _ b2 g2 base size N m a n HP1.out.2.1 HP1.out.2.2.2.2.2 ia).mono ?_
  rintro e w2 ⟨rfl, hE2⟩
  have HE2 := Lib.hid (HP1.out.end_same hE2 (Nat.le_refl _))
  have HE3 := Lib.hid (HE.out.trans (hE2.mono HE.out.size))
  have HE4 := Lib.hid (HP.out.end_same HE3.out (Nat.le_refl N))
  generalize readV base size m a n = p at *
  clear hE2
  go_wp2
  go_ret
  exact ⟨ret_bool (by simp), _, HE4.out.before HB.out⟩

theorem both_has (R : Spec) (w : World) (b : Nat) (S : Nat → Prop) (b2 g2 : Nat) (base size : Int) (N : Nat) (m : Int → Int) (a n v : Int) (bv : Value) (bs : List Int) (h : Pair R w b S b2 g2 base size N m) (ia : In64 a) (inn : In63 n) :
    Calls Try.prog 10 #[.pointer (some ⟨b, 0, none⟩), .pointer (some ⟨b2, 0, none⟩), .agg #[.int .i64 4, .int .u64 a, .int .i64 n, .int .u64 v, bv]] w (BothEnd R w b S b2 g2 base size N) := by
  have hA := ActBox.new w ⟨4, a, n, v, bv, bs⟩
  have hB : Below w.heap.size w (w.alloc (.cells (actCells ⟨4, a, n, v, bv, bs⟩) 40)) := (Below.refl _ _).alloc (Nat.le_refl _) _
  have HP := Lib.hid (h.same hB)
  have HA := Lib.hid hA
  have HB := Lib.hid hB
  clear h hA hB
  go_enter Try.func10, Try.ntmps10
  go_wp2_with fail
  go_quiet (first
    | (go_at_call 26; exact Calls.quiet_of (R.has a n (HP.out.same (below_drewN (Below.refl _ _) _)).1 HP.out.2.2.2.2.2 ia inn))
    | (go_at_call 27; exact Calls.quiet_of (mem_hasq _ b2 g2 base size N m a n (HP.out.same (below_drewN (Below.refl _ _) _)).2.1 HP.out.2.2.2.2.2 ia)))
  generalize hasZ base size a n = r at *
  go_wp2
  go_ret
  have HE4 := HP.out.end_same (below_drewN (Below.refl _ _) nq) (Nat.le_refl N)
  exact ⟨rfl, _, HE4.before HB.out⟩

theorem both_else (R : Spec) (w : World) (b : Nat) (S : Nat → Prop) (b2 g2 : Nat) (base size : Int) (N : Nat) (m : Int → Int) (d a n v : Int) (bv : Value) (bs : List Int) (h : Pair R w b S b2 g2 base size N m) (hd : ¬ (d = 0 ∨ d = 1 ∨ d = 2 ∨ d = 3 ∨ d = 4)) :
    Calls Try.prog 10 #[.pointer (some ⟨b, 0, none⟩), .pointer (some ⟨b2, 0, none⟩), .agg #[.int .i64 d, .int .u64 a, .int .i64 n, .int .u64 v, bv]] w (BothEnd R w b S b2 g2 base size N) := by
  have d0 : (d == 0) = false := by rw [beq_eq_false_iff_ne]; omega
  have d1 : (d == 1) = false := by rw [beq_eq_false_iff_ne]; omega
  have d2 : (d == 2) = false := by rw [beq_eq_false_iff_ne]; omega
  have d3 : (d == 3) = false := by rw [beq_eq_false_iff_ne]; omega
  have d4 : (d == 4) = false := by rw [beq_eq_false_iff_ne]; omega
  have hB : Below w.heap.size w (w.alloc (.cells (actCells ⟨d, a, n, v, bv, bs⟩) 40)) := (Below.refl _ _).alloc (Nat.le_refl _) _
  have HE := Lib.hid (h.end_same hB (Nat.le_refl N))
  clear h hd hB
  go_enter Try.func10, Try.ntmps10
  go_wp2
  go_ret
  exact ⟨rfl, _, HE.out⟩

end Go.Proofs.Ytoghdkhlliehoaa
