/- Joined: Sr1 Sr2 Sr3 Sr4 Sr5 Sr6 Sr7 Sr8 -/
import Derived.Test.YtoghdkhlliehoaaBv
import Derived.Test.YtoghdkhlliehoaaRows
import Derived.WalkKit
import Derived.Sort.Walk0
import Derived.Sort.LotA
import Derived.BigGuard
import Derived.BigCall
import Derived.CellFam
import Derived.Deep.Draws
import Derived.Deep.QuietTactic
import Derived.BigQuiet
import Derived.BigRegion
import Derived.Lib.Hide
import Derived.Sort.LotD1
import Derived.Sort.LotC
import Derived.Shelf.Lays
import Derived.Shelf.Small.Bits
import Derived.Lib.ItoaNum
import Derived.Sort.LotB
import Derived.Sort.LotD3
import Derived.Deep.CutRange
import Derived.Deep.CutBlock
namespace Go.Proofs.Ytoghdkhlliehoaa
open Go.RowKit Go.Sort
set_option linter.unusedVariables false
set_option maxRecDepth 100000

theorem wnan_any (x : Int) (w : World) : Calls Try.prog 68 #[.int .u64 x] w fun e w' => e = .returned (.bool false) ∧ w = w' := by
  go_enter Try.func68, Try.ntmps68
  go_wp2
  go_ret
  exact ⟨rfl, rfl⟩
theorem wless_any (x y : Int) (w : World) : Calls Try.prog 57 #[.int .u64 x, .int .u64 y] w fun e w' => e = .returned (.bool (ltInt x y)) ∧ w' = w := by
  go_enter Try.func57, Try.ntmps57
  go_wp2_with (go_at_call 68; refine (wnan_any _ _).mono ?_; rintro e w' ⟨rfl, rfl⟩)
  go_ret
  exact ⟨rfl, rfl⟩

/-- W is w, but that the row (in an old block) holds dk (N numbers, as before); blocks may have been made since. -/
def RowIs (w : World) (blk off N : Nat) (W : World) (dk : Array Int) : Prop := dk.size = N ∧ blk < w.heap.size ∧ Below w.heap.size (putRow (Value.int .u64) w blk off dk) W
theorem RowIs.start {w : World} {blk off : Nat} {d : Array Int} (h : Holds (Value.int .u64) w blk off d) (hb : blk < w.heap.size) : RowIs w blk off d.size w d :=
  ⟨rfl, hb, by rw [putRow_self _ _ _ _ _ h]; exact Below.refl _ _⟩
theorem RowIs.cell {w W : World} {blk off : Nat} {d dk : Array Int} (h : RowIs w blk off d.size W dk) (hH : Holds (Value.int .u64) w blk off d) (t : Nat) (ht : t < d.size) : W.cell? ⟨blk, off + t, none⟩ = some (.int .u64 dk[t]!) := by
  rw [h.2.2.cell h.2.1]
  exact cell?_putRow _ _ _ _ d dk hH h.1 t (by rw [h.1]; exact ht)
theorem RowIs.frozen {w W : World} {blk off : Nat} {d dk : Array Int} (h : RowIs w blk off d.size W dk) (hH : Holds (Value.int .u64) w blk off d) (t : Nat) (ht : t < d.size) : W.frozen? ⟨blk, off + t, none⟩ = false := by
  rw [h.2.2.frozen h.2.1, frozen?_putRow]
  exact (hH t ht).2
theorem RowIs.holds {w W : World} {blk off : Nat} {d dk : Array Int} (h : RowIs w blk off d.size W dk) (hH : Holds (Value.int .u64) w blk off d) : Holds (Value.int .u64) W blk off dk :=
  fun t ht => ⟨h.cell hH t (by rw [← h.1]; exact ht), h.frozen hH t (by rw [← h.1]; exact ht)⟩
theorem RowIs.size {w W : World} {blk off N : Nat} {dk : Array Int} (h : RowIs w blk off N W dk) : w.heap.size ≤ W.heap.size := by
  have := h.2.2.size
  rwa [size_putRow] at this
theorem RowIs.blk {w W : World} {blk off N : Nat} {dk : Array Int} (h : RowIs w blk off N W dk) : blk < W.heap.size := Nat.lt_of_lt_of_le h.2.1 h.size
theorem RowIs.below {w W W' : World} {blk off N : Nat} {dk : Array Int} (h : RowIs w blk off N W dk) (hW : Below w.heap.size W W') : RowIs w blk off N W' dk := ⟨h.1, h.2.1, h.2.2.trans hW⟩
theorem RowIs.drew {w W : World} {blk off N : Nat} {dk : Array Int} (h : RowIs w blk off N W dk) (q : Nat) : RowIs w blk off N (W.drewN q) dk := h.below ⟨rfl, rfl, rfl, Nat.le_refl _, fun _ _ => rfl⟩
theorem below_both {B : Nat} {A W : World} (h : Below B A W) (a : Addr) (v : Value) (ha : a.block < B) : Below B (A.setCell a v) (W.setCell a v) :=
  ⟨h.os, h.tape, h.output, by simp only [World.setCell, Array.size_modify]; exact h.size, fun k hk => by
    simp only [World.setCell, Array.getElem?_modify, h.block k hk]⟩
theorem RowIs.swap {w W : World} {blk off N : Nat} {dk : Array Int} (h : RowIs w blk off N W dk) (j k : Nat) (hj : j < N) (hk : k < N) :
    RowIs w blk off N ((W.setCell ⟨blk, off + j, none⟩ (.int .u64 dk[k]!)).setCell ⟨blk, off + k, none⟩ (.int .u64 dk[j]!)) (swp dk j k) := by
  refine ⟨by rw [size_swp]; exact h.1, h.2.1, ?_⟩
  rw [← putRow_swp (Value.int .u64) w blk off dk j k (by rw [h.1]; exact hj) (by rw [h.1]; exact hk)]
  exact below_both (below_both h.2.2 _ _ h.2.1) _ _ h.2.1
theorem below_row {B : Nat} {A W : World} (h : Below B A W) (blk off : Nat) (d : Array Int) : Below B (putRow (Value.int .u64) A blk off d) (putRow (Value.int .u64) W blk off d) :=
  ⟨h.os, h.tape, h.output, by rw [size_putRow, size_putRow]; exact h.size, fun k hk => by
    simp only [putRow, mapBlock, Array.getElem?_modify, h.block k hk]⟩
theorem RowIs.trans {w W W' : World} {blk off N : Nat} {dk d' : Array Int} (h : RowIs w blk off N W dk) (h' : RowIs W blk off N W' d') : RowIs w blk off N W' d' := by
  refine ⟨h'.1, h.2.1, ?_⟩
  have h1 := below_row h.2.2 blk off d'
  rw [putRow_putRow _ _ _ _ _ _ (by rw [h.1, h'.1])] at h1
  exact h1.trans (h'.2.2.mono h.size)

/-- What a part of the sort leaves: nothing told, the row turned. -/
def Turned (w : World) (blk off N : Nat) (d' : Array Int) (e : Ending) (w' : World) : Prop := e = .returned (.tuple #[]) ∧ RowIs w blk off N w' d'

section
variable {α : Type} [Inhabited α] (lt : α → α → Bool)
/-- c is the greater child of root. -/
def Chosen (hi first root : Nat) (d : Array α) (c : Nat) : Prop := c < hi ∧
  ((c = 2 * root + 2 ∧ lt d[first + (2 * root + 1)]! d[first + (2 * root + 2)]! = true) ∨ (c = 2 * root + 1 ∧ (2 * root + 2 < hi → lt d[first + (2 * root + 1)]! d[first + (2 * root + 2)]! = false)))
theorem sift_end (hi first root : Nat) (d : Array α) (h : hi ≤ 2 * root + 1) : Sort.siftDown lt hi first root d = d := by
  rw [Sort.siftDown, dif_pos h]
theorem sift_stop (hi first root c : Nat) (d : Array α) (h : Chosen lt hi first root d c) (hl : lt d[first + root]! d[first + c]! = false) : Sort.siftDown lt hi first root d = d := by
  obtain ⟨hc, ⟨rfl, hg⟩ | ⟨rfl, hg⟩⟩ := h
  · rw [Sort.siftDown, dif_neg (by omega), if_pos (by
      rw [show first + (2 * root + 1) + 1 = first + (2 * root + 2) by omega, hg]; simp; omega), if_pos (by rw [hl]; rfl)]
  · rw [Sort.siftDown, dif_neg (by omega), if_neg (by
      rw [show first + (2 * root + 1) + 1 = first + (2 * root + 2) by omega]
      intro hh
      simp only [Bool.and_eq_true, decide_eq_true_eq] at hh
      rw [hg (by omega)] at hh
      exact absurd hh.2 (by decide)), if_pos (by rw [hl]; rfl)]
theorem sift_go (hi first root c : Nat) (d : Array α) (h : Chosen lt hi first root d c) (hl : lt d[first + root]! d[first + c]! = true) : Sort.siftDown lt hi first root d = Sort.siftDown lt hi first c (swp d (first + root) (first + c)) := by
  obtain ⟨hc, ⟨rfl, hg⟩ | ⟨rfl, hg⟩⟩ := h
  · rw [Sort.siftDown, dif_neg (by omega), if_pos (by
      rw [show first + (2 * root + 1) + 1 = first + (2 * root + 2) by omega, hg]; simp; omega), if_neg (by rw [hl]; decide), dif_pos hc]
  · rw [Sort.siftDown, dif_neg (by omega), if_neg (by
      rw [show first + (2 * root + 1) + 1 = first + (2 * root + 2) by omega]
      intro hh
      simp only [Bool.and_eq_true, decide_eq_true_eq] at hh
      rw [hg (by omega)] at hh
      exact absurd hh.2 (by decide)), if_neg (by rw [hl]; decide)]
end

/-- The heap's property from the root on, in a part that begins at 'first'. -/
theorem sift_any (blk off cap lo hi first : Nat) (d : Array Int) (w : World) (hH : Holds (Value.int .u64) w blk off d) (hsz : d.size < 1000000) (hkb : blk < w.heap.size) (hlo : lo ≤ hi) (hf : first + hi ≤ d.size) :
    Calls Try.prog 63 #[.slice (some ⟨blk, off, none⟩) d.size cap, .int .i64 lo, .int .i64 hi, .int .i64 first] w (Turned w blk off d.size (Sort.siftDown ltInt hi first lo d)) := by
  go_enter Try.func63, Try.ntmps63
  go_wp2
  go_loopw [8] (fun vi wr => ∃ (r : Nat) (dk : Array Int), vi = .int .i64 r ∧ r ≤ hi ∧ RowIs w blk off d.size wr dk ∧ Sort.siftDown ltInt hi first r dk = Sort.siftDown ltInt hi first lo d)
    (fun vi _ => hi - (intOf vi).toNat)
  case atStart => exact ⟨lo, d, rfl, hlo, RowIs.start hH hkb, rfl⟩
  case round =>
    obtain ⟨r, dk, rfl, hr, hR, hO⟩ := hrel
    obtain ⟨G, hG⟩ : ∃ G : Nat → Int, ∀ t, G t = dk[t]! := ⟨fun t => dk[t]!, fun _ => rfl⟩
    have hcw : ∀ t, t < d.size → wr.cell? ⟨blk, off + t, none⟩ = some (.int .u64 (G t)) := fun t ht => by rw [hG]; exact hR.cell hH t ht
    have hfw : ∀ t, t < d.size → wr.frozen? ⟨blk, off + t, none⟩ = false := fun t ht => hR.frozen hH t ht
    have HG := Lib.hid hG
    have HO := Lib.hid hO
    have HR := Lib.hid hR
    have HH := Lib.hid hH
    clear hG hO hR hH
    by_cases h1 : hi ≤ 2 * r + 1
    · have h1z : (hi : Int) ≤ 2 * (r : Int) + 1 := by omega
      go_wp2
      go_end0
      exact ⟨rfl, by rw [← HO.out, sift_end _ _ _ _ _ h1]; exact HR.out⟩
    · have h1z : ¬ ((hi : Int) ≤ 2 * (r : Int) + 1) := by omega
      by_cases h2 : 2 * r + 2 < hi
      · have h2z : decide (2 * (r : Int) + 1 + 1 < (hi : Int)) = true := decide_eq_true (by omega)
        go_wp2_with fail
        go_big_quiet (first | (go_at_call 57; refine Calls.quiet_of_same (wless_any _ _ _)))
        go_wp2_with fail
        · have hg : ltInt (G (first + (2 * r + 1))) (G (first + (2 * r + 2))) = true := by assumption
          have HC : Hid (Chosen ltInt hi first r dk (2 * r + 2)) := Lib.hid ⟨by omega, .inl ⟨rfl, by rw [← HG.out, ← HG.out]; exact hg⟩⟩
          have hcw' : ∀ t, t < d.size → (wr.drewN nq).cell? ⟨blk, off + t, none⟩ = some (.int .u64 (G t)) := hcw
          have hfw' : ∀ t, t < d.size → (wr.drewN nq).frozen? ⟨blk, off + t, none⟩ = false := hfw
          have HR' : Hid (RowIs w blk off d.size (wr.drewN nq) dk) := Lib.hid (HR.out.drew nq)
          clear hcw hfw HR
          generalize wr.drewN nq = wr1 at hcw' hfw' HR' ⊢
          go_wp2_with fail
          go_big_quiet (first | (go_at_call 57; refine Calls.quiet_of_same (wless_any _ _ _)))
          go_wp2_with fail
          · have hl : (!ltInt (G (first + r)) (G (first + (2 * r + 2)))) = true := by assumption
            go_end0
            exact ⟨rfl, by rw [← HO.out, sift_stop _ _ _ _ _ _ HC.out (by rw [← HG.out, ← HG.out]; simpa using hl)]; exact HR'.out.drew _⟩
          · have hl : (!ltInt (G (first + r)) (G (first + (2 * r + 2)))) = false := by assumption
            go_region
            all_goals go_wp2
            go_roundw
            case rel =>
              refine ⟨2 * r + 2, swp dk (first + r) (first + (2 * r + 2)), by go_num, by omega, ?_, ?_⟩
              · have := (HR'.out.drew (nq + 1)).swap (first + r) (first + (2 * r + 2)) (by omega) (by omega)
                rw [← HG.out, ← HG.out] at this
                exact this
              · rw [← HO.out, sift_go _ _ _ _ _ _ HC.out (by rw [← HG.out, ← HG.out]; simpa using hl)]
            case measure => simp [intOf]; omega
        · have hg : ltInt (G (first + (2 * r + 1))) (G (first + (2 * r + 2))) = false := by assumption
          have HC : Hid (Chosen ltInt hi first r dk (2 * r + 1)) := Lib.hid ⟨by omega, .inr ⟨rfl, fun _ => by rw [← HG.out, ← HG.out]; exact hg⟩⟩
          have hcw' : ∀ t, t < d.size → (wr.drewN nq).cell? ⟨blk, off + t, none⟩ = some (.int .u64 (G t)) := hcw
          have hfw' : ∀ t, t < d.size → (wr.drewN nq).frozen? ⟨blk, off + t, none⟩ = false := hfw
          have HR' : Hid (RowIs w blk off d.size (wr.drewN nq) dk) := Lib.hid (HR.out.drew nq)
          clear hcw hfw HR
          generalize wr.drewN nq = wr1 at hcw' hfw' HR' ⊢
          go_wp2_with fail
          go_big_quiet (first | (go_at_call 57; refine Calls.quiet_of_same (wless_any _ _ _)))
          go_wp2_with fail
          · have hl : (!ltInt (G (first + r)) (G (first + (2 * r + 1)))) = true := by assumption
            go_end0
            exact ⟨rfl, by rw [← HO.out, sift_stop _ _ _ _ _ _ HC.out (by rw [← HG.out, ← HG.out]; simpa using hl)]; exact HR'.out.drew _⟩
          · have hl : (!ltInt (G (first + r)) (G (first + (2 * r + 1)))) = false := by assumption
            go_region
            all_goals go_wp2
            go_roundw
            case rel =>
              refine ⟨2 * r + 1, swp dk (first + r) (first + (2 * r + 1)), by go_num, by omega, ?_, ?_⟩
              · have := (HR'.out.drew (nq + 1)).swap (first + r) (first + (2 * r + 1)) (by omega) (by omega)
                rw [← HG.out, ← HG.out] at this
                exact this
              · rw [← HO.out, sift_go _ _ _ _ _ _ HC.out (by rw [← HG.out, ← HG.out]; simpa using hl)]
            case measure => simp [intOf]; omega
      · have h2z : decide (2 * (r : Int) + 1 + 1 < (hi : Int)) = false := decide_eq_false (by omega)
        go_wp2_with fail
        go_big_quiet (first | (go_at_call 57; refine Calls.quiet_of_same (wless_any _ _ _)))
        go_wp2_with fail
        have HC : Hid (Chosen ltInt hi first r dk (2 * r + 1)) := Lib.hid ⟨by omega, .inr ⟨rfl, fun h => absurd h h2⟩⟩
        have hcw' : ∀ t, t < d.size → (wr.drewN nq).cell? ⟨blk, off + t, none⟩ = some (.int .u64 (G t)) := hcw
        have hfw' : ∀ t, t < d.size → (wr.drewN nq).frozen? ⟨blk, off + t, none⟩ = false := hfw
        have HR' : Hid (RowIs w blk off d.size (wr.drewN nq) dk) := Lib.hid (HR.out.drew nq)
        clear hcw hfw HR
        generalize wr.drewN nq = wr1 at hcw' hfw' HR' ⊢
        go_wp2_with fail
        go_big_quiet (first | (go_at_call 57; refine Calls.quiet_of_same (wless_any _ _ _)))
        go_wp2_with fail
        · have hl : (!ltInt (G (first + r)) (G (first + (2 * r + 1)))) = true := by assumption
          go_end0
          exact ⟨rfl, by rw [← HO.out, sift_stop _ _ _ _ _ _ HC.out (by rw [← HG.out, ← HG.out]; simpa using hl)]; exact HR'.out.drew _⟩
        · have hl : (!ltInt (G (first + r)) (G (first + (2 * r + 1)))) = false := by assumption
          go_region
          all_goals go_wp2
          go_roundw
          case rel =>
            refine ⟨2 * r + 1, swp dk (first + r) (first + (2 * r + 1)), by go_num, by omega, ?_, ?_⟩
            · have := (HR'.out.drew (nq + 1)).swap (first + r) (first + (2 * r + 1)) (by omega) (by omega)
              rw [← HG.out, ← HG.out] at this
              exact this
            · rw [← HO.out, sift_go _ _ _ _ _ _ HC.out (by rw [← HG.out, ← HG.out]; simpa using hl)]
          case measure => simp [intOf]; omega

end Go.Proofs.Ytoghdkhlliehoaa

/- The library's sort over words: a part turned round, the heap's sort, the insertion sort of a part. -/
namespace Go.Proofs.Ytoghdkhlliehoaa
open Go.RowKit Go.Sort
set_option linter.unusedVariables false
set_option maxRecDepth 100000

section
variable {α : Type} [Inhabited α] (lt : α → α → Bool)
theorem rev_go (i j : Nat) (d : Array α) (h : i < j) : reverseLoop i j d = reverseLoop (i + 1) (j - 1) (swp d i j) := by rw [reverseLoop, if_pos h]
theorem rev_stop (i j : Nat) (d : Array α) (h : ¬ i < j) : reverseLoop i j d = d := by rw [reverseLoop, if_neg h]
theorem size_sift (hi first : Nat) : ∀ (n root : Nat) (d : Array α), hi - root ≤ n → (Sort.siftDown lt hi first root d).size = d.size := by
  intro n
  induction n with
  | zero => intro root d h; rw [sift_end _ _ _ _ _ (by omega)]
  | succ n ih =>
    intro root d h
    rw [Sort.siftDown]
    repeat' split
    all_goals first | rfl | (rw [ih _ _ (by omega), size_swp])
end

/-- A part turned round. -/
theorem reverse_any (blk off cap a b : Nat) (d : Array Int) (w : World) (hH : Holds (Value.int .u64) w blk off d) (hsz : d.size < 1000000) (hkb : blk < w.heap.size) (ha : a < b) (hb : b ≤ d.size) :
    Calls Try.prog 55 #[.slice (some ⟨blk, off, none⟩) d.size cap, .int .i64 a, .int .i64 b] w (Turned w blk off d.size (Sort.reverseRange d a b)) := by
  have hbz : (b : Int) - 1 = ((b - 1 : Nat) : Int) := by omega
  go_enter Try.func55, Try.ntmps55
  go_wp2
  go_loopw [6, 7] (fun vi vj wr => ∃ (i j : Nat) (dk : Array Int), vi = .int .i64 i ∧ vj = .int .i64 j ∧ i ≤ b ∧ j < b ∧ RowIs w blk off d.size wr dk ∧ reverseLoop i j dk = reverseLoop a (b - 1) d)
    (fun vi vj _ => (intOf vj).toNat)
  case atStart => exact ⟨a, b - 1, d, rfl, rfl, by omega, by omega, RowIs.start hH hkb, rfl⟩
  case round =>
    obtain ⟨i, j, dk, rfl, rfl, hi, hj, hR, hO⟩ := hrel
    obtain ⟨G, hG⟩ : ∃ G : Nat → Int, ∀ t, G t = dk[t]! := ⟨fun t => dk[t]!, fun _ => rfl⟩
    have hcw : ∀ t, t < d.size → wr.cell? ⟨blk, off + t, none⟩ = some (.int .u64 (G t)) := fun t ht => by rw [hG]; exact hR.cell hH t ht
    have hfw : ∀ t, t < d.size → wr.frozen? ⟨blk, off + t, none⟩ = false := fun t ht => hR.frozen hH t ht
    have HG := Lib.hid hG
    have HO := Lib.hid hO
    have HR := Lib.hid hR
    have HH := Lib.hid hH
    clear hG hO hR hH
    by_cases h1 : i < j
    · have h1z : (i : Int) < (j : Int) := by omega
      go_wp2_with fail
      go_region
      all_goals go_wp2
      go_roundw
      case rel =>
        refine ⟨i + 1, j - 1, swp dk i j, by go_num, by congr 1; omega, by omega, by omega, ?_, ?_⟩
        · have := (HR.out.drew 1).swap i j (by omega) (by omega)
          rw [← HG.out, ← HG.out] at this
          exact this
        · rw [← HO.out, rev_go _ _ _ h1]
      case measure => simp [intOf]; omega
    · have h1z : ¬ (i : Int) < (j : Int) := by omega
      go_wp2
      go_end0
      exact ⟨rfl, by unfold Sort.reverseRange; rw [← HO.out, rev_stop _ _ _ h1]; exact HR.out⟩

/-- The heap's sort of a part. -/
theorem heapSort_any (blk off cap a b : Nat) (d : Array Int) (w : World) (hH : Holds (Value.int .u64) w blk off d) (hsz : d.size < 1000000) (hkb : blk < w.heap.size) (ha : a < b) (hb : b ≤ d.size) :
    Calls Try.prog 52 #[.slice (some ⟨blk, off, none⟩) d.size cap, .int .i64 a, .int .i64 b] w (Turned w blk off d.size (Sort.heapSort ltInt d a b)) := by
  have hbz : (b : Int) - (a : Int) = ((b - a : Nat) : Int) := by omega
  have hbq : ((b - a : Nat) : Int) - 1 = ((b - a - 1 : Nat) : Int) := by omega
  have hq : Int.tdiv ((b - a - 1 : Nat) : Int) 2 = (((b - a - 1) / 2 : Nat) : Int) := by rw [Int.tdiv_eq_ediv_of_nonneg (by omega)]; omega
  have HH := Lib.hid hH
  clear hH
  go_enter Try.func52, Try.ntmps52
  go_wp2
  go_loopw [9] (fun vi wr => ∃ (k : Nat) (dk : Array Int), vi = .int .i64 ((k : Int) - 1) ∧ k ≤ (b - a - 1) / 2 + 1 ∧ RowIs w blk off d.size wr dk ∧ heapBuild ltInt (b - a) a k dk = heapBuild ltInt (b - a) a ((b - a - 1) / 2 + 1) d)
    (fun vi _ => (intOf vi + 1).toNat)
  case atStart => exact ⟨(b - a - 1) / 2 + 1, d, by go_num, by omega, RowIs.start HH.out hkb, rfl⟩
  case round =>
    obtain ⟨k, dk, rfl, hk, hR, hO⟩ := hrel
    have HO := Lib.hid hO
    have HR := Lib.hid hR
    clear hO hR
    rcases k with _ | k
    · rw [show (((0 : Nat) : Int) - 1) = -1 from rfl]
      go_wp2_with fail
      go_loopw [10] (fun vi wr2 => ∃ (m : Nat) (dm : Array Int), vi = .int .i64 ((m : Int) - 1) ∧ m ≤ b - a ∧ RowIs w blk off d.size wr2 dm ∧ heapPop ltInt a m dm = heapPop ltInt a (b - a) dk)
        (fun vi _ => (intOf vi + 1).toNat)
      case atStart => exact ⟨b - a, dk, by go_num, by omega, HR.out, rfl⟩
      case round =>
        obtain ⟨m, dm, rfl, hm, hR2, hO2⟩ := hrel
        have HO2 := Lib.hid hO2
        have HR2 := Lib.hid hR2
        clear hO2 hR2
        rcases m with _ | m
        · go_wp2_with fail
          go_end0
          exact ⟨rfl, by unfold Sort.heapSort; rw [← HO.out]; show RowIs _ _ _ _ _ (heapPop ltInt a (b - a) dk); rw [← HO2.out]; exact HR2.out⟩
        · rw [show (((m + 1 : Nat) : Int) - 1) = (m : Int) by omega]
          obtain ⟨G, hG⟩ : ∃ G : Nat → Int, ∀ t, G t = dm[t]! := ⟨fun t => dm[t]!, fun _ => rfl⟩
          have hcw : ∀ t, t < d.size → wr.cell? ⟨blk, off + t, none⟩ = some (.int .u64 (G t)) := fun t ht => by rw [hG]; exact HR2.out.cell HH.out t ht
          have hfw : ∀ t, t < d.size → wr.frozen? ⟨blk, off + t, none⟩ = false := fun t ht => HR2.out.frozen HH.out t ht
          have HG := Lib.hid hG
          clear hG
          have NEXT : Hid (∀ W, RowIs wr blk off d.size W (swp dm a (a + m)) → Calls Try.prog 63 #[.slice (some ⟨blk, off, none⟩) d.size cap, .int .i64 (0 : Nat), .int .i64 m, .int .i64 a] W
              (fun e w' => e = .returned (.tuple #[]) ∧ RowIs w blk off d.size w' (Sort.siftDown ltInt m a 0 (swp dm a (a + m))))) := Lib.hid fun W hW => by
            have hW2 := HR2.out.trans hW
            have := sift_any blk off cap 0 m a (swp dm a (a + m)) W (hW2.holds HH.out) (by rw [hW2.1]; exact hsz) hW2.blk (Nat.zero_le _) (by rw [hW2.1]; omega)
            rw [hW2.1] at this
            exact this.mono fun e w' h => ⟨h.1, hW2.trans h.2⟩
          have SWAP : Hid (∀ q, RowIs wr blk off d.size (((wr.drewN q).setCell ⟨blk, off + a, none⟩ (.int .u64 (G (a + m)))).setCell ⟨blk, off + (a + m), none⟩ (.int .u64 (G a))) (swp dm a (a + m))) := Lib.hid fun q => by
            have := ((RowIs.start (HR2.out.holds HH.out) HR2.out.blk).drew q).swap a (a + m) (by rw [HR2.out.1]; omega) (by rw [HR2.out.1]; omega)
            rw [← HG.out, ← HG.out, HR2.out.1] at this
            exact this
          obtain ⟨m', hm'⟩ : ∃ m' : Nat, m' = m := ⟨m, rfl⟩
          rcases Nat.eq_zero_or_pos m with rfl | hmp
          all_goals
            go_wp2_with fail
            go_region
            go_wp2_with fail
            have hcall := NEXT.out _ (SWAP.out 1)
            refine hcall.mono ?_
            rintro e w' hE
            obtain ⟨rfl, hR'⟩ := hE
            go_wp2_with fail
            go_roundw
            case rel => exact ⟨m', _, by first | (rw [hm']; done) | (rw [hm']; go_num), by omega, hR', by rw [← HO2.out, hm']; rfl⟩
            case measure => simp [intOf]
    · rw [show (((k + 1 : Nat) : Int) - 1) = (k : Int) by omega]
      have hcall := sift_any blk off cap k (b - a) a dk wr (HR.out.holds HH.out) (by rw [HR.out.1]; exact hsz) HR.out.blk (by omega) (by rw [HR.out.1]; omega)
      rw [HR.out.1] at hcall
      go_wp2_with fail
      refine hcall.mono ?_
      rintro e w' hE
      obtain ⟨rfl, hR'⟩ := hE
      go_wp2_with fail
      go_roundw
      case rel => exact ⟨k, _, by go_num, by omega, HR.out.trans hR', by rw [← HO.out]; rfl⟩
      case measure => simp [intOf]

section
variable {α : Type} [Inhabited α] (lt : α → α → Bool)
theorem ins_go (a j : Nat) (d : Array α) (hj : a < j) (hl : lt d[j]! d[j - 1]! = true) : insInner lt a j d = insInner lt a (j - 1) (swp d j (j - 1)) := by
  obtain ⟨k, rfl⟩ : ∃ k, j = k + 1 := ⟨j - 1, by omega⟩
  rw [Nat.add_sub_cancel] at hl ⊢
  rw [insInner]
  simp [hj, hl]
theorem ins_stop (a j : Nat) (d : Array α) (h : j ≤ a ∨ lt d[j]! d[j - 1]! = false) : insInner lt a j d = d := by
  cases j with
  | zero => rw [insInner]
  | succ k =>
    rw [insInner]
    rw [Nat.add_sub_cancel] at h
    rcases h with h | h
    · simp [show ¬ a < k + 1 by omega]
    · simp [h]
theorem outs_go (a b i : Nat) (d : Array α) (h : i < b) : insOuter lt a b i d = insOuter lt a b (i + 1) (insInner lt a i d) := by rw [insOuter, if_pos h]
theorem outs_stop (a b i : Nat) (d : Array α) (h : ¬ i < b) : insOuter lt a b i d = d := by rw [insOuter, if_neg h]
end

/-- The insertion sort of a part. -/
theorem insert_any (blk off cap a b : Nat) (d : Array Int) (w : World) (hH : Holds (Value.int .u64) w blk off d) (hsz : d.size < 1000000) (hkb : blk < w.heap.size) (hab : a ≤ b) (hb : b ≤ d.size) :
    Calls Try.prog 51 #[.slice (some ⟨blk, off, none⟩) d.size cap, .int .i64 a, .int .i64 b] w (Turned w blk off d.size (Sort.insertionSort ltInt d a b)) := by
  go_enter Try.func51, Try.ntmps51
  go_wp2
  go_loopw [6] (fun vi wr => ∃ (i : Nat) (dk : Array Int), vi = .int .i64 i ∧ a < i ∧ i ≤ b + 1 ∧ RowIs w blk off d.size wr dk ∧ insOuter ltInt a b i dk = insOuter ltInt a b (a + 1) d)
    (fun vi _ => b + 1 - (intOf vi).toNat)
  case atStart => exact ⟨a + 1, d, by go_num, by omega, by omega, RowIs.start hH hkb, rfl⟩
  case round =>
    obtain ⟨i, dk, rfl, hai, hib, hR, hO⟩ := hrel
    have HO := Lib.hid hO
    have HR := Lib.hid hR
    have HH := Lib.hid hH
    clear hO hR hH
    by_cases hlt : i < b
    · go_wp2
      go_loopw [7] (fun vj wr2 => ∃ (j : Nat) (dj : Array Int), vj = .int .i64 j ∧ j ≤ i ∧ RowIs w blk off d.size wr2 dj ∧ insInner ltInt a j dj = insInner ltInt a i dk)
        (fun vj _ => (intOf vj).toNat)
      case atStart => exact ⟨i, dk, rfl, Nat.le_refl _, HR.out, rfl⟩
      case round =>
        obtain ⟨j, dj, rfl, hji, hR2, hI⟩ := hrel
        obtain ⟨G, hG⟩ : ∃ G : Nat → Int, ∀ t, G t = dj[t]! := ⟨fun t => dj[t]!, fun _ => rfl⟩
        have hcw : ∀ t, t < d.size → wr.cell? ⟨blk, off + t, none⟩ = some (.int .u64 (G t)) := fun t ht => by rw [hG]; exact hR2.cell HH.out t ht
        have hfw : ∀ t, t < d.size → wr.frozen? ⟨blk, off + t, none⟩ = false := fun t ht => hR2.frozen HH.out t ht
        have HG := Lib.hid hG
        have HI := Lib.hid hI
        have HR2 := Lib.hid hR2
        have OUT : Hid ((j ≤ a ∨ ltInt dj[j]! dj[j - 1]! = false) → ∀ q, ∃ (i' : Nat) (dk' : Array Int), Value.int .i64 ((i : Int) + 1) = .int .i64 (i' : Nat) ∧ a < i' ∧ i' ≤ b + 1 ∧ RowIs w blk off d.size (wr.drewN q) dk' ∧ insOuter ltInt a b i' dk' = insOuter ltInt a b (a + 1) d) := Lib.hid fun hs q =>
          ⟨i + 1, dj, by go_num, by omega, by omega, HR2.out.drew q, by rw [← HO.out, outs_go _ _ _ _ _ hlt, ← HI.out, ins_stop _ _ _ _ hs]⟩
        clear hG hI hR2
        go_wp2
        by_cases hja : a < j
        · have hd : decide ((a : Int) < (j : Int)) = true := decide_eq_true (by omega)
          go_quiet (first | (go_at_call 57; refine Calls.quiet_of_same (wless_any _ _ _)))
          go_wp2
          · have hl : ltInt (G j) (G (j - 1)) = true := by assumption
            go_region
            all_goals go_wp2
            go_roundw
            case rel =>
              refine ⟨j - 1, swp dj j (j - 1), by congr 1; omega, by omega, ?_, ?_⟩
              · have := (HR2.out.drew (nq + 1)).swap j (j - 1) (by omega) (by omega)
                rw [← HG.out, ← HG.out] at this
                exact this
              · rw [← HI.out, ins_go ltInt a j dj hja (by rw [← HG.out, ← HG.out]; exact hl)]
            case measure => simp [intOf]; omega
          · have hl : ltInt (G j) (G (j - 1)) = false := by assumption
            go_roundw
            case rel => exact OUT.out (Or.inr (by rw [← HG.out, ← HG.out]; exact hl)) nq
            case measure => simp [intOf]; omega
        · have hd : decide ((a : Int) < (j : Int)) = false := decide_eq_false (by omega)
          go_quiet (first | (go_at_call 57; refine Calls.quiet_of_same (wless_any _ _ _)))
          go_wp2
          go_roundw
          case rel => exact OUT.out (Or.inl (by omega)) nq
          case measure => simp [intOf]; omega
    · go_wp2
      go_end0
      exact ⟨rfl, by unfold Sort.insertionSort; rw [← HO.out, outs_stop _ _ _ _ _ hlt]; exact HR.out⟩

end Go.Proofs.Ytoghdkhlliehoaa

namespace Go.Proofs.Ytoghdkhlliehoaa
open Go.RowKit Go.Sort
set_option linter.unusedVariables false
set_option maxRecDepth 100000

/-- Since w0 only new blocks have turned; sb, one of them, counts s. -/
structure Counting (w0 : World) (sb : Nat) (W : World) (s : Nat) : Prop where
  below : Below w0.heap.size w0 W
  new : w0.heap.size ≤ sb
  here : W.cell? ⟨sb, 0, none⟩ = some (.int .i64 s)
  warm : W.frozen? ⟨sb, 0, none⟩ = false
theorem Counting.drew {w0 W : World} {sb s : Nat} (h : Counting w0 sb W s) (q : Nat) : Counting w0 sb (W.drewN q) s :=
  ⟨h.below.trans ⟨rfl, rfl, rfl, Nat.le_refl _, fun _ _ => rfl⟩, h.new, h.here, h.warm⟩
theorem Counting.up {w0 W : World} {sb s : Nat} (h : Counting w0 sb W s) : Counting w0 sb (W.setCell ⟨sb, 0, none⟩ (.int .i64 (s + 1 : Nat))) (s + 1) := by
  obtain ⟨c, e, fr, hb, hc⟩ := cells_of_cell? h.here
  have hlt : 0 < c.size := by
    rcases Nat.eq_zero_or_pos c.size with h0 | h0
    · rw [Array.getElem?_eq_none (by omega)] at hc; cases hc
    · exact h0
  refine ⟨h.below.setCell (h.new) _, h.new, ?_, ?_⟩
  · rw [setCell_eq, cell?_mapBlock _ _ _ _ hb]
    simp [hlt]
  · rw [setCell_eq, frozen?_mapBlock]
    exact h.warm
theorem holds_below {w W : World} {blk off : Nat} {d : Array Int} (hH : Holds (Value.int .u64) w blk off d) (hkb : blk < w.heap.size) (h : Below w.heap.size w W) : Holds (Value.int .u64) W blk off d :=
  fun t ht => ⟨by rw [h.cell hkb]; exact (hH t ht).1, by rw [h.frozen hkb]; exact (hH t ht).2⟩

/-- Two places are told in order, and the count has gone on. -/
def Twain (w0 : World) (sb : Nat) (r : Nat × Nat × Nat) (e : Ending) (w' : World) : Prop := e = .returned (.tuple #[.int .i64 r.1, .int .i64 r.2.1]) ∧ Counting w0 sb w' r.2.2
/-- A place is told. -/
def Single (w0 : World) (sb : Nat) (r : Nat × Nat) (e : Ending) (w' : World) : Prop := e = .returned (.int .i64 r.1) ∧ Counting w0 sb w' r.2

theorem order2_any (blk off cap a b s sb : Nat) (d : Array Int) (w0 W : World) (hH : Holds (Value.int .u64) w0 blk off d) (hkb : blk < w0.heap.size) (hsz : d.size < 1000000) (hS : Counting w0 sb W s) (hs : s < 1000) (ha : a < d.size) (hb : b < d.size) :
    Calls Try.prog 72 #[.slice (some ⟨blk, off, none⟩) d.size cap, .int .i64 a, .int .i64 b, .pointer (some ⟨sb, 0, none⟩)] W (Twain w0 sb (Sort.order2 ltInt d a b s)) := by
  obtain ⟨G, hG⟩ : ∃ G : Nat → Int, ∀ t, G t = d[t]! := ⟨fun t => d[t]!, fun _ => rfl⟩
  have hH2 := holds_below hH hkb hS.below
  have hcw : ∀ t, t < d.size → W.cell? ⟨blk, off + t, none⟩ = some (.int .u64 (G t)) := fun t ht => by rw [hG]; exact (hH2 t ht).1
  have hcs := hS.here
  have hws := hS.warm
  have HS := Lib.hid hS
  have END : Hid (∀ x : Bool, ltInt (G b) (G a) = x → Sort.order2 ltInt d a b s = if x then (b, a, s + 1) else (a, b, s)) := Lib.hid fun x hx => by unfold Sort.order2; rw [← hG, ← hG, hx]
  clear hH2 hH hS hG
  go_enter Try.func72, Try.ntmps72
  go_wp2
  go_quiet (first | (go_at_call 57; refine Calls.quiet_of_same (wless_any _ _ _)))
  go_wp2
  · have hl : ltInt (G b) (G a) = true := by assumption
    go_ret2
    rw [END.out _ hl]
    exact ⟨rfl, by have := (HS.out.drew nq).up; simpa using this⟩
  · have hl : ltInt (G b) (G a) = false := by assumption
    go_ret2
    rw [END.out _ hl]
    exact ⟨rfl, HS.out.drew nq⟩

theorem order2_facts (d : Array Int) (N a b s : Nat) (ha : a < N) (hb : b < N) : (Sort.order2 ltInt d a b s).1 < N ∧ (Sort.order2 ltInt d a b s).2.1 < N ∧ (Sort.order2 ltInt d a b s).2.2 ≤ s + 1 := by
  unfold Sort.order2
  split
  · exact ⟨hb, ha, Nat.le_refl _⟩
  · exact ⟨ha, hb, Nat.le_succ _⟩

theorem median_any (blk off cap a b c s sb : Nat) (d : Array Int) (w0 W : World) (hH : Holds (Value.int .u64) w0 blk off d) (hkb : blk < w0.heap.size) (hsz : d.size < 1000000) (hS : Counting w0 sb W s) (hs : s < 900) (ha : a < d.size) (hb : b < d.size) (hc : c < d.size) :
    Calls Try.prog 67 #[.slice (some ⟨blk, off, none⟩) d.size cap, .int .i64 a, .int .i64 b, .int .i64 c, .pointer (some ⟨sb, 0, none⟩)] W (Single w0 sb (Sort.median ltInt d a b c s)) := by
  obtain ⟨r1, h1⟩ : ∃ r, r = Sort.order2 ltInt d a b s := ⟨_, rfl⟩
  obtain ⟨r2, h2⟩ : ∃ r, r = Sort.order2 ltInt d r1.2.1 c r1.2.2 := ⟨_, rfl⟩
  obtain ⟨r3, h3⟩ : ∃ r, r = Sort.order2 ltInt d r1.1 r2.1 r2.2.2 := ⟨_, rfl⟩
  have f1 := order2_facts d d.size a b s ha hb
  rw [← h1] at f1
  have f2 := order2_facts d d.size r1.2.1 c r1.2.2 f1.2.1 hc
  rw [← h2] at f2
  have f3 := order2_facts d d.size r1.1 r2.1 r2.2.2 f1.1 f2.1
  rw [← h3] at f3
  have HM : Hid (Sort.median ltInt d a b c s = (r3.2.1, r3.2.2)) := Lib.hid (by subst h1; subst h2; subst h3; rfl)
  have C1 : Hid (∀ W, Counting w0 sb W s → Calls Try.prog 72 #[.slice (some ⟨blk, off, none⟩) d.size cap, .int .i64 a, .int .i64 b, .pointer (some ⟨sb, 0, none⟩)] W (Twain w0 sb r1)) :=
    Lib.hid fun W hW => h1 ▸ order2_any blk off cap a b s sb d w0 W hH hkb hsz hW (by omega) ha hb
  have C2 : Hid (∀ W, Counting w0 sb W r1.2.2 → Calls Try.prog 72 #[.slice (some ⟨blk, off, none⟩) d.size cap, .int .i64 r1.2.1, .int .i64 c, .pointer (some ⟨sb, 0, none⟩)] W (Twain w0 sb r2)) :=
    Lib.hid fun W hW => h2 ▸ order2_any blk off cap r1.2.1 c r1.2.2 sb d w0 W hH hkb hsz hW (by omega) f1.2.1 hc
  have C3 : Hid (∀ W, Counting w0 sb W r2.2.2 → Calls Try.prog 72 #[.slice (some ⟨blk, off, none⟩) d.size cap, .int .i64 r1.1, .int .i64 r2.1, .pointer (some ⟨sb, 0, none⟩)] W (Twain w0 sb r3)) :=
    Lib.hid fun W hW => h3 ▸ order2_any blk off cap r1.1 r2.1 r2.2.2 sb d w0 W hH hkb hsz hW (by omega) f1.1 f2.1
  have HS := Lib.hid hS
  clear h1 h2 h3 f1 f2 f3 hH hS
  obtain ⟨p1, q1, s1⟩ := r1
  obtain ⟨p2, q2, s2⟩ := r2
  obtain ⟨p3, q3, s3⟩ := r3
  go_enter Try.func67, Try.ntmps67
  go_wp2_with fail
  refine (C1.out _ HS.out).mono ?_
  rintro e W1 ⟨rfl, hS1⟩
  have HS1 := Lib.hid hS1
  clear hS1
  go_wp2_with fail
  refine (C2.out _ HS1.out).mono ?_
  rintro e W2 ⟨rfl, hS2⟩
  have HS2 := Lib.hid hS2
  clear hS2
  go_wp2_with fail
  refine (C3.out _ HS2.out).mono ?_
  rintro e W3 ⟨rfl, hS3⟩
  have HS3 := Lib.hid hS3
  clear hS3
  go_wp2_with fail
  go_ret
  rw [HM.out]
  exact ⟨rfl, HS3.out⟩

theorem medianAdj_any (blk off cap a s sb : Nat) (d : Array Int) (w0 W : World) (hH : Holds (Value.int .u64) w0 blk off d) (hkb : blk < w0.heap.size) (hsz : d.size < 1000000) (hS : Counting w0 sb W s) (hs : s < 900) (ha0 : 0 < a) (ha : a + 1 < d.size) :
    Calls Try.prog 66 #[.slice (some ⟨blk, off, none⟩) d.size cap, .int .i64 a, .pointer (some ⟨sb, 0, none⟩)] W (Single w0 sb (Sort.medianAdjacent ltInt d a s)) := by
  have hcall := median_any blk off cap (a - 1) a (a + 1) s sb d w0 W hH hkb hsz hS hs (by omega) (by omega) ha
  have hz : (a : Int) - 1 = ((a - 1 : Nat) : Int) := by omega
  rw [show ((a + 1 : Nat) : Int) = (a : Int) + 1 by omega] at hcall
  clear hH hS
  go_enter Try.func66, Try.ntmps66
  go_wp2_with fail
  refine hcall.mono ?_
  rintro e W1 ⟨rfl, hS1⟩
  go_wp2_with fail
  go_ret
  exact ⟨rfl, hS1⟩

/-- The number of a hint. -/
def hintNo : Hint → Int
  | .unknown => 0
  | .increasing => 1
  | .decreasing => 2
/-- A place and a hint are told; old blocks are as they were. -/
def Chosen2 (w : World) (r : Nat × Hint) (e : Ending) (w' : World) : Prop := e = .returned (.tuple #[.int .i64 r.1, .int .i64 (hintNo r.2)]) ∧ Below w.heap.size w w'

/-- The hint of a count of swaps. -/
def hintBy (s : Nat) : Hint := if s = 0 then .increasing else if s = 12 then .decreasing else .unknown

theorem median_facts (d : Array Int) (N a b c s : Nat) (ha : a < N) (hb : b < N) (hc : c < N) : (Sort.median ltInt d a b c s).1 < N ∧ (Sort.median ltInt d a b c s).2 ≤ s + 3 := by
  have f1 := order2_facts d N a b s ha hb
  have f2 := order2_facts d N (Sort.order2 ltInt d a b s).2.1 c (Sort.order2 ltInt d a b s).2.2 f1.2.1 hc
  have f3 := order2_facts d N (Sort.order2 ltInt d a b s).1 (Sort.order2 ltInt d (Sort.order2 ltInt d a b s).2.1 c (Sort.order2 ltInt d a b s).2.2).1 (Sort.order2 ltInt d (Sort.order2 ltInt d a b s).2.1 c (Sort.order2 ltInt d a b s).2.2).2.2 f1.1 f2.1
  exact ⟨f3.2.1, by
    have e : (Sort.median ltInt d a b c s).2 = (Sort.order2 ltInt d (Sort.order2 ltInt d a b s).1 (Sort.order2 ltInt d (Sort.order2 ltInt d a b s).2.1 c (Sort.order2 ltInt d a b s).2.2).1 (Sort.order2 ltInt d (Sort.order2 ltInt d a b s).2.1 c (Sort.order2 ltInt d a b s).2.2).2.2).2.2 := rfl
    omega⟩

theorem choose_end (d : Array Int) (a b l : Nat) (hl : b - a = l) (R : Nat × Nat) (h : R = if l ≥ 8 then (if l ≥ 50 then
      Sort.median ltInt d (Sort.medianAdjacent ltInt d (a + l / 4 * 1) 0).1 (Sort.medianAdjacent ltInt d (a + l / 4 * 2) (Sort.medianAdjacent ltInt d (a + l / 4 * 1) 0).2).1
        (Sort.medianAdjacent ltInt d (a + l / 4 * 3) (Sort.medianAdjacent ltInt d (a + l / 4 * 2) (Sort.medianAdjacent ltInt d (a + l / 4 * 1) 0).2).2).1
        (Sort.medianAdjacent ltInt d (a + l / 4 * 3) (Sort.medianAdjacent ltInt d (a + l / 4 * 2) (Sort.medianAdjacent ltInt d (a + l / 4 * 1) 0).2).2).2
      else Sort.median ltInt d (a + l / 4 * 1) (a + l / 4 * 2) (a + l / 4 * 3) 0) else (a + l / 4 * 2, 0)) : Sort.choosePivot ltInt d a b = (R.1, hintBy R.2) := by
  subst hl
  subst h
  rfl

theorem counting_new (w : World) : Counting w w.heap.size (w.alloc (.cells #[.int .i64 0] 3 (0, 0))) 0 :=
  ⟨(Below.refl _ _).alloc (Nat.le_refl _) _, Nat.le_refl _, by simp only [World.cell?, World.alloc, Array.getElem?_push_size]; rfl, by simp only [World.frozen?, World.alloc, Array.getElem?_push_size]; rfl⟩

theorem choose_any (blk off cap a b : Nat) (d : Array Int) (w : World) (hH : Holds (Value.int .u64) w blk off d) (hkb : blk < w.heap.size) (hsz : d.size < 1000000) (hab : a + 12 < b) (hb : b ≤ d.size) :
    Calls Try.prog 54 #[.slice (some ⟨blk, off, none⟩) d.size cap, .int .i64 a, .int .i64 b] w (Chosen2 w (Sort.choosePivot ltInt d a b)) := by
  obtain ⟨l, hl⟩ : ∃ l : Nat, b - a = l := ⟨_, rfl⟩
  obtain ⟨q, hq⟩ : ∃ q : Nat, q = l / 4 := ⟨_, rfl⟩
  obtain ⟨i, hi⟩ : ∃ i : Nat, i = a + q * 1 := ⟨_, rfl⟩
  obtain ⟨j, hj⟩ : ∃ j : Nat, j = a + q * 2 := ⟨_, rfl⟩
  obtain ⟨k, hk⟩ : ∃ k : Nat, k = a + q * 3 := ⟨_, rfl⟩
  have hbz : (b : Int) - (a : Int) = (l : Int) := by omega
  have hqz : (l : Int) / 4 = (q : Int) := by omega
  have hiz : (a : Int) + (q : Int) = (i : Int) := by omega
  have hjz : (a : Int) + (q : Int) * 2 = (j : Int) := by omega
  have hkz : (a : Int) + (q : Int) * 3 = (k : Int) := by omega
  have h8 : (8 : Int) ≤ (l : Int) := by omega
  have HH := Lib.hid hH
  have HS0 := Lib.hid (counting_new w)
  clear hH
  by_cases h50 : 50 ≤ l
  · have h50z : (50 : Int) ≤ (l : Int) := by omega
    obtain ⟨r1, h1⟩ : ∃ r, r = Sort.medianAdjacent ltInt d i 0 := ⟨_, rfl⟩
    obtain ⟨r2, h2⟩ : ∃ r, r = Sort.medianAdjacent ltInt d j r1.2 := ⟨_, rfl⟩
    obtain ⟨r3, h3⟩ : ∃ r, r = Sort.medianAdjacent ltInt d k r2.2 := ⟨_, rfl⟩
    obtain ⟨R, h4⟩ : ∃ r, r = Sort.median ltInt d r1.1 r2.1 r3.1 r3.2 := ⟨_, rfl⟩
    have HE : Hid (Sort.choosePivot ltInt d a b = (R.1, hintBy R.2)) := Lib.hid (choose_end d a b l hl R (by rw [if_pos (by omega), if_pos h50, ← hq, ← hi, ← hj, ← hk, ← h1, ← h2, ← h3]; exact h4))
    have f1 : r1.1 < d.size ∧ r1.2 ≤ 0 + 3 := h1 ▸ median_facts d d.size (i - 1) i (i + 1) 0 (by omega) (by omega) (by omega)
    have f2 : r2.1 < d.size ∧ r2.2 ≤ r1.2 + 3 := h2 ▸ median_facts d d.size (j - 1) j (j + 1) r1.2 (by omega) (by omega) (by omega)
    have f3 : r3.1 < d.size ∧ r3.2 ≤ r2.2 + 3 := h3 ▸ median_facts d d.size (k - 1) k (k + 1) r2.2 (by omega) (by omega) (by omega)
    have C1 := Lib.hid fun W (hW : Counting w w.heap.size W 0) => h1 ▸ medianAdj_any blk off cap i 0 w.heap.size d w W HH.out hkb hsz hW (by omega) (by omega) (by omega)
    have C2 := Lib.hid fun W (hW : Counting w w.heap.size W r1.2) => h2 ▸ medianAdj_any blk off cap j r1.2 w.heap.size d w W HH.out hkb hsz hW (by omega) (by omega) (by omega)
    have C3 := Lib.hid fun W (hW : Counting w w.heap.size W r2.2) => h3 ▸ medianAdj_any blk off cap k r2.2 w.heap.size d w W HH.out hkb hsz hW (by omega) (by omega) (by omega)
    have C4 := Lib.hid fun W (hW : Counting w w.heap.size W r3.2) => h4 ▸ median_any blk off cap r1.1 r2.1 r3.1 r3.2 w.heap.size d w W HH.out hkb hsz hW (by omega) f1.1 f2.1 f3.1
    clear h1 h2 h3 h4 f1 f2 f3 hi hj hk hq hl
    obtain ⟨p1, s1⟩ := r1
    obtain ⟨p2, s2⟩ := r2
    obtain ⟨p3, s3⟩ := r3
    obtain ⟨p, s⟩ := R
    go_enter Try.func54, Try.ntmps54
    go_wp2_with fail
    refine (C1.out _ HS0.out).mono ?_
    rintro e W1 ⟨rfl, hS1⟩
    have HS1 := Lib.hid hS1
    clear hS1
    go_wp2_with fail
    refine (C2.out _ HS1.out).mono ?_
    rintro e W2 ⟨rfl, hS2⟩
    have HS2 := Lib.hid hS2
    clear hS2
    go_wp2_with fail
    refine (C3.out _ HS2.out).mono ?_
    rintro e W3 ⟨rfl, hS3⟩
    have HS3 := Lib.hid hS3
    clear hS3
    go_wp2_with fail
    refine (C4.out _ HS3.out).mono ?_
    rintro e W4 ⟨rfl, hS4⟩
    have HS4 := Lib.hid hS4
    clear hS4
    have hcs := HS4.out.here
    go_wp2_with fail
    · have hz : ((s : Int) == 0) = true := by assumption
      have hz : s = 0 := by have := eq_of_beq hz; omega
      go_ret2
      rw [HE.out]
      exact ⟨by rw [show hintBy s = .increasing from if_pos hz]; rfl, HS4.out.below⟩
    · have hz : ((s : Int) == 0) = false := by assumption
      have hy : ((s : Int) == 12) = true := by assumption
      have hy : s = 12 := by have := eq_of_beq hy; omega
      go_ret2
      rw [HE.out]
      exact ⟨by rw [show hintBy s = .decreasing by subst hy; rfl]; rfl, HS4.out.below⟩
    · have hz : ((s : Int) == 0) = false := by assumption
      have hy : ((s : Int) == 12) = false := by assumption
      have hz : ¬ s = 0 := by intro h; subst h; revert hz; decide
      have hy : ¬ s = 12 := by intro h; subst h; revert hy; decide
      go_ret2
      rw [HE.out]
      exact ⟨by rw [show hintBy s = .unknown by unfold hintBy; rw [if_neg hz, if_neg hy]]; rfl, HS4.out.below⟩
  · have h50z : ¬ (50 : Int) ≤ (l : Int) := by omega
    obtain ⟨R, h4⟩ : ∃ r, r = Sort.median ltInt d i j k 0 := ⟨_, rfl⟩
    have HE : Hid (Sort.choosePivot ltInt d a b = (R.1, hintBy R.2)) := Lib.hid (choose_end d a b l hl R (by rw [if_pos (by omega), if_neg h50, ← hq, ← hi, ← hj, ← hk]; exact h4))
    have C4 := Lib.hid fun W (hW : Counting w w.heap.size W 0) => h4 ▸ median_any blk off cap i j k 0 w.heap.size d w W HH.out hkb hsz hW (by omega) (by omega) (by omega) (by omega)
    clear h4 hi hj hk hq hl
    obtain ⟨p, s⟩ := R
    go_enter Try.func54, Try.ntmps54
    go_wp2_with fail
    refine (C4.out _ HS0.out).mono ?_
    rintro e W4 ⟨rfl, hS4⟩
    have HS4 := Lib.hid hS4
    clear hS4
    have hcs := HS4.out.here
    go_wp2_with fail
    · have hz : ((s : Int) == 0) = true := by assumption
      have hz : s = 0 := by have := eq_of_beq hz; omega
      go_ret2
      rw [HE.out]
      exact ⟨by rw [show hintBy s = .increasing from if_pos hz]; rfl, HS4.out.below⟩
    · have hz : ((s : Int) == 0) = false := by assumption
      have hy : ((s : Int) == 12) = true := by assumption
      have hy : s = 12 := by have := eq_of_beq hy; omega
      go_ret2
      rw [HE.out]
      exact ⟨by rw [show hintBy s = .decreasing by subst hy; rfl]; rfl, HS4.out.below⟩
    · have hz : ((s : Int) == 0) = false := by assumption
      have hy : ((s : Int) == 12) = false := by assumption
      have hz : ¬ s = 0 := by intro h; subst h; revert hz; decide
      have hy : ¬ s = 12 := by intro h; subst h; revert hy; decide
      go_ret2
      rw [HE.out]
      exact ⟨by rw [show hintBy s = .unknown by unfold hintBy; rw [if_neg hz, if_neg hy]]; rfl, HS4.out.below⟩

end Go.Proofs.Ytoghdkhlliehoaa

namespace Go.Proofs.Ytoghdkhlliehoaa
open Go.RowKit Go.Sort
set_option linter.unusedVariables false
set_option maxRecDepth 100000

section
variable {α : Type} [Inhabited α]
theorem up_go (p : α → Bool) (d : Array α) (j i : Nat) (h : i ≤ j) (hp : p d[i]! = true) : scanUp p d j i = scanUp p d j (i + 1) := by rw [scanUp]; simp [h, hp]
theorem up_stop (p : α → Bool) (d : Array α) (j i : Nat) (h : ¬ i ≤ j ∨ p d[i]! = false) : scanUp p d j i = i := by
  rw [scanUp]
  rcases h with h | h <;> simp [h]
theorem down_go (p : α → Bool) (d : Array α) (i j : Nat) (h : i ≤ j) (h0 : 0 < j) (hp : p d[j]! = true) : scanDown p d i j = scanDown p d i (j - 1) := by
  obtain ⟨k, rfl⟩ : ∃ k, j = k + 1 := ⟨j - 1, by omega⟩
  rw [scanDown]
  simp [h, hp]
theorem down_stop (p : α → Bool) (d : Array α) (i j : Nat) (h : ¬ i ≤ j ∨ p d[j]! = false) : scanDown p d i j = j := by
  cases j with
  | zero => rfl
  | succ k =>
    rw [scanDown]
    rcases h with h | h <;> simp [h]
variable (lt : α → α → Bool)
theorem parteq_go (a i j i2 j2 : Nat) (d : Array α) (h1 : scanUp (fun x => !lt d[a]! x) d j i = i2) (h2 : scanDown (fun x => lt d[a]! x) d i2 j = j2) (h : i2 ≤ j2) : partEqLoop lt a i j d = partEqLoop lt a (i2 + 1) (j2 - 1) (swp d i2 j2) := by
  rw [partEqLoop_eq, h1, h2, if_neg (by omega)]
theorem parteq_stop (a i j i2 j2 : Nat) (d : Array α) (h1 : scanUp (fun x => !lt d[a]! x) d j i = i2) (h2 : scanDown (fun x => lt d[a]! x) d i2 j = j2) (h : ¬ i2 ≤ j2) : partEqLoop lt a i j d = (i2, d) := by
  rw [partEqLoop_eq, h1, h2, if_pos (by omega)]
theorem part_go (a i j i2 j2 : Nat) (d : Array α) (h1 : scanUp (fun x => lt x d[a]!) d j i = i2) (h2 : scanDown (fun x => !lt x d[a]!) d i2 j = j2) (h : i2 ≤ j2) : partLoop lt a i j d = partLoop lt a (i2 + 1) (j2 - 1) (swp d i2 j2) := by
  rw [partLoop_eq, h1, h2, if_neg (by omega)]
theorem part_stop (a i j i2 j2 : Nat) (d : Array α) (h1 : scanUp (fun x => lt x d[a]!) d j i = i2) (h2 : scanDown (fun x => !lt x d[a]!) d i2 j = j2) (h : ¬ i2 ≤ j2) : partLoop lt a i j d = (j2, d) := by
  rw [partLoop_eq, h1, h2, if_pos (by omega)]
end

/-- A place is told, the row turned. -/
def TurnedAt (w : World) (blk off N : Nat) (r : Nat × Array Int) (e : Ending) (w' : World) : Prop := e = .returned (.int .i64 r.1) ∧ RowIs w blk off N w' r.2

theorem partEq_any (blk off cap a b pivot : Nat) (d : Array Int) (w : World) (hH : Holds (Value.int .u64) w blk off d) (hsz : d.size < 1000000) (hkb : blk < w.heap.size) (hap : a < pivot) (hpb : pivot < b) (hb : b ≤ d.size) :
    Calls Try.prog 58 #[.slice (some ⟨blk, off, none⟩) d.size cap, .int .i64 a, .int .i64 b, .int .i64 pivot] w (TurnedAt w blk off d.size (Sort.partitionEqual ltInt d a b pivot)) := by
  obtain ⟨d1, h1⟩ : ∃ d1, d1 = swp d a pivot := ⟨_, rfl⟩
  have HEND : Hid (Sort.partitionEqual ltInt d a b pivot = partEqLoop ltInt a (a + 1) (b - 1) d1) := Lib.hid (by rw [h1]; rfl)
  have HSW : Hid (∀ q, RowIs w blk off d.size (((w.drewN q).setCell ⟨blk, off + a, none⟩ (.int .u64 d[pivot]!)).setCell ⟨blk, off + pivot, none⟩ (.int .u64 d[a]!)) d1) := Lib.hid fun q => by
    rw [h1]
    exact ((RowIs.start hH hkb).drew q).swap a pivot (by omega) (by omega)
  have hcw : ∀ t, t < d.size → w.cell? ⟨blk, off + t, none⟩ = some (.int .u64 d[t]!) := fun t ht => (hH t ht).1
  have hfw : ∀ t, t < d.size → w.frozen? ⟨blk, off + t, none⟩ = false := fun t ht => (hH t ht).2
  have hbz : (b : Int) - 1 = ((b - 1 : Nat) : Int) := by omega
  have HH := Lib.hid hH
  clear h1 hH
  go_enter Try.func58, Try.ntmps58
  go_wp2_with fail
  go_region
  go_wp2_with fail
  go_loopw [9, 10] (fun vi vj wr => ∃ (i j : Nat) (dk : Array Int), vi = .int .i64 i ∧ vj = .int .i64 j ∧ a < i ∧ i ≤ j + 1 ∧ j < b ∧ RowIs w blk off d.size wr dk ∧ partEqLoop ltInt a i j dk = partEqLoop ltInt a (a + 1) (b - 1) d1)
    (fun vi vj _ => (intOf vj + 1 - intOf vi).toNat)
  case atStart => exact ⟨a + 1, b - 1, d1, by go_num, by first | rfl | go_num, by omega, by omega, by omega, HSW.out 1, rfl⟩
  case round =>
    obtain ⟨i, j, dk, rfl, rfl, hai, hij, hjb, hR, hO⟩ := hrel
    obtain ⟨G, hG⟩ : ∃ G : Nat → Int, ∀ t, G t = dk[t]! := ⟨fun t => dk[t]!, fun _ => rfl⟩
    have HG := Lib.hid hG
    have HO := Lib.hid hO
    have HR := Lib.hid hR
    clear hG hO hR hcw hfw HSW
    go_wp2_with fail
    go_loopw [9] (fun vi wr2 => ∃ i2 : Nat, vi = .int .i64 i2 ∧ i ≤ i2 ∧ i2 ≤ j + 1 ∧ RowIs w blk off d.size wr2 dk ∧ scanUp (fun x => !ltInt dk[a]! x) dk j i2 = scanUp (fun x => !ltInt dk[a]! x) dk j i)
      (fun vi _ => j + 1 - (intOf vi).toNat)
    case atStart => exact ⟨i, by first | rfl | go_num, Nat.le_refl _, hij, HR.out, rfl⟩
    case round =>
      obtain ⟨i2, rfl, hi2, hi2j, hR2, hU⟩ := hrel
      have hcw : ∀ t, t < d.size → wr.cell? ⟨blk, off + t, none⟩ = some (.int .u64 (G t)) := fun t ht => by rw [HG.out]; exact hR2.cell HH.out t ht
      have hfw : ∀ t, t < d.size → wr.frozen? ⟨blk, off + t, none⟩ = false := fun t ht => hR2.frozen HH.out t ht
      have HR2 := Lib.hid hR2
      have HU := Lib.hid hU
      clear hR2 hU HR
      by_cases hc : i2 ≤ j
      · have hcz : decide ((i2 : Int) ≤ (j : Int)) = true := decide_eq_true (by omega)
        go_wp2_with fail
        go_big_quiet (first | (go_at_call 57; refine Calls.quiet_of_same (wless_any _ _ _)))
        go_wp2_with fail
        · have hp : (!ltInt (G a) (G i2)) = true := by assumption
          go_roundw
          case rel => exact ⟨i2 + 1, by go_num, by omega, by omega, HR2.out.drew nq, by rw [← HU.out, up_go _ _ _ _ hc (by rw [← HG.out, ← HG.out]; exact hp)]⟩
          case measure => simp [intOf]; omega
        · have hp : (!ltInt (G a) (G i2)) = false := by assumption
          have HU2 : Hid (scanUp (fun x => !ltInt dk[a]! x) dk j i = i2) := Lib.hid (by rw [← HU.out, up_stop _ _ _ _ (.inr (by rw [← HG.out, ← HG.out]; exact hp))])
          have HR3 := Lib.hid (HR2.out.drew nq)
          clear hcw hfw HR2
          generalize wr.drewN nq = wr3 at HR3 ⊢
          clear nq
          go_wp2_with fail
          go_loopw [10] (fun vj wr2 => ∃ j2 : Nat, vj = .int .i64 j2 ∧ i2 ≤ j2 + 1 ∧ j2 ≤ j ∧ RowIs w blk off d.size wr2 dk ∧ scanDown (fun x => ltInt dk[a]! x) dk i2 j2 = scanDown (fun x => ltInt dk[a]! x) dk i2 j)
            (fun vj _ => (intOf vj).toNat)
          case atStart => exact ⟨j, by first | rfl | go_num, by omega, Nat.le_refl _, HR3.out, rfl⟩
          case round =>
            obtain ⟨j2, rfl, hij2, hj2, hR4, hD⟩ := hrel
            have hcw : ∀ t, t < d.size → wr.cell? ⟨blk, off + t, none⟩ = some (.int .u64 (G t)) := fun t ht => by rw [HG.out]; exact hR4.cell HH.out t ht
            have hfw : ∀ t, t < d.size → wr.frozen? ⟨blk, off + t, none⟩ = false := fun t ht => hR4.frozen HH.out t ht
            have HR4 := Lib.hid hR4
            have HD := Lib.hid hD
            clear hR4 hD HR3
            by_cases hc2 : i2 ≤ j2
            · have hc2z : decide ((i2 : Int) ≤ (j2 : Int)) = true := decide_eq_true (by omega)
              go_wp2_with fail
              go_big_quiet (first | (go_at_call 57; refine Calls.quiet_of_same (wless_any _ _ _)))
              go_wp2_with fail
              · have hq : ltInt (G a) (G j2) = true := by assumption
                go_roundw
                case rel => exact ⟨j2 - 1, by congr 1; omega, by omega, by omega, HR4.out.drew nq, by rw [← HD.out, down_go _ _ _ _ hc2 (by omega) (by rw [← HG.out, ← HG.out]; exact hq)]⟩
                case measure => simp [intOf]; omega
              · have hq : ltInt (G a) (G j2) = false := by assumption
                have hlt : i2 < j2 := by
                  rcases Nat.lt_or_eq_of_le hc2 with h | h
                  · exact h
                  · subst h
                    rw [hq] at hp
                    cases hp
                have HD2 : Hid (scanDown (fun x => ltInt dk[a]! x) dk i2 j = j2) := Lib.hid (by rw [← HD.out, down_stop _ _ _ _ (.inr (by rw [← HG.out, ← HG.out]; exact hq))])
                go_region
                go_wp2_with fail
                go_roundw
                case rel =>
                  refine ⟨i2 + 1, j2 - 1, swp dk i2 j2, by go_num, by congr 1; omega, by omega, by omega, by omega, ?_, by rw [← HO.out, parteq_go _ _ _ _ _ _ _ HU2.out HD2.out hc2]⟩
                  have := (HR4.out.drew (nq + 1)).swap i2 j2 (by omega) (by omega)
                  rw [← HG.out, ← HG.out] at this
                  exact this
                case measure => simp [intOf]; omega
            · have hc2z : decide ((i2 : Int) ≤ (j2 : Int)) = false := decide_eq_false (by omega)
              go_wp2_with fail
              go_big_quiet (first | (go_at_call 57; refine Calls.quiet_of_same (wless_any _ _ _)))
              go_wp2_with fail
              have HD2 : Hid (scanDown (fun x => ltInt dk[a]! x) dk i2 j = j2) := Lib.hid (by rw [← HD.out, down_stop _ _ _ _ (.inl hc2)])
              go_ret
              exact ⟨by rw [HEND.out, ← HO.out, parteq_stop _ _ _ _ _ _ _ HU2.out HD2.out hc2]; rfl, by rw [HEND.out, ← HO.out, parteq_stop _ _ _ _ _ _ _ HU2.out HD2.out hc2]; exact HR4.out.drew nq⟩
      · have hcz : decide ((i2 : Int) ≤ (j : Int)) = false := decide_eq_false (by omega)
        go_wp2_with fail
        go_big_quiet (first | (go_at_call 57; refine Calls.quiet_of_same (wless_any _ _ _)))
        go_wp2_with fail
        have HU2 : Hid (scanUp (fun x => !ltInt dk[a]! x) dk j i = i2) := Lib.hid (by rw [← HU.out, up_stop _ _ _ _ (.inl hc)])
        have HR3 := Lib.hid (HR2.out.drew nq)
        clear hcw hfw HR2
        generalize wr.drewN nq = wr3 at HR3 ⊢
        clear nq
        go_wp2_with fail
        go_loopw [10] (fun vj wr2 => ∃ j2 : Nat, vj = .int .i64 j2 ∧ i2 ≤ j2 + 1 ∧ j2 ≤ j ∧ RowIs w blk off d.size wr2 dk ∧ scanDown (fun x => ltInt dk[a]! x) dk i2 j2 = scanDown (fun x => ltInt dk[a]! x) dk i2 j)
          (fun vj _ => (intOf vj).toNat)
        case atStart => exact ⟨j, by first | rfl | go_num, by omega, Nat.le_refl _, HR3.out, rfl⟩
        case round =>
          obtain ⟨j2, rfl, hij2, hj2, hR4, hD⟩ := hrel
          have hcw : ∀ t, t < d.size → wr.cell? ⟨blk, off + t, none⟩ = some (.int .u64 (G t)) := fun t ht => by rw [HG.out]; exact hR4.cell HH.out t ht
          have hfw : ∀ t, t < d.size → wr.frozen? ⟨blk, off + t, none⟩ = false := fun t ht => hR4.frozen HH.out t ht
          have HR4 := Lib.hid hR4
          have HD := Lib.hid hD
          clear hR4 hD HR3
          by_cases hc2 : i2 ≤ j2
          · exact absurd hc2 (by omega)
          · have hc2z : decide ((i2 : Int) ≤ (j2 : Int)) = false := decide_eq_false (by omega)
            go_wp2_with fail
            go_big_quiet (first | (go_at_call 57; refine Calls.quiet_of_same (wless_any _ _ _)))
            go_wp2_with fail
            have HD2 : Hid (scanDown (fun x => ltInt dk[a]! x) dk i2 j = j2) := Lib.hid (by rw [← HD.out, down_stop _ _ _ _ (.inl hc2)])
            go_ret
            exact ⟨by rw [HEND.out, ← HO.out, parteq_stop _ _ _ _ _ _ _ HU2.out HD2.out hc2]; rfl, by rw [HEND.out, ← HO.out, parteq_stop _ _ _ _ _ _ _ HU2.out HD2.out hc2]; exact HR4.out.drew nq⟩

/-- A place is told, and whether all stood right; the row turned. -/
def TurnedOk (w : World) (blk off N : Nat) (r : Nat × Bool × Array Int) (e : Ending) (w' : World) : Prop := e = .returned (.tuple #[.int .i64 r.1, .bool r.2.1]) ∧ RowIs w blk off N w' r.2.2

theorem part_first (d : Array Int) (a b pivot i2 j2 : Nat) (dk : Array Int) (hk : dk = swp d a pivot) (h1 : scanUp (fun x => ltInt x dk[a]!) dk (b - 1) (a + 1) = i2) (h2 : scanDown (fun x => !ltInt x dk[a]!) dk i2 (b - 1) = j2) (h : ¬ i2 ≤ j2) :
    Sort.partition ltInt d a b pivot = (j2, true, swp dk j2 a) := by
  subst hk
  unfold Sort.partition
  simp only [h1, h2]
  rw [if_pos (by omega)]
theorem part_second (d : Array Int) (a b pivot i2 j2 : Nat) (dk : Array Int) (hk : dk = swp d a pivot) (h1 : scanUp (fun x => ltInt x dk[a]!) dk (b - 1) (a + 1) = i2) (h2 : scanDown (fun x => !ltInt x dk[a]!) dk i2 (b - 1) = j2) (h : i2 ≤ j2) :
    Sort.partition ltInt d a b pivot = ((partLoop ltInt a (i2 + 1) (j2 - 1) (swp dk i2 j2)).1, false, swp (partLoop ltInt a (i2 + 1) (j2 - 1) (swp dk i2 j2)).2 (partLoop ltInt a (i2 + 1) (j2 - 1) (swp dk i2 j2)).1 a) := by
  subst hk
  unfold Sort.partition
  simp only [h1, h2]
  rw [if_neg (by omega)]

set_option maxRecDepth 100000 in
set_option maxHeartbeats 2000000 in
theorem part_any (blk off cap a b pivot : Nat) (d : Array Int) (w : World) (hH : Holds (Value.int .u64) w blk off d) (hsz : d.size < 1000000) (hkb : blk < w.heap.size) (hap : a < pivot) (hpb : pivot < b) (hb : b ≤ d.size) :
    Calls Try.prog 59 #[.slice (some ⟨blk, off, none⟩) d.size cap, .int .i64 a, .int .i64 b, .int .i64 pivot] w (TurnedOk w blk off d.size (Sort.partition ltInt d a b pivot)) := by
  obtain ⟨dk, h1⟩ : ∃ d1, d1 = swp d a pivot := ⟨_, rfl⟩
  obtain ⟨i, hi⟩ : ∃ i, i = a + 1 := ⟨_, rfl⟩
  obtain ⟨j, hj⟩ : ∃ j, j = b - 1 := ⟨_, rfl⟩
  have HFST : Hid (∀ i2 j2, scanUp (fun x => ltInt x dk[a]!) dk j i = i2 → scanDown (fun x => !ltInt x dk[a]!) dk i2 j = j2 → ¬ i2 ≤ j2 → Sort.partition ltInt d a b pivot = (j2, true, swp dk j2 a)) := Lib.hid fun i2 j2 u v x => part_first d a b pivot i2 j2 dk h1 (by rw [← hi, ← hj]; exact u) (by rw [← hj]; exact v) x
  have HSND : Hid (∀ i2 j2, scanUp (fun x => ltInt x dk[a]!) dk j i = i2 → scanDown (fun x => !ltInt x dk[a]!) dk i2 j = j2 → i2 ≤ j2 → Sort.partition ltInt d a b pivot = ((partLoop ltInt a (i2 + 1) (j2 - 1) (swp dk i2 j2)).1, false, swp (partLoop ltInt a (i2 + 1) (j2 - 1) (swp dk i2 j2)).2 (partLoop ltInt a (i2 + 1) (j2 - 1) (swp dk i2 j2)).1 a)) :=
    Lib.hid fun i2 j2 u v x => part_second d a b pivot i2 j2 dk h1 (by rw [← hi, ← hj]; exact u) (by rw [← hj]; exact v) x
  have HSW : Hid (∀ q, RowIs w blk off d.size (((w.drewN q).setCell ⟨blk, off + a, none⟩ (.int .u64 d[pivot]!)).setCell ⟨blk, off + pivot, none⟩ (.int .u64 d[a]!)) dk) := Lib.hid fun q => by
    rw [h1]
    exact ((RowIs.start hH hkb).drew q).swap a pivot (by omega) (by omega)
  have hcw : ∀ t, t < d.size → w.cell? ⟨blk, off + t, none⟩ = some (.int .u64 d[t]!) := fun t ht => (hH t ht).1
  have hfw : ∀ t, t < d.size → w.frozen? ⟨blk, off + t, none⟩ = false := fun t ht => (hH t ht).2
  have hjz : (b : Int) - 1 = (j : Int) := by omega
  have hai : a < i := by omega
  have hij : i ≤ j + 1 := by omega
  have hjb : j < b := by omega
  have HH := Lib.hid hH
  have HIZ : Hid ((a : Int) + 1 = (i : Int)) := Lib.hid (by omega)
  clear h1 hH hi hj
  obtain ⟨G, hG⟩ : ∃ G : Nat → Int, ∀ t, G t = dk[t]! := ⟨fun t => dk[t]!, fun _ => rfl⟩
  have HG := Lib.hid hG
  clear hG
  go_enter Try.func59, Try.ntmps59
  go_wp2_with fail
  go_region
  have HR := Lib.hid (HSW.out 1)
  clear hcw hfw HSW
  go_wp2_with fail
  rw [HIZ.out]
  go_loopw [10] (fun vi wr2 => ∃ i2 : Nat, vi = .int .i64 i2 ∧ i ≤ i2 ∧ i2 ≤ j + 1 ∧ RowIs w blk off d.size wr2 dk ∧ scanUp (fun x => ltInt x dk[a]!) dk j i2 = scanUp (fun x => ltInt x dk[a]!) dk j i)
    (fun vi _ => j + 1 - (intOf vi).toNat)
  case atStart => exact ⟨i, by first | rfl | go_num, Nat.le_refl _, hij, HR.out, rfl⟩
  case round =>
    obtain ⟨i2, rfl, hi2, hi2j, hR2, hU⟩ := hrel
    have hcw : ∀ t, t < d.size → wr.cell? ⟨blk, off + t, none⟩ = some (.int .u64 (G t)) := fun t ht => by rw [HG.out]; exact hR2.cell HH.out t ht
    have hfw : ∀ t, t < d.size → wr.frozen? ⟨blk, off + t, none⟩ = false := fun t ht => hR2.frozen HH.out t ht
    have HR2 := Lib.hid hR2
    have HU := Lib.hid hU
    clear hR2 hU HR
    by_cases hc : i2 ≤ j
    · have hcz : decide ((i2 : Int) ≤ (j : Int)) = true := decide_eq_true (by omega)
      go_wp2_with fail
      go_big_quiet (first | (go_at_call 57; refine Calls.quiet_of_same (wless_any _ _ _)))
      go_wp2_with fail
      · have hp : ltInt (G i2) (G a) = true := by assumption
        go_roundw
        case rel => exact ⟨i2 + 1, by go_num, by omega, by omega, HR2.out.drew nq, by rw [← HU.out, up_go _ _ _ _ hc (by rw [← HG.out, ← HG.out]; exact hp)]⟩
        case measure => simp [intOf]; omega
      · have hp : ltInt (G i2) (G a) = false := by assumption
        have HU2 : Hid (scanUp (fun x => ltInt x dk[a]!) dk j i = i2) := Lib.hid (by rw [← HU.out, up_stop _ _ _ _ (.inr (by rw [← HG.out, ← HG.out]; exact hp))])
        have HR3 := Lib.hid (HR2.out.drew nq)
        clear hcw hfw HR2
        generalize wr.drewN nq = wr3 at HR3 ⊢
        clear nq
        go_wp2_with fail
        go_loopw [11] (fun vj wr2 => ∃ j2 : Nat, vj = .int .i64 j2 ∧ i2 ≤ j2 + 1 ∧ j2 ≤ j ∧ RowIs w blk off d.size wr2 dk ∧ scanDown (fun x => !ltInt x dk[a]!) dk i2 j2 = scanDown (fun x => !ltInt x dk[a]!) dk i2 j)
          (fun vj _ => (intOf vj).toNat)
        case atStart => exact ⟨j, by first | rfl | go_num, by omega, Nat.le_refl _, HR3.out, rfl⟩
        case round =>
          obtain ⟨j2, rfl, hij2, hj2, hR4, hD⟩ := hrel
          have hcw : ∀ t, t < d.size → wr.cell? ⟨blk, off + t, none⟩ = some (.int .u64 (G t)) := fun t ht => by rw [HG.out]; exact hR4.cell HH.out t ht
          have hfw : ∀ t, t < d.size → wr.frozen? ⟨blk, off + t, none⟩ = false := fun t ht => hR4.frozen HH.out t ht
          have HR4 := Lib.hid hR4
          have HD := Lib.hid hD
          clear hR4 hD HR3
          by_cases hc2 : i2 ≤ j2
          · have hc2z : decide ((i2 : Int) ≤ (j2 : Int)) = true := decide_eq_true (by omega)
            go_wp2_with fail
            go_big_quiet (first | (go_at_call 57; refine Calls.quiet_of_same (wless_any _ _ _)))
            go_wp2_with fail
            · have hq : (!ltInt (G j2) (G a)) = true := by assumption
              go_roundw
              case rel => exact ⟨j2 - 1, by congr 1; omega, by omega, by omega, HR4.out.drew nq, by rw [← HD.out, down_go _ _ _ _ hc2 (by omega) (by rw [← HG.out, ← HG.out]; exact hq)]⟩
              case measure => simp [intOf]; omega
            · have hq : (!ltInt (G j2) (G a)) = false := by assumption
              have hlt : i2 < j2 := by
                rcases Nat.lt_or_eq_of_le hc2 with h | h
                · exact h
                · subst h
                  rw [hp] at hq
                  cases hq
              have HD2 : Hid (scanDown (fun x => !ltInt x dk[a]!) dk i2 j = j2) := Lib.hid (by rw [← HD.out, down_stop _ _ _ _ (.inr (by rw [← HG.out, ← HG.out]; exact hq))])
              have HSW1 : Hid (RowIs w blk off d.size (((wr.drewN (nq + 1)).setCell ⟨blk, off + i2, none⟩ (.int .u64 (G j2))).setCell ⟨blk, off + j2, none⟩ (.int .u64 (G i2))) (swp dk i2 j2)) := Lib.hid (by
                have := (HR4.out.drew (nq + 1)).swap i2 j2 (by omega) (by omega)
                rw [← HG.out, ← HG.out] at this
                exact this)
              have HPOST : Hid (∀ (x : Nat) (dx : Array Int), partLoop ltInt a (i2 + 1) (j2 - 1) (swp dk i2 j2) = (x, dx) → Sort.partition ltInt d a b pivot = (x, false, swp dx x a)) := Lib.hid fun x dx hx => by
                rw [HSND.out _ _ HU2.out HD2.out hc2, hx]
              obtain ⟨L, hL⟩ : ∃ L, partLoop ltInt a (i2 + 1) (j2 - 1) (swp dk i2 j2) = L := ⟨_, rfl⟩
              rw [hL] at HPOST
              have hi3 : i2 + 1 ≤ (j2 - 1) + 1 := by omega
              go_region
              go_wp2_with fail
              go_loopw [10, 11] (fun vi vj wr => ∃ (i j : Nat) (dk : Array Int), vi = .int .i64 i ∧ vj = .int .i64 j ∧ a < i ∧ i ≤ j + 1 ∧ j < b ∧ RowIs w blk off d.size wr dk ∧ partLoop ltInt a i j dk = L)
                (fun vi vj _ => (intOf vj + 1 - intOf vi).toNat)
              case atStart => exact ⟨i2 + 1, j2 - 1, swp dk i2 j2, by go_num, by congr 1; omega, by omega, hi3, by omega, HSW1.out, hL⟩
              case round =>
                clear hcw hfw HSW1 HG HU HU2 HD HD2 HR4 HFST HSND hp hq hc hc2 hij hjb hL
                obtain ⟨i, j, dk, rfl, rfl, hai, hij, hjb, hR, hO⟩ := hrel
                obtain ⟨G, hG⟩ : ∃ G : Nat → Int, ∀ t, G t = dk[t]! := ⟨fun t => dk[t]!, fun _ => rfl⟩
                have HG := Lib.hid hG
                have HO := Lib.hid hO
                have HR := Lib.hid hR
                clear hG hO hR
                go_wp2_with fail
                go_loopw [10] (fun vi wr2 => ∃ i2 : Nat, vi = .int .i64 i2 ∧ i ≤ i2 ∧ i2 ≤ j + 1 ∧ RowIs w blk off d.size wr2 dk ∧ scanUp (fun x => ltInt x dk[a]!) dk j i2 = scanUp (fun x => ltInt x dk[a]!) dk j i)
                  (fun vi _ => j + 1 - (intOf vi).toNat)
                case atStart => exact ⟨i, by first | rfl | go_num, Nat.le_refl _, hij, HR.out, rfl⟩
                case round =>
                  obtain ⟨i2, rfl, hi2, hi2j, hR2, hU⟩ := hrel
                  have hcw : ∀ t, t < d.size → wr.cell? ⟨blk, off + t, none⟩ = some (.int .u64 (G t)) := fun t ht => by rw [HG.out]; exact hR2.cell HH.out t ht
                  have hfw : ∀ t, t < d.size → wr.frozen? ⟨blk, off + t, none⟩ = false := fun t ht => hR2.frozen HH.out t ht
                  have HR2 := Lib.hid hR2
                  have HU := Lib.hid hU
                  clear hR2 hU HR
                  by_cases hc : i2 ≤ j
                  · have hcz : decide ((i2 : Int) ≤ (j : Int)) = true := decide_eq_true (by omega)
                    go_wp2_with fail
                    go_big_quiet (first | (go_at_call 57; refine Calls.quiet_of_same (wless_any _ _ _)))
                    go_wp2_with fail
                    · have hp : ltInt (G i2) (G a) = true := by assumption
                      go_roundw
                      case rel => exact ⟨i2 + 1, by go_num, by omega, by omega, HR2.out.drew nq, by rw [← HU.out, up_go _ _ _ _ hc (by rw [← HG.out, ← HG.out]; exact hp)]⟩
                      case measure => simp [intOf]; omega
                    · have hp : ltInt (G i2) (G a) = false := by assumption
                      have HU2 : Hid (scanUp (fun x => ltInt x dk[a]!) dk j i = i2) := Lib.hid (by rw [← HU.out, up_stop _ _ _ _ (.inr (by rw [← HG.out, ← HG.out]; exact hp))])
                      have HR3 := Lib.hid (HR2.out.drew nq)
                      clear hcw hfw HR2
                      generalize wr.drewN nq = wr3 at HR3 ⊢
                      clear nq
                      go_wp2_with fail
                      go_loopw [11] (fun vj wr2 => ∃ j2 : Nat, vj = .int .i64 j2 ∧ i2 ≤ j2 + 1 ∧ j2 ≤ j ∧ RowIs w blk off d.size wr2 dk ∧ scanDown (fun x => !ltInt x dk[a]!) dk i2 j2 = scanDown (fun x => !ltInt x dk[a]!) dk i2 j)
                        (fun vj _ => (intOf vj).toNat)
                      case atStart => exact ⟨j, by first | rfl | go_num, by omega, Nat.le_refl _, HR3.out, rfl⟩
                      case round =>
                        obtain ⟨j2, rfl, hij2, hj2, hR4, hD⟩ := hrel
                        have hcw : ∀ t, t < d.size → wr.cell? ⟨blk, off + t, none⟩ = some (.int .u64 (G t)) := fun t ht => by rw [HG.out]; exact hR4.cell HH.out t ht
                        have hfw : ∀ t, t < d.size → wr.frozen? ⟨blk, off + t, none⟩ = false := fun t ht => hR4.frozen HH.out t ht
                        have HR4 := Lib.hid hR4
                        have HD := Lib.hid hD
                        clear hR4 hD HR3
                        by_cases hc2 : i2 ≤ j2
                        · have hc2z : decide ((i2 : Int) ≤ (j2 : Int)) = true := decide_eq_true (by omega)
                          go_wp2_with fail
                          go_big_quiet (first | (go_at_call 57; refine Calls.quiet_of_same (wless_any _ _ _)))
                          go_wp2_with fail
                          · have hq : (!ltInt (G j2) (G a)) = true := by assumption
                            go_roundw
                            case rel => exact ⟨j2 - 1, by congr 1; omega, by omega, by omega, HR4.out.drew nq, by rw [← HD.out, down_go _ _ _ _ hc2 (by omega) (by rw [← HG.out, ← HG.out]; exact hq)]⟩
                            case measure => simp [intOf]; omega
                          · have hq : (!ltInt (G j2) (G a)) = false := by assumption
                            have hlt : i2 < j2 := by
                              rcases Nat.lt_or_eq_of_le hc2 with h | h
                              · exact h
                              · subst h
                                rw [hp] at hq
                                cases hq
                            have HD2 : Hid (scanDown (fun x => !ltInt x dk[a]!) dk i2 j = j2) := Lib.hid (by rw [← HD.out, down_stop _ _ _ _ (.inr (by rw [← HG.out, ← HG.out]; exact hq))])
                            go_region
                            go_wp2_with fail
                            go_roundw
                            case rel =>
                              refine ⟨i2 + 1, j2 - 1, swp dk i2 j2, by go_num, by congr 1; omega, by omega, by omega, by omega, ?_, by rw [← HO.out, part_go _ _ _ _ _ _ _ HU2.out HD2.out hc2]⟩
                              have := (HR4.out.drew (nq + 1)).swap i2 j2 (by omega) (by omega)
                              rw [← HG.out, ← HG.out] at this
                              exact this
                            case measure => simp [intOf]; omega
                        · have hc2z : decide ((i2 : Int) ≤ (j2 : Int)) = false := decide_eq_false (by omega)
                          go_wp2_with fail
                          go_big_quiet (first | (go_at_call 57; refine Calls.quiet_of_same (wless_any _ _ _)))
                          go_wp2_with fail
                          have HD2 : Hid (scanDown (fun x => !ltInt x dk[a]!) dk i2 j = j2) := Lib.hid (by rw [← HD.out, down_stop _ _ _ _ (.inl hc2)])
                          have HSW : Hid (∀ q, RowIs w blk off d.size (((wr.drewN q).setCell ⟨blk, off + j2, none⟩ (.int .u64 (G a))).setCell ⟨blk, off + a, none⟩ (.int .u64 (G j2))) (swp dk j2 a)) := Lib.hid fun q => by
                            have := (HR4.out.drew q).swap j2 a (by omega) (by omega)
                            rw [← HG.out, ← HG.out] at this
                            exact this
                          have HE := Lib.hid (HPOST.out _ _ ((HO.out.symm.trans (part_stop _ _ _ _ _ _ _ HU2.out HD2.out hc2))))
                          clear HR4
                          have had : a < d.size := by omega
                          have hjd : j2 < d.size := by omega
                          rcases Nat.eq_or_lt_of_le (show a ≤ j2 by omega) with hja | hja
                          · first | (exfalso; omega) | skip
                            all_goals
                              subst hja
                              go_region
                              go_wp2_with fail
                              go_ret2
                              exact ⟨by rw [HE.out]; first | done | rfl, by rw [HE.out]; exact HSW.out (nq + 1)⟩
                          · go_region
                            go_wp2_with fail
                            go_ret2
                            exact ⟨by rw [HE.out]; first | done | rfl, by rw [HE.out]; exact HSW.out (nq + 1)⟩
                  · have hcz : decide ((i2 : Int) ≤ (j : Int)) = false := decide_eq_false (by omega)
                    go_wp2_with fail
                    go_big_quiet (first | (go_at_call 57; refine Calls.quiet_of_same (wless_any _ _ _)))
                    go_wp2_with fail
                    have HU2 : Hid (scanUp (fun x => ltInt x dk[a]!) dk j i = i2) := Lib.hid (by rw [← HU.out, up_stop _ _ _ _ (.inl hc)])
                    have HR3 := Lib.hid (HR2.out.drew nq)
                    clear hcw hfw HR2
                    generalize wr.drewN nq = wr3 at HR3 ⊢
                    clear nq
                    go_wp2_with fail
                    go_loopw [11] (fun vj wr2 => ∃ j2 : Nat, vj = .int .i64 j2 ∧ i2 ≤ j2 + 1 ∧ j2 ≤ j ∧ RowIs w blk off d.size wr2 dk ∧ scanDown (fun x => !ltInt x dk[a]!) dk i2 j2 = scanDown (fun x => !ltInt x dk[a]!) dk i2 j)
                      (fun vj _ => (intOf vj).toNat)
                    case atStart => exact ⟨j, by first | rfl | go_num, by omega, Nat.le_refl _, HR3.out, rfl⟩
                    case round =>
                      obtain ⟨j2, rfl, hij2, hj2, hR4, hD⟩ := hrel
                      have hcw : ∀ t, t < d.size → wr.cell? ⟨blk, off + t, none⟩ = some (.int .u64 (G t)) := fun t ht => by rw [HG.out]; exact hR4.cell HH.out t ht
                      have hfw : ∀ t, t < d.size → wr.frozen? ⟨blk, off + t, none⟩ = false := fun t ht => hR4.frozen HH.out t ht
                      have HR4 := Lib.hid hR4
                      have HD := Lib.hid hD
                      clear hR4 hD HR3
                      by_cases hc2 : i2 ≤ j2
                      · exact absurd hc2 (by omega)
                      · have hc2z : decide ((i2 : Int) ≤ (j2 : Int)) = false := decide_eq_false (by omega)
                        go_wp2_with fail
                        go_big_quiet (first | (go_at_call 57; refine Calls.quiet_of_same (wless_any _ _ _)))
                        go_wp2_with fail
                        have HD2 : Hid (scanDown (fun x => !ltInt x dk[a]!) dk i2 j = j2) := Lib.hid (by rw [← HD.out, down_stop _ _ _ _ (.inl hc2)])
                        have HSW : Hid (∀ q, RowIs w blk off d.size (((wr.drewN q).setCell ⟨blk, off + j2, none⟩ (.int .u64 (G a))).setCell ⟨blk, off + a, none⟩ (.int .u64 (G j2))) (swp dk j2 a)) := Lib.hid fun q => by
                          have := (HR4.out.drew q).swap j2 a (by omega) (by omega)
                          rw [← HG.out, ← HG.out] at this
                          exact this
                        have HE := Lib.hid (HPOST.out _ _ ((HO.out.symm.trans (part_stop _ _ _ _ _ _ _ HU2.out HD2.out hc2))))
                        clear HR4
                        have had : a < d.size := by omega
                        have hjd : j2 < d.size := by omega
                        rcases Nat.eq_or_lt_of_le (show a ≤ j2 by omega) with hja | hja
                        · first | (exfalso; omega) | skip
                          all_goals
                            subst hja
                            go_region
                            go_wp2_with fail
                            go_ret2
                            exact ⟨by rw [HE.out]; first | done | rfl, by rw [HE.out]; exact HSW.out (nq + 1)⟩
                        · go_region
                          go_wp2_with fail
                          go_ret2
                          exact ⟨by rw [HE.out]; first | done | rfl, by rw [HE.out]; exact HSW.out (nq + 1)⟩
          · have hc2z : decide ((i2 : Int) ≤ (j2 : Int)) = false := decide_eq_false (by omega)
            go_wp2_with fail
            go_big_quiet (first | (go_at_call 57; refine Calls.quiet_of_same (wless_any _ _ _)))
            go_wp2_with fail
            have HD2 : Hid (scanDown (fun x => !ltInt x dk[a]!) dk i2 j = j2) := Lib.hid (by rw [← HD.out, down_stop _ _ _ _ (.inl hc2)])
            have HSW : Hid (∀ q, RowIs w blk off d.size (((wr.drewN q).setCell ⟨blk, off + j2, none⟩ (.int .u64 (G a))).setCell ⟨blk, off + a, none⟩ (.int .u64 (G j2))) (swp dk j2 a)) := Lib.hid fun q => by
              have := (HR4.out.drew q).swap j2 a (by omega) (by omega)
              rw [← HG.out, ← HG.out] at this
              exact this
            have HE := Lib.hid (HFST.out _ _ HU2.out HD2.out hc2)
            clear HR4
            have had : a < d.size := by omega
            have hjd : j2 < d.size := by omega
            rcases Nat.eq_or_lt_of_le (show a ≤ j2 by omega) with hja | hja
            · first | (exfalso; omega) | skip
              all_goals
                subst hja
                go_region
                go_wp2_with fail
                go_ret2
                exact ⟨by rw [HE.out]; first | done | rfl, by rw [HE.out]; exact HSW.out (nq + 1)⟩
            · go_region
              go_wp2_with fail
              go_ret2
              exact ⟨by rw [HE.out]; first | done | rfl, by rw [HE.out]; exact HSW.out (nq + 1)⟩
    · have hcz : decide ((i2 : Int) ≤ (j : Int)) = false := decide_eq_false (by omega)
      go_wp2_with fail
      go_big_quiet (first | (go_at_call 57; refine Calls.quiet_of_same (wless_any _ _ _)))
      go_wp2_with fail
      have HU2 : Hid (scanUp (fun x => ltInt x dk[a]!) dk j i = i2) := Lib.hid (by rw [← HU.out, up_stop _ _ _ _ (.inl hc)])
      have HR3 := Lib.hid (HR2.out.drew nq)
      clear hcw hfw HR2
      generalize wr.drewN nq = wr3 at HR3 ⊢
      clear nq
      go_wp2_with fail
      go_loopw [11] (fun vj wr2 => ∃ j2 : Nat, vj = .int .i64 j2 ∧ i2 ≤ j2 + 1 ∧ j2 ≤ j ∧ RowIs w blk off d.size wr2 dk ∧ scanDown (fun x => !ltInt x dk[a]!) dk i2 j2 = scanDown (fun x => !ltInt x dk[a]!) dk i2 j)
        (fun vj _ => (intOf vj).toNat)
      case atStart => exact ⟨j, by first | rfl | go_num, by omega, Nat.le_refl _, HR3.out, rfl⟩
      case round =>
        obtain ⟨j2, rfl, hij2, hj2, hR4, hD⟩ := hrel
        have hcw : ∀ t, t < d.size → wr.cell? ⟨blk, off + t, none⟩ = some (.int .u64 (G t)) := fun t ht => by rw [HG.out]; exact hR4.cell HH.out t ht
        have hfw : ∀ t, t < d.size → wr.frozen? ⟨blk, off + t, none⟩ = false := fun t ht => hR4.frozen HH.out t ht
        have HR4 := Lib.hid hR4
        have HD := Lib.hid hD
        clear hR4 hD HR3
        by_cases hc2 : i2 ≤ j2
        · exact absurd hc2 (by omega)
        · have hc2z : decide ((i2 : Int) ≤ (j2 : Int)) = false := decide_eq_false (by omega)
          go_wp2_with fail
          go_big_quiet (first | (go_at_call 57; refine Calls.quiet_of_same (wless_any _ _ _)))
          go_wp2_with fail
          have HD2 : Hid (scanDown (fun x => !ltInt x dk[a]!) dk i2 j = j2) := Lib.hid (by rw [← HD.out, down_stop _ _ _ _ (.inl hc2)])
          have HSW : Hid (∀ q, RowIs w blk off d.size (((wr.drewN q).setCell ⟨blk, off + j2, none⟩ (.int .u64 (G a))).setCell ⟨blk, off + a, none⟩ (.int .u64 (G j2))) (swp dk j2 a)) := Lib.hid fun q => by
            have := (HR4.out.drew q).swap j2 a (by omega) (by omega)
            rw [← HG.out, ← HG.out] at this
            exact this
          have HE := Lib.hid (HFST.out _ _ HU2.out HD2.out hc2)
          clear HR4
          have had : a < d.size := by omega
          have hjd : j2 < d.size := by omega
          rcases Nat.eq_or_lt_of_le (show a ≤ j2 by omega) with hja | hja
          · first | (exfalso; omega) | skip
            all_goals
              subst hja
              go_region
              go_wp2_with fail
              go_ret2
              exact ⟨by rw [HE.out]; first | done | rfl, by rw [HE.out]; exact HSW.out (nq + 1)⟩
          · go_region
            go_wp2_with fail
            go_ret2
            exact ⟨by rw [HE.out]; first | done | rfl, by rw [HE.out]; exact HSW.out (nq + 1)⟩

end Go.Proofs.Ytoghdkhlliehoaa

/- The library's sort over words: the partial insertion sort (a few shifts, or a sorted part told). Written by wip/tools/gen_sr5.py. -/
namespace Go.Proofs.Ytoghdkhlliehoaa
open Go.RowKit Go.Sort
set_option linter.unusedVariables false
set_option maxRecDepth 100000

section
variable {α : Type} [Inhabited α] (lt : α → α → Bool)
theorem sorted_go (d : Array α) (b i : Nat) (h : i < b) (hl : (!lt d[i]! d[i - 1]!) = true) : scanSorted lt d b i = scanSorted lt d b (i + 1) := by
  rw [scanSorted, if_pos (by rw [hl]; simp [h])]
theorem sorted_stop (d : Array α) (b i : Nat) (h : ¬ i < b ∨ (!lt d[i]! d[i - 1]!) = false) : scanSorted lt d b i = i := by
  rw [scanSorted]
  rcases h with h | h
  · simp [h]
  · rw [h]; simp
theorem shd_go (j : Nat) (d : Array α) (hj : 1 ≤ j) (hl : (!lt d[j]! d[j - 1]!) = false) : shiftDown lt j d = shiftDown lt (j - 1) (swp d j (j - 1)) := by
  obtain ⟨k, rfl⟩ : ∃ k, j = k + 1 := ⟨j - 1, by omega⟩
  rw [Nat.add_sub_cancel] at hl ⊢
  rw [shiftDown, hl]
  rfl
theorem shd_stop (j : Nat) (d : Array α) (h : ¬ 1 ≤ j ∨ (!lt d[j]! d[j - 1]!) = true) : shiftDown lt j d = d := by
  cases j with
  | zero => rw [shiftDown]
  | succ k =>
    rw [Nat.add_sub_cancel] at h
    rcases h with h | h
    · omega
    · rw [shiftDown, h]; rfl
theorem shu_go (b j : Nat) (d : Array α) (hj : j < b) (hl : (!lt d[j]! d[j - 1]!) = false) : shiftUp lt b j d = shiftUp lt b (j + 1) (swp d j (j - 1)) := by
  rw [shiftUp, if_pos hj, hl]
  rfl
theorem shu_stop (b j : Nat) (d : Array α) (h : ¬ j < b ∨ (!lt d[j]! d[j - 1]!) = true) : shiftUp lt b j d = d := by
  rw [shiftUp]
  rcases h with h | h
  · rw [if_neg h]
  · rw [h]; simp
theorem pins_end (a b i : Nat) (d : Array α) : partialIns lt a b 0 i d = (d, false) := by rw [partialIns]
theorem pins_true (a b s i : Nat) (d : Array α) (hs : s < 5) (h : scanSorted lt d b i = b) : partialIns lt a b (5 - s) i d = (d, true) := by
  obtain ⟨k, hk⟩ : ∃ k, 5 - s = k + 1 := ⟨4 - s, by omega⟩
  rw [hk, partialIns, h]
  simp
theorem pins_few (a b s i i2 : Nat) (d : Array α) (hs : s < 5) (h : scanSorted lt d b i = i2) (hb : ¬ i2 = b) (h50 : b - a < 50) : partialIns lt a b (5 - s) i d = (d, false) := by
  obtain ⟨k, hk⟩ : ∃ k, 5 - s = k + 1 := ⟨4 - s, by omega⟩
  rw [hk, partialIns, h]
  simp [hb, h50]
theorem pins_on (a b s i i2 : Nat) (d d2 d3 : Array α) (hs : s < 5) (h : scanSorted lt d b i = i2) (hb : ¬ i2 = b) (h50 : ¬ b - a < 50)
    (h2 : (if i2 - a ≥ 2 then shiftDown lt (i2 - 1) (swp d i2 (i2 - 1)) else swp d i2 (i2 - 1)) = d2) (h3 : (if b - i2 ≥ 2 then shiftUp lt b (i2 + 1) d2 else d2) = d3) : partialIns lt a b (5 - s) i d = partialIns lt a b (5 - (s + 1)) i2 d3 := by
  obtain ⟨k, hk⟩ : ∃ k, 5 - s = k + 1 := ⟨4 - s, by omega⟩
  have hk2 : 5 - (s + 1) = k := by omega
  rw [hk, hk2, partialIns, h]
  simp only [if_neg hb, if_neg h50, h2, h3]
end

/-- Whether the part is in order is told; the row turned. -/
def TurnedSo (w : World) (blk off N : Nat) (r : Array Int × Bool) (e : Ending) (w' : World) : Prop := e = .returned (.bool r.2) ∧ RowIs w blk off N w' r.1

set_option maxRecDepth 100000 in
set_option maxHeartbeats 2000000 in
theorem partial_any (blk off cap a b : Nat) (d : Array Int) (w : World) (hH : Holds (Value.int .u64) w blk off d) (hsz : d.size < 1000000) (hkb : blk < w.heap.size) (hab : a < b) (hb : b ≤ d.size) :
    Calls Try.prog 56 #[.slice (some ⟨blk, off, none⟩) d.size cap, .int .i64 a, .int .i64 b] w (TurnedSo w blk off d.size (Sort.partialInsertionSort ltInt d a b)) := by
  obtain ⟨R, hRR⟩ : ∃ R, Sort.partialInsertionSort ltInt d a b = R := ⟨_, rfl⟩
  rw [hRR]
  have hRR : partialIns ltInt a b (5 - 0) (a + 1) d = R := hRR
  have HH := Lib.hid hH
  clear hH
  go_enter Try.func56, Try.ntmps56
  go_wp2_with fail
  go_loopw [7, 8] (fun vi vs wr => ∃ (i s : Nat) (dk : Array Int), vi = .int .i64 i ∧ vs = .int .i64 s ∧ a < i ∧ i ≤ b ∧ s ≤ 5 ∧ RowIs w blk off d.size wr dk ∧ partialIns ltInt a b (5 - s) i dk = R)
    (fun vi vs _ => 5 - (intOf vs).toNat)
  case atStart => exact ⟨a + 1, 0, d, by go_num, by first | rfl | go_num, by omega, by omega, by omega, RowIs.start HH.out hkb, hRR⟩
  case round =>
    clear hRR
    obtain ⟨i, s, dk, rfl, rfl, hai, hib, hs5, hR, hO⟩ := hrel
    have HR := Lib.hid hR
    have HO := Lib.hid hO
    clear hR hO
    by_cases hs : s < 5
    · have hsz5 : (s : Int) < 5 := by omega
      go_wp2_with fail
      go_loopw [7] (fun vi wr2 => ∃ i2 : Nat, vi = .int .i64 i2 ∧ i ≤ i2 ∧ i2 ≤ b ∧ RowIs w blk off d.size wr2 dk ∧ scanSorted ltInt dk b i2 = scanSorted ltInt dk b i)
        (fun vi _ => b - (intOf vi).toNat)
      case atStart => exact ⟨i, rfl, Nat.le_refl _, hib, HR.out, rfl⟩
      case round =>
        obtain ⟨i2, rfl, hi2, hi2b, hR4, hS⟩ := hrel
        obtain ⟨G, hG⟩ : ∃ G : Nat → Int, ∀ t, G t = dk[t]! := ⟨fun t => dk[t]!, fun _ => rfl⟩
        have hcw : ∀ t, t < d.size → wr.cell? ⟨blk, off + t, none⟩ = some (.int .u64 (G t)) := fun t ht => by rw [hG]; exact hR4.cell HH.out t ht
        have hfw : ∀ t, t < d.size → wr.frozen? ⟨blk, off + t, none⟩ = false := fun t ht => hR4.frozen HH.out t ht
        have HG := Lib.hid hG
        have HR5 := Lib.hid hR4
        clear hG hR4
        have HS := Lib.hid hS
        clear hS HR
        by_cases hc : i2 < b
        · have hcz : decide ((i2 : Int) < (b : Int)) = true := decide_eq_true (by omega)
          have hie : ¬ i2 = b := by omega
          have hiez : ((i2 : Int) == (b : Int)) = false := by rw [beq_eq_false_iff_ne]; omega
          by_cases h50 : b - a < 50
          · have h50z : (b : Int) - (a : Int) < 50 := by omega
            go_wp2_with fail
            go_big_quiet (first | (go_at_call 57; refine Calls.quiet_of_same (wless_any _ _ _)))
            go_wp2_with fail
            · have hl : (!ltInt (G i2) (G (i2 - 1))) = true := by assumption
              go_roundw
              case rel => exact ⟨i2 + 1, by go_num, by omega, by omega, HR5.out.drew nq, by rw [← HS.out, sorted_go _ _ _ _ hc (by rw [← HG.out, ← HG.out]; exact hl)]⟩
              case measure => simp [intOf]; omega
            · have hl : (!ltInt (G i2) (G (i2 - 1))) = false := by assumption
              have HS2 : Hid (scanSorted ltInt dk b i = i2) := Lib.hid (by rw [← HS.out, sorted_stop _ _ _ _ (.inr (by rw [← HG.out, ← HG.out]; exact hl))])
              go_ret
              have hx := pins_few ltInt a b s i i2 dk hs HS2.out hie h50
              rw [HO.out] at hx
              rw [hx]
              exact ⟨rfl, HR5.out.drew nq⟩
          · have h50z : ¬ (b : Int) - (a : Int) < 50 := by omega
            by_cases hu : 2 ≤ b - i2
            · have huz : (2 : Int) ≤ (b : Int) - (i2 : Int) := by omega
              go_wp2_with fail
              go_big_quiet (first | (go_at_call 57; refine Calls.quiet_of_same (wless_any _ _ _)))
              go_wp2_with fail
              · have hl : (!ltInt (G i2) (G (i2 - 1))) = true := by assumption
                go_roundw
                case rel => exact ⟨i2 + 1, by go_num, by omega, by omega, HR5.out.drew nq, by rw [← HS.out, sorted_go _ _ _ _ hc (by rw [← HG.out, ← HG.out]; exact hl)]⟩
                case measure => simp [intOf]; omega
              · have hl : (!ltInt (G i2) (G (i2 - 1))) = false := by assumption
                have HS2 : Hid (scanSorted ltInt dk b i = i2) := Lib.hid (by rw [← HS.out, sorted_stop _ _ _ _ (.inr (by rw [← HG.out, ← HG.out]; exact hl))])
                have HON : Hid (∀ d2 d3, (if i2 - a ≥ 2 then shiftDown ltInt (i2 - 1) (swp dk i2 (i2 - 1)) else swp dk i2 (i2 - 1)) = d2 → (if b - i2 ≥ 2 then shiftUp ltInt b (i2 + 1) d2 else d2) = d3 → partialIns ltInt a b (5 - s) i dk = partialIns ltInt a b (5 - (s + 1)) i2 d3) :=
                  Lib.hid fun d2 d3 u v => pins_on ltInt a b s i i2 dk d2 d3 hs HS2.out hie h50 u v
                have HSW : Hid (RowIs w blk off d.size (((wr.drewN (nq + 1)).setCell ⟨blk, off + i2, none⟩ (.int .u64 (G (i2 - 1)))).setCell ⟨blk, off + (i2 - 1), none⟩ (.int .u64 (G i2))) (swp dk i2 (i2 - 1))) := Lib.hid (by
                  have := (HR5.out.drew (nq + 1)).swap i2 (i2 - 1) (by omega) (by omega)
                  rw [← HG.out, ← HG.out] at this
                  exact this)
                go_region
                clear hcw hfw HG HR5 HS
                generalize ((wr.drewN (nq + 1)).setCell ⟨blk, off + i2, none⟩ (.int .u64 (G (i2 - 1)))).setCell ⟨blk, off + (i2 - 1), none⟩ (.int .u64 (G i2)) = wr7 at HSW ⊢
                by_cases hd : 2 ≤ i2 - a
                · have hdz : (2 : Int) ≤ (i2 : Int) - (a : Int) := by omega
                  go_wp2_with fail
                  go_loopw [9] (fun vj wr2 => ∃ (j : Nat) (dj : Array Int), vj = .int .i64 j ∧ j < i2 ∧ RowIs w blk off d.size wr2 dj ∧ shiftDown ltInt j dj = shiftDown ltInt (i2 - 1) (swp dk i2 (i2 - 1)))
                    (fun vj _ => (intOf vj).toNat)
                  case atStart => exact ⟨i2 - 1, swp dk i2 (i2 - 1), by congr 1; omega, by omega, HSW.out, rfl⟩
                  case round =>
                    obtain ⟨j, dj, rfl, hji, hR6, hJ⟩ := hrel
                    clear HSW
                    obtain ⟨G, hG⟩ : ∃ G : Nat → Int, ∀ t, G t = dj[t]! := ⟨fun t => dj[t]!, fun _ => rfl⟩
                    have hcw : ∀ t, t < d.size → wr.cell? ⟨blk, off + t, none⟩ = some (.int .u64 (G t)) := fun t ht => by rw [hG]; exact hR6.cell HH.out t ht
                    have hfw : ∀ t, t < d.size → wr.frozen? ⟨blk, off + t, none⟩ = false := fun t ht => hR6.frozen HH.out t ht
                    have HG := Lib.hid hG
                    have HR5 := Lib.hid hR6
                    clear hG hR6
                    have HJ := Lib.hid hJ
                    clear hJ
                    by_cases hjc : 1 ≤ j
                    · have hjz : (1 : Int) ≤ (j : Int) := by omega
                      go_wp2_with fail
                      go_big_quiet (first | (go_at_call 57; refine Calls.quiet_of_same (wless_any _ _ _)))
                      go_wp2_with fail
                      · have hl : (!ltInt (G j) (G (j - 1))) = true := by assumption
                        have HQ0 := Lib.hid (HR5.out.drew nq)
                        have HD0 : Hid ((if i2 - a ≥ 2 then shiftDown ltInt (i2 - 1) (swp dk i2 (i2 - 1)) else swp dk i2 (i2 - 1)) = dj) := Lib.hid (by rw [if_pos hd, ← HJ.out, shd_stop _ _ _ (.inr (by rw [← HG.out, ← HG.out]; exact hl))])
                        clear hcw hfw HG HR5 HJ hl
                        generalize wr.drewN nq = wr5 at HQ0 ⊢
                        clear nq
                        have HQ := Lib.hid (HQ0.out)
                        have HD2 : Hid ((if i2 - a ≥ 2 then shiftDown ltInt (i2 - 1) (swp dk i2 (i2 - 1)) else swp dk i2 (i2 - 1)) = dj) := Lib.hid (HD0.out)
                        go_wp2_with fail
                        go_loopw [10] (fun vj wr2 => ∃ (j : Nat) (du : Array Int), vj = .int .i64 j ∧ i2 < j ∧ j ≤ b ∧ RowIs w blk off d.size wr2 du ∧ shiftUp ltInt b j du = shiftUp ltInt b (i2 + 1) dj)
                          (fun vj _ => b - (intOf vj).toNat)
                        case atStart => exact ⟨i2 + 1, dj, by go_num, by omega, by omega, HQ.out, rfl⟩
                        case round =>
                          obtain ⟨j, du, rfl, hij, hjb, hR6, hJ⟩ := hrel
                          obtain ⟨G, hG⟩ : ∃ G : Nat → Int, ∀ t, G t = du[t]! := ⟨fun t => du[t]!, fun _ => rfl⟩
                          have hcw : ∀ t, t < d.size → wr.cell? ⟨blk, off + t, none⟩ = some (.int .u64 (G t)) := fun t ht => by rw [hG]; exact hR6.cell HH.out t ht
                          have hfw : ∀ t, t < d.size → wr.frozen? ⟨blk, off + t, none⟩ = false := fun t ht => hR6.frozen HH.out t ht
                          have HG := Lib.hid hG
                          have HR5 := Lib.hid hR6
                          clear hG hR6
                          have HJ := Lib.hid hJ
                          clear hJ
                          by_cases hjc : j < b
                          · have hjz : (j : Int) < (b : Int) := by omega
                            go_wp2_with fail
                            go_big_quiet (first | (go_at_call 57; refine Calls.quiet_of_same (wless_any _ _ _)))
                            go_wp2_with fail
                            · have hl : (!ltInt (G j) (G (j - 1))) = true := by assumption
                              go_wp2_with fail
                              go_roundw
                              case rel => exact ⟨i2, s + 1, du, by first | rfl | go_num, by go_num, by omega, by omega, by omega, HR5.out.drew nq, (HON.out _ _ HD2.out (by rw [if_pos hu, ← HJ.out, shu_stop _ _ _ _ (.inr (by rw [← HG.out, ← HG.out]; exact hl))])).symm.trans HO.out⟩
                              case measure => simp [intOf]; omega
                            · have hl : (!ltInt (G j) (G (j - 1))) = false := by assumption
                              go_region
                              go_wp2_with fail
                              go_roundw
                              case rel =>
                                refine ⟨j + 1, swp du j (j - 1), by go_num, by omega, by omega, ?_, by rw [← HJ.out, shu_go _ _ _ _ hjc (by rw [← HG.out, ← HG.out]; exact hl)]⟩
                                have := (HR5.out.drew (nq + 1)).swap j (j - 1) (by omega) (by omega)
                                rw [← HG.out, ← HG.out] at this
                                exact this
                              case measure => simp [intOf]; omega
                          · have hjz : ¬ (j : Int) < (b : Int) := by omega
                            go_wp2_with fail
                            go_roundw
                            case rel => exact ⟨i2, s + 1, du, by first | rfl | go_num, by go_num, by omega, by omega, by omega, HR5.out, (HON.out _ _ HD2.out (by rw [if_pos hu, ← HJ.out, shu_stop _ _ _ _ (.inl hjc)])).symm.trans HO.out⟩
                            case measure => simp [intOf]; omega
                      · have hl : (!ltInt (G j) (G (j - 1))) = false := by assumption
                        go_region
                        go_wp2_with fail
                        go_roundw
                        case rel =>
                          refine ⟨j - 1, swp dj j (j - 1), by congr 1; omega, by omega, ?_, by rw [← HJ.out, shd_go _ _ _ hjc (by rw [← HG.out, ← HG.out]; exact hl)]⟩
                          have := (HR5.out.drew (nq + 1)).swap j (j - 1) (by omega) (by omega)
                          rw [← HG.out, ← HG.out] at this
                          exact this
                        case measure => simp [intOf]; omega
                    · have hjz : ¬ (1 : Int) ≤ (j : Int) := by omega
                      have HD0 : Hid ((if i2 - a ≥ 2 then shiftDown ltInt (i2 - 1) (swp dk i2 (i2 - 1)) else swp dk i2 (i2 - 1)) = dj) := Lib.hid (by rw [if_pos hd, ← HJ.out, shd_stop _ _ _ (.inl hjc)])
                      have HQ0 := HR5
                      clear hcw hfw HG HR5 HJ
                      have HQ := Lib.hid (HQ0.out)
                      have HD2 : Hid ((if i2 - a ≥ 2 then shiftDown ltInt (i2 - 1) (swp dk i2 (i2 - 1)) else swp dk i2 (i2 - 1)) = dj) := Lib.hid (HD0.out)
                      go_wp2_with fail
                      go_loopw [10] (fun vj wr2 => ∃ (j : Nat) (du : Array Int), vj = .int .i64 j ∧ i2 < j ∧ j ≤ b ∧ RowIs w blk off d.size wr2 du ∧ shiftUp ltInt b j du = shiftUp ltInt b (i2 + 1) dj)
                        (fun vj _ => b - (intOf vj).toNat)
                      case atStart => exact ⟨i2 + 1, dj, by go_num, by omega, by omega, HQ.out, rfl⟩
                      case round =>
                        obtain ⟨j, du, rfl, hij, hjb, hR6, hJ⟩ := hrel
                        obtain ⟨G, hG⟩ : ∃ G : Nat → Int, ∀ t, G t = du[t]! := ⟨fun t => du[t]!, fun _ => rfl⟩
                        have hcw : ∀ t, t < d.size → wr.cell? ⟨blk, off + t, none⟩ = some (.int .u64 (G t)) := fun t ht => by rw [hG]; exact hR6.cell HH.out t ht
                        have hfw : ∀ t, t < d.size → wr.frozen? ⟨blk, off + t, none⟩ = false := fun t ht => hR6.frozen HH.out t ht
                        have HG := Lib.hid hG
                        have HR5 := Lib.hid hR6
                        clear hG hR6
                        have HJ := Lib.hid hJ
                        clear hJ
                        by_cases hjc : j < b
                        · have hjz : (j : Int) < (b : Int) := by omega
                          go_wp2_with fail
                          go_big_quiet (first | (go_at_call 57; refine Calls.quiet_of_same (wless_any _ _ _)))
                          go_wp2_with fail
                          · have hl : (!ltInt (G j) (G (j - 1))) = true := by assumption
                            go_wp2_with fail
                            go_roundw
                            case rel => exact ⟨i2, s + 1, du, by first | rfl | go_num, by go_num, by omega, by omega, by omega, HR5.out.drew nq, (HON.out _ _ HD2.out (by rw [if_pos hu, ← HJ.out, shu_stop _ _ _ _ (.inr (by rw [← HG.out, ← HG.out]; exact hl))])).symm.trans HO.out⟩
                            case measure => simp [intOf]; omega
                          · have hl : (!ltInt (G j) (G (j - 1))) = false := by assumption
                            go_region
                            go_wp2_with fail
                            go_roundw
                            case rel =>
                              refine ⟨j + 1, swp du j (j - 1), by go_num, by omega, by omega, ?_, by rw [← HJ.out, shu_go _ _ _ _ hjc (by rw [← HG.out, ← HG.out]; exact hl)]⟩
                              have := (HR5.out.drew (nq + 1)).swap j (j - 1) (by omega) (by omega)
                              rw [← HG.out, ← HG.out] at this
                              exact this
                            case measure => simp [intOf]; omega
                        · have hjz : ¬ (j : Int) < (b : Int) := by omega
                          go_wp2_with fail
                          go_roundw
                          case rel => exact ⟨i2, s + 1, du, by first | rfl | go_num, by go_num, by omega, by omega, by omega, HR5.out, (HON.out _ _ HD2.out (by rw [if_pos hu, ← HJ.out, shu_stop _ _ _ _ (.inl hjc)])).symm.trans HO.out⟩
                          case measure => simp [intOf]; omega
                · have hdz : ¬ (2 : Int) ≤ (i2 : Int) - (a : Int) := by omega
                  have HQ := Lib.hid (HSW.out)
                  have HD2 : Hid ((if i2 - a ≥ 2 then shiftDown ltInt (i2 - 1) (swp dk i2 (i2 - 1)) else swp dk i2 (i2 - 1)) = (swp dk i2 (i2 - 1))) := Lib.hid ((if_neg hd))
                  go_wp2_with fail
                  go_loopw [10] (fun vj wr2 => ∃ (j : Nat) (du : Array Int), vj = .int .i64 j ∧ i2 < j ∧ j ≤ b ∧ RowIs w blk off d.size wr2 du ∧ shiftUp ltInt b j du = shiftUp ltInt b (i2 + 1) (swp dk i2 (i2 - 1)))
                    (fun vj _ => b - (intOf vj).toNat)
                  case atStart => exact ⟨i2 + 1, (swp dk i2 (i2 - 1)), by go_num, by omega, by omega, HQ.out, rfl⟩
                  case round =>
                    obtain ⟨j, du, rfl, hij, hjb, hR6, hJ⟩ := hrel
                    obtain ⟨G, hG⟩ : ∃ G : Nat → Int, ∀ t, G t = du[t]! := ⟨fun t => du[t]!, fun _ => rfl⟩
                    have hcw : ∀ t, t < d.size → wr.cell? ⟨blk, off + t, none⟩ = some (.int .u64 (G t)) := fun t ht => by rw [hG]; exact hR6.cell HH.out t ht
                    have hfw : ∀ t, t < d.size → wr.frozen? ⟨blk, off + t, none⟩ = false := fun t ht => hR6.frozen HH.out t ht
                    have HG := Lib.hid hG
                    have HR5 := Lib.hid hR6
                    clear hG hR6
                    have HJ := Lib.hid hJ
                    clear hJ
                    by_cases hjc : j < b
                    · have hjz : (j : Int) < (b : Int) := by omega
                      go_wp2_with fail
                      go_big_quiet (first | (go_at_call 57; refine Calls.quiet_of_same (wless_any _ _ _)))
                      go_wp2_with fail
                      · have hl : (!ltInt (G j) (G (j - 1))) = true := by assumption
                        go_wp2_with fail
                        go_roundw
                        case rel => exact ⟨i2, s + 1, du, by first | rfl | go_num, by go_num, by omega, by omega, by omega, HR5.out.drew nq, (HON.out _ _ HD2.out (by rw [if_pos hu, ← HJ.out, shu_stop _ _ _ _ (.inr (by rw [← HG.out, ← HG.out]; exact hl))])).symm.trans HO.out⟩
                        case measure => simp [intOf]; omega
                      · have hl : (!ltInt (G j) (G (j - 1))) = false := by assumption
                        go_region
                        go_wp2_with fail
                        go_roundw
                        case rel =>
                          refine ⟨j + 1, swp du j (j - 1), by go_num, by omega, by omega, ?_, by rw [← HJ.out, shu_go _ _ _ _ hjc (by rw [← HG.out, ← HG.out]; exact hl)]⟩
                          have := (HR5.out.drew (nq + 1)).swap j (j - 1) (by omega) (by omega)
                          rw [← HG.out, ← HG.out] at this
                          exact this
                        case measure => simp [intOf]; omega
                    · have hjz : ¬ (j : Int) < (b : Int) := by omega
                      go_wp2_with fail
                      go_roundw
                      case rel => exact ⟨i2, s + 1, du, by first | rfl | go_num, by go_num, by omega, by omega, by omega, HR5.out, (HON.out _ _ HD2.out (by rw [if_pos hu, ← HJ.out, shu_stop _ _ _ _ (.inl hjc)])).symm.trans HO.out⟩
                      case measure => simp [intOf]; omega
            · have huz : ¬ (2 : Int) ≤ (b : Int) - (i2 : Int) := by omega
              go_wp2_with fail
              go_big_quiet (first | (go_at_call 57; refine Calls.quiet_of_same (wless_any _ _ _)))
              go_wp2_with fail
              · have hl : (!ltInt (G i2) (G (i2 - 1))) = true := by assumption
                go_roundw
                case rel => exact ⟨i2 + 1, by go_num, by omega, by omega, HR5.out.drew nq, by rw [← HS.out, sorted_go _ _ _ _ hc (by rw [← HG.out, ← HG.out]; exact hl)]⟩
                case measure => simp [intOf]; omega
              · have hl : (!ltInt (G i2) (G (i2 - 1))) = false := by assumption
                have HS2 : Hid (scanSorted ltInt dk b i = i2) := Lib.hid (by rw [← HS.out, sorted_stop _ _ _ _ (.inr (by rw [← HG.out, ← HG.out]; exact hl))])
                have HON : Hid (∀ d2 d3, (if i2 - a ≥ 2 then shiftDown ltInt (i2 - 1) (swp dk i2 (i2 - 1)) else swp dk i2 (i2 - 1)) = d2 → (if b - i2 ≥ 2 then shiftUp ltInt b (i2 + 1) d2 else d2) = d3 → partialIns ltInt a b (5 - s) i dk = partialIns ltInt a b (5 - (s + 1)) i2 d3) :=
                  Lib.hid fun d2 d3 u v => pins_on ltInt a b s i i2 dk d2 d3 hs HS2.out hie h50 u v
                have HSW : Hid (RowIs w blk off d.size (((wr.drewN (nq + 1)).setCell ⟨blk, off + i2, none⟩ (.int .u64 (G (i2 - 1)))).setCell ⟨blk, off + (i2 - 1), none⟩ (.int .u64 (G i2))) (swp dk i2 (i2 - 1))) := Lib.hid (by
                  have := (HR5.out.drew (nq + 1)).swap i2 (i2 - 1) (by omega) (by omega)
                  rw [← HG.out, ← HG.out] at this
                  exact this)
                go_region
                clear hcw hfw HG HR5 HS
                generalize ((wr.drewN (nq + 1)).setCell ⟨blk, off + i2, none⟩ (.int .u64 (G (i2 - 1)))).setCell ⟨blk, off + (i2 - 1), none⟩ (.int .u64 (G i2)) = wr7 at HSW ⊢
                by_cases hd : 2 ≤ i2 - a
                · have hdz : (2 : Int) ≤ (i2 : Int) - (a : Int) := by omega
                  go_wp2_with fail
                  go_loopw [9] (fun vj wr2 => ∃ (j : Nat) (dj : Array Int), vj = .int .i64 j ∧ j < i2 ∧ RowIs w blk off d.size wr2 dj ∧ shiftDown ltInt j dj = shiftDown ltInt (i2 - 1) (swp dk i2 (i2 - 1)))
                    (fun vj _ => (intOf vj).toNat)
                  case atStart => exact ⟨i2 - 1, swp dk i2 (i2 - 1), by congr 1; omega, by omega, HSW.out, rfl⟩
                  case round =>
                    obtain ⟨j, dj, rfl, hji, hR6, hJ⟩ := hrel
                    clear HSW
                    obtain ⟨G, hG⟩ : ∃ G : Nat → Int, ∀ t, G t = dj[t]! := ⟨fun t => dj[t]!, fun _ => rfl⟩
                    have hcw : ∀ t, t < d.size → wr.cell? ⟨blk, off + t, none⟩ = some (.int .u64 (G t)) := fun t ht => by rw [hG]; exact hR6.cell HH.out t ht
                    have hfw : ∀ t, t < d.size → wr.frozen? ⟨blk, off + t, none⟩ = false := fun t ht => hR6.frozen HH.out t ht
                    have HG := Lib.hid hG
                    have HR5 := Lib.hid hR6
                    clear hG hR6
                    have HJ := Lib.hid hJ
                    clear hJ
                    by_cases hjc : 1 ≤ j
                    · have hjz : (1 : Int) ≤ (j : Int) := by omega
                      go_wp2_with fail
                      go_big_quiet (first | (go_at_call 57; refine Calls.quiet_of_same (wless_any _ _ _)))
                      go_wp2_with fail
                      · have hl : (!ltInt (G j) (G (j - 1))) = true := by assumption
                        have HQ0 := Lib.hid (HR5.out.drew nq)
                        have HD0 : Hid ((if i2 - a ≥ 2 then shiftDown ltInt (i2 - 1) (swp dk i2 (i2 - 1)) else swp dk i2 (i2 - 1)) = dj) := Lib.hid (by rw [if_pos hd, ← HJ.out, shd_stop _ _ _ (.inr (by rw [← HG.out, ← HG.out]; exact hl))])
                        clear hcw hfw HG HR5 HJ hl
                        generalize wr.drewN nq = wr5 at HQ0 ⊢
                        clear nq
                        go_wp2_with fail
                        go_roundw
                        case rel => exact ⟨i2, s + 1, dj, by first | rfl | go_num, by go_num, by omega, by omega, by omega, HQ0.out, (HON.out _ _ HD0.out (if_neg hu)).symm.trans HO.out⟩
                        case measure => simp [intOf]; omega
                      · have hl : (!ltInt (G j) (G (j - 1))) = false := by assumption
                        go_region
                        go_wp2_with fail
                        go_roundw
                        case rel =>
                          refine ⟨j - 1, swp dj j (j - 1), by congr 1; omega, by omega, ?_, by rw [← HJ.out, shd_go _ _ _ hjc (by rw [← HG.out, ← HG.out]; exact hl)]⟩
                          have := (HR5.out.drew (nq + 1)).swap j (j - 1) (by omega) (by omega)
                          rw [← HG.out, ← HG.out] at this
                          exact this
                        case measure => simp [intOf]; omega
                    · have hjz : ¬ (1 : Int) ≤ (j : Int) := by omega
                      have HD0 : Hid ((if i2 - a ≥ 2 then shiftDown ltInt (i2 - 1) (swp dk i2 (i2 - 1)) else swp dk i2 (i2 - 1)) = dj) := Lib.hid (by rw [if_pos hd, ← HJ.out, shd_stop _ _ _ (.inl hjc)])
                      have HQ0 := HR5
                      clear hcw hfw HG HR5 HJ
                      go_wp2_with fail
                      go_roundw
                      case rel => exact ⟨i2, s + 1, dj, by first | rfl | go_num, by go_num, by omega, by omega, by omega, HQ0.out, (HON.out _ _ HD0.out (if_neg hu)).symm.trans HO.out⟩
                      case measure => simp [intOf]; omega
                · have hdz : ¬ (2 : Int) ≤ (i2 : Int) - (a : Int) := by omega
                  exact absurd h50 (by omega)
        · have hcz : decide ((i2 : Int) < (b : Int)) = false := decide_eq_false (by omega)
          have hie : i2 = b := by omega
          have hiez : ((i2 : Int) == (b : Int)) = true := by rw [hie]; exact beq_self_eq_true _
          go_wp2_with fail
          go_big_quiet (first | (go_at_call 57; refine Calls.quiet_of_same (wless_any _ _ _)))
          have HS2 : Hid (scanSorted ltInt dk b i = i2) := Lib.hid (by rw [← HS.out, sorted_stop _ _ _ _ (.inl hc)])
          go_wp2_with fail
          go_ret
          have hx := pins_true ltInt a b s i dk hs (HS2.out.trans hie)
          rw [HO.out] at hx
          rw [hx]
          exact ⟨rfl, HR5.out.drew nq⟩
    · have hsz5 : ¬ (s : Int) < 5 := by omega
      go_wp2_with fail
      go_ret
      have hx := pins_end ltInt a b i dk
      rw [show 0 = 5 - s by omega, HO.out] at hx
      rw [hx]
      exact ⟨rfl, HR.out⟩

end Go.Proofs.Ytoghdkhlliehoaa

namespace Go.Proofs.Ytoghdkhlliehoaa
open Go.RowKit Go.Sort Go.Shelf
set_option linter.unusedVariables false
set_option maxRecDepth 100000

def lenLays_ren : Go.Shelf.Ren := ⟨fun | 125 => 47 | 128 => 60 | 129 => 61 | n => n, fun | 46 => 84 | 3 => 3 | 51 => 97 | 53 => 22 | 4 => 4 | 5 => 5 | 9 => 9 | n => n, fun | n => n⟩
theorem lenLays : Lays.n125 Try.prog lenLays_ren where
  mixed := by kernel_rfl
  f125 := Try.func47.trans (congrArg some (by kernel_rfl))
  f128 := Try.func60.trans (congrArg some (by kernel_rfl))
  f129 := Try.func61.trans (congrArg some (by kernel_rfl))
  t3 := Try.underlying3
  a3 := Try.isAgg3
  z3 := Try.sizeOf3
  v3 := Try.zeroValue3
  t4 := Try.underlying4
  a4 := Try.isAgg4
  z4 := Try.sizeOf4
  v4 := Try.zeroValue4
  t5 := Try.underlying5
  a5 := Try.isAgg5
  z5 := Try.sizeOf5
  v5 := Try.zeroValue5
  t9 := Try.underlying9
  a9 := Try.isAgg9
  z9 := Try.sizeOf9
  v9 := Try.zeroValue9
  t46 := Try.underlying84
  a46 := Try.isAgg84
  z46 := Try.sizeOf84
  v46 := Try.zeroValue84
  t51 := Try.underlying97
  a51 := Try.isAgg97
  z51 := Try.sizeOf97
  v51 := Try.zeroValue97
  t53 := Try.underlying22
  a53 := Try.isAgg22
  z53 := Try.sizeOf22
  v53 := Try.zeroValue22

theorem len_any (x : Int) (w : World) (h0 : 0 ≤ x) (h1 : x ≤ 18446744073709551615) :
    Calls Try.prog 47 #[.int .u64 x] w fun e w' => e = .returned (.int .i64 (Lib.bitLen x.toNat)) ∧ w' = w := Any.bits_Len lenLays x w h0 h1

theorem len_facts (n : Nat) (h : 0 < n) (hn : n < 1000000) : 1 ≤ Lib.bitLen n ∧ Lib.bitLen n ≤ 20 ∧ 2 ^ Lib.bitLen n ≤ 2 * n ∧ n < 2 ^ Lib.bitLen n := by
  obtain ⟨h1, h2, h3⟩ := Lib.bitLenAux_bounds 64 n (by omega) (by omega)
  have e : Lib.bitLenAux 64 n = Lib.bitLen n := rfl
  rw [e] at h1 h2 h3
  obtain ⟨k, hk⟩ : ∃ k, Lib.bitLen n = k + 1 := ⟨Lib.bitLen n - 1, by omega⟩
  rw [hk] at h1 h2 h3 ⊢
  rw [Nat.add_sub_cancel] at h2
  refine ⟨h1, ?_, by rw [Nat.pow_succ]; omega, h3⟩
  rcases Nat.lt_or_ge 19 k with h4 | h4
  · have := Nat.pow_le_pow_right (show 0 < 2 by decide) (show 20 ≤ k from h4)
    omega
  · omega

/-- A power of two is told; the world is as it was. -/
theorem pow_any (n : Nat) (h : 0 < n) (hn : n < 1000000) (w : World) : Calls Try.prog 64 #[.int .i64 n] w fun e w' => e = .returned (.int .u64 ((2 ^ Lib.bitLen n : Nat) : Int)) ∧ w' = w := by
  have hl := len_any (n : Int) w (by omega) (by omega)
  rw [show (n : Int).toNat = n by omega] at hl
  obtain ⟨h1, h2, h3, h4⟩ := len_facts n h hn
  generalize Lib.bitLen n = L at *
  go_enter Try.func64, Try.ntmps64
  go_wp2_with fail
  refine hl.mono ?_
  rintro e w' ⟨rfl, rfl⟩
  go_wp2_with fail
  have hz : IntKind.u64.wrap ((2 : Int) ^ L) = ((2 ^ L : Nat) : Int) := by
    have e : ((2 ^ L : Nat) : Int) = (2 : Int) ^ L := by exact_mod_cast rfl
    rw [wrap_eq, U_V, e]
    unfold In64
    rw [← e]
    omega
  go_ret
  exact ⟨by rw [← hz]; rfl, rfl⟩

/-- The source of drawn numbers: block rb, new (below B the world is A's), holds the number of a word. -/
structure Seeded (B : Nat) (A : World) (rb : Nat) (W : World) (v : BitVec 64) : Prop where
  below : Below B A W
  new : B ≤ rb
  here : W.cell? ⟨rb, 0, none⟩ = some (.int .u64 (U v))
  warm : W.frozen? ⟨rb, 0, none⟩ = false

theorem Seeded.put {B : Nat} {A W : World} {rb : Nat} {v : BitVec 64} (h : Seeded B A rb W v) (x : BitVec 64) : Seeded B A rb (W.setCell ⟨rb, 0, none⟩ (.int .u64 (U x))) x := by
  obtain ⟨c, e, fr, hb, hc⟩ := cells_of_cell? h.here
  have hlt : 0 < c.size := by
    rcases Nat.eq_zero_or_pos c.size with h0 | h0
    · rw [Array.getElem?_eq_none (by omega)] at hc; cases hc
    · exact h0
  refine ⟨h.below.setCell (h.new) _, h.new, ?_, ?_⟩
  · rw [setCell_eq, cell?_mapBlock _ _ _ _ hb]
    simp [hlt]
  · rw [setCell_eq, frozen?_mapBlock]
    exact h.warm
theorem Seeded.drew {B : Nat} {A W : World} {rb : Nat} {v : BitVec 64} (h : Seeded B A rb W v) : Seeded B A rb W.drew v :=
  ⟨h.below.drew, h.new, h.here, h.warm⟩

theorem next_any (B : Nat) (A W : World) (rb : Nat) (v : BitVec 64) (hS : Seeded B A rb W v) :
    Calls Try.prog 65 #[.pointer (some ⟨rb, 0, none⟩)] W fun e w' => ∃ x, e = .returned (.int .u64 (U x)) ∧ Seeded B A rb w' x := by
  have hcs := hS.here
  have hfs := hS.warm
  have HS := Lib.hid hS
  clear hS
  go_enter Try.func65, Try.ntmps65
  go_wp2_with fail
  go_region
  go_wp2_with fail
  rw [bits_xor]
  generalize V (U v) ^^^ V _ = v1
  have HS1 := Lib.hid (HS.out.put v1).drew
  clear hcs hfs HS
  generalize (W.setCell ⟨rb, 0, none⟩ (.int .u64 (U v1))).drew = W1 at HS1 ⊢
  have hcs := HS1.out.here
  have hfs := HS1.out.warm
  go_region
  go_wp2_with fail
  rw [bits_xor]
  generalize V (U v1) ^^^ V _ = v2
  have HS2 := Lib.hid (HS1.out.put v2).drew
  clear hcs hfs HS1
  generalize (W1.setCell ⟨rb, 0, none⟩ (.int .u64 (U v2))).drew = W2 at HS2 ⊢
  have hcs := HS2.out.here
  have hfs := HS2.out.warm
  go_region
  go_wp2_with fail
  rw [bits_xor]
  generalize V (U v2) ^^^ V _ = v3
  have HS3 := Lib.hid (HS2.out.put v3).drew
  clear hcs hfs HS2
  generalize (W2.setCell ⟨rb, 0, none⟩ (.int .u64 (U v3))).drew = W3 at HS3 ⊢
  have hcs := HS3.out.here
  have hfs := HS3.out.warm
  go_wp2_with fail
  go_ret
  exact ⟨v3, rfl, HS3.out⟩

theorem Seeded.drewN {B : Nat} {A W : World} {rb : Nat} {v : BitVec 64} (h : Seeded B A rb W v) (q : Nat) : Seeded B A rb (W.drewN q) v :=
  ⟨h.below.trans ⟨rfl, rfl, rfl, Nat.le_refl _, fun _ _ => rfl⟩, h.new, h.here, h.warm⟩
theorem Seeded.both {B : Nat} {A W : World} {rb : Nat} {v : BitVec 64} (h : Seeded B A rb W v) (a : Addr) (u : Value) (ha : a.block < B) : Seeded B (A.setCell a u) rb (W.setCell a u) v := by
  have hn := h.new
  have hne : rb ≠ a.block := by omega
  have hb := Below.heap_setCell W a u rb hne
  exact ⟨below_both h.below a u ha, h.new, (World.cell?_of_block (a := ⟨rb, 0, none⟩) hb).trans h.here, (World.frozen?_of_block (a := ⟨rb, 0, none⟩) hb).trans h.warm⟩
theorem Seeded.swap {B : Nat} {w W : World} {blk off rb : Nat} {dk : Array Int} {v : BitVec 64} (h : Seeded B (putRow (Value.int .u64) w blk off dk) rb W v) (hb : blk < B) (j k : Nat) (hj : j < dk.size) (hk : k < dk.size) :
    Seeded B (putRow (Value.int .u64) w blk off (swp dk j k)) rb ((W.setCell ⟨blk, off + j, none⟩ (.int .u64 dk[k]!)).setCell ⟨blk, off + k, none⟩ (.int .u64 dk[j]!)) v := by
  rw [← putRow_swp (Value.int .u64) w blk off dk j k hj hk]
  exact (h.both _ _ hb).both _ _ hb

/-- Some permutation of the part is left. -/
def Stirred (w : World) (blk off a b : Nat) (d : Array Int) (e : Ending) (w' : World) : Prop := e = .returned (.tuple #[]) ∧ ∃ d', PermIn a b d d' ∧ RowIs w blk off d.size w' d'

theorem and_bound (x : BitVec 64) (M l : Nat) (hM : 1 ≤ M) (hl : M ≤ 2 * l) (hs : l < 1000000) : ∃ o : Nat, o < 2 * l ∧ bits .and .u64 (U x) ((M : Int) - 1) = (o : Int) := by
  refine ⟨(x &&& V ((M : Int) - 1)).toNat, ?_, ?_⟩
  · have h1 : (x &&& V ((M : Int) - 1)).toNat ≤ (V ((M : Int) - 1)).toNat := by rw [BitVec.toNat_and]; exact Nat.and_le_right
    have h2 : ((V ((M : Int) - 1)).toNat : Int) = (M : Int) - 1 := toNat_V (by unfold In64; omega)
    omega
  · rw [bits_and, V_U]
    rfl

set_option maxHeartbeats 1000000 in
theorem break_any (blk off cap a b : Nat) (d : Array Int) (w : World) (hH : Holds (Value.int .u64) w blk off d) (hsz : d.size < 1000000) (hkb : blk < w.heap.size) (hab : a + 12 < b) (hb : b ≤ d.size) :
    Calls Try.prog 53 #[.slice (some ⟨blk, off, none⟩) d.size cap, .int .i64 a, .int .i64 b] w (Stirred w blk off a b d) := by
  obtain ⟨l, hl⟩ : ∃ l : Nat, b - a = l := ⟨_, rfl⟩
  obtain ⟨q, hq⟩ : ∃ q : Nat, q = l / 4 := ⟨_, rfl⟩
  obtain ⟨p, hp⟩ : ∃ p : Nat, p = a + q * 2 := ⟨_, rfl⟩
  have hbz : (b : Int) - (a : Int) = (l : Int) := by omega
  have hqz : (l : Int) / 4 = (q : Int) := by omega
  have hpz : (a : Int) + (q : Int) * 2 = (p : Int) := by omega
  have h8 : (8 : Int) ≤ (l : Int) := by omega
  have hpow := fun w => pow_any l (by omega) (by omega) w
  obtain ⟨hl1, hl2, hl3, hl4⟩ := len_facts l (by omega) (by omega)
  obtain ⟨M, hM⟩ : ∃ M, M = 2 ^ Lib.bitLen l := ⟨_, rfl⟩
  rw [← hM] at hl3 hl4 hpow
  have hp1 : a < p := by omega
  have hp2 : p + 1 < b := by omega
  have HH := Lib.hid hH
  clear hH hM hl1 hl2 hq hp
  have HPOW := Lib.hid hpow
  clear hpow
  go_enter Try.func53, Try.ntmps53
  go_wp2_with fail
  refine (HPOW.out _).mono ?_
  rintro e w' ⟨rfl, rfl⟩
  go_wp2_with fail
  have HST : Hid (Seeded w.heap.size (putRow (Value.int .u64) w blk off d) w.heap.size (w.alloc (.cells #[.int .u64 (l : Int)] 100 (0, 0))) (V (l : Int))) := Lib.hid
    ⟨by rw [putRow_self _ _ _ _ _ HH.out]; exact (Below.refl _ _).alloc (Nat.le_refl _) _, Nat.le_refl _, by simp only [World.cell?, World.alloc, Array.getElem?_push_size]; rw [U_V (by unfold In64; omega)]; rfl, by simp only [World.frozen?, World.alloc, Array.getElem?_push_size]; rfl⟩
  go_loopw [9] (fun vi wr => ∃ (t : Nat) (dk : Array Int) (v : BitVec 64), vi = .int .i64 t ∧ p ≤ t + 1 ∧ t ≤ p + 2 ∧ dk.size = d.size ∧ PermIn a b d dk ∧ Seeded w.heap.size (putRow (Value.int .u64) w blk off dk) w.heap.size wr v)
    (fun vi _ => p + 2 - (intOf vi).toNat)
  case atStart => exact ⟨p - 1, d, _, by congr 1; omega, by omega, by omega, rfl, permIn_refl _ _ _, HST.out⟩
  case round =>
    clear HST
    obtain ⟨t, dk, v, rfl, ht1, ht2, hsd, hP, hS⟩ := hrel
    have HSZ := Lib.hid hsd
    have HP := Lib.hid hP
    have HS := Lib.hid hS
    clear hsd hP hS
    by_cases htp : t ≤ p + 1
    · have htz : (t : Int) ≤ (p : Int) + 1 := by omega
      go_wp2_with fail
      refine (next_any _ _ _ _ _ HS.out).mono ?_
      rintro e wr2 ⟨x, rfl, hS2⟩
      have HS2 := Lib.hid hS2
      clear hS2 HS
      obtain ⟨o, ho, hz⟩ := and_bound x M l (by omega) hl3 (by omega)
      obtain ⟨G, hG⟩ : ∃ G : Nat → Int, ∀ t, G t = dk[t]! := ⟨fun t => dk[t]!, fun _ => rfl⟩
      have HG := Lib.hid hG
      have HR : Hid (RowIs w blk off d.size wr2 dk) := Lib.hid ⟨HSZ.out, hkb, HS2.out.below⟩
      have hcw : ∀ t, t < d.size → wr2.cell? ⟨blk, off + t, none⟩ = some (.int .u64 (G t)) := fun t ht => by rw [hG]; exact HR.out.cell HH.out t ht
      have hfw : ∀ t, t < d.size → wr2.frozen? ⟨blk, off + t, none⟩ = false := fun t ht => HR.out.frozen HH.out t ht
      clear hG
      by_cases hol : l ≤ o
      · have holz : (l : Int) ≤ (o : Int) := by omega
        obtain ⟨y, hy⟩ : ∃ y : Nat, o = l + y := ⟨o - l, by omega⟩
        have hyz : (o : Int) - (l : Int) = (y : Int) := by omega
        have SW : Hid (∀ q2, Seeded w.heap.size (putRow (Value.int .u64) w blk off (swp dk t (a + y))) w.heap.size (((wr2.drewN q2).setCell ⟨blk, off + t, none⟩ (.int .u64 (G (a + y)))).setCell ⟨blk, off + (a + y), none⟩ (.int .u64 (G t))) x) := Lib.hid fun q2 => by
          have := (HS2.out.drewN q2).swap hkb t (a + y) (by rw [HSZ.out]; omega) (by rw [HSZ.out]; omega)
          rw [← HG.out, ← HG.out] at this
          exact this
        have PP : Hid (PermIn a b d (swp dk t (a + y))) := Lib.hid (permIn_trans _ _ _ _ _ HP.out (swp_permIn dk a b t (a + y) (by omega) (by omega) (by omega) (by omega) (by rw [HSZ.out]; exact hb)))
        have SZ : Hid ((swp dk t (a + y)).size = d.size) := Lib.hid (by rw [size_swp]; exact HSZ.out)
        rcases Nat.lt_trichotomy t (a + y) with hty | hty | hty
        · go_wp2_with fail
          go_region
          go_wp2_with fail
          go_roundw
          case rel => exact ⟨t + 1, _, x, by go_num, by omega, by omega, SZ.out, PP.out, SW.out 1⟩
          case measure => simp [intOf]; omega
        · subst hty
          go_wp2_with fail
          go_region
          go_wp2_with fail
          go_roundw
          case rel => exact ⟨a + y + 1, _, x, by go_num, by omega, by omega, SZ.out, PP.out, SW.out 1⟩
          case measure => simp [intOf]; omega
        · go_wp2_with fail
          go_region
          go_wp2_with fail
          go_roundw
          case rel => exact ⟨t + 1, _, x, by go_num, by omega, by omega, SZ.out, PP.out, SW.out 1⟩
          case measure => simp [intOf]; omega
      · have holz : ¬ (l : Int) ≤ (o : Int) := by omega
        have SW : Hid (∀ q2, Seeded w.heap.size (putRow (Value.int .u64) w blk off (swp dk t (a + o))) w.heap.size (((wr2.drewN q2).setCell ⟨blk, off + t, none⟩ (.int .u64 (G (a + o)))).setCell ⟨blk, off + (a + o), none⟩ (.int .u64 (G t))) x) := Lib.hid fun q2 => by
          have := (HS2.out.drewN q2).swap hkb t (a + o) (by rw [HSZ.out]; omega) (by rw [HSZ.out]; omega)
          rw [← HG.out, ← HG.out] at this
          exact this
        have PP : Hid (PermIn a b d (swp dk t (a + o))) := Lib.hid (permIn_trans _ _ _ _ _ HP.out (swp_permIn dk a b t (a + o) (by omega) (by omega) (by omega) (by omega) (by rw [HSZ.out]; exact hb)))
        have SZ : Hid ((swp dk t (a + o)).size = d.size) := Lib.hid (by rw [size_swp]; exact HSZ.out)
        rcases Nat.lt_trichotomy t (a + o) with hty | hty | hty
        · go_wp2_with fail
          go_region
          go_wp2_with fail
          go_roundw
          case rel => exact ⟨t + 1, _, x, by go_num, by omega, by omega, SZ.out, PP.out, SW.out 1⟩
          case measure => simp [intOf]; omega
        · subst hty
          go_wp2_with fail
          go_region
          go_wp2_with fail
          go_roundw
          case rel => exact ⟨a + o + 1, _, x, by go_num, by omega, by omega, SZ.out, PP.out, SW.out 1⟩
          case measure => simp [intOf]; omega
        · go_wp2_with fail
          go_region
          go_wp2_with fail
          go_roundw
          case rel => exact ⟨t + 1, _, x, by go_num, by omega, by omega, SZ.out, PP.out, SW.out 1⟩
          case measure => simp [intOf]; omega
    · have htz : ¬ (t : Int) ≤ (p : Int) + 1 := by omega
      go_wp2_with fail
      go_end0
      exact ⟨rfl, dk, HP.out, HSZ.out, hkb, HS.out.below⟩

end Go.Proofs.Ytoghdkhlliehoaa

namespace Go.Proofs.Ytoghdkhlliehoaa
open Go.RowKit Go.Sort
set_option linter.unusedVariables false
set_option maxRecDepth 100000

theorem median_between (d : Array Int) (lo hi m1 m2 m3 s : Nat) (h1 : lo < m1 ∧ m1 + 1 < hi) (h2 : lo < m2 ∧ m2 + 1 < hi) (h3 : lo < m3 ∧ m3 + 1 < hi) : lo < (Sort.median ltInt d m1 m2 m3 s).1 ∧ (Sort.median ltInt d m1 m2 m3 s).1 + 1 < hi := by
  rcases median_mem ltInt d m1 m2 m3 s with h | h | h <;> rw [h] <;> assumption
theorem adj_between (d : Array Int) (lo hi a s : Nat) (h1 : lo + 1 < a) (h2 : a + 2 < hi) : lo < (Sort.medianAdjacent ltInt d a s).1 ∧ (Sort.medianAdjacent ltInt d a s).1 + 1 < hi := by
  rcases medianAdjacent_mem ltInt d a s with h | h | h <;> rw [h] <;> omega
theorem choose_inner (d : Array Int) (a b : Nat) (h : a + 12 < b) : a < (Sort.choosePivot ltInt d a b).1 ∧ (Sort.choosePivot ltInt d a b).1 + 1 < b := by
  obtain ⟨l, hl⟩ : ∃ l, b - a = l := ⟨_, rfl⟩
  rw [choose_end d a b l hl _ rfl]
  by_cases h50 : l ≥ 50
  · rw [if_pos (show l ≥ 8 by omega), if_pos h50]
    exact median_between _ _ _ _ _ _ _ (adj_between _ _ _ _ _ (by omega) (by omega)) (adj_between _ _ _ _ _ (by omega) (by omega)) (adj_between _ _ _ _ _ (by omega) (by omega))
  · rw [if_pos (show l ≥ 8 by omega), if_neg h50]
    exact median_between _ _ _ _ _ _ _ ⟨by omega, by omega⟩ ⟨by omega, by omega⟩ ⟨by omega, by omega⟩

/-- The part is left in order. -/
def Ordered (w : World) (blk off a b : Nat) (d : Array Int) (e : Ending) (w' : World) : Prop := e = .returned (.tuple #[]) ∧ ∃ d', PermIn a b d d' ∧ SortedIn ltInt a b d' ∧ RowIs w blk off d.size w' d'

/-- What is left to do in [x, y) of dk is enough for [a, b) of d. -/
def Enough (a b : Nat) (d : Array Int) (x y : Nat) (dk : Array Int) : Prop := ∀ R, PermIn x y dk R → SortedIn ltInt x y R → PermIn a b d R ∧ SortedIn ltInt a b R

theorem Enough.perm {a b : Nat} {d : Array Int} {x y : Nat} {dk d1 : Array Int} (h : Enough a b d x y dk) (hp : PermIn x y dk d1) : Enough a b d x y d1 := fun R h1 h2 => h R (permIn_trans _ _ _ _ _ hp h1) h2

/-- What is known in the midst of a round. -/
structure Mid (w : World) (blk off a b : Nat) (d : Array Int) (x y : Nat) (W : World) (d3 : Array Int) : Prop where
  row : RowIs w blk off d.size W d3
  enough : Enough a b d x y d3
  below : Sort.Below ltInt x y d3

theorem Mid.turn {w : World} {blk off a b : Nat} {d : Array Int} {x y : Nat} {W W' : World} {d3 d4 : Array Int} (h : Mid w blk off a b d x y W d3) (hy : y ≤ d.size) (hp : PermIn x y d3 d4) (hr : RowIs W blk off d.size W' d4) : Mid w blk off a b d x y W' d4 :=
  ⟨h.row.trans hr, h.enough.perm hp, h.below.perm (by rw [h.row.1]; exact hy) hp⟩
theorem Mid.drew {w : World} {blk off a b : Nat} {d : Array Int} {x y : Nat} {W : World} {d3 : Array Int} (h : Mid w blk off a b d x y W d3) (q : Nat) : Mid w blk off a b d x y (W.drewN q) d3 := ⟨h.row.drew q, h.enough, h.below⟩
theorem Mid.on {w : World} {blk off a b : Nat} {d : Array Int} {x y : Nat} {W W' : World} {d3 : Array Int} (h : Mid w blk off a b d x y W d3) (hb : Below W.heap.size W W') : Mid w blk off a b d x y W' d3 :=
  ⟨h.row.below (hb.mono h.row.size), h.enough, h.below⟩

set_option maxRecDepth 100000 in
set_option maxHeartbeats 16000000 in
theorem pdq_any (blk off cap N : Nat) (hN : N < 1000000) : ∀ (n a b lim : Nat) (d : Array Int) (w : World), b - a = n → a ≤ b → b ≤ d.size → d.size = N → Sort.Below ltInt a b d → Holds (Value.int .u64) w blk off d → blk < w.heap.size → lim < 100 →
    Calls Try.prog 46 #[.slice (some ⟨blk, off, none⟩) N cap, .int .i64 a, .int .i64 b, .int .i64 lim] w (Ordered w blk off a b d) := by
  intro n
  induction n using Nat.strongRecOn with
  | ind n ih =>
  intro a b lim d w hn hab hb hd hB hH hkb hlim
  have IH := Lib.hid ih
  clear ih
  rw [← hd]
  rw [← hd] at IH
  have hsz : d.size < 1000000 := by omega
  have HDS := Lib.hid hd
  have HNN := Lib.hid hn
  have hbn : b ≤ a + n := by omega
  clear hd hn hN
  have HH := Lib.hid hH
  have HB := Lib.hid hB
  clear hH hB
  go_enter Try.func46, Try.ntmps46
  go_wp2_with fail
  go_loopw [1, 2, 3, 8, 9] (fun v1 v2 v3 v8 v9 wr => ∃ (x y lm : Nat) (wb wp : Bool) (dk : Array Int), v1 = .int .i64 x ∧ v2 = .int .i64 y ∧ v3 = .int .i64 lm ∧ v8 = .bool wb ∧ v9 = .bool wp ∧ x ≤ y ∧ y ≤ d.size ∧ y - x ≤ n ∧ lm < 100 ∧ Mid w blk off a b d x y wr dk)
    (fun v1 v2 _ _ _ _ => (intOf v2 - intOf v1).toNat)
  case atStart => exact ⟨a, b, lim, true, true, d, rfl, rfl, rfl, rfl, rfl, hab, hb, by omega, hlim, RowIs.start HH.out hkb, fun R h1 h2 => ⟨h1, h2⟩, HB.out⟩
  case round =>
    obtain ⟨x, y, lm, wb, wp, dk, rfl, rfl, rfl, rfl, rfl, hxy, hyN, hle, hlm, hM⟩ := hrel
    have HM := Lib.hid hM
    clear hM
    by_cases h12 : y - x ≤ 12
    · have h12z : (y : Int) - (x : Int) ≤ 12 := by omega
      have hcall := insert_any blk off cap x y dk wr (HM.out.row.holds HH.out) (by rw [HM.out.row.1]; exact hsz) HM.out.row.blk hxy (by rw [HM.out.row.1]; exact hyN)
      rw [HM.out.row.1] at hcall
      have hi := insertionSort_holds (lt := ltInt) swo_ltInt dk x y hxy (by rw [HM.out.row.1]; exact hyN)
      have hx := HM.out.enough _ hi.1 hi.2
      have HX := Lib.hid hx
      clear hx hi
      go_wp2_with fail
      refine hcall.mono ?_
      rintro e w' ⟨rfl, hR⟩
      go_wp2_with fail
      go_end0
      exact ⟨rfl, _, HX.out.1, HX.out.2, HM.out.row.trans hR⟩
    · have h12z : ¬ (y : Int) - (x : Int) ≤ 12 := by omega
      by_cases hl0 : lm = 0
      · have hl0z : ((lm : Int) == 0) = true := by subst hl0; rfl
        have hcall := heapSort_any blk off cap x y dk wr (HM.out.row.holds HH.out) (by rw [HM.out.row.1]; exact hsz) HM.out.row.blk (by omega) (by rw [HM.out.row.1]; exact hyN)
        rw [HM.out.row.1] at hcall
        have hi := heapSort_holds (lt := ltInt) swo_ltInt dk x y hxy (by rw [HM.out.row.1]; exact hyN)
        have hx := HM.out.enough _ hi.1 hi.2
        have HX := Lib.hid hx
        clear hx hi
        go_wp2_with fail
        refine hcall.mono ?_
        rintro e w' ⟨rfl, hR⟩
        go_wp2_with fail
        go_end0
        exact ⟨rfl, _, HX.out.1, HX.out.2, HM.out.row.trans hR⟩
      · have hl0z : ((lm : Int) == 0) = false := by rw [beq_eq_false_iff_ne]; omega
        go_upto_if 35 with (fail)
        go_cut [3] from 36 to 41 (fun v3 wx => ∃ (lm2 : Nat) (d1 : Array Int), v3 = .int .i64 lm2 ∧ lm2 < 100 ∧ Mid w blk off a b d x y wx d1)
        case first =>
          cases wb
          · have hcall := break_any blk off cap x y dk wr (HM.out.row.holds HH.out) (by rw [HM.out.row.1]; exact hsz) HM.out.row.blk (by omega) (by rw [HM.out.row.1]; exact hyN)
            obtain ⟨lm2, hlm2⟩ : ∃ lm2 : Nat, lm2 = lm - 1 := ⟨_, rfl⟩
            have hlm2z : (lm : Int) - 1 = (lm2 : Int) := by omega
            have hlm3 : lm2 < 100 := by omega
            clear hlm2
            rw [HM.out.row.1] at hcall
            go_wp2_with fail
            refine hcall.mono ?_
            rintro e w1 ⟨rfl, d1, hpm, hR1⟩
            rw [HM.out.row.1] at hR1
            have HM1 := Lib.hid (HM.out.turn hyN hpm hR1)
            clear hcall hpm hR1 HM
            go_wp2_with fail
            go_meet
            exact ⟨lm2, d1, rfl, hlm3, HM1.out⟩
          · go_wp2_with fail
            go_meet
            exact ⟨lm, dk, rfl, hlm, HM.out⟩
        case rest =>
          obtain ⟨lm2, d1, rfl, hlm2, hM1⟩ := hcut
          have HM1 := Lib.hid hM1
          clear hM1 HM
          have hcall := choose_any blk off cap x y d1 wc (HM1.out.row.holds HH.out) HM1.out.row.blk (by rw [HM1.out.row.1]; exact hsz) (by omega) (by rw [HM1.out.row.1]; exact hyN)
          rw [HM1.out.row.1] at hcall
          obtain ⟨hp1, hp2⟩ := choose_inner d1 x y (by omega)
          generalize Sort.choosePivot ltInt d1 x y = ch at hcall hp1 hp2
          obtain ⟨p, h⟩ := ch
          have hp1 : x < p := hp1
          have hp2 : p + 1 < y := hp2
          go_wp2_with fail
          refine hcall.mono ?_
          rintro e w2 ⟨rfl, hb2⟩
          have HM2 := Lib.hid (HM1.out.on hb2)
          clear hcall hb2 HM1
          go_upto_if 50 with (fail)
          go_cut [11, 12] from 49 to 60 (fun vp vh wx => ∃ (p : Nat) (hi : Int) (d2 : Array Int), vp = .int .i64 p ∧ vh = .int .i64 hi ∧ (hi = 0 ∨ hi = 1) ∧ x < p ∧ p + 1 < y ∧ Mid w blk off a b d x y wx d2)
          case first =>
            cases h
            · go_wp2_with fail
              go_meet
              exact ⟨p, 0, d1, rfl, rfl, .inl rfl, hp1, hp2, HM2.out⟩
            · go_wp2_with fail
              go_meet
              exact ⟨p, 1, d1, rfl, rfl, .inr rfl, hp1, hp2, HM2.out⟩
            · have hcall := reverse_any blk off cap x y d1 w2 (HM2.out.row.holds HH.out) (by rw [HM2.out.row.1]; exact hsz) HM2.out.row.blk (by omega) (by rw [HM2.out.row.1]; exact hyN)
              rw [HM2.out.row.1] at hcall
              obtain ⟨p2, hp2z⟩ : ∃ p2 : Nat, p2 = (y - 1) - (p - x) := ⟨_, rfl⟩
              have hpz : (y : Int) - 1 - ((p : Int) - (x : Int)) = (p2 : Int) := by omega
              have hq1 : x < p2 := by omega
              have hq2 : p2 + 1 < y := by omega
              clear hp2z
              go_wp2_with fail
              refine hcall.mono ?_
              rintro e w3 ⟨rfl, hR3⟩
              have HM3 := Lib.hid (HM2.out.turn hyN (reverseRange_holds d1 x y (by omega) (by rw [HM2.out.row.1]; exact hyN)) hR3)
              clear hcall hR3 HM2
              generalize Sort.reverseRange d1 x y = d9 at HM3
              go_wp2_with fail
              go_meet
              exact ⟨p2, 1, d9, rfl, rfl, .inr rfl, hq1, hq2, HM3.out⟩
          case rest =>
            clear hp1 hp2 HM2
            obtain ⟨p, hi, d2, rfl, rfl, hhi, hp1, hp2, hM2⟩ := hcut
            have HM2 := Lib.hid hM2
            clear hM2
            go_upto_region 15 with (fail)
            go_cut [68] from 61 to 67 (fun v wx => ∃ c : Bool, v = .bool c ∧ Mid w blk off a b d x y wx d2)
            case first =>
              rcases hhi with rfl | rfl <;> cases wb <;> cases wp
              all_goals
                go_wp2_with fail
                go_meet
                exact ⟨_, rfl, HM2.out⟩
            case rest =>
              clear HM2
              obtain ⟨c, rfl, hM2⟩ := hcut
              have HM2 := Lib.hid hM2
              clear hM2
              go_upto_if 68 with (fail)
              go_cut [] from 69 to 72 (fun wx => ∃ d4, Mid w blk off a b d x y wx d4)
              case first =>
                cases c
                · go_wp2_with fail
                  go_meet
                  exact ⟨d2, HM2.out⟩
                · have hcall := partial_any blk off cap x y d2 _ (HM2.out.row.holds HH.out) (by rw [HM2.out.row.1]; exact hsz) HM2.out.row.blk (by omega) (by rw [HM2.out.row.1]; exact hyN)
                  rw [HM2.out.row.1] at hcall
                  have HPI := Lib.hid (partialInsertionSort_holds (lt := ltInt) swo_ltInt d2 x y (by omega) (by rw [HM2.out.row.1]; exact hyN) HM2.out.below)
                  generalize Sort.partialInsertionSort ltInt d2 x y = r at hcall HPI
                  obtain ⟨d4, so⟩ := r
                  go_wp2_with fail
                  refine hcall.mono ?_
                  rintro e w4 ⟨rfl, hR4⟩
                  have HM4 := Lib.hid (HM2.out.turn hyN HPI.out.1 hR4)
                  cases so
                  · go_wp2_with fail
                    go_meet
                    exact ⟨d4, HM4.out⟩
                  · have hx := HM2.out.enough d4 HPI.out.1 (HPI.out.2 rfl)
                    go_wp2_with fail
                    go_end0
                    exact ⟨rfl, d4, hx.1, hx.2, HM4.out.row⟩
              case rest =>
                clear HM2 hhi
                obtain ⟨d4, hM4⟩ := hcut
                have HM4 := Lib.hid hM4
                clear hM4
                have HMt := HM4
                obtain ⟨G, hG⟩ : ∃ G : Nat → Int, ∀ t, G t = d4[t]! := ⟨fun t => d4[t]!, fun _ => rfl⟩
                have hcw : ∀ t, t < d.size → wc.cell? ⟨blk, off + t, none⟩ = some (.int .u64 (G t)) := fun t ht => by rw [hG]; exact HMt.out.row.cell HH.out t ht
                have hfw : ∀ t, t < d.size → wc.frozen? ⟨blk, off + t, none⟩ = false := fun t ht => HMt.out.row.frozen HH.out t ht
                have HG := Lib.hid hG
                clear hG
                by_cases hx0 : 0 < x
                · have hx0z : decide ((0 : Int) < (x : Int)) = true := decide_eq_true (by omega)
                  go_wp2_with fail
                  go_big_quiet (first | (go_at_call 57; refine Calls.quiet_of_same (wless_any _ _ _)))
                  go_wp2_with fail
                  · have hq : (!ltInt (G (x - 1)) (G p)) = true := by assumption
                    have HNL : Hid (ltInt d4[x - 1]! d4[p]! = false) := Lib.hid (by rw [← HG.out, ← HG.out]; simpa using hq)
                    have HMq := Lib.hid (HMt.out.drew nq)
                    clear hcw hfw HMt HG
                    generalize wc.drewN nq = wq at HMq ⊢
                    have hcall := partEq_any blk off cap x y p d4 wq (HMq.out.row.holds HH.out) (by rw [HMq.out.row.1]; exact hsz) HMq.out.row.blk (by omega) (by omega) (by rw [HMq.out.row.1]; exact hyN)
                    rw [HMq.out.row.1] at hcall
                    have HFIN := Lib.hid (fun mid d5 (h : Sort.partitionEqual ltInt d4 x y p = (mid, d5)) => round_eq swo_ltInt (partitionEqual_holds ltInt) hx0 (by omega) (by omega) (by rw [HMq.out.row.1]; exact hyN) HMq.out.below HNL.out h)
                    generalize Sort.partitionEqual ltInt d4 x y p = r at hcall HFIN
                    obtain ⟨mid, d5⟩ := r
                    refine hcall.mono ?_
                    rintro e w5 ⟨rfl, hR5⟩
                    obtain ⟨hm1, hm2, hs5, hB5, hfin⟩ := HFIN.out mid d5 rfl
                    have HMz : Hid (Mid w blk off a b d mid y w5 d5) := Lib.hid ⟨HMq.out.row.trans hR5, fun R h1 h2 => HMq.out.enough R (hfin R h1 h2).1 (hfin R h1 h2).2, hB5⟩
                    clear hcall HFIN hR5 hB5 hfin HMq
                    go_wp2_with fail
                    go_roundw
                    case rel => exact ⟨mid, y, lm2, _, _, d5, rfl, rfl, rfl, rfl, rfl, by omega, hyN, by omega, by omega, HMz.out⟩
                    case measure => simp [intOf]; omega
                  · have hq : (!ltInt (G (x - 1)) (G p)) = false := by assumption
                    have HMq := Lib.hid (HMt.out.drew nq)
                    clear hcw hfw HMt
                    generalize wc.drewN nq = wq at HMq ⊢
                    have hcall := part_any blk off cap x y p d4 wq (HMq.out.row.holds HH.out) (by rw [HMq.out.row.1]; exact hsz) HMq.out.row.blk (by omega) (by omega) (by rw [HMq.out.row.1]; exact hyN)
                    rw [HMq.out.row.1] at hcall
                    have HFIN := Lib.hid (fun mid ok d5 (h : Sort.partition ltInt d4 x y p = (mid, ok, d5)) => round_part swo_ltInt (partition_holds ltInt) (by omega) (by omega) (by rw [HMq.out.row.1]; exact hyN) HMq.out.below h)
                    generalize Sort.partition ltInt d4 x y p = r at hcall HFIN
                    obtain ⟨mid, ok, d5⟩ := r
                    refine hcall.mono ?_
                    rintro e w5 ⟨rfl, hR5⟩
                    obtain ⟨hm1, hm2, hs5, hBl, hBr, hL, hRt⟩ := HFIN.out mid ok d5 rfl
                    have HR5 := Lib.hid (HMq.out.row.trans hR5)
                    have HENO := Lib.hid HMq.out.enough
                    have HL := Lib.hid hL
                    have HRt := Lib.hid hRt
                    have HBl := Lib.hid hBl
                    have HBr := Lib.hid hBr
                    clear hL hRt hBl hBr hR5 HMq HFIN hcall HG
                    by_cases hlr : mid - x < y - mid
                    · have hlrz : (mid : Int) - (x : Int) < (y : Int) - (mid : Int) := by omega
                      have hrec := IH.out (mid - x) (by omega) x mid lm2 d5 w5 rfl (by omega) (by rw [HR5.out.1]; omega) HR5.out.1 HBl.out (HR5.out.holds HH.out) HR5.out.blk (by omega)
                      go_wp2_with fail
                      refine hrec.mono ?_
                      rintro e w6 ⟨rfl, L, hpL, hsL, hR6⟩
                      obtain ⟨hB6, hfin⟩ := HL.out L hpL hsL
                      rw [HR5.out.1] at hR6
                      have HMz : Hid (Mid w blk off a b d (mid + 1) y w6 L) := Lib.hid ⟨HR5.out.trans hR6, fun R h1 h2 => HENO.out R (hfin R h1 h2).1 (hfin R h1 h2).2, hB6⟩
                      clear hrec hpL hsL hR6 hB6 hfin
                      go_wp2_with fail
                      go_roundw
                      case rel => exact ⟨mid + 1, y, lm2, _, _, L, by go_num, rfl, rfl, rfl, rfl, by omega, hyN, by omega, by omega, HMz.out⟩
                      case measure => simp [intOf]; omega
                    · have hlrz : ¬ (mid : Int) - (x : Int) < (y : Int) - (mid : Int) := by omega
                      have hrec := IH.out (y - (mid + 1)) (by omega) (mid + 1) y lm2 d5 w5 rfl (by omega) (by rw [HR5.out.1]; omega) HR5.out.1 HBr.out (HR5.out.holds HH.out) HR5.out.blk (by omega)
                      rw [show ((mid + 1 : Nat) : Int) = (mid : Int) + 1 by omega] at hrec
                      go_wp2_with fail
                      refine hrec.mono ?_
                      rintro e w6 ⟨rfl, L, hpL, hsL, hR6⟩
                      obtain ⟨hB6, hfin⟩ := HRt.out L hpL hsL
                      rw [HR5.out.1] at hR6
                      have HMz : Hid (Mid w blk off a b d x mid w6 L) := Lib.hid ⟨HR5.out.trans hR6, fun R h1 h2 => HENO.out R (hfin R h1 h2).1 (hfin R h1 h2).2, hB6⟩
                      clear hrec hpL hsL hR6 hB6 hfin
                      go_wp2_with fail
                      go_roundw
                      case rel => exact ⟨x, mid, lm2, _, _, L, rfl, rfl, rfl, rfl, rfl, by omega, by omega, by omega, by omega, HMz.out⟩
                      case measure => simp [intOf]; omega
                · have hx0z : decide ((0 : Int) < (x : Int)) = false := decide_eq_false (by omega)
                  go_wp2_with fail
                  go_big_quiet (first | (go_at_call 57; refine Calls.quiet_of_same (wless_any _ _ _)))
                  go_wp2_with fail
                  have HMq := Lib.hid (HMt.out.drew nq)
                  clear hcw hfw HMt
                  generalize wc.drewN nq = wq at HMq ⊢
                  have hcall := part_any blk off cap x y p d4 wq (HMq.out.row.holds HH.out) (by rw [HMq.out.row.1]; exact hsz) HMq.out.row.blk (by omega) (by omega) (by rw [HMq.out.row.1]; exact hyN)
                  rw [HMq.out.row.1] at hcall
                  have HFIN := Lib.hid (fun mid ok d5 (h : Sort.partition ltInt d4 x y p = (mid, ok, d5)) => round_part swo_ltInt (partition_holds ltInt) (by omega) (by omega) (by rw [HMq.out.row.1]; exact hyN) HMq.out.below h)
                  generalize Sort.partition ltInt d4 x y p = r at hcall HFIN
                  obtain ⟨mid, ok, d5⟩ := r
                  refine hcall.mono ?_
                  rintro e w5 ⟨rfl, hR5⟩
                  obtain ⟨hm1, hm2, hs5, hBl, hBr, hL, hRt⟩ := HFIN.out mid ok d5 rfl
                  have HR5 := Lib.hid (HMq.out.row.trans hR5)
                  have HENO := Lib.hid HMq.out.enough
                  have HL := Lib.hid hL
                  have HRt := Lib.hid hRt
                  have HBl := Lib.hid hBl
                  have HBr := Lib.hid hBr
                  clear hL hRt hBl hBr hR5 HMq HFIN hcall HG
                  by_cases hlr : mid - x < y - mid
                  · have hlrz : (mid : Int) - (x : Int) < (y : Int) - (mid : Int) := by omega
                    have hrec := IH.out (mid - x) (by omega) x mid lm2 d5 w5 rfl (by omega) (by rw [HR5.out.1]; omega) HR5.out.1 HBl.out (HR5.out.holds HH.out) HR5.out.blk (by omega)
                    go_wp2_with fail
                    refine hrec.mono ?_
                    rintro e w6 ⟨rfl, L, hpL, hsL, hR6⟩
                    obtain ⟨hB6, hfin⟩ := HL.out L hpL hsL
                    rw [HR5.out.1] at hR6
                    have HMz : Hid (Mid w blk off a b d (mid + 1) y w6 L) := Lib.hid ⟨HR5.out.trans hR6, fun R h1 h2 => HENO.out R (hfin R h1 h2).1 (hfin R h1 h2).2, hB6⟩
                    clear hrec hpL hsL hR6 hB6 hfin
                    go_wp2_with fail
                    go_roundw
                    case rel => exact ⟨mid + 1, y, lm2, _, _, L, by go_num, rfl, rfl, rfl, rfl, by omega, hyN, by omega, by omega, HMz.out⟩
                    case measure => simp [intOf]; omega
                  · have hlrz : ¬ (mid : Int) - (x : Int) < (y : Int) - (mid : Int) := by omega
                    have hrec := IH.out (y - (mid + 1)) (by omega) (mid + 1) y lm2 d5 w5 rfl (by omega) (by rw [HR5.out.1]; omega) HR5.out.1 HBr.out (HR5.out.holds HH.out) HR5.out.blk (by omega)
                    rw [show ((mid + 1 : Nat) : Int) = (mid : Int) + 1 by omega] at hrec
                    go_wp2_with fail
                    refine hrec.mono ?_
                    rintro e w6 ⟨rfl, L, hpL, hsL, hR6⟩
                    obtain ⟨hB6, hfin⟩ := HRt.out L hpL hsL
                    rw [HR5.out.1] at hR6
                    have HMz : Hid (Mid w blk off a b d x mid w6 L) := Lib.hid ⟨HR5.out.trans hR6, fun R h1 h2 => HENO.out R (hfin R h1 h2).1 (hfin R h1 h2).2, hB6⟩
                    clear hrec hpL hsL hR6 hB6 hfin
                    go_wp2_with fail
                    go_roundw
                    case rel => exact ⟨x, mid, lm2, _, _, L, rfl, rfl, rfl, rfl, rfl, by omega, by omega, by omega, by omega, HMz.out⟩
                    case measure => simp [intOf]; omega

end Go.Proofs.Ytoghdkhlliehoaa

/- The library's sort over words: slices.Sort of a row of any length below a million. -/
namespace Go.Proofs.Ytoghdkhlliehoaa
open Go.RowKit Go.Sort
set_option linter.unusedVariables false
set_option maxRecDepth 100000

theorem rises_eq : ∀ (l l' : List Int), l.Perm l' → l.Pairwise (· ≤ ·) → l'.Pairwise (· ≤ ·) → l = l'
  | [], l', h, _, _ => (List.Perm.nil_eq h)
  | x :: l, [], h, _, _ => absurd h.length_eq (by simp)
  | x :: l, y :: l', h, h1, h2 => by
    have e : x = y := by
      have m1 : x ∈ y :: l' := h.mem_iff.1 (by simp)
      have m2 : y ∈ x :: l := h.mem_iff.2 (by simp)
      rw [List.pairwise_cons] at h1 h2
      rcases List.mem_cons.1 m1 with e | m1
      · exact e
      · rcases List.mem_cons.1 m2 with e | m2
        · exact e.symm
        · have := h1.1 _ m2
          have := h2.1 _ m1
          omega
    subst e
    rw [rises_eq l l' ((List.perm_cons x).1 h) (List.pairwise_cons.1 h1).2 (List.pairwise_cons.1 h2).2]

theorem rises_of (d : Array Int) (h : SortedIn ltInt 0 d.size d) : d.toList.Pairwise (· ≤ ·) := by
  rw [List.pairwise_iff_getElem]
  intro i j hi hj hij
  have hi' : i < d.size := by simpa using hi
  have hj' : j < d.size := by simpa using hj
  have h5 := h i j (Nat.zero_le _) hij hj'
  rw [getElem!_pos d i hi', getElem!_pos d j hj'] at h5
  simp [ltInt] at h5
  simpa using h5

/-- A row in order is one alone. -/
theorem order_one (d d' : Array Int) (hp : PermIn 0 d.size d d') (hs : SortedIn ltInt 0 d.size d') : d' = Sort.insertionSort ltInt d 0 d.size := by
  obtain ⟨hp2, hs2⟩ := insertionSort_holds swo_ltInt d 0 d.size (Nat.zero_le _) (Nat.le_refl _)
  generalize Sort.insertionSort ltInt d 0 d.size = e at *
  obtain ⟨z1, _, p1⟩ := hp
  obtain ⟨z2, _, p2⟩ := hp2
  have whole : ∀ (X : Array Int) (n : Nat), X.size = n → X.extract 0 n = X := by rintro X n rfl; simp
  rw [whole _ _ z1, whole d _ rfl] at p1
  rw [whole _ _ z2, whole d _ rfl] at p2
  rw [← z1] at hs
  rw [← z2] at hs2
  exact Array.toList_inj.1 (rises_eq _ _ (p1.trans p2.symm) (rises_of d' hs) (rises_of e hs2))

set_option maxHeartbeats 1000000 in
theorem sort_any (blk off cap : Nat) (d : Array Int) (w : World) (hH : Holds (Value.int .u64) w blk off d) (hsz : d.size < 1000000) (hkb : blk < w.heap.size) :
    Calls Try.prog 39 #[.slice (some ⟨blk, off, none⟩) d.size cap] w (Turned w blk off d.size (Sort.insertionSort ltInt d 0 d.size)) := by
  have hl := len_any (d.size : Int) w (by omega) (by omega)
  rw [show (d.size : Int).toNat = d.size by omega] at hl
  have hL : Lib.bitLen d.size < 100 := by
    by_cases h0 : d.size = 0
    · rw [h0]; decide
    · have := (len_facts d.size (by omega) hsz).2.1
      omega
  generalize Lib.bitLen d.size = L at hl hL
  have hp := pdq_any blk off cap d.size hsz d.size 0 d.size L d w rfl (Nat.zero_le _) (Nat.le_refl _) rfl (Or.inl rfl) hH hkb hL
  rw [show ((0 : Nat) : Int) = 0 from rfl] at hp
  have ONE := Lib.hid (order_one d)
  clear hH
  go_enter Try.func39, Try.ntmps39
  go_wp2_with fail
  refine hl.mono ?_
  rintro e w1 ⟨rfl, rfl⟩
  go_wp2_with fail
  refine hp.mono ?_
  rintro e w2 ⟨rfl, d', h1, h2, h3⟩
  have H3 := Lib.hid h3
  have E := Lib.hid (ONE.out d' h1 h2)
  clear hp hl h1 h2 h3 ONE
  go_wp2_with fail
  go_end0
  exact ⟨rfl, by rw [← E.out]; exact H3.out⟩

end Go.Proofs.Ytoghdkhlliehoaa
