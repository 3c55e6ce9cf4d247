/- Layer 3's laws: any act by both. -/
import Derived.Test.YtoghdkhlliehoaaBoth3
namespace Go.Proofs.Ytoghdkhlliehoaa
open Go.RowKit
set_option linter.unusedVariables false
set_option maxRecDepth 100000

theorem BothEnd.more {R : Spec} {w w' : World} {b : Nat} {S : Nat → Prop} {b2 g2 : Nat} {base size : Int} {N N' : Nat} {e : Ending} (h : BothEnd R w b S b2 g2 base size N e w') (hN : N ≤ N') : BothEnd R w b S b2 g2 base size N' e w' := by
  obtain ⟨he, m', ho, S', g', hS', hg', h1, h2, h3⟩ := h
  exact ⟨he, m', ho, S', g', hS', hg', h1, h2.congr (fun _ => rfl) hN, h3⟩

theorem both_any (R : Spec) (w : World) (b : Nat) (S : Nat → Prop) (b2 g2 gx : Nat) (base size : Int) (N : Nat) (m : Int → Int) (x : ActV) (h : Pair R w b S b2 g2 base size N m) (hr : ReadsIn .u8 gx w x.b x.bs) (hbs : Bytes255 x.bs) (hl : x.bs.length ≤ 3000)
    (hx : x.bs = [] ∨ gx ≠ b2 ∧ ¬ S gx) (ia : In64 x.a) (inn : In63 x.n) (iv : In64 x.v) (hN : N < 800000) :
    Calls Try.prog 10 #[.pointer (some ⟨b, 0, none⟩), .pointer (some ⟨b2, 0, none⟩), .agg (actCells x)] w (BothEnd R w b S b2 g2 base size (N + 3008)) := by
  obtain ⟨d, a, n, v, bv, bs⟩ := x
  have mono : ∀ {N0 : Nat}, N0 ≤ N + 3008 → ∀ e w', BothEnd R w b S b2 g2 base size N0 e w' → BothEnd R w b S b2 g2 base size (N + 3008) e w' := fun hN e w' hh => hh.more hN
  by_cases c : d = 0 ∨ d = 1 ∨ d = 2 ∨ d = 3 ∨ d = 4
  · rcases c with rfl | rfl | rfl | rfl | rfl
    · exact (both_write R w b S b2 g2 base size N m a n v bv bs h ia inn iv (by omega)).mono (mono (by omega))
    · exact (both_read R w b S b2 g2 base size N m a n v bv bs h ia inn).mono (mono (by omega))
    · exact (both_put R w b S b2 g2 gx base size N m a n v bv bs h ia hr hbs hl hx (by omega)).mono (mono (by simp at hl; omega))
    · by_cases c1 : 5000 < n ∧ n ≤ 67108864
      · exact (both_bytes_no R w b S b2 g2 base size N m a n v bv bs h c1.1 c1.2).mono (mono (by omega))
      · exact (both_bytes R w b S b2 g2 base size N m a n v bv bs h ia inn (by omega)).mono (mono (by omega))
    · exact (both_has R w b S b2 g2 base size N m a n v bv bs h ia inn).mono (mono (by omega))
  · exact (both_else R w b S b2 g2 base size N m d a n v bv bs h c).mono (mono (by omega))

end Go.Proofs.Ytoghdkhlliehoaa
