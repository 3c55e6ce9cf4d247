/- The document's memory of layer 3: whether bytes lie in it, numbers read and written, bytes put and told. -/
import Derived.Test.YtoghdkhlliehoaaR3
namespace Go.Proofs.Ytoghdkhlliehoaa
open Go.RowKit
set_option linter.unusedVariables false
set_option maxRecDepth 100000

theorem ret_int {k : IntKind} {a b : Int} (h : a = b) : Ending.returned (.int k a) = .returned (.int k b) := by rw [h]
theorem ret_bool {a b : Bool} (h : a = b) : Ending.returned (.bool a) = .returned (.bool b) := by rw [h]
theorem ret_two {k : IntKind} {a b : Int} {v u : Value} (h : a = b) (h2 : v = u) : Ending.returned (.tuple #[.int k a, v]) = .returned (.tuple #[.int k b, u]) := by rw [h, h2]

/-- A base and a size that a memory may have. -/
def Fits (base size : Int) : Prop := 0 ≤ base ∧ 4096 ≤ size ∧ size ≤ 67108864 ∧ base + size ≤ 9223372036854775808
/-- P3.2: the n bytes from x on lie in it. -/
def hasZ (base size x n : Int) : Bool := decide (0 ≤ n ∧ (n = 0 ∨ base ≤ x ∧ x + n ≤ base + size))
def liesZ (base size x : Int) : Bool := decide (base ≤ x ∧ x < base + size)

/-- The list's entries are bytes that are not 0, each address once. -/
def Fine (l : List (Int × Int)) : Prop := (∀ c ∈ l, In64 c.1 ∧ 1 ≤ c.2 ∧ c.2 ≤ 255) ∧ (l.map (·.1)).Nodup
theorem look_mem {l : List (Int × Int)} {x : Int} : look l x = 0 ∨ ∃ c ∈ l, c.1 = x ∧ look l x = c.2 := by
  unfold look
  cases h : l.find? (fun c => c.1 == x) with
  | none => exact .inl rfl
  | some c =>
    have h1 := List.mem_of_find?_eq_some h
    have h2 := List.find?_some h
    exact .inr ⟨c, h1, by simpa using h2, rfl⟩
theorem look_in {l : List (Int × Int)} (h : Fine l) (x : Int) : 0 ≤ look l x ∧ look l x ≤ 255 := by
  rcases look_mem (l := l) (x := x) with e | ⟨c, hc, _, e⟩
  · rw [e]; omega
  · have := h.1 c hc; rw [e]; omega

theorem RefRam.keeps {S : Nat → Prop} {w w' : World} {b g : Nat} {base size : Int} {l : List (Int × Int)} (h : RefRam w b g base size l) (k : Only S w w') (hb : ¬ S b) (hg : ¬ S g) : RefRam w' b g base size l := by
  obtain ⟨a, c, h1, h2, h3⟩ := h
  refine ⟨a, c, k.keeps hb h1, h2, ?_⟩
  rcases h3 with h3 | ⟨h4, h5, h6⟩
  · exact .inl h3
  · exact .inr ⟨h4, h5, h6.keeps k hg⟩
theorem RefRam.below {w w' : World} {b g : Nat} {base size : Int} {l : List (Int × Int)} (h : RefRam w b g base size l) (k : Below w.heap.size w w') : RefRam w' b g base size l :=
  h.keeps (Only.of_below (fun _ => False) k) id id
theorem RefRam.lt {w : World} {b g : Nat} {base size : Int} {l : List (Int × Int)} (h : RefRam w b g base size l) : b < w.heap.size := by
  obtain ⟨a, c, h1, _⟩ := h; exact (Array.getElem?_eq_some_iff.1 h1).1
theorem RefRam.base {w : World} {b g : Nat} {base size : Int} {l : List (Int × Int)} (h : RefRam w b g base size l) : w.cell? ⟨b, 0, none⟩ = some (.int .u64 base) := by
  obtain ⟨a, c, h1, _⟩ := h; rw [cell_of_row w b 0 _ _ _ h1]; rfl
theorem RefRam.size {w : World} {b g : Nat} {base size : Int} {l : List (Int × Int)} (h : RefRam w b g base size l) : w.cell? ⟨b, 1, none⟩ = some (.int .u64 size) := by
  obtain ⟨a, c, h1, _⟩ := h; rw [cell_of_row w b 1 _ _ _ h1]; rfl

theorem refLies_q (w : World) (b g : Nat) (base size : Int) (l : List (Int × Int)) (x : Int) (h : RefRam w b g base size l) (hf : Fits base size) (hx : In64 x) :
    Calls Try.prog 37 #[.pointer (some ⟨b, 0, none⟩), .int .u64 x] w fun e w' => e = .returned (.bool (liesZ base size x)) ∧ ∃ k, w' = w.drewN k := by
  have h0 := h.base
  have h1 := h.size
  obtain ⟨f1, f2, f3, f4⟩ := hf
  obtain ⟨x1, x2⟩ := hx
  clear h
  by_cases c : base ≤ x
  · have E : Hid (decide (x - base < size) = liesZ base size x) := by
      refine Lib.hid ?_
      unfold liesZ; rw [decide_eq_decide]; omega
    have hd : decide (base ≤ x) = true := decide_eq_true c
    have hw : IntKind.u64.wrap (x - base) = x - base := by rw [IntKind.wrap_u64]; omega
    go_enter Try.func37, Try.ntmps37
    go_wp2
    go_quiet (fail)
    go_wp2
    go_ret
    exact ⟨ret_bool E.out, nq, rfl⟩
  · have E : Hid (false = liesZ base size x) := by
      refine Lib.hid ?_
      unfold liesZ; rw [decide_eq_false]; omega
    have hd : decide (base ≤ x) = false := decide_eq_false c
    go_enter Try.func37, Try.ntmps37
    go_wp2
    go_quiet (fail)
    go_wp2
    go_ret
    exact ⟨ret_bool E.out, nq, rfl⟩

theorem hasZ_no {base size x n : Int} (h : n < 0) : hasZ base size x n = false := by unfold hasZ; rw [decide_eq_false]; omega
theorem hasZ_none {base size x : Int} : hasZ base size x 0 = true := by unfold hasZ; rw [decide_eq_true]; omega
theorem hasZ_great {base size x n : Int} (hf : Fits base size) (h : 67108864 < n) : hasZ base size x n = false := by
  obtain ⟨f1, f2, f3, f4⟩ := hf; unfold hasZ; rw [decide_eq_false]; omega

theorem refHas_nil (x n : Int) (w : World) :
    Calls Try.prog 27 #[.pointer none, .int .u64 x, .int .i64 n] w fun e w' => e = .returned (.bool false) ∧ w = w' := by
  go_enter Try.func27, Try.ntmps27
  go_wp2
  go_ret
  exact ⟨rfl, rfl⟩

theorem refHas_q (w : World) (b g : Nat) (base size : Int) (l : List (Int × Int)) (x n : Int) (h : RefRam w b g base size l) (hf : Fits base size) (hx : In64 x) :
    Calls Try.prog 27 #[.pointer (some ⟨b, 0, none⟩), .int .u64 x, .int .i64 n] w fun e w' => e = .returned (.bool (hasZ base size x n)) ∧ ∃ k, w' = w.drewN k := by
  by_cases c0 : n < 0
  · rw [hasZ_no c0]
    go_enter Try.func27, Try.ntmps27
    go_wp2
    go_ret
    exact ⟨rfl, 0, rfl⟩
  by_cases c1 : n = 0
  · subst c1
    rw [hasZ_none]
    go_enter Try.func27, Try.ntmps27
    go_wp2
    go_ret
    exact ⟨rfl, 0, rfl⟩
  have c1b : (n == 0) = false := by simpa using c1
  by_cases c2 : 67108864 < n
  · rw [hasZ_great hf c2]
    clear c1
    go_enter Try.func27, Try.ntmps27
    go_wp2
    go_ret
    exact ⟨rfl, 0, rfl⟩
  obtain ⟨y, hy⟩ : ∃ y, IntKind.u64.wrap (x + (n - 1)) = y := ⟨_, rfl⟩
  have iy : In64 y := by rw [← hy, wrap_eq]; exact U_in _
  have n1 : 1 ≤ n := by omega
  have n2 : IntKind.u64.wrap (n - 1) = n - 1 := by rw [IntKind.wrap_u64]; omega
  have R : hasZ base size x n = (liesZ base size x && (decide (x ≤ y) && liesZ base size y)) := by
    obtain ⟨f1, f2, f3, f4⟩ := hf
    obtain ⟨x1, x2⟩ := hx
    rw [IntKind.wrap_u64] at hy
    unfold hasZ liesZ
    rw [Bool.eq_iff_iff]
    simp only [Bool.and_eq_true, decide_eq_true_eq]
    constructor
    · intro ⟨_, hh⟩; omega
    · intro ⟨h1, h2, h3⟩; omega
  rw [R]
  have HH := Lib.hid h
  have HFi := Lib.hid hf
  have HX := Lib.hid hx
  have HY := Lib.hid iy
  clear R c1 h hf hx iy
  cases d1 : liesZ base size x
  · go_enter Try.func27, Try.ntmps27
    go_wp2_with fail
    refine (refLies_q _ b g base size l _ HH.out HFi.out HX.out).mono ?_
    rintro e w1 ⟨rfl, q1, rfl⟩
    go_wp2
    go_ret
    exact ⟨rfl, q1, rfl⟩
  · cases d2 : decide (x ≤ y)
    · go_enter Try.func27, Try.ntmps27
      go_wp2_with fail
      refine (refLies_q _ b g base size l _ HH.out HFi.out HX.out).mono ?_
      rintro e w1 ⟨rfl, q1, rfl⟩
      have d3 : ¬ x ≤ y := by simpa using d2
      go_wp2
      go_ret
      exact ⟨rfl, q1, rfl⟩
    · have d3 : x ≤ y := by simpa using d2
      go_enter Try.func27, Try.ntmps27
      go_wp2_with fail
      refine (refLies_q _ b g base size l _ HH.out HFi.out HX.out).mono ?_
      rintro e w1 ⟨rfl, q1, rfl⟩
      go_wp2_with fail
      refine (refLies_q _ b g base size l _ (HH.out.below (below_drewN (Below.refl _ _) q1)) HFi.out HY.out).mono ?_
      rintro e w2 ⟨rfl, q2, rfl⟩
      go_wp2
      go_ret
      exact ⟨rfl, q1 + q2, by simp⟩

theorem refHas_any (w : World) (b g : Nat) (base size : Int) (l : List (Int × Int)) (x n : Int) (h : RefRam w b g base size l) (hf : Fits base size) (hx : In64 x) :
    Calls Try.prog 27 #[.pointer (some ⟨b, 0, none⟩), .int .u64 x, .int .i64 n] w fun e w' => e = .returned (.bool (hasZ base size x n)) ∧ Below w.heap.size w w' :=
  (refHas_q w b g base size l x n h hf hx).mono fun e w' ⟨he, k, hk⟩ => ⟨he, by rw [hk]; exact below_drewN (Below.refl _ _) k⟩

end Go.Proofs.Ytoghdkhlliehoaa
