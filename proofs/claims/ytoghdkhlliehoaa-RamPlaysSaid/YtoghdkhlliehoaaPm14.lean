/- The program's memory of layer 3: whether two pages, two maps of pages, two memories are the same. -/
import Derived.Test.YtoghdkhlliehoaaJC
import Derived.StillTailTactics
import Derived.Deep.RegionHeld3
import Derived.Deep.DrawnRows
namespace Go.Proofs.Ytoghdkhlliehoaa
open Go.RowKit Go.Maps
set_option linter.unusedVariables false
set_option maxRecDepth 100000

section
variable {P : Program} {ops : Array Oper} {rest : List Oper} {o : Oper} {a : Act} {w : World} {Q : Act → Prop}
theorem wpStill_load_u (hw : Region.wanted o (yielded ops a.tmps) = true) (ty : TypeId) (x : Operand) (ho : o.op = .load ty x) (g : Nat) (hx : a.eval x = .pointer (some ⟨g, 0, none⟩)) (t : TypeId) (n : Nat) (f : Nat → Int) (e : TypeId)
    (hg : w.heap[g]? = some (.cells (uarr n f) t (0, 0))) (hu : P.underlying ty = some (.array n e)) (hi : (P.info? ty).map (·.size) = some n) (h : wpStill P ops w Q rest (a.put o.dst (.agg (uarr n f)))) : wpStill P ops w Q (o :: rest) a := by
  simp only [wpStill, hw, if_true]
  unfold Oper.still execOp
  simp only [ho, hx, Instr.loadAt, Instr.sureAddr, Sem.run_bind, Sem.run_pure, Result.andThen_ok, run_loadVar_row w g t ty (uarr n f) (0, 0) (.array n e) hg hu rfl (by rw [uarr_size]; exact hi)]
  exact ⟨rfl, h⟩
theorem wpStill_eql_u (hw : Region.wanted o (yielded ops a.tmps) = true) (t ty : TypeId) (x y : Operand) (ho : o.op = .binOp .eql t x y ty) (e : TypeId) (n : Nat) (f g : Nat → Int)
    (hx : a.eval x = .agg (uarr n f)) (hy : a.eval y = .agg (uarr n g)) (ht : P.underlying t = some (.array n e)) (hs : (sizeOf e).run P w = .ok 1 w) (ha : (isAgg e).run P w = .ok false w) (he : P.underlying e = some (.int .u8))
    (hm : P.eqGuardType P.depth t = false) (h : wpStill P ops w Q rest (a.put o.dst (.bool (alike n f g)))) : wpStill P ops w Q (o :: rest) a := by
  simp only [wpStill, hw, if_true]
  unfold Oper.still execOp
  simp only [ho, hx, hy, Sem.run_bind, run_eqGuard_agg w .eql t x y _ _ hm, run_eql_bytes w ht hs ha he f g, Result.andThen_ok, Sem.run_pure]
  exact ⟨rfl, h⟩
end

theorem PgMap.look_ok {P : Program} {t k e : TypeId} {w : World} {mb : Nat} {pg : Int → Option Nat} (h : PgMap P k w mb pg) (T : PgT P t k e) {q : Int} (hq : In64 q) :
    (Instr.lookup t (.map (some mb)) (.int .u64 q) true).run P w = .ok (.tuple #[ptrTo (pg q), .bool (pg q).isSome]) w := by
  obtain ⟨n, D, h1, h2, h3⟩ := h
  obtain ⟨v, ps, hr, hv⟩ := h1.look_ok (int_keyed T.hk) T.ht (T.hz w) (ptrElem_to none) (keyOf_int_mk T.hk (wf_u64 hq))
  obtain ⟨o, rfl, ho⟩ := ptrElem_inv hv
  injection ho with ho _
  rw [h2 q] at ho
  have e := encP_inj ho
  rw [hr, e]
  have : Maps.has D (.int .u64 q) = o.isSome := by
    cases c : Maps.has D (.int .u64 q) with
    | true =>
      obtain ⟨q', _, e1, hne⟩ := h3 _ c
      injection e1 with _ e1
      subst e1
      rw [e] at hne
      cases o with
      | none => exact absurd rfl hne
      | some g => rfl
    | false =>
      have := Maps.atKey_of_not_has (H := Unit) (D := D) c (encP none)
      rw [h2 q, e] at this
      cases o with
      | none => rfl
      | some g => exact absurd (encP_inj this) (by simp)
  rw [this]

theorem nodup_sub {l1 l2 : List Int} (h : l1.Nodup) (hs : ∀ x ∈ l1, x ∈ l2) : l1.length ≤ l2.length := by
  induction l1 generalizing l2 with
  | nil => simp
  | cons a l1 ih =>
    rw [List.nodup_cons] at h
    have h1 := List.length_erase_of_mem (hs a (by simp))
    have h2 := ih (l2 := l2.erase a) h.2 fun x hx => (List.mem_erase_of_ne (fun e => h.1 (by rw [← e]; exact hx))).2 (hs x (by simp [hx]))
    have h3 := List.length_pos_of_mem (hs a (by simp))
    simp only [List.length_cons]
    omega
theorem nodup_all {l1 l2 : List Int} (h : l1.Nodup) (hs : ∀ x ∈ l1, x ∈ l2) (hl : l2.length ≤ l1.length) : ∀ x ∈ l2, x ∈ l1 := by
  intro x hx
  by_cases c : x ∈ l1
  · exact c
  · have := nodup_sub (l1 := x :: l1) (l2 := l2) (List.nodup_cons.2 ⟨c, h⟩) fun y hy => by
      rcases List.mem_cons.1 hy with rfl | hy
      · exact hx
      · exact hs y hy
    simp only [List.length_cons] at this
    omega

/-- A map's numbers as a list, as long as the map. -/
theorem keys_list {w : World} {mb n : Nat} {D : DataW Unit} (h : w.ownsMap Try.prog 22 ptrElem mb n D) (h3 : ∀ kl, Maps.has D kl = true → ∃ q, kl = .int .u64 q) : ∃ ss, AllU D ss ∧ ss.length = Maps.size D := by
  obtain ⟨l, rfl, hp, hk⟩ := h.entries (int_keyed Try.underlying22)
  have hkey : ∀ p ∈ l, ∃ q, p.1 = .int .u64 q := fun p hpm => h3 p.1 (by
    show (l.any fun r => r.1.sameKey p.1) = true
    rw [List.any_eq_true]
    exact ⟨p, hpm, WideAt.sameKey_self (hk p hpm)⟩)
  let f : Lit × DataW Unit → Int := fun p => match p.1 with | .int _ q => q | _ => 0
  refine ⟨l.map f, ⟨?_, fun x => ?_⟩, by simp [Maps.size]⟩
  · rw [List.Nodup, List.pairwise_map]
    refine List.Pairwise.imp_of_mem ?_ hp
    intro a b ha hb hne he
    obtain ⟨q1, e1⟩ := hkey a ha
    obtain ⟨q2, e2⟩ := hkey b hb
    apply hne
    simp only [f, e1, e2] at he
    rw [e1, e2, he]
  · rw [List.mem_map]
    show _ ↔ (l.any fun r => r.1.sameKey (.int .u64 x)) = true
    rw [List.any_eq_true]
    constructor
    · rintro ⟨p, hpm, rfl⟩
      obtain ⟨q, e⟩ := hkey p hpm
      exact ⟨p, hpm, by simp only [f, e]; rw [sameKey_u64]; simp⟩
    · rintro ⟨p, hpm, hs⟩
      obtain ⟨q, e⟩ := hkey p hpm
      rw [e, sameKey_u64] at hs
      exact ⟨p, hpm, by simp only [f, e]; simpa using hs⟩

end Go.Proofs.Ytoghdkhlliehoaa
namespace Go.Proofs.Ytoghdkhlliehoaa
open Go.RowKit Go.Maps
set_option linter.unusedVariables false

/-- What is told of two memories that are the same or not. -/
def SameTold (w : World) (p : Prop) (e : Ending) (w' : World) : Prop := Below w.heap.size w w' ∧ ∃ r : Bool, e = .returned (.bool r) ∧ (r = true ↔ p)

/-- The pages that have been asked for are alike. -/
def Alikes (D : DataW Unit) (left : Lit → Bool) (pb : Int → Option Nat) (ma mb : Int → Int) : Prop :=
  ∀ q, Maps.has D (.int .u64 q) = true → left (.int .u64 q) = false → pb q ≠ none ∧ ∀ k : Nat, k < 4096 → ma (q * 4096 + k) = mb (q * 4096 + k)

end Go.Proofs.Ytoghdkhlliehoaa
namespace Go.Proofs.Ytoghdkhlliehoaa
open Go.RowKit Go.Maps
set_option linter.unusedVariables false

end Go.Proofs.Ytoghdkhlliehoaa
