/- Layer 5: '==' of plics: of the program's, and of the document's. -/
import Derived.Test.YtgimnkablodheaaDoorPlLaw
import Derived.Test.YtgimnkablodheaaDoorArrEq
import Derived.Laws.StructEq
namespace Go.Proofs.YtgimnkablodheaaDoor
open Go.RowKit
set_option linter.unusedVariables false

theorem extract_varr (n : Nat) (f : Nat → Value) (a k : Nat) (h : a + k ≤ n) : (varr n f).extract a (a + k) = varr k fun i => f (a + i) := by
  unfold varr
  apply Array.ext'
  simp only [List.extract_toArray]
  apply List.ext_getElem?
  intro i
  simp only [List.extract_eq_take_drop, List.getElem?_take, List.getElem?_drop, List.getElem?_map, List.getElem?_range]
  by_cases hi : i < k
  · rw [if_pos (by omega)]
    rw [List.getElem?_range (by omega), List.getElem?_range hi]; rfl
  · rw [if_neg (by omega), List.getElem?_eq_none (by simp; omega)]; rfl

section
variable {P : Program} (w : World)
theorem run_part_one {e : TypeId} (ha : (isAgg e).run P w = .ok false w) {n : Nat} {f : Nat → Value} {i : Nat} (h : i < n) : (part e (varr n f) i).run P w = .ok (f i) w := by
  simp [part, ha, varr_get n f i h]
theorem run_part_row {e : TypeId} {k : Nat} (ha : (isAgg e).run P w = .ok true w) (hs : (sizeOf e).run P w = .ok k w) {n : Nat} {f : Nat → Value} {i : Nat} (h : i + k ≤ n) : (part e (varr n f) i).run P w = .ok (.agg (varr k fun j => f (i + j))) w := by
  simp [part, ha, hs, extract_varr n f i k h]
/-- '==' of two arrays, where the elements' is known. -/
theorem run_alls {d : Nat} {e : TypeId} {sz : Nat} (xs ys : Array Value) (q : Nat → Bool) (l : List Nat)
    (h : ∀ i ∈ l, ∃ x y, (part e xs (i * sz)).run P w = .ok x w ∧ (part e ys (i * sz)).run P w = .ok y w ∧ (Op.equalIn d e x y).run P w = .ok (q i) w) :
    ((forIn l ((none, ()) : Option Bool × Unit) fun i _ => do
        let x ← part e xs (i * sz)
        let y ← part e ys (i * sz)
        let r ← Op.equalIn d e x y
        if (!r) = true then pure (ForInStep.done (some false, ())) else pure (ForInStep.yield (none, ()))).run P w) =
      .ok (if l.all q = true then (none, ()) else (some false, ())) w := by
  induction l with
  | nil => simp
  | cons i l ih =>
    obtain ⟨x, y, h1, h2, h3⟩ := h i (by simp)
    have ih := ih fun j hj => h j (by simp [hj])
    rw [List.forIn_cons]
    simp only [Sem.run_bind, h1, h2, h3, Result.andThen_ok]
    cases hc : q i
    · simp [hc]
    · simp only [Bool.not_true, Bool.false_eq_true, if_false, Sem.run_pure, Result.andThen_ok, List.all_cons, hc, Bool.true_and]
      exact ih
theorem run_equalIn_arr {d : Nat} {t e : TypeId} {n sz : Nat} (ht : P.underlying t = some (.array n e)) (hs : (sizeOf e).run P w = .ok sz w) (xs ys : Array Value) (q : Nat → Bool)
    (h : ∀ i, i < n → ∃ x y, (part e xs (i * sz)).run P w = .ok x w ∧ (part e ys (i * sz)).run P w = .ok y w ∧ (Op.equalIn d e x y).run P w = .ok (q i) w) :
    (Op.equalIn (d + 1) t (.agg xs) (.agg ys)).run P w = .ok ((List.range n).all q) w := by
  rw [Op.equalIn]
  simp only [Sem.run_bind, run_underlying ht, Result.andThen_ok, hs]
  rw [Std.Legacy.Range.forIn_eq_forIn_range']
  simp only [Std.Legacy.Range.size]
  have e1 : (n - 0 + 1 - 1) / 1 = n := by simp
  rw [e1, ← List.range_eq_range', run_alls w xs ys q (List.range n) fun i hi => h i (List.mem_range.1 hi), Result.andThen_ok]
  cases (List.range n).all q <;> simp
/-- '==' of two structs, field by field. -/
theorem run_fields_nil (d : Nat) (xs ys : Array Value) : (Op.eqFields d xs ys []).run P w = .ok true w := rfl
theorem run_fields_cons {d : Nat} {xs ys : Array Value} {f : Field} {fs : List Field} {x y : Value} {r s : Bool} (hn : f.name ≠ "_") (h1 : (part f.type xs f.offset).run P w = .ok x w) (h2 : (part f.type ys f.offset).run P w = .ok y w)
    (h3 : (Op.equalIn d f.type x y).run P w = .ok r w) (h4 : (Op.eqFields d xs ys fs).run P w = .ok s w) : (Op.eqFields d xs ys (f :: fs)).run P w = .ok (r && s) w := by
  unfold Op.eqFields
  rw [if_pos hn]
  simp only [Sem.run_bind, h1, h2, h3, Result.andThen_ok]
  cases r
  · simp
  · simp [h4]
end

def eqQ (t u : PS) : Bool :=
  (bits32 t.up == bits32 u.up) && ((bits32 t.pend == bits32 u.pend) && ((bits32 t.busy == bits32 u.busy) && (((List.range 32).all fun s => t.prio s == u.prio s) && (((List.range 2).all fun c => bits32 (fun s => t.on s c) == bits32 (fun s => u.on s c)) && (((List.range 2).all fun c => t.floor c == u.floor c) && true)))))
theorem agg_no {e : TypeId} (h : ∀ w, (isAgg e).run Tryd.prog w = .ok false w) (w : World) : (isAgg e).run Tryd.prog w = .ok false w := h w
theorem eq_prog (t u : PS) (w : World) : (Op.equalIn 10000 27 (.agg (varr 39 (cellQ t))) (.agg (varr 39 (cellQ u)))).run Tryd.prog w = .ok (eqQ t u) w := by
  rw [run_equalIn_struct w 9999 27 _ _ (by kernel_rfl) (by kernel_rfl)]
  simp only [Program.fieldsOf, Tryd.underlying27]
  have a22 : ∀ w, (isAgg 22).run Tryd.prog w = .ok false w := fun _ => by kernel_rfl
  have a5 : ∀ w, (isAgg 5).run Tryd.prog w = .ok false w := fun _ => by kernel_rfl
  have s22 : ∀ w, (sizeOf 22).run Tryd.prog w = .ok 1 w := fun _ => by kernel_rfl
  have s5 : ∀ w, (sizeOf 5).run Tryd.prog w = .ok 1 w := fun _ => by kernel_rfl
  unfold eqQ
  refine run_fields_cons w (by decide) (run_part_one w (a22 w) (by decide)) (run_part_one w (a22 w) (by decide)) (run_equalIn_int w 9998 _ .u32 .u32 _ _ Tryd.underlying22) ?_
  refine run_fields_cons w (by decide) (run_part_one w (a22 w) (by decide)) (run_part_one w (a22 w) (by decide)) (run_equalIn_int w 9998 _ .u32 .u32 _ _ Tryd.underlying22) ?_
  refine run_fields_cons w (by decide) (run_part_one w (a22 w) (by decide)) (run_part_one w (a22 w) (by decide)) (run_equalIn_int w 9998 _ .u32 .u32 _ _ Tryd.underlying22) ?_
  refine run_fields_cons w (by decide) (run_part_row w (k := 32) (by kernel_rfl) (by kernel_rfl) (by decide)) (run_part_row w (k := 32) (by kernel_rfl) (by kernel_rfl) (by decide))
    (run_equalIn_arr w Tryd.underlying23 (s5 w) _ _ _ fun i hi => ⟨.int .u8 (t.prio i), .int .u8 (u.prio i), ?_, ?_, run_equalIn_int w 9997 _ .u8 .u8 _ _ Tryd.underlying5⟩) ?_
  · rw [Nat.mul_one, run_part_one w (a5 w) hi, cellQ_prio t hi]
  · rw [Nat.mul_one, run_part_one w (a5 w) hi, cellQ_prio u hi]
  refine run_fields_cons w (by decide) (run_part_row w (k := 2) (by kernel_rfl) (by kernel_rfl) (by decide)) (run_part_row w (k := 2) (by kernel_rfl) (by kernel_rfl) (by decide))
    (run_equalIn_arr w Tryd.underlying24 (s22 w) _ _ _ fun i hi => ⟨.int .u32 (bits32 fun s => t.on s i), .int .u32 (bits32 fun s => u.on s i), ?_, ?_, run_equalIn_int w 9997 _ .u32 .u32 _ _ Tryd.underlying22⟩) ?_
  · rw [Nat.mul_one, run_part_one w (a22 w) hi, cellQ_on t hi]
  · rw [Nat.mul_one, run_part_one w (a22 w) hi, cellQ_on u hi]
  refine run_fields_cons w (by decide) (run_part_row w (k := 2) (by kernel_rfl) (by kernel_rfl) (by decide)) (run_part_row w (k := 2) (by kernel_rfl) (by kernel_rfl) (by decide))
    (run_equalIn_arr w Tryd.underlying25 (s5 w) _ _ _ fun i hi => ⟨.int .u8 (t.floor i), .int .u8 (u.floor i), ?_, ?_, run_equalIn_int w 9997 _ .u8 .u8 _ _ Tryd.underlying5⟩) ?_
  · rw [Nat.mul_one, run_part_one w (a5 w) hi, cellQ_floor t hi]
  · rw [Nat.mul_one, run_part_one w (a5 w) hi, cellQ_floor u hi]
  exact run_fields_nil w _ _ _

def eqS (t u : PS) (s : Nat) : Bool := (t.prio s == u.prio s) && ((t.up s == u.up s) && ((t.pend s == u.pend s) && ((t.busy s == u.busy s) && (((List.range 2).all fun c => t.on s c == u.on s c) && true))))
def eqR (t u : PS) : Bool := ((List.range 32).all fun s => eqS t u s) && (((List.range 2).all fun c => t.floor c == u.floor c) && true)
theorem srcCell_on (t : PS) (s : Nat) {c : Nat} (hc : c < 2) : srcCell t s (4 + c) = .bool (t.on s c) := by
  have : c = 0 ∨ c = 1 := by omega
  rcases this with rfl | rfl <;> rfl
theorem eq_src (t u : PS) (s : Nat) (w : World) : (Op.equalIn 9998 41 (.agg (varr 6 (srcCell t s))) (.agg (varr 6 (srcCell u s)))).run Tryd.prog w = .ok (eqS t u s) w := by
  rw [run_equalIn_struct w 9997 41 _ _ (by kernel_rfl) (by kernel_rfl)]
  simp only [Program.fieldsOf, Tryd.underlying41]
  have a30 : ∀ w, (isAgg 30).run Tryd.prog w = .ok false w := fun _ => by kernel_rfl
  have a4 : ∀ w, (isAgg 4).run Tryd.prog w = .ok false w := fun _ => by kernel_rfl
  have s4 : ∀ w, (sizeOf 4).run Tryd.prog w = .ok 1 w := fun _ => by kernel_rfl
  unfold eqS
  refine run_fields_cons w (by decide) (run_part_one w (a30 w) (by decide)) (run_part_one w (a30 w) (by decide)) (run_equalIn_int w 9996 _ .u64 .u64 _ _ Tryd.underlying30) ?_
  refine run_fields_cons w (by decide) (run_part_one w (a4 w) (by decide)) (run_part_one w (a4 w) (by decide)) (run_equalIn_bool' w 9996 _ _ _ Tryd.underlying4) ?_
  refine run_fields_cons w (by decide) (run_part_one w (a4 w) (by decide)) (run_part_one w (a4 w) (by decide)) (run_equalIn_bool' w 9996 _ _ _ Tryd.underlying4) ?_
  refine run_fields_cons w (by decide) (run_part_one w (a4 w) (by decide)) (run_part_one w (a4 w) (by decide)) (run_equalIn_bool' w 9996 _ _ _ Tryd.underlying4) ?_
  refine run_fields_cons w (by decide) (run_part_row w (k := 2) (by kernel_rfl) (by kernel_rfl) (by decide)) (run_part_row w (k := 2) (by kernel_rfl) (by kernel_rfl) (by decide))
    (run_equalIn_arr w Tryd.underlying39 (s4 w) _ _ _ fun i hi => ⟨.bool (t.on s i), .bool (u.on s i), ?_, ?_, run_equalIn_bool' w 9995 _ _ _ Tryd.underlying4⟩) ?_
  · rw [Nat.mul_one, run_part_one w (a4 w) hi, srcCell_on t s hi]
  · rw [Nat.mul_one, run_part_one w (a4 w) hi, srcCell_on u s hi]
  exact run_fields_nil w _ _ _
theorem cellR_row (t : PS) {s : Nat} (hs : s < 32) : (varr 6 fun j => cellR t (s * 6 + j)) = varr 6 (srcCell t s) := varr_congr fun j hj => cellR_src t hs hj
theorem eq_ref (t u : PS) (w : World) : (Op.equalIn 10000 45 (.agg (varr 194 (cellR t))) (.agg (varr 194 (cellR u)))).run Tryd.prog w = .ok (eqR t u) w := by
  rw [run_equalIn_struct w 9999 45 _ _ (by kernel_rfl) (by kernel_rfl)]
  simp only [Program.fieldsOf, Tryd.underlying45]
  have a30 : ∀ w, (isAgg 30).run Tryd.prog w = .ok false w := fun _ => by kernel_rfl
  have s30 : ∀ w, (sizeOf 30).run Tryd.prog w = .ok 1 w := fun _ => by kernel_rfl
  have aS : ∀ w, (isAgg 41).run Tryd.prog w = .ok true w := fun _ => by kernel_rfl
  have sS : ∀ w, (sizeOf 41).run Tryd.prog w = .ok 6 w := fun _ => by kernel_rfl
  unfold eqR
  refine run_fields_cons w (by decide) (run_part_row w (k := 192) (by kernel_rfl) (by kernel_rfl) (by decide)) (run_part_row w (k := 192) (by kernel_rfl) (by kernel_rfl) (by decide))
    (run_equalIn_arr w Tryd.underlying42 (sS w) _ _ _ fun i hi => ⟨.agg (varr 6 (srcCell t i)), .agg (varr 6 (srcCell u i)), ?_, ?_, eq_src t u i w⟩) ?_
  · rw [run_part_row w (aS w) (sS w) (by omega)]
    rw [show (varr 6 fun j => cellR t (0 + (i * 6 + j))) = varr 6 (srcCell t i) from (varr_congr fun j _ => by rw [Nat.zero_add]).trans (cellR_row t hi)]
  · rw [run_part_row w (aS w) (sS w) (by omega)]
    rw [show (varr 6 fun j => cellR u (0 + (i * 6 + j))) = varr 6 (srcCell u i) from (varr_congr fun j _ => by rw [Nat.zero_add]).trans (cellR_row u hi)]
  refine run_fields_cons w (by decide) (run_part_row w (k := 2) (by kernel_rfl) (by kernel_rfl) (by decide)) (run_part_row w (k := 2) (by kernel_rfl) (by kernel_rfl) (by decide))
    (run_equalIn_arr w Tryd.underlying43 (s30 w) _ _ _ fun i hi => ⟨.int .u64 (t.floor i), .int .u64 (u.floor i), ?_, ?_, run_equalIn_int w 9997 _ .u64 .u64 _ _ Tryd.underlying30⟩) ?_
  · rw [Nat.mul_one, run_part_one w (a30 w) hi, cellR_floor t i]
  · rw [Nat.mul_one, run_part_one w (a30 w) hi, cellR_floor u i]
  exact run_fields_nil w _ _ _
/-- Equal here just where equal there. -/
theorem eq_both (t u : PS) : eqQ t u = eqR t u := by
  rw [Bool.eq_iff_iff]
  unfold eqQ eqR eqS
  simp only [Bool.and_true, Bool.and_eq_true, beq_iff_eq, List.all_eq_true, List.mem_range]
  constructor
  · rintro ⟨h1, h2, h3, h4, h5, h6⟩
    exact ⟨fun s hs => ⟨h4 s hs, bits32_inj h1 hs, bits32_inj h2 hs, bits32_inj h3 hs, fun c hc => bits32_inj (h5 c hc) hs⟩, h6⟩
  · rintro ⟨h, h6⟩
    exact ⟨bits32_congr fun s hs => (h s hs).2.1, bits32_congr fun s hs => (h s hs).2.2.1, bits32_congr fun s hs => (h s hs).2.2.2.1, fun s hs => (h s hs).1, fun c hc => bits32_congr fun s hs => (h s hs).2.2.2.2 c hc, h6⟩
/-- As the walk meets them. -/
theorem eql_prog (t u : PS) (w : World) : (binOp .eql 27 (.agg (varr 39 (cellQ t))) (.agg (varr 39 (cellQ u)))).run Tryd.prog w = .ok (.bool (eqQ t u)) w := by
  rw [run_eql_struct, eq_prog]; rfl
theorem eql_ref (t u : PS) (w : World) : (binOp .eql 45 (.agg (varr 194 (cellR t))) (.agg (varr 194 (cellR u)))).run Tryd.prog w = .ok (.bool (eqR t u)) w := by
  rw [run_eql_struct, eq_ref]; rfl

end Go.Proofs.YtgimnkablodheaaDoor
