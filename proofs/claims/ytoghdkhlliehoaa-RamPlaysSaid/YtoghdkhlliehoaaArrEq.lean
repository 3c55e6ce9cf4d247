/- '==' on two arrays of bytes, each told by a function of the index. Plain Lean over the model; nothing of the program. -/
import Derived.Test.YtoghdkhlliehoaaArr
import Derived.Laws.StructEq
namespace Go.Proofs.Ytoghdkhlliehoaa
open Go.RowKit
set_option linter.unusedVariables false
set_option maxRecDepth 100000

/-- The array of n bytes. -/
def uarr (n : Nat) (f : Nat → Int) : Array Value := varr n fun i => .int .u8 (f i)
theorem uarr_size (n : Nat) (f : Nat → Int) : (uarr n f).size = n := varr_size n _
theorem uarr_get (n : Nat) (f : Nat → Int) (j : Nat) (h : j < n) : (uarr n f)[j]? = some (.int .u8 (f j)) := varr_get n _ j h
theorem uarr_one (n : Nat) (f : Nat → Int) : (uarr n f).all (·.oneCell') = true := varr_one fun _ => rfl
theorem uarr_congr {n : Nat} {f g : Nat → Int} (h : ∀ i, i < n → f i = g i) : uarr n f = uarr n g := varr_congr fun i hi => by rw [h i hi]

/-- All the bytes are alike. -/
def alike (n : Nat) (f g : Nat → Int) : Bool := (List.range n).all fun i => f i == g i
theorem alike_iff {n : Nat} {f g : Nat → Int} : alike n f g = true ↔ ∀ i, i < n → f i = g i := by
  unfold alike; simp [List.all_eq_true]

section
variable {P : Program} (w : World)
theorem run_part_u8 {e : TypeId} (ha : (isAgg e).run P w = .ok false w) {n : Nat} {f : Nat → Int} {i : Nat} (h : i < n) : (part e (uarr n f) i).run P w = .ok (.int .u8 (f i)) w := by
  simp [part, ha, uarr_get n f i h]

theorem run_alike {d : Nat} {e : TypeId} (ha : (isAgg e).run P w = .ok false w) (he : P.underlying e = some (.int .u8)) {n : Nat} (f g : Nat → Int) (l : List Nat) (hl : ∀ i ∈ l, i < n) :
    ((forIn l ((none, ()) : Option Bool × Unit) fun i _ => do
        let x ← part e (uarr n f) i
        let y ← part e (uarr n g) i
        let r ← Op.equalIn (d + 1) e x y
        if (!r) = true then pure (ForInStep.done (some false, ())) else pure (ForInStep.yield (none, ()))).run P w) =
      .ok (if (l.all fun i => f i == g i) = true then (none, ()) else (some false, ())) w := by
  induction l with
  | nil => simp
  | cons i l ih =>
    have hi := hl i (by simp)
    have ih := ih fun j hj => hl j (by simp [hj])
    rw [List.forIn_cons]
    simp only [Sem.run_bind, run_part_u8 w ha hi, Result.andThen_ok, run_equalIn_int w d e .u8 .u8 _ _ he]
    cases hc : (f i == g i)
    · simp [hc]
    · simp only [Bool.not_true, Bool.false_eq_true, if_false, Sem.run_pure, Result.andThen_ok, List.all_cons, hc, Bool.true_and]
      exact ih

theorem run_equalIn_bytes {d : Nat} {t e : TypeId} {n : Nat} (ht : P.underlying t = some (.array n e)) (hs : (sizeOf e).run P w = .ok 1 w) (ha : (isAgg e).run P w = .ok false w) (he : P.underlying e = some (.int .u8)) (f g : Nat → Int) :
    (Op.equalIn (d + 1 + 1) t (.agg (uarr n f)) (.agg (uarr n g))).run P w = .ok (alike n f g) w := by
  rw [Op.equalIn]
  simp only [Sem.run_bind, run_underlying ht, Result.andThen_ok, hs, Nat.mul_one]
  rw [Std.Legacy.Range.forIn_eq_forIn_range']
  simp only [Std.Legacy.Range.size]
  have e1 : (n - 0 + 1 - 1) / 1 = n := by simp
  rw [e1, ← List.range_eq_range', run_alike w ha he f g (List.range n) fun i hi => List.mem_range.1 hi, Result.andThen_ok]
  unfold alike
  cases (List.range n).all fun i => f i == g i <;> simp

theorem run_eql_bytes {t e : TypeId} {n : Nat} (ht : P.underlying t = some (.array n e)) (hs : (sizeOf e).run P w = .ok 1 w) (ha : (isAgg e).run P w = .ok false w) (he : P.underlying e = some (.int .u8)) (f g : Nat → Int) :
    (binOp .eql t (.agg (uarr n f)) (.agg (uarr n g))).run P w = .ok (.bool (alike n f g)) w := by
  rw [run_eql_struct, run_equalIn_bytes (d := 9998) w ht hs ha he]
  rfl
end

end Go.Proofs.Ytoghdkhlliehoaa
