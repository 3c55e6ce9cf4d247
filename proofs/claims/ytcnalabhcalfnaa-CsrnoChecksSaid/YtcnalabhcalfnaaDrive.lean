/- A drawn region driven by hand: what must hold behind each operation may grow; a whole row is loaded. -/
import Derived.Test.YtcnalabhcalfnaaTakeD
import Derived.Laws.Rows
namespace Go.Proofs.Ytcnalabhcalfnaa
section
variable {P : Program} {ops : Array Oper} {md : Region.Mode} {Q : Exit → Act → World → Prop}
/-- From here on more is shown behind each operation. -/
theorem wpAnyH_more {S T : World → Prop} (h : ∀ w, T w → S w) : ∀ (fuel : Nat) (listed : Array Bool) (a : Act) (w : World), wpAnyH P md ops Q T fuel listed a w → wpAnyH P md ops Q S fuel listed a w
  | 0, _, _, _, k => k
  | fuel + 1, _, _, _, k => ⟨k.1, fun i hi => wpOp_mono (fun a' w' k' => ⟨h _ k'.1, wpAnyH_more h fuel _ a' w' k'.2⟩) (k.2 i hi)⟩
theorem yield_row {op : Oper} {a : Act} {w : World} {row : Array Value} (ty : TypeId) (x : Operand) (ho : op.op = .load ty x) (b : Nat) (hx : a.eval x = .pointer (some ⟨b, 0, none⟩)) (hrun : (loadVar ty ⟨b, 0, none⟩).run P w = .ok (.agg row) w) :
    (execOp a.eval op).run P w = .ok (.value (.agg row)) w := by
  unfold execOp
  simp only [ho, hx, Instr.loadAt, Instr.sureAddr, Sem.run_bind, Sem.run_pure, Result.andThen_ok, hrun]
end

end Go.Proofs.Ytcnalabhcalfnaa
