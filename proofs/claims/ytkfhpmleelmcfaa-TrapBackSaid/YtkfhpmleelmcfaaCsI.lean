/- Layer 12: writing, the program's (written by gen_csi.py by walkf.py). -/
import Derived.Test.YtkfhpmleelmcfaaCsG
namespace Go.Proofs.Ytkfhpmleelmcfaa
open Go.RowKit
set_option linter.unusedVariables false
set_option maxRecDepth 100000

theorem HS.put_self (t : HS) (c : Nat) : t.put c (t.n c) = t := by
  unfold HS.put
  have : (fun i => if i = c then t.n c else t.n i) = t.n := funext fun i => by
    by_cases h : i = c
    · subst h; rw [if_pos rfl]
    · rw [if_neg h]
  rw [this]

theorem Tch.refl (b : Nat) (w : World) : Tch b w w := ⟨fun _ _ => Below.refl _ _, fun _ _ => rfl, rfl⟩

theorem k_of {k : Nat} (hk : k < 38) {x : Int} (e : noF k = x) : k = ixF x := by rw [← e, ixF_no k hk]

section

variable {Q : Exit → Act → World → Prop} {w : World} {ops : Array Oper} {rest : List Oper} {o : Oper} {a : Act} {l : List (Nat × Value)} {n d : Nat}

theorem W_stL3 (hA : FrA l n a) (hg : o.guard = none) (hd : o.dst = none) {x y : Operand} (ho : o.op = .store 4 x y) {b : Nat} {v : Bool} (hx : evL l x = some (.pointer (some ⟨b, 3, none⟩))) (hy : evL l y = some (.bool v)) {t : LS} (hb : LnB w b t)
    (h : ∀ w', Tch b w w' → LnB w' b { t with se := v } → wpList Try.prog ops Q rest a w') : wpList Try.prog ops Q (o :: rest) a w :=
  W_st hA hg hd ho hx hy (by simp [go_sem, storeVar, hb.c3, frozen_of_row w b 3 _ _ hb]) (h _ (Tch.setCell _) (by unfold LnB; rw [heap_setCell_same w b 3 _ _ _ hb]; rfl))

end

end Go.Proofs.Ytkfhpmleelmcfaa
