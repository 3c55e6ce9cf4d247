/- Joined: BuK BuL BuM BuN ClSR PlX PlSR Un -/
import Derived.Test.YtbcnkhfpogglmaaGreatDoorKP4
namespace Go.Proofs.YtbcnkhfpogglmaaGreatDoor
open Go.RowKit
set_option linter.unusedVariables false
set_option maxRecDepth 100000

theorem portCells_snoc (b : Nat) (ul : List Nat) (u : Nat) : portCells b (ul ++ [u]) = portCells b ul ++ [.pointer (some ⟨u, 0, none⟩), .pointer (some ⟨b, 4, none⟩), .int .i64 (10 + (ul.length : Int))] := by
  unfold portCells
  rw [List.length_append, List.length_singleton, List.range_succ, List.flatMap_append]
  congr 1
  · rw [List.flatMap_def, List.flatMap_def]
    congr 1
    refine List.map_congr_left fun i hi => ?_
    have hi := List.mem_range.1 hi
    have e : (ul ++ [u]).getD i 0 = ul.getD i 0 := by rw [List.getD_eq_getElem?_getD, List.getD_eq_getElem?_getD, List.getElem?_append_left hi]
    rw [e]
  · have e : (ul ++ [u]).getD ul.length 0 = u := by rw [List.getD_eq_getElem?_getD, List.getElem?_append_right (Nat.le_refl _)]; simp
    simp [e]
open Classical in
/-- The labels behind plug. -/
noncomputable def plugK (K : Nat → Nat) (F : Nat → Prop) (n : Nat) (vp : Value) : Nat → Nat := fun i => if F i then 3 + n else if vp.ownBlock = some i then 1 else K i
theorem BusQ.plug {w w' : World} {b g : Nat} {K : Nat → Nat} {vp vp' : Value} {ul : List Nat} {st : BS} {R : Array Value} (h : BusQ w b K g vp ul st R) {u : Nat} {F : Nat → Prop} {t : U6.US} (hu : U6.UP w u F t) (hF : ∀ i, F i → K i = 0 ∧ ¬ TabB i)
    (own : ∀ x, vp.ownBlock = some x → K x = 1) (hat : BusAt w' b g st.c st.p vp' R) (own' : w'.ownsRow (b + 1) 86 3 vp' (ul.length + 1) (portCells b ul ++ [.pointer (some ⟨u, 0, none⟩), .pointer (some ⟨b, 4, none⟩), .int .i64 (10 + (ul.length : Int))]))
    (o : Only (fun i => i = b ∨ vp.ownBlock = some i) w w') (hx : ∀ x, vp'.ownBlock = some x → vp.ownBlock = some x ∨ w.heap.size ≤ x) (hn : ul.length < 8) :
    BusQ w' b (plugK K F ul.length vp') g vp' (ul ++ [u]) { st with us := st.us ++ [t] } R ∧ (∀ x, vp'.ownBlock = some x → plugK K F ul.length vp' x = 1) ∧ ∀ i, ¬ plugK K F ul.length vp' i = 0 → ¬ K i = 0 ∨ F i ∨ w.heap.size ≤ i := by
  have kb := h.kb
  have hFl := hu.lt
  have hnF : ∀ x, vp'.ownBlock = some x → ¬ F x := fun x e hf => by
    have h0 := (hF x hf).1
    rcases hx x e with h1 | h1
    · have := own x h1; omega
    · have := hFl x hf; omega
  have k1 : ∀ x, vp'.ownBlock = some x → plugK K F ul.length vp' x = 1 := fun x e => by
    unfold plugK; rw [if_neg (hnF x e), if_pos e]
  have kold : ∀ i j, K i = j → 2 ≤ j → plugK K F ul.length vp' i = j := fun i j e hj => by
    unfold plugK
    rw [if_neg (fun hf => by have := (hF i hf).1; omega), if_neg (fun e2 => by
      rcases hx i e2 with h1 | h1
      · have := own i h1; omega
      · have := h.lt i (by omega); omega)]
    exact e
  have hb1 : ¬ vp'.ownBlock = some b := fun e => by have := (own'.lt b e).1; omega
  have klt : ∀ i, ¬ plugK K F ul.length vp' i = 0 → i < w'.heap.size := fun i hi => by
    unfold plugK at hi
    split at hi
    · rename_i hf; exact Nat.lt_of_lt_of_le (hFl i hf) o.size
    · split at hi
      · rename_i e; exact (own'.lt i e).2
      · exact Nat.lt_of_lt_of_le (h.lt i hi) o.size
  have hT : ∀ i, ¬ K i = 1 → ¬ (i = b ∨ vp.ownBlock = some i) := fun i hi e => by
    rcases e with rfl | e
    · omega
    · exact hi (own i e)
  refine ⟨⟨hat, ?_, ?_, h.fits, ?_, ?_, ?_, ?_, klt, h.cok, h.pok, ?_, h.tabs.keeps o fun i hi => hT i (by have := h.kt i hi; omega)⟩, k1, ?_⟩
  · refine .inr ?_
    obtain ⟨_, h2⟩ := own'
    rcases h2 with ⟨_, h0⟩ | ⟨gp, cap, cur, hv, hg, hh, hnc, _, hc, ht⟩
    · omega
    · refine ⟨gp, cap, by rw [hv, List.length_append]; rfl, by rw [List.length_append]; exact hnc, k1 gp (by rw [hv]; rfl), by omega, cur, _, _, hh, ?_⟩
      rw [portCells_snoc, List.length_append, portCells_len]
      rw [show ul.length * 3 + ([.pointer (some ⟨u, 0, none⟩), .pointer (some ⟨b, 4, none⟩), .int .i64 (10 + (ul.length : Int))] : List Value).length = (ul.length + 1) * 3 by simp; omega]
      exact ht
  · exact (h.mem.keeps o fun i hi => hT i (by show ¬ K i = 1; have : K i = 2 := hi; omega)).mono (fun i hi => kold i 2 hi (by omega)) fun i hi => klt i (by have : plugK K F ul.length vp' i = 2 := hi; omega)
  · intro j hj
    by_cases e : j = ul.length
    · subst e
      have e1 : (ul ++ [u]).getD ul.length 0 = u := by rw [List.getD_eq_getElem?_getD, List.getElem?_append_right (Nat.le_refl _)]; simp
      have e2 : (st.us ++ [t]).getD ul.length U6.u0 = t := by rw [List.getD_eq_getElem?_getD, ← h.len, List.getElem?_append_right (Nat.le_refl _)]; simp
      rw [e1, e2]
      refine (hu.keeps o fun i hi => hT i (by have := (hF i hi).1; omega)).mono (fun i hi => ?_) fun i hi => klt i (by have : plugK K F ul.length vp' i = 3 + ul.length := hi; omega)
      unfold plugK; rw [if_pos hi]
    · have hj2 : j < ul.length := by rw [List.length_append] at hj; simp at hj; omega
      have e1 : (ul ++ [u]).getD j 0 = ul.getD j 0 := by rw [List.getD_eq_getElem?_getD, List.getD_eq_getElem?_getD, List.getElem?_append_left hj2]
      have e2 : (st.us ++ [t]).getD j U6.u0 = st.us.getD j U6.u0 := by rw [List.getD_eq_getElem?_getD, List.getD_eq_getElem?_getD, List.getElem?_append_left (by rw [h.len]; exact hj2)]
      rw [e1, e2]
      exact ((h.uart j hj2).keeps o fun i hi => hT i (by have : K i = 3 + j := hi; omega)).mono (fun i hi => kold i _ hi (by omega)) fun i hi => klt i (by have : plugK K F ul.length vp' i = 3 + j := hi; omega)
  · simp [h.len]
  · simp; omega
  · unfold plugK; rw [if_neg (fun hf => by have := (hF b hf).1; omega), if_neg hb1]; exact kb
  · intro i hi
    unfold plugK
    rw [if_neg (fun hf => (hF i hf).2 hi), if_neg (fun e => by
      rcases hx i e with h1 | h1
      · have := own i h1; have := h.kt i hi; omega
      · have := h.tabs.lt hi; omega)]
    exact h.kt i hi
  · intro i hi
    unfold plugK at hi
    split at hi
    · rename_i hf; exact .inr (.inl hf)
    · split at hi
      · rename_i e
        rcases hx i e with h1 | h1
        · have := own i h1; exact .inl (by omega)
        · exact .inr (.inr h1)
      · exact .inl hi

/-- What New and Twin begin with. -/
theorem built_bus (b g : Nat) (size : Int) (ul : List Nat) (c : C4.Cl) (p : P5.PS) : Tryz.prog.built 76 [(0, .pointer (some ⟨g, 0, none⟩)), (1, C4.progV c), (2, P5.progPV p)] = some (busRow g c p (.slice none 0 0) (regsTo b g size ul 0)) := by kernel_rfl

end Go.Proofs.YtbcnkhfpogglmaaGreatDoor

namespace Go.Proofs.YtbcnkhfpogglmaaGreatDoor
open Go.RowKit
set_option linter.unusedVariables false
set_option maxRecDepth 100000

def cl0 : C4.Cl := ⟨false, 18446744073709551615, 0⟩
theorem cl0_ok : cl0.ok := by unfold C4.Cl.ok In64; show (0 ≤ (18446744073709551615 : Int) ∧ (18446744073709551615 : Int) < 18446744073709551616) ∧ (0 : Int) ≤ 0 ∧ (0 : Int) < 18446744073709551616; omega
theorem regsTo_zero (b g : Nat) (size : Int) (ul ul' : List Nat) : regsTo b g size ul 0 = regsTo b g size ul' 0 := by
  unfold regsTo; exact varr_congr fun i _ => by rw [if_neg (by omega), if_neg (by omega)]
theorem owns_below {w w' : World} {base : Nat} {e : TypeId} {size : Nat} {v : Value} {n : Nat} {xs : List Value} (h : w.ownsRow base e size v n xs) (o : Below w.heap.size w w') : w'.ownsRow base e size v n xs := by
  obtain ⟨h1, h2⟩ := h
  refine ⟨h1, ?_⟩
  rcases h2 with h2 | ⟨g, cap, cur, hv, hg, hh, h3⟩
  · exact .inl h2
  · exact .inr ⟨g, cap, cur, hv, hg, (o.block g (Array.getElem?_eq_some_iff.1 hh).1).trans hh, h3⟩
open Classical in
noncomputable def startK (b : Nat) (S : Nat → Prop) : Nat → Nat := fun i => if i = b then 1 else if S i then 2 else 0
theorem BusQ.start {w : World} {b g : Nat} {c : C4.Cl} {p : P5.PS} {R : Array Value} {S : Nat → Prop} {size : Int} {m : Int → Int} (hat : BusAt w b g c p (.slice none 0 0) R) (hm : M3.ProgMem w g S 2147483648 size m) (hf : M3.Fits 2147483648 size) (hS : ¬ S b) (hT : ∀ i, TabB i → ¬ S i ∧ ¬ i = b) (tabs : Tabs w) (hc : c.ok) (hp : p.ok) :
    BusQ w b (startK b S) g (.slice none 0 0) [] ⟨size, m, c, p, []⟩ R := by
  refine ⟨hat, .inl ⟨rfl, rfl⟩, hm.mono (fun i hi => ?_) (fun i hi => ?_), hf, fun j hj => by simp at hj, rfl, by simp, ?_, fun i hi => ?_, hc, hp, fun i hi => ?_, tabs⟩
  · unfold startK; rw [if_neg (fun e => hS (by subst e; exact hi)), if_pos hi]
  · have hi : startK b S i = 2 := hi
    unfold startK at hi
    split at hi
    · omega
    · split at hi
      · rename_i h; exact hm.lt i h
      · omega
  · unfold startK; rw [if_pos rfl]
  · unfold startK at hi
    split at hi
    · rename_i h; subst h; exact hat.lt
    · split at hi
      · rename_i h; exact hm.lt i h
      · exact absurd rfl hi
  · unfold startK; rw [if_neg (hT i hi).2, if_neg (hT i hi).1]
/-- A bus in the making. -/
def MakeR (w0 : World) (b g : Nat) (st : BS) (R : Array Value) (wr : World) : Prop :=
  ∃ K vp ul, BusQ wr b K g vp ul st R ∧ (∀ x, vp.ownBlock = some x → K x = 1) ∧ wr.ownsRow (b + 1) 86 3 vp ul.length (portCells b ul) ∧ Below w0.heap.size w0 wr ∧ ∀ i, ¬ K i = 0 → w0.heap.size ≤ i
theorem makeR_step {w0 wr w1 w2 : World} {b g u : Nat} {K : Nat → Nat} {vp : Value} {ul : List Nat} {st : BS} {R : Array Value} {t : U6.US} {e : Ending} {F : Nat → Prop} (h : BusQ wr b K g vp ul st R) (own : ∀ x, vp.ownBlock = some x → K x = 1) (hb0 : Below w0.heap.size w0 wr) (hk : ∀ i, ¬ K i = 0 → w0.heap.size ≤ i) (hn : ul.length < 8)
    (hb : Below wr.heap.size wr w1) (hF : ∀ i, F i → wr.heap.size ≤ i) (hu : U6.UP w1 u F t) (k : PlugE w1 b g st.c st.p vp R ul.length (portCells b ul ++ [.pointer (some ⟨u, 0, none⟩), .pointer (some ⟨b, 4, none⟩), .int .i64 (10 + (ul.length : Int))]) e w2) : MakeR w0 b g { st with us := st.us ++ [t] } R w2 := by
  obtain ⟨_, vp', hat, own', o, hx⟩ := k
  have h1 : BusQ w1 b K g vp ul st R := h.below hb
  have s1 := hb.size
  have s0 := hb0.size
  obtain ⟨p1, p2, p3⟩ := BusQ.plug h1 hu (fun i hi => ⟨by
    have := hF i hi
    by_cases e : K i = 0
    · exact e
    · have := h.lt i e; omega, fun ht => by have := hF i hi; have := h.tabs.lt ht; omega⟩) own hat own' o hx hn
  refine ⟨_, vp', ul ++ [u], p1, p2, ?_, ?_, fun i hi => ?_⟩
  · rw [portCells_snoc, List.length_append]; exact own'
  · have hb1 : w0.heap.size ≤ b := hk b (by rw [h.kb]; omega)
    exact (hb0.trans (hb.mono hb0.size)).trans (o.below (fun i hi => by
      rcases hi with rfl | hi
      · exact hb1
      · exact hk i (by rw [own i hi]; omega)) (by omega))
  · rcases p3 i hi with h2 | h2 | h2
    · exact hk i h2
    · have := hF i h2; omega
    · omega
theorem BusQ.laid {w w' : World} {b g : Nat} {K : Nat → Nat} {vp : Value} {ul : List Nat} {st : BS} {R R' : Array Value} (h : BusQ w b K g vp ul st R) (o : Only (fun i => i = b) w w') (hat : BusAt w' b g st.c st.p vp R') : BusQ w' b K g vp ul st R' := by
  have kb := h.kb
  exact ⟨hat, h.ports.keeps o (fun i hi => .inr hi) (fun _ _ => rfl), h.mem.keeps o (fun i hi e => by subst e; omega), h.fits, fun j hj => (h.uart j hj).keeps o fun i hi e => by subst e; omega, h.len, h.le, h.kb,
    fun i hi => Nat.lt_of_lt_of_le (h.lt i hi) o.size, h.cok, h.pok, h.kt, h.tabs.keeps o fun i hi e => by have := h.kt i hi; subst e; omega⟩
/-- A made bus is laid. -/
theorem makeR_lay {w0 wr w2 : World} {b g : Nat} {K : Nat → Nat} {vp : Value} {ul : List Nat} {st : BS} {R : Array Value} {e : Ending} (h : BusQ wr b K g vp ul st R) (hb0 : Below w0.heap.size w0 wr) (hk : ∀ i, ¬ K i = 0 → w0.heap.size ≤ i) (k : LayE wr b g st.c st.p vp (regs b g st.size ul) e w2) :
    Below w0.heap.size w0 w2 ∧ BusP w2 b K g vp ul st := by
  obtain ⟨_, o, hat⟩ := k
  exact ⟨hb0.trans (o.below (fun i hi => by subst hi; exact hk i (by rw [h.kb]; omega)) hb0.size), h.laid o hat⟩
section
variable {P : Program} {ops : Array Oper} {rest : List Oper} {o : Oper} {a : Act} {w : World} {Q : Exit → Act → World → Prop}
theorem wpList_build_at (hg : o.guard = none) (t : TypeId) (parts : Array (Nat × Operand)) (ho : o.op = .build t parts) (vs : List (Nat × Value)) (hp : (parts.map fun (i, x) => (i, a.eval x)).toList = vs) (row : Array Value) (hb : P.built t vs = some row) (h : wpList P ops Q rest (a.put o.dst (.agg row)) w) : wpList P ops Q (o :: rest) a w :=
  wpList_build hg t parts ho (by rw [hp, hb]; rfl) (by rw [hp, hb]; exact h)
end
/-- What New answers. -/
def busOk (size n : Int) : Bool := M3.newOk 2147483648 size && decide (0 ≤ n ∧ n ≤ 8)
def bs0 (size : Int) (n : Nat) : BS := ⟨size, fun _ => 0, cl0, P5.p0, List.replicate n U6.u0⟩
def BusNewE (w : World) (size n : Int) (e : Ending) (w' : World) : Prop :=
  Below w.heap.size w w' ∧ ((busOk size n = false ∧ e = .returned (.tuple #[.pointer none, .int .i64 1])) ∨
    (busOk size n = true ∧ ∃ b K g vp ul, e = .returned (.tuple #[.pointer (some ⟨b, 0, none⟩), .int .i64 0]) ∧ (∀ i, ¬ K i = 0 → w.heap.size ≤ i) ∧ BusP w' b K g vp ul (bs0 size n.toNat)))
set_option maxHeartbeats 1000000 in
theorem busNew_bad (w : World) (size n : Int) (hs : In64 size) (hbad : M3.newOk 2147483648 size = false) : Calls Tryz.prog 7 #[.int .u64 size, .int .i64 n] w (BusNewE w size n) := by
  have HN := Lib.hid (M3.progNew_any 2147483648 size w (by unfold In64; omega) hs)
  have HO : Hid (busOk size n = false) := Lib.hid (by unfold busOk; rw [hbad]; rfl)
  have HB := Lib.hid hbad
  clear hbad hs
  go_enter Tryz.func7, Tryz.ntmps7
  go_wp2_with fail
  (with_reducible refine HN.out.mono ?_)
  rintro e w1 ⟨hb, hor⟩
  have HBB := Lib.hid hb
  have he : e = .returned (.tuple #[.pointer none, .int .i64 1]) := by
    rcases hor with ⟨_, rfl⟩ | ⟨h1, _⟩
    · rfl
    · rw [HB.out] at h1; cases h1
  subst he
  clear hb hor
  go_wp2
  go_ret2
  exact ⟨HBB.out, .inl ⟨HO.out, rfl⟩⟩
set_option maxHeartbeats 1000000 in
theorem busNew_n (w : World) (size n : Int) (hs : In64 size) (hn : ¬ (0 ≤ n ∧ n ≤ 8)) (hok : M3.newOk 2147483648 size = true) : Calls Tryz.prog 7 #[.int .u64 size, .int .i64 n] w (BusNewE w size n) := by
  have HN := Lib.hid (M3.progNew_any 2147483648 size w (by unfold In64; omega) hs)
  have HO : Hid (busOk size n = false) := Lib.hid (by unfold busOk; rw [decide_eq_false hn, Bool.and_false])
  have HB := Lib.hid hok
  clear hok hs
  by_cases n0 : n < 0
  · clear hn
    go_enter Tryz.func7, Tryz.ntmps7
    go_wp2_with fail
    (with_reducible refine HN.out.mono ?_)
    rintro e w1 ⟨hb, hor⟩
    have HBB := Lib.hid hb
    obtain ⟨x, he⟩ : ∃ x, e = .returned (.tuple #[x, .int .i64 0]) := by
      rcases hor with ⟨h1, _⟩ | ⟨_, b, S, rfl, _⟩
      · rw [HB.out] at h1; cases h1
      · exact ⟨_, rfl⟩
    subst he
    clear hb hor
    go_wp2
    go_ret2
    exact ⟨HBB.out, .inl ⟨HO.out, rfl⟩⟩
  · have n8 : 8 < n := by omega
    clear hn
    go_enter Tryz.func7, Tryz.ntmps7
    go_wp2_with fail
    (with_reducible refine HN.out.mono ?_)
    rintro e w1 ⟨hb, hor⟩
    have HBB := Lib.hid hb
    obtain ⟨x, he⟩ : ∃ x, e = .returned (.tuple #[x, .int .i64 0]) := by
      rcases hor with ⟨h1, _⟩ | ⟨_, b, S, rfl, _⟩
      · rw [HB.out] at h1; cases h1
      · exact ⟨_, rfl⟩
    subst he
    clear hb hor
    go_wp2
    go_ret2
    exact ⟨HBB.out, .inl ⟨HO.out, rfl⟩⟩
set_option maxHeartbeats 2000000 in
theorem busNew_ok (w : World) (tabs : Tabs w) (size : Int) (n : Nat) (hs : In64 size) (hn : n ≤ 8) (hok : M3.newOk 2147483648 size = true) : Calls Tryz.prog 7 #[.int .u64 size, .int .i64 n] w (BusNewE w size n) := by
  have HN := Lib.hid (M3.progNew_any 2147483648 size w (by unfold In64; omega) hs)
  have HO : Hid (busOk size n = true) := Lib.hid (by unfold busOk; rw [hok, decide_eq_true (by omega)]; rfl)
  have HF := Lib.hid (M3.newOk_fits (base := 2147483648) (by unfold In64; omega) hok)
  have HB := Lib.hid hok
  have HT := Lib.hid tabs
  clear hok hs tabs
  go_enter Tryz.func7, Tryz.ntmps7
  go_wp2_with fail
  (with_reducible refine HN.out.mono ?_)
  rintro e w1 ⟨hb, hor⟩
  obtain ⟨g, S, rfl, hSn, hm⟩ : ∃ b S, e = .returned (.tuple #[.pointer (some ⟨b, 0, none⟩), .int .i64 0]) ∧ (∀ i, S i → w.heap.size ≤ i) ∧ M3.ProgMem w1 b S 2147483648 size fun _ => 0 := by
    rcases hor with ⟨h1, _⟩ | ⟨_, b, S, h1, h2, h3⟩
    · rw [HB.out] at h1; cases h1
    · exact ⟨b, S, h1, h2, h3⟩
  have HB1 := Lib.hid hb
  have HM := Lib.hid hm
  have HSN := Lib.hid hSn
  clear hb hor hm hSn HN HB
  go_wp2_with fail
  refine (C4.new_any _).mono ?_
  rintro e w2 ⟨rfl, hb2⟩
  have HB2 := Lib.hid (HB1.out.trans (hb2.mono HB1.out.size))
  have HM2 := Lib.hid (HM.out.keeps (Only.of_below (fun _ => False) hb2) fun _ _ => id)
  clear hb2 HM
  go_wp2_with fail
  refine (P5.new_any _).mono ?_
  rintro e w3 ⟨rfl, hb3⟩
  have HB3 := Lib.hid (HB2.out.trans (hb3.mono HB2.out.size))
  have HM3 := Lib.hid (HM2.out.keeps (Only.of_below (fun _ => False) hb3) fun _ _ => id)
  clear hb3 HM2
  go_wp2_with (refine wpList_build_at rfl 76 #[(0, .tmp 24), (1, .tmp 25), (2, .tmp 26)] rfl [(0, .pointer (some ⟨g, 0, none⟩)), (1, C4.progV ⟨false, 18446744073709551615, 0⟩), (2, P5.progPV P5.p0)] (by first | rfl | simp [Act.eval, Act.put]) _ (built_bus w3.heap.size g size [] cl0 P5.p0) ?_)
  have hfr : M3.Fits 2147483648 size := HF.out
  have D : BusAt (w3.alloc (.cells (busRow g cl0 P5.p0 (.slice none 0 0) (regsTo w3.heap.size g size [] 0)) 76)) w3.heap.size g cl0 P5.p0 (.slice none 0 0) (regsTo w3.heap.size g size [] 0) := heap_alloc_new w3 _
  have hb4 : Below w3.heap.size w3 (w3.alloc (.cells (busRow g cl0 P5.p0 (.slice none 0 0) (regsTo w3.heap.size g size [] 0)) 76)) := (Below.refl _ _).alloc (Nat.le_refl _) _
  have hz4 : w3.heap.size < (w3.alloc (.cells (busRow g cl0 P5.p0 (.slice none 0 0) (regsTo w3.heap.size g size [] 0)) 76)).heap.size := by rw [World.size_alloc]; omega
  have HMK : Hid (MakeR w w3.heap.size g ⟨size, fun _ => 0, cl0, P5.p0, []⟩ (regsTo w3.heap.size g size [] 0) (w3.alloc (.cells (busRow g cl0 P5.p0 (.slice none 0 0) (regsTo w3.heap.size g size [] 0)) 76))) := by
    have hS : ¬ S w3.heap.size := fun h => by have := HM3.out.lt _ h; omega
    have s3 := HB3.out.size
    refine Lib.hid ⟨startK w3.heap.size S, .slice none 0 0, [], BusQ.start D (HM3.out.keeps (Only.of_below (fun _ => False) hb4) fun _ _ => id) hfr hS (fun i hi => ?_) (HT.out.below (HB3.out.trans (hb4.mono s3))) cl0_ok P5.p0_ok, fun x hx => by simp [Value.ownBlock] at hx, World.ownsRow_nil _ _ _ _, HB3.out.trans (hb4.mono s3), fun i hi => ?_⟩
    · have := HT.out.lt hi
      exact ⟨fun h => by have := HSN.out i h; omega, by omega⟩
    · unfold startK at hi
      split at hi
      · omega
      · split at hi
        · rename_i h; exact HSN.out i h
        · exact absurd rfl hi
  clear D hb4 hz4 HM3 HB1 HB2 HB3 HSN hfr
  generalize w3.alloc (.cells (busRow g cl0 P5.p0 (.slice none 0 0) (regsTo w3.heap.size g size [] 0)) 76) = w4 at *
  generalize w3.heap.size = b at *
  generalize hR : regsTo b g size [] 0 = R at *
  have HR := Lib.hid hR
  clear hR
  go_loopw [30] (fun i wr => ∃ k : Nat, k ≤ n ∧ i = .int .i64 k ∧ Hid (MakeR w b g ⟨size, fun _ => 0, cl0, P5.p0, List.replicate k U6.u0⟩ R wr)) (fun i wr => (n - (intOf i).toNat))
  case atStart => exact ⟨0, by omega, rfl, HMK⟩
  case round =>
    obtain ⟨k, hk, rfl, HMR⟩ := hrel
    obtain ⟨K, vp, ul, hq, own, owr, hb0, hkk⟩ := HMR.out
    have hl := hq.len
    simp only [List.length_replicate] at hl
    by_cases hlt : k < n
    · have HSTEP : Hid (∀ w1 w2 u F e, Below wr.heap.size wr w1 → (∀ i, F i → wr.heap.size ≤ i) → U6.UP w1 u F U6.u0 → PlugE w1 b g cl0 P5.p0 vp R ul.length (portCells b ul ++ [.pointer (some ⟨u, 0, none⟩), .pointer (some ⟨b, 4, none⟩), .int .i64 (10 + (ul.length : Int))]) e w2 → MakeR w b g ⟨size, fun _ => 0, cl0, P5.p0, List.replicate (k + 1) U6.u0⟩ R w2) := Lib.hid fun w1 w2 u F e h1 h2 h3 h4 => by
        have := makeR_step hq own hb0 hkk (by omega) h1 h2 h3 h4
        rw [List.replicate_succ']; exact this
      have HPL : Hid (∀ w1 u, Below wr.heap.size wr w1 → Calls Tryz.prog 31 #[.pointer (some ⟨b, 0, none⟩), .pointer (some ⟨u, 0, none⟩)] w1 (PlugE w1 b g cl0 P5.p0 vp R ul.length (portCells b ul ++ [.pointer (some ⟨u, 0, none⟩), .pointer (some ⟨b, 4, none⟩), .int .i64 (10 + (ul.length : Int))]))) := Lib.hid fun w1 u h1 => plug_any (hq.obj.below h1) ul.length _ (owns_below owr h1) (by omega) u
      have hlk : (k : Int) < n := by omega
      clear hq own owr hb0 hkk HMR hl
      go_wp2_with fail
      refine (U6.new_any _).mono ?_
      rintro e w5 ⟨u, F, vi, vo, rfl, hb5, hF5, hu5⟩
      have HB5 := Lib.hid hb5
      have HF5 := Lib.hid hF5
      have HU5 : Hid (U6.UP w5 u F U6.u0) := Lib.hid ⟨vi, vo, hu5⟩
      clear hb5 hF5 hu5
      go_wp2_with fail
      (with_reducible refine (HPL.out _ u HB5.out).mono ?_)
      rintro e w6 hE
      obtain ⟨⟨v, rfl⟩, _⟩ := id hE
      have HM6 := Lib.hid (HSTEP.out _ _ _ _ _ HB5.out HF5.out HU5.out hE)
      clear hE HB5 HF5 HU5 HPL HSTEP
      go_wp2
      go_roundw
      case rel => exact ⟨k + 1, by omega, by go_num, HM6⟩
      case measure => simp [intOf]; omega
    · obtain rfl : k = n := by omega
      have hat : BusAt wr b g cl0 P5.p0 vp (regsTo b g size ul 0) := by rw [regsTo_zero b g size ul [], HR.out]; exact hq.obj
      have HL := Lib.hid (lay_any hat hq.mem (by rw [hq.kb]; omega) hq.ports hq.le)
      have HFIN : Hid (∀ e w2, LayE wr b g cl0 P5.p0 vp (regs b g size ul) e w2 → BusNewE w size k (.returned (.tuple #[.pointer (some ⟨b, 0, none⟩), .int .i64 0])) w2) := Lib.hid fun e w2 h => by
        obtain ⟨h1, h2⟩ := makeR_lay hq hb0 hkk h
        exact ⟨h1, .inr ⟨HO.out, b, K, g, vp, ul, rfl, hkk, by show BusP w2 b K g vp ul (bs0 size (k : Int).toNat); rw [Int.toNat_natCast]; exact h2⟩⟩
      clear hq own owr hb0 hkk HMR hl hat hlt hk
      go_wp2_with fail
      (with_reducible refine HL.out.mono ?_)
      rintro e w6 hE
      obtain ⟨⟨v, rfl⟩, _⟩ := id hE
      have HF6 := Lib.hid (HFIN.out _ _ hE)
      clear hE
      go_wp2
      go_ret2
      exact HF6.out
theorem busNew_any (w : World) (tabs : Tabs w) (size n : Int) (hs : In64 size) : Calls Tryz.prog 7 #[.int .u64 size, .int .i64 n] w (BusNewE w size n) := by
  cases hok : M3.newOk 2147483648 size with
  | false => exact busNew_bad w size n hs hok
  | true =>
    by_cases hn : 0 ≤ n ∧ n ≤ 8
    · obtain ⟨k, rfl⟩ : ∃ k : Nat, n = k := ⟨n.toNat, by omega⟩
      exact busNew_ok w tabs size k hs (by omega) hok
    · exact busNew_n w size n hs hn hok

end Go.Proofs.YtbcnkhfpogglmaaGreatDoor

namespace Go.Proofs.YtbcnkhfpogglmaaGreatDoor
open Go.RowKit
set_option linter.unusedVariables false
set_option maxRecDepth 100000

section
variable {P : Program} {op : Oper} {a : Act} {w : World} {row : Array Value}
theorem yield_fr (ty : TypeId) (x : Operand) (ho : op.op = .load ty x) (b o : Nat) (hx : a.eval x = .pointer (some ⟨b, o, none⟩)) (hrun : (loadVar ty ⟨b, o, none⟩).run P w = .ok (.agg row) w) :
    (execOp a.eval op).run P w = .ok (.value (.agg row)) w := by
  unfold execOp
  simp only [ho, hx, Instr.loadAt, Instr.sureAddr, Sem.run_bind, Sem.run_pure, Result.andThen_ok, hrun]
theorem yield_build (t : TypeId) (parts : Array (Nat × Operand)) (ho : op.op = .build t parts) (vs : List (Nat × Value)) (hp : (parts.map fun (i, x) => (i, a.eval x)).toList = vs) (hb : P.built t vs = some row) :
    (execOp a.eval op).run P w = .ok (.value (.agg row)) w := by
  have hr := run_build (P := P) w t (parts.map fun (i, x) => (i, a.eval x)) row (by rw [hp, hb])
  unfold execOp
  simp only [ho, Sem.run_bind, hr, Result.andThen_ok, Sem.run_pure]
end
theorem regsTo_zeros (b g : Nat) (size : Int) (ul : List Nat) (b' g' : Nat) (size' : Int) (ul' : List Nat) : regsTo b g size ul 0 = regsTo b' g' size' ul' 0 := by
  unfold regsTo; exact varr_congr fun i _ => by rw [if_neg (by omega), if_neg (by omega)]
theorem take_next {α : Type} (l : List α) (d : α) {k : Nat} (hk : k < l.length) : l.take k ++ [l.getD k d] = l.take (k + 1) := by
  rw [List.take_succ_eq_append_getElem hk, List.getD_eq_getElem?_getD, List.getElem?_eq_getElem hk]; rfl
/-- What Twin answers. -/
def BusTwinE (w : World) (st : BS) (e : Ending) (w' : World) : Prop := Below w.heap.size w w' ∧ ∃ b K g vp ul, e = .returned (.pointer (some ⟨b, 0, none⟩)) ∧ (∀ i, ¬ K i = 0 → w.heap.size ≤ i) ∧ BusP w' b K g vp ul st
theorem twin_none_bus (w : World) : Calls Tryz.prog 18 #[.pointer none] w fun e w' => e = .returned (.pointer none) ∧ w = w' := by
  go_enter Tryz.func18, Tryz.ntmps18
  go_wp2
  go_ret
  exact ⟨rfl, rfl⟩
set_option maxHeartbeats 4000000 in
theorem busTwin_any {w : World} {b g : Nat} {K : Nat → Nat} {vp : Value} {ul : List Nat} {st : BS} (h : BusP w b K g vp ul st) : Calls Tryz.prog 18 #[.pointer (some ⟨b, 0, none⟩)] w (BusTwinE w st) := by
  have H := Lib.hid h
  have HTW : Hid (∀ wx, Below w.heap.size w wx → Calls Tryz.prog 47 #[.pointer (some ⟨g, 0, none⟩)] wx (M3.ProgTwin wx 2147483648 st.size st.m)) := Lib.hid fun wx hx => M3.progTwin_any (h.below hx).mem h.fits
  have HRG : Hid (∀ wx, Below w.heap.size w wx → wx.rangeAt b 4 (varr 39 (P5.cellQ st.p)).toList) := Lib.hid fun wx hx => (h.below hx).obj.range
  have HSZ : Hid ((Tryz.prog.info? 69).map (·.size) = some (varr 39 (P5.cellQ st.p)).size) := Lib.hid (P5.size_progP.trans (by rw [varr_size]))
  obtain ⟨BR, hBR⟩ : ∃ BR : Nat → Nat → Array Value, ∀ x g2, BR x g2 = busRow g2 st.c st.p (.slice none 0 0) (regsTo x g2 st.size [] 0) := ⟨_, fun _ _ => rfl⟩
  have HBB : Hid (∀ g2, Tryz.prog.built 76 [(0, .pointer (some ⟨g2, 0, none⟩)), (1, .agg #[.bool st.c.s, .int .u64 st.c.c, .int .u64 st.c.n]), (2, .agg (varr 39 (P5.cellQ st.p)))] = some (BR 0 g2)) := Lib.hid fun g2 => by rw [hBR]; exact built_bus 0 g2 st.size [] st.c st.p
  have HBR : Hid (∀ g2, BR 0 g2 = busRow g2 st.c st.p (.slice none 0 0) (regsTo 0 g2 st.size [] 0)) := Lib.hid fun g2 => hBR 0 g2
  clear hBR
  generalize BR 0 = BR at *
  have HPT : Hid (∃ a c, vp = .slice a ul.length c ∧ ul.length ≤ c) := Lib.hid h.ports.len
  clear h
  generalize hrow : varr 39 (P5.cellQ st.p) = row at *
  generalize hcs : st.c.s = cs at *
  generalize hcc : st.c.c = cc at *
  generalize hcn : st.c.n = cn at *
  clear hrow
  have HCL : Hid (st.c.s = cs ∧ st.c.c = cc ∧ st.c.n = cn) := Lib.hid ⟨hcs, hcc, hcn⟩
  go_enter Tryz.func18, Tryz.ntmps18
  go_wp2_with fail
  refine wp_region_held_drew (S := fun wx => Below w.heap.size w wx) (by kernel_rfl) ((Below.refl _ _).drew) (fun hHeld0 => ?_)
  have HS := Lib.hid hHeld0
  clear hHeld0
  refine takeD (i := 0) (some 8) (v := ?_) rfl rfl (by kernel_rfl) (by kernel_rfl) (by kernel_rfl) (fun _ _ _ h => h) (by rfl) HS.out ?_ ?_
  rotate_left
  · intro wx hSx
    clear hSx
    go_simp
    try (with_reducible rfl)
  simp only [Act.put, List.setIfInBounds_toArray, List.set_cons_zero, List.set_cons_succ]
  refine takeD (i := 1) (some 9) (v := ?_) rfl rfl (by kernel_rfl) (by kernel_rfl) (by kernel_rfl) (fun _ _ _ h => h) (by rfl) HS.out ?_ ?_
  rotate_left
  · intro wx hSx
    clear hSx
    go_simp
    try (with_reducible rfl)
  simp only [Act.put, List.setIfInBounds_toArray, List.set_cons_zero, List.set_cons_succ]
  refine takeD (i := 2) (some 10) (v := ?_) rfl rfl (by kernel_rfl) (by kernel_rfl) (by kernel_rfl) (fun _ _ _ h => h) (by rfl) HS.out ?_ ?_
  rotate_left
  · intro wx hSx
    clear hSx
    go_simp
    try (with_reducible rfl)
  simp only [Act.put, List.setIfInBounds_toArray, List.set_cons_zero, List.set_cons_succ]
  refine takeD (i := 3) (some 11) (v := ?_) rfl rfl (by kernel_rfl) (by kernel_rfl) (by kernel_rfl) (fun _ _ _ h => h) (by rfl) HS.out ?_ ?_
  rotate_left
  · intro wx hSx
    have kx := H.out.below hSx
    obtain ⟨k1, k2, k3⟩ := kx.obj.clint_
    have k0 := kx.obj.ram_
    clear kx
    clear hSx
    go_simp
    try (with_reducible rfl)
  simp only [Act.put, List.setIfInBounds_toArray, List.set_cons_zero, List.set_cons_succ]
  refine takeD (i := 5) (some 13) (v := ?_) rfl rfl (by kernel_rfl) (by kernel_rfl) (by kernel_rfl) (fun _ _ _ h => h) (by rfl) HS.out ?_ ?_
  rotate_left
  · intro wx hSx
    clear hSx
    go_simp
    try (with_reducible rfl)
  simp only [Act.put, List.setIfInBounds_toArray, List.set_cons_zero, List.set_cons_succ]
  refine takeD (i := 6) (some 14) (v := ?_) rfl rfl (by kernel_rfl) (by kernel_rfl) (by kernel_rfl) (fun _ _ _ h => h) (by rfl) HS.out ?_ ?_
  rotate_left
  · intro wx hSx
    clear hSx
    go_simp
    try (with_reducible rfl)
  simp only [Act.put, List.setIfInBounds_toArray, List.set_cons_zero, List.set_cons_succ]
  refine takeD (i := 7) (some 15) (v := ?_) rfl rfl (by kernel_rfl) (by kernel_rfl) (by kernel_rfl) (fun _ _ _ h => h) (by rfl) HS.out ?_ ?_
  rotate_left
  · intro wx hSx
    clear hSx
    go_simp
    try (with_reducible rfl)
  simp only [Act.put, List.setIfInBounds_toArray, List.set_cons_zero, List.set_cons_succ]
  refine takeD (i := 8) (some 16) (v := ?_) rfl rfl (by kernel_rfl) (by kernel_rfl) (by kernel_rfl) (fun _ _ _ h => h) (by rfl) HS.out ?_ ?_
  rotate_left
  · intro wx hSx
    have kx := H.out.below hSx
    obtain ⟨k1, k2, k3⟩ := kx.obj.clint_
    have k0 := kx.obj.ram_
    clear kx
    clear hSx
    go_simp
    try (with_reducible rfl)
  simp only [Act.put, List.setIfInBounds_toArray, List.set_cons_zero, List.set_cons_succ]
  refine takeD (i := 9) (some 17) (v := ?_) rfl rfl (by kernel_rfl) (by kernel_rfl) (by kernel_rfl) (fun _ _ _ h => h) (by rfl) HS.out ?_ ?_
  rotate_left
  · intro wx hSx
    clear hSx
    go_simp
    try (with_reducible rfl)
  simp only [Act.put, List.setIfInBounds_toArray, List.set_cons_zero, List.set_cons_succ]
  refine takeD (i := 10) (some 18) (v := ?_) rfl rfl (by kernel_rfl) (by kernel_rfl) (by kernel_rfl) (fun _ _ _ h => h) (by rfl) HS.out ?_ ?_
  rotate_left
  · intro wx hSx
    clear hSx
    go_simp
    try (with_reducible rfl)
  simp only [Act.put, List.setIfInBounds_toArray, List.set_cons_zero, List.set_cons_succ]
  refine takeD (i := 11) (some 19) (v := ?_) rfl rfl (by kernel_rfl) (by kernel_rfl) (by kernel_rfl) (fun _ _ _ h => h) (by rfl) HS.out ?_ ?_
  rotate_left
  · intro wx hSx
    clear hSx
    go_simp
    try (with_reducible rfl)
  simp only [Act.put, List.setIfInBounds_toArray, List.set_cons_zero, List.set_cons_succ]
  refine takeD (i := 12) (some 20) (v := ?_) rfl rfl (by kernel_rfl) (by kernel_rfl) (by kernel_rfl) (fun _ _ _ h => h) (by rfl) HS.out ?_ ?_
  rotate_left
  · intro wx hSx
    exact (by refine yield_fr _ (.tmp 19) ?_ b 4 ?_ (run_load_fr wx b 4 69 row _ (HRG.out wx hSx) Tryz.underlying69 rfl HSZ.out) <;> rfl)
  simp only [Act.put, List.setIfInBounds_toArray, List.set_cons_zero, List.set_cons_succ]
  refine wpAnyH_ready (rs := [4]) (by kernel_rfl) (by simp) ?_
  refine AllReadyH.cons rfl (fun K hK => ?_) AllReadyH.nil
  go_simp
  (with_reducible refine (HTW.out _ HS.out).mono ?_)
  rintro e w3 ⟨hb1, g2, S2, rfl, hS2, hm2⟩
  have HS3 : Hid (Below w.heap.size w w3) := Lib.hid (HS.out.trans (hb1.mono HS.out.size))
  have HM2 := Lib.hid hm2
  have HSN : Hid (∀ i, S2 i → w.heap.size ≤ i) := Lib.hid fun i hi => Nat.le_trans HS.out.size (hS2 i hi)
  have HBU : Hid (Tryz.prog.built 76 [(0, .pointer (some ⟨g2, 0, none⟩)), (1, .agg #[.bool cs, .int .u64 cc, .int .u64 cn]), (2, .agg row)] = some (BR g2)) := Lib.hid (HBB.out g2)
  clear hb1 hS2 hm2
  go_simp
  refine hK.out _ _ ?_ (fun hHeld => ?_)
  · exact HS3.out
  clear hHeld hK K
  try simp only [Act.put, List.setIfInBounds_toArray, List.set_cons_zero, List.set_cons_succ]
  replace HS := HS3
  refine takeD (i := 13) (some 21) (v := ?_) rfl rfl (by kernel_rfl) (by kernel_rfl) (by kernel_rfl) (fun _ _ _ h => h) (by rfl) HS.out ?_ ?_
  rotate_left
  · intro wx hSx
    exact (by refine yield_build 76 #[(0, .tmp 12), (1, .tmp 16), (2, .tmp 20)] ?_ [(0, .pointer (some ⟨g2, 0, none⟩)), (1, .agg #[.bool cs, .int .u64 cc, .int .u64 cn]), (2, .agg row)] ?_ HBU.out <;> first | rfl | simp [Act.eval, Act.put])
  simp only [Act.put, List.setIfInBounds_toArray, List.set_cons_zero, List.set_cons_succ]
  refine wpAnyH_ready (rs := [14]) (by kernel_rfl) (by simp) ?_
  refine AllReadyH.cons rfl (fun K hK => ?_) AllReadyH.nil
  go_simp
  refine hK.out _ _ ?_ (fun hHeld => ?_)
  · exact HS.out.alloc HS.out.size _
  replace HS : Hid (Below w.heap.size w _) := Lib.hid hHeld
  clear hHeld hK K
  try simp only [Act.put, List.setIfInBounds_toArray, List.set_cons_zero, List.set_cons_succ]
  refine takeD (i := 15) (some 3) (v := ?_) rfl rfl (by kernel_rfl) (by kernel_rfl) (by kernel_rfl) (fun _ _ _ h => h) (by rfl) HS.out ?_ ?_
  rotate_left
  · intro wx hSx
    clear hSx
    go_simp
    try (with_reducible rfl)
  simp only [Act.put, List.setIfInBounds_toArray, List.set_cons_zero, List.set_cons_succ]
  refine wpAnyH_done (by kernel_rfl) ?_ _
  have hz4 : w3.heap.size < (w3.alloc (.cells (BR g2) 76)).heap.size := by rw [World.size_alloc]; omega
  have hb4 : Below w3.heap.size w3 (w3.alloc (.cells (BR g2) 76)) := (Below.refl _ _).alloc (Nat.le_refl _) _
  have D : BusAt (w3.alloc (.cells (BR g2) 76)) w3.heap.size g2 st.c st.p (.slice none 0 0) (regsTo 0 g2 st.size [] 0) := by
    have := heap_alloc_new w3 (.cells (BR g2) 76)
    unfold BusAt; rw [← HBR.out]; exact this
  have HMK : Hid (MakeR w w3.heap.size g2 ⟨st.size, st.m, st.c, st.p, []⟩ (regsTo 0 g2 st.size [] 0) (w3.alloc (.cells (BR g2) 76))) := by
    have hS : ¬ S2 w3.heap.size := fun h => by have := HM2.out.lt _ h; omega
    have s3 : w.heap.size ≤ w3.heap.size := HS3.out.size
    refine Lib.hid ⟨startK w3.heap.size S2, .slice none 0 0, [], BusQ.start D (HM2.out.keeps (Only.of_below (fun _ => False) hb4) fun _ _ => id) H.out.fits hS (fun i hi => ?_) (H.out.tabs.below (HS3.out.trans (hb4.mono s3))) H.out.cok H.out.pok, fun x hx => by simp [Value.ownBlock] at hx, World.ownsRow_nil _ _ _ _, HS3.out.trans (hb4.mono s3), fun i hi => ?_⟩
    · have := H.out.tabs.lt hi
      exact ⟨fun h => by have := HSN.out i h; omega, by omega⟩
    · unfold startK at hi
      split at hi
      · omega
      · split at hi
        · rename_i h; exact HSN.out i h
        · exact absurd rfl hi
  have HSW := HS
  clear D hb4 hz4 HM2 HS3 HSN HBU HBB HBR HS HTW HRG HSZ HCL
  generalize w3.alloc (.cells (BR g2) 76) = w4 at *
  generalize w3.heap.size = b2 at *
  generalize hR : regsTo 0 g2 st.size [] 0 = R at *
  have HR := Lib.hid hR
  clear hR
  obtain ⟨av, cv, hvp, hcap⟩ := HPT.out
  have HVP := Lib.hid hvp
  have c43 := (H.out.below HSW.out).obj.ports_
  rw [HVP.out] at c43
  have hle := H.out.le
  generalize hn : ul.length = n at *
  have HN := Lib.hid hn
  clear hn hvp HPT
  go_wp2
  go_loopw [28] (fun i wr => ∃ k : Nat, k ≤ n ∧ i = .int .i64 k ∧ Hid (MakeR w b2 g2 ⟨st.size, st.m, st.c, st.p, st.us.take k⟩ R wr)) (fun i wr => (n - (intOf i).toNat))
  case atStart => exact ⟨0, by omega, rfl, HMK⟩
  case round =>
    obtain ⟨k, hk, rfl, HMR⟩ := hrel
    obtain ⟨K2, vp2, ul2, hq, own, owr, hb0, hkk⟩ := HMR.out
    have hl := hq.len
    have hus := H.out.len
    rw [HN.out] at hus
    simp only [List.length_take] at hl
    by_cases hlt : k < n
    · obtain ⟨gp, cap, hvp2, hcap2, e0, e1, e2⟩ := (H.out.below hb0).ports.cells (k := k) (by rw [HN.out]; exact hlt)
      obtain rfl : av = some ⟨gp, 0, none⟩ := by
        have := HVP.out; rw [hvp2] at this; injection this with h1 h2 h3; exact h1.symm
      have HUT : Hid (∀ wx, Below w.heap.size w wx → Calls Tryz.prog 48 #[.pointer (some ⟨ul.getD k 0, 0, none⟩)] wx (U6.MadeU U6.cellsP 131 wx (st.us.getD k U6.u0))) := Lib.hid fun wx hx => U6.twin_any wx _ _ _ ((H.out.below hx).uart k (by rw [HN.out]; exact hlt))
      have HSTEP : Hid (∀ w1 w2 u F e, Below wr.heap.size wr w1 → (∀ i, F i → wr.heap.size ≤ i) → U6.UP w1 u F (st.us.getD k U6.u0) → PlugE w1 b2 g2 st.c st.p vp2 R ul2.length (portCells b2 ul2 ++ [.pointer (some ⟨u, 0, none⟩), .pointer (some ⟨b2, 4, none⟩), .int .i64 (10 + (ul2.length : Int))]) e w2 → MakeR w b2 g2 ⟨st.size, st.m, st.c, st.p, st.us.take (k + 1)⟩ R w2) := Lib.hid fun w1 w2 u F e h1 h2 h3 h4 => by
        have := makeR_step hq own hb0 hkk (by omega) h1 h2 h3 h4
        rw [← take_next st.us U6.u0 (by omega)]; exact this
      have HPL : Hid (∀ w1 u, Below wr.heap.size wr w1 → Calls Tryz.prog 31 #[.pointer (some ⟨b2, 0, none⟩), .pointer (some ⟨u, 0, none⟩)] w1 (PlugE w1 b2 g2 st.c st.p vp2 R ul2.length (portCells b2 ul2 ++ [.pointer (some ⟨u, 0, none⟩), .pointer (some ⟨b2, 4, none⟩), .int .i64 (10 + (ul2.length : Int))]))) := Lib.hid fun w1 u h1 => plug_any (hq.obj.below h1) ul2.length _ (owns_below owr h1) (by omega) u
      have HB0 := Lib.hid hb0
      have hlk : (k : Int) < n := by omega
      clear hq own owr hb0 hkk HMR hl hus hvp2 hcap2
      generalize ul.getD k 0 = uv at *
      have HAW : Hid (Below wr.heap.size wr (wr.alloc (.cells #[.pointer (some ⟨uv, 0, none⟩), .pointer (some ⟨b, 4, none⟩), .int .i64 (10 + (k : Int))] 86))) := Lib.hid ((Below.refl _ _).alloc (Nat.le_refl _) _)
      go_wp2_with fail
      (with_reducible refine (HUT.out _ (HB0.out.trans (HAW.out.mono HB0.out.size))).mono ?_)
      rintro e w5 ⟨u, F, vi, vo, rfl, hb5, hF5, hu5⟩
      have HB5 : Hid (Below wr.heap.size wr w5) := Lib.hid (HAW.out.trans (hb5.mono HAW.out.size))
      have HF5 : Hid (∀ i, F i → wr.heap.size ≤ i) := Lib.hid fun i hi => Nat.le_trans HAW.out.size (hF5 i hi)
      have HU5 : Hid (U6.UP w5 u F (st.us.getD k U6.u0)) := Lib.hid ⟨vi, vo, hu5⟩
      clear hb5 hF5 hu5 HAW HUT
      go_wp2_with fail
      (with_reducible refine (HPL.out _ u HB5.out).mono ?_)
      rintro e w6 hE
      obtain ⟨⟨v, rfl⟩, _⟩ := id hE
      have HM6 := Lib.hid (HSTEP.out _ _ _ _ _ HB5.out HF5.out HU5.out hE)
      clear hE HB5 HF5 HU5 HPL HSTEP
      go_wp2
      go_roundw
      case rel => exact ⟨k + 1, by omega, by go_num, HM6⟩
      case measure => simp [intOf]; omega
    · obtain rfl : k = n := by omega
      have hat : BusAt wr b2 g2 st.c st.p vp2 (regsTo b2 g2 st.size ul2 0) := by rw [regsTo_zeros b2 g2 st.size ul2 0 g2 st.size [], HR.out]; exact hq.obj
      have HL := Lib.hid (lay_any hat hq.mem (by rw [hq.kb]; omega) hq.ports hq.le)
      have HFIN : Hid (∀ e w2, LayE wr b2 g2 st.c st.p vp2 (regs b2 g2 st.size ul2) e w2 → BusTwinE w st (.returned (.pointer (some ⟨b2, 0, none⟩))) w2) := Lib.hid fun e w2 h => by
        obtain ⟨h1, h2⟩ := makeR_lay hq hb0 hkk h
        rw [show st.us.take k = st.us by rw [← hus]; exact List.take_length] at h2
        exact ⟨h1, b2, K2, g2, vp2, ul2, rfl, hkk, h2⟩
      have c0 := (H.out.below hb0).obj.ram_
      clear hq own owr hb0 hkk HMR hl hat hlt hk hus
      go_wp2_with fail
      (with_reducible refine HL.out.mono ?_)
      rintro e w6 hE
      obtain ⟨⟨v, rfl⟩, _⟩ := id hE
      have HF6 := Lib.hid (HFIN.out _ _ hE)
      clear hE
      go_wp2
      go_ret
      exact HF6.out

end Go.Proofs.YtbcnkhfpogglmaaGreatDoor

namespace Go.Proofs.YtbcnkhfpogglmaaGreatDoor
open Go.RowKit
set_option linter.unusedVariables false
set_option maxRecDepth 100000

theorem info_lines : (Tryz.prog.info? 33).map (·.size) = some 6 := by kernel_rfl
theorem built_lines (a b c d : Bool) (t : Int) : Tryz.prog.built 33 [(0, .bool a), (1, .bool b), (2, .bool c), (3, .bool d), (5, .int .u64 t)] = some #[.bool a, .bool b, .bool c, .bool d, .int .u64 0, .int .u64 t] := by kernel_rfl
/-- What Lines tells. -/
def linesW (a b c d u : Bool) (t : Int) : Value := .agg #[.bool a, .bool b, .bool c, .bool d, .int .u64 (if u = true then 2 else 0), .int .u64 t]
def linesV (st : BS) : Value := linesW st.c.s (C4.mtC st.c) (P5.lineT st.p 0) (P5.lineT st.p 1) (P5.upT st.p 31) st.c.n
def LinesE (w : World) (v : Value) (e : Ending) (w' : World) : Prop := e = .returned v ∧ Below w.heap.size w w'
theorem lines_none_bus (w : World) : Calls Tryz.prog 12 #[.pointer none] w (LinesE w (.agg #[.bool false, .bool false, .bool false, .bool false, .int .u64 0, .int .u64 0])) := by
  go_enter Tryz.func12, Tryz.ntmps12
  go_wp2
  exact bodyPost_ret (v := .agg #[.bool false, .bool false, .bool false, .bool false, .int .u64 0, .int .u64 0]) (by simp [results, Tryz.results12, go_sem]) rfl ⟨rfl, (Below.refl _ _).alloc (Nat.le_refl _) _⟩
set_option maxHeartbeats 8000000 in
theorem busLines_any {w : World} {b g : Nat} {K : Nat → Nat} {vp : Value} {ul : List Nat} {st : BS} (h : BusP w b K g vp ul st) : Calls Tryz.prog 12 #[.pointer (some ⟨b, 0, none⟩)] w (LinesE w (linesV st)) := by
  have hw1 : Below w.heap.size w (w.alloc (.cells #[.bool false, .bool false, .bool false, .bool false, .int .u64 0, .int .u64 0] 33)) := (Below.refl _ _).alloc (Nat.le_refl _) _
  have H := Lib.hid (h.below hw1)
  have HRES : Hid ((w.alloc (.cells #[.bool false, .bool false, .bool false, .bool false, .int .u64 0, .int .u64 0] 33)).heap[w.heap.size]? = some (.cells #[.bool false, .bool false, .bool false, .bool false, .int .u64 0, .int .u64 0] 33 (0, 0))) := Lib.hid (heap_alloc_new w _)
  have HZ1 : Hid (w.heap.size < (w.alloc (.cells #[.bool false, .bool false, .bool false, .bool false, .int .u64 0, .int .u64 0] 33)).heap.size) := Lib.hid (by rw [World.size_alloc]; omega)
  have HW1 := Lib.hid hw1
  have HSZ : Hid ((Tryz.prog.info? 69).map (·.size) = some (varr 39 (P5.cellQ st.p)).size) := Lib.hid (P5.size_progP.trans (by rw [varr_size]))
  have HC1 : Hid (∀ wx, Calls Tryz.prog 38 #[.agg #[.bool st.c.s, .int .u64 st.c.c, .int .u64 st.c.n]] wx fun e w' => e = .returned (.bool st.c.s) ∧ Below wx.heap.size wx w') := Lib.hid fun wx => C4.msip_any wx st.c
  have HC2 : Hid (∀ wx, Calls Tryz.prog 39 #[.agg #[.int .u64 st.c.c, .int .u64 st.c.n]] wx fun e w' => e = .returned (.bool (C4.mtC st.c)) ∧ Below wx.heap.size wx w') := Lib.hid fun wx => C4.mtip_any wx st.c
  have HC3 : Hid (∀ wx, Calls Tryz.prog 40 #[.agg (varr 39 (P5.cellQ st.p)), .int .i64 0] wx fun e w' => e = .returned (.bool (P5.lineT st.p 0)) ∧ Below wx.heap.size wx w') := Lib.hid fun wx => P5.line_0 wx st.p h.pok
  have HC4 : Hid (∀ wx, Calls Tryz.prog 40 #[.agg (varr 39 (P5.cellQ st.p)), .int .i64 1] wx fun e w' => e = .returned (.bool (P5.lineT st.p 1)) ∧ Below wx.heap.size wx w') := Lib.hid fun wx => P5.line_1 wx st.p h.pok
  have HC5 : Hid (∀ wx, Calls Tryz.prog 41 #[.agg #[.int .u64 st.c.c, .int .u64 st.c.n]] wx fun e w' => e = .returned (.int .u64 st.c.n) ∧ Below wx.heap.size wx w') := Lib.hid fun wx => C4.time_any wx st.c
  have HUP : Hid (∀ wx, Calls Tryz.prog 42 #[.agg (varr 39 (P5.cellQ st.p)), .int .i64 31] wx fun e w' => e = .returned (.bool (P5.upT st.p 31)) ∧ Below wx.heap.size wx w') := Lib.hid fun wx => P5.up_any wx st.p h.pok 31
  show Calls Tryz.prog 12 #[.pointer (some ⟨b, 0, none⟩)] w (LinesE w (linesW st.c.s (C4.mtC st.c) (P5.lineT st.p 0) (P5.lineT st.p 1) (P5.upT st.p 31) st.c.n))
  clear h hw1
  have HRG : Hid (∀ wx, Below (w.alloc (.cells #[.bool false, .bool false, .bool false, .bool false, .int .u64 0, .int .u64 0] 33)).heap.size (w.alloc (.cells #[.bool false, .bool false, .bool false, .bool false, .int .u64 0, .int .u64 0] 33)) wx → wx.rangeAt b 4 (varr 39 (P5.cellQ st.p)).toList) := Lib.hid fun wx hx => (H.out.below hx).obj.range
  have HOB : Hid (∀ wx, Below (w.alloc (.cells #[.bool false, .bool false, .bool false, .bool false, .int .u64 0, .int .u64 0] 33)).heap.size (w.alloc (.cells #[.bool false, .bool false, .bool false, .bool false, .int .u64 0, .int .u64 0] 33)) wx → BusAt wx b g st.c st.p vp (regs b g st.size ul)) := Lib.hid fun wx hx => (H.out.below hx).obj
  generalize hrow : varr 39 (P5.cellQ st.p) = row at *
  generalize P5.lineT st.p 0 = l0 at *
  generalize P5.lineT st.p 1 = l1 at *
  generalize P5.upT st.p 31 = up at *
  generalize C4.mtC st.c = mt at *
  generalize hcs : st.c.s = cs at *
  generalize hcc : st.c.c = cc at *
  generalize hcn : st.c.n = cn at *
  clear hrow
  have HOC : Hid (∀ wx, Below (w.alloc (.cells #[.bool false, .bool false, .bool false, .bool false, .int .u64 0, .int .u64 0] 33)).heap.size (w.alloc (.cells #[.bool false, .bool false, .bool false, .bool false, .int .u64 0, .int .u64 0] 33)) wx → wx.cell? ⟨b, 1, none⟩ = some (.bool cs) ∧ wx.cell? ⟨b, 2, none⟩ = some (.int .u64 cc) ∧ wx.cell? ⟨b, 3, none⟩ = some (.int .u64 cn)) := Lib.hid fun wx hx => by
    have := (HOB.out wx hx).clint_
    rwa [hcs, hcc, hcn] at this
  clear hcs hcc hcn HOB H
  go_enter Tryz.func12, Tryz.ntmps12
  go_wp2_with fail
  generalize w.alloc (.cells #[.bool false, .bool false, .bool false, .bool false, .int .u64 0, .int .u64 0] 33) = w1 at *
  refine wp_region_held_drew (S := fun wx => Below w1.heap.size w1 wx) (by kernel_rfl) ((Below.refl _ _).drew) (fun hHeld0 => ?_)
  have HS := Lib.hid hHeld0
  clear hHeld0
  generalize w1.drew = wd at *
  refine takeD (i := 0) (some 7) (v := ?_) rfl rfl (by kernel_rfl) (by kernel_rfl) (by kernel_rfl) (fun _ _ _ h => h) (by rfl) HS.out ?_ ?_
  rotate_left
  · intro wx hSx
    clear hSx
    go_simp
    try (with_reducible rfl)
  simp only [Act.put, List.setIfInBounds_toArray, List.set_cons_zero, List.set_cons_succ]
  refine takeD (i := 1) (some 8) (v := ?_) rfl rfl (by kernel_rfl) (by kernel_rfl) (by kernel_rfl) (fun _ _ _ h => h) (by rfl) HS.out ?_ ?_
  rotate_left
  · intro wx hSx
    clear hSx
    go_simp
    try (with_reducible rfl)
  simp only [Act.put, List.setIfInBounds_toArray, List.set_cons_zero, List.set_cons_succ]
  refine takeD (i := 2) (some 9) (v := ?_) rfl rfl (by kernel_rfl) (by kernel_rfl) (by kernel_rfl) (fun _ _ _ h => h) (by rfl) HS.out ?_ ?_
  rotate_left
  · intro wx hSx
    clear hSx
    go_simp
    try (with_reducible rfl)
  simp only [Act.put, List.setIfInBounds_toArray, List.set_cons_zero, List.set_cons_succ]
  refine takeD (i := 3) (some 10) (v := ?_) rfl rfl (by kernel_rfl) (by kernel_rfl) (by kernel_rfl) (fun _ _ _ h => h) (by rfl) HS.out ?_ ?_
  rotate_left
  · intro wx hSx
    obtain ⟨k1, k2, k3⟩ := HOC.out wx hSx
    skip
    clear hSx
    go_simp
    try (with_reducible rfl)
  simp only [Act.put, List.setIfInBounds_toArray, List.set_cons_zero, List.set_cons_succ]
  refine takeD (i := 5) (some 12) (v := ?_) rfl rfl (by kernel_rfl) (by kernel_rfl) (by kernel_rfl) (fun _ _ _ h => h) (by rfl) HS.out ?_ ?_
  rotate_left
  · intro wx hSx
    clear hSx
    go_simp
    try (with_reducible rfl)
  simp only [Act.put, List.setIfInBounds_toArray, List.set_cons_zero, List.set_cons_succ]
  refine takeD (i := 6) (some 13) (v := ?_) rfl rfl (by kernel_rfl) (by kernel_rfl) (by kernel_rfl) (fun _ _ _ h => h) (by rfl) HS.out ?_ ?_
  rotate_left
  · intro wx hSx
    clear hSx
    go_simp
    try (with_reducible rfl)
  simp only [Act.put, List.setIfInBounds_toArray, List.set_cons_zero, List.set_cons_succ]
  refine takeD (i := 7) (some 14) (v := ?_) rfl rfl (by kernel_rfl) (by kernel_rfl) (by kernel_rfl) (fun _ _ _ h => h) (by rfl) HS.out ?_ ?_
  rotate_left
  · intro wx hSx
    clear hSx
    go_simp
    try (with_reducible rfl)
  simp only [Act.put, List.setIfInBounds_toArray, List.set_cons_zero, List.set_cons_succ]
  refine takeD (i := 8) (some 15) (v := ?_) rfl rfl (by kernel_rfl) (by kernel_rfl) (by kernel_rfl) (fun _ _ _ h => h) (by rfl) HS.out ?_ ?_
  rotate_left
  · intro wx hSx
    clear hSx
    go_simp
    try (with_reducible rfl)
  simp only [Act.put, List.setIfInBounds_toArray, List.set_cons_zero, List.set_cons_succ]
  refine takeD (i := 9) (some 16) (v := ?_) rfl rfl (by kernel_rfl) (by kernel_rfl) (by kernel_rfl) (fun _ _ _ h => h) (by rfl) HS.out ?_ ?_
  rotate_left
  · intro wx hSx
    obtain ⟨k1, k2, k3⟩ := HOC.out wx hSx
    skip
    clear hSx
    go_simp
    try (with_reducible rfl)
  simp only [Act.put, List.setIfInBounds_toArray, List.set_cons_zero, List.set_cons_succ]
  refine takeD (i := 11) (some 18) (v := ?_) rfl rfl (by kernel_rfl) (by kernel_rfl) (by kernel_rfl) (fun _ _ _ h => h) (by rfl) HS.out ?_ ?_
  rotate_left
  · intro wx hSx
    clear hSx
    go_simp
    try (with_reducible rfl)
  simp only [Act.put, List.setIfInBounds_toArray, List.set_cons_zero, List.set_cons_succ]
  refine takeD (i := 12) (some 19) (v := ?_) rfl rfl (by kernel_rfl) (by kernel_rfl) (by kernel_rfl) (fun _ _ _ h => h) (by rfl) HS.out ?_ ?_
  rotate_left
  · intro wx hSx
    clear hSx
    go_simp
    try (with_reducible rfl)
  simp only [Act.put, List.setIfInBounds_toArray, List.set_cons_zero, List.set_cons_succ]
  refine takeD (i := 13) (some 20) (v := ?_) rfl rfl (by kernel_rfl) (by kernel_rfl) (by kernel_rfl) (fun _ _ _ h => h) (by rfl) HS.out ?_ ?_
  rotate_left
  · intro wx hSx
    clear hSx
    go_simp
    try (with_reducible rfl)
  simp only [Act.put, List.setIfInBounds_toArray, List.set_cons_zero, List.set_cons_succ]
  refine takeD (i := 14) (some 21) (v := ?_) rfl rfl (by kernel_rfl) (by kernel_rfl) (by kernel_rfl) (fun _ _ _ h => h) (by rfl) HS.out ?_ ?_
  rotate_left
  · intro wx hSx
    exact (by refine yield_fr _ (.tmp 20) ?_ b 4 ?_ (run_load_fr wx b 4 69 row _ (HRG.out wx hSx) Tryz.underlying69 rfl HSZ.out) <;> rfl)
  simp only [Act.put, List.setIfInBounds_toArray, List.set_cons_zero, List.set_cons_succ]
  refine takeD (i := 16) (some 23) (v := ?_) rfl rfl (by kernel_rfl) (by kernel_rfl) (by kernel_rfl) (fun _ _ _ h => h) (by rfl) HS.out ?_ ?_
  rotate_left
  · intro wx hSx
    clear hSx
    go_simp
    try (with_reducible rfl)
  simp only [Act.put, List.setIfInBounds_toArray, List.set_cons_zero, List.set_cons_succ]
  refine takeD (i := 17) (some 24) (v := ?_) rfl rfl (by kernel_rfl) (by kernel_rfl) (by kernel_rfl) (fun _ _ _ h => h) (by rfl) HS.out ?_ ?_
  rotate_left
  · intro wx hSx
    clear hSx
    go_simp
    try (with_reducible rfl)
  simp only [Act.put, List.setIfInBounds_toArray, List.set_cons_zero, List.set_cons_succ]
  refine takeD (i := 18) (some 25) (v := ?_) rfl rfl (by kernel_rfl) (by kernel_rfl) (by kernel_rfl) (fun _ _ _ h => h) (by rfl) HS.out ?_ ?_
  rotate_left
  · intro wx hSx
    clear hSx
    go_simp
    try (with_reducible rfl)
  simp only [Act.put, List.setIfInBounds_toArray, List.set_cons_zero, List.set_cons_succ]
  refine takeD (i := 19) (some 26) (v := ?_) rfl rfl (by kernel_rfl) (by kernel_rfl) (by kernel_rfl) (fun _ _ _ h => h) (by rfl) HS.out ?_ ?_
  rotate_left
  · intro wx hSx
    exact (by refine yield_fr _ (.tmp 25) ?_ b 4 ?_ (run_load_fr wx b 4 69 row _ (HRG.out wx hSx) Tryz.underlying69 rfl HSZ.out) <;> rfl)
  simp only [Act.put, List.setIfInBounds_toArray, List.set_cons_zero, List.set_cons_succ]
  refine takeD (i := 21) (some 28) (v := ?_) rfl rfl (by kernel_rfl) (by kernel_rfl) (by kernel_rfl) (fun _ _ _ h => h) (by rfl) HS.out ?_ ?_
  rotate_left
  · intro wx hSx
    clear hSx
    go_simp
    try (with_reducible rfl)
  simp only [Act.put, List.setIfInBounds_toArray, List.set_cons_zero, List.set_cons_succ]
  refine takeD (i := 22) (some 29) (v := ?_) rfl rfl (by kernel_rfl) (by kernel_rfl) (by kernel_rfl) (fun _ _ _ h => h) (by rfl) HS.out ?_ ?_
  rotate_left
  · intro wx hSx
    clear hSx
    go_simp
    try (with_reducible rfl)
  simp only [Act.put, List.setIfInBounds_toArray, List.set_cons_zero, List.set_cons_succ]
  refine takeD (i := 23) (some 30) (v := ?_) rfl rfl (by kernel_rfl) (by kernel_rfl) (by kernel_rfl) (fun _ _ _ h => h) (by rfl) HS.out ?_ ?_
  rotate_left
  · intro wx hSx
    clear hSx
    go_simp
    try (with_reducible rfl)
  simp only [Act.put, List.setIfInBounds_toArray, List.set_cons_zero, List.set_cons_succ]
  refine takeD (i := 24) (some 31) (v := ?_) rfl rfl (by kernel_rfl) (by kernel_rfl) (by kernel_rfl) (fun _ _ _ h => h) (by rfl) HS.out ?_ ?_
  rotate_left
  · intro wx hSx
    clear hSx
    go_simp
    try (with_reducible rfl)
  simp only [Act.put, List.setIfInBounds_toArray, List.set_cons_zero, List.set_cons_succ]
  refine takeD (i := 25) (some 32) (v := ?_) rfl rfl (by kernel_rfl) (by kernel_rfl) (by kernel_rfl) (fun _ _ _ h => h) (by rfl) HS.out ?_ ?_
  rotate_left
  · intro wx hSx
    obtain ⟨k1, k2, k3⟩ := HOC.out wx hSx
    skip
    clear hSx
    go_simp
    try (with_reducible rfl)
  simp only [Act.put, List.setIfInBounds_toArray, List.set_cons_zero, List.set_cons_succ]
  refine wpAnyH_ready (rs := [4, 28]) (by kernel_rfl) (by simp) ?_
  refine AllReadyH.cons rfl (fun K hK => ?_) (AllReadyH.cons rfl (fun K hK => ?_) AllReadyH.nil)
  · go_simp
    (with_reducible refine (HC1.out _).mono ?_)
    rintro e wc1 ⟨rfl, hb⟩
    have HSn : Hid (Below w1.heap.size w1 wc1) := Lib.hid (HS.out.trans (hb.mono HS.out.size))
    clear hb
    go_simp
    refine hK.out _ _ ?_ (fun hHeld => ?_)
    · exact HSn.out
    clear hHeld hK K
    try simp only [Act.put, List.setIfInBounds_toArray, List.set_cons_zero, List.set_cons_succ]
    replace HS := HSn
    clear HSn
    refine wpAnyH_ready (rs := [10, 28]) (by kernel_rfl) (by simp) ?_
    refine AllReadyH.cons rfl (fun K hK => ?_) (AllReadyH.cons rfl (fun K hK => ?_) AllReadyH.nil)
    · go_simp
      (with_reducible refine (HC2.out _).mono ?_)
      rintro e wc2 ⟨rfl, hb⟩
      have HSn : Hid (Below w1.heap.size w1 wc2) := Lib.hid (HS.out.trans (hb.mono HS.out.size))
      clear hb
      go_simp
      refine hK.out _ _ ?_ (fun hHeld => ?_)
      · exact HSn.out
      clear hHeld hK K
      try simp only [Act.put, List.setIfInBounds_toArray, List.set_cons_zero, List.set_cons_succ]
      replace HS := HSn
      clear HSn
      refine wpAnyH_ready (rs := [15, 28]) (by kernel_rfl) (by simp) ?_
      refine AllReadyH.cons rfl (fun K hK => ?_) (AllReadyH.cons rfl (fun K hK => ?_) AllReadyH.nil)
      · go_simp
        (with_reducible refine (HC3.out _).mono ?_)
        rintro e wc3 ⟨rfl, hb⟩
        have HSn : Hid (Below w1.heap.size w1 wc3) := Lib.hid (HS.out.trans (hb.mono HS.out.size))
        clear hb
        go_simp
        refine hK.out _ _ ?_ (fun hHeld => ?_)
        · exact HSn.out
        clear hHeld hK K
        try simp only [Act.put, List.setIfInBounds_toArray, List.set_cons_zero, List.set_cons_succ]
        replace HS := HSn
        clear HSn
        refine wpAnyH_ready (rs := [20, 28]) (by kernel_rfl) (by simp) ?_
        refine AllReadyH.cons rfl (fun K hK => ?_) (AllReadyH.cons rfl (fun K hK => ?_) AllReadyH.nil)
        · go_simp
          (with_reducible refine (HC4.out _).mono ?_)
          rintro e wc4 ⟨rfl, hb⟩
          have HSn : Hid (Below w1.heap.size w1 wc4) := Lib.hid (HS.out.trans (hb.mono HS.out.size))
          clear hb
          go_simp
          refine hK.out _ _ ?_ (fun hHeld => ?_)
          · exact HSn.out
          clear hHeld hK K
          try simp only [Act.put, List.setIfInBounds_toArray, List.set_cons_zero, List.set_cons_succ]
          replace HS := HSn
          clear HSn
          refine wpAnyH_ready (rs := [26, 28]) (by kernel_rfl) (by simp) ?_
          refine AllReadyH.cons rfl (fun K hK => ?_) (AllReadyH.cons rfl (fun K hK => ?_) AllReadyH.nil)
          · go_simp
            (with_reducible refine (HC5.out _).mono ?_)
            rintro e wc5 ⟨rfl, hb⟩
            have HSn : Hid (Below w1.heap.size w1 wc5) := Lib.hid (HS.out.trans (hb.mono HS.out.size))
            clear hb
            go_simp
            refine hK.out _ _ ?_ (fun hHeld => ?_)
            · exact HSn.out
            clear hHeld hK K
            try simp only [Act.put, List.setIfInBounds_toArray, List.set_cons_zero, List.set_cons_succ]
            replace HS := HSn
            clear HSn
            refine takeD (i := 27) (some 34) (v := ?_) rfl rfl (by kernel_rfl) (by kernel_rfl) (by kernel_rfl) (fun _ _ _ h => h) (by rfl) HS.out ?_ ?_
            rotate_left
            · intro wx hSx
              exact (by refine yield_build 33 #[(0, .tmp 11), (1, .tmp 17), (2, .tmp 22), (3, .tmp 27), (5, .tmp 33)] ?_ [(0, .bool cs), (1, .bool mt), (2, .bool l0), (3, .bool l1), (5, .int .u64 cn)] ?_ (built_lines cs mt l0 l1 cn) <;> first | rfl | simp [Act.eval, Act.put])
            simp only [Act.put, List.setIfInBounds_toArray, List.set_cons_zero, List.set_cons_succ]
            refine wpAnyH_ready (rs := [28]) (by kernel_rfl) (by simp) ?_
            refine AllReadyH.cons rfl (fun K hK => ?_) AllReadyH.nil
            go_simp
            refine hK.out _ _ ?_ (fun hHeld => ?_)
            · exact HS.out.alloc HS.out.size _
            clear hHeld hK K
            try simp only [Act.put, List.setIfInBounds_toArray, List.set_cons_zero, List.set_cons_succ]
            have HX : Hid (w1.heap.size ≤ wc5.heap.size) := Lib.hid HS.out.size
            have HSn : Hid (Below w1.heap.size w1 (wc5.alloc (.cells #[.bool false, .bool false, .bool false, .bool false, .int .u64 0, .int .u64 0] 33))) := Lib.hid (HS.out.alloc HS.out.size _)
            have HDA : Hid ((wc5.alloc (.cells #[.bool false, .bool false, .bool false, .bool false, .int .u64 0, .int .u64 0] 33)).heap[wc5.heap.size]? = some (.cells #[.bool false, .bool false, .bool false, .bool false, .int .u64 0, .int .u64 0] 33 (0, 0))) := Lib.hid (heap_alloc_new wc5 _)
            have HZA : Hid (wc5.heap.size < (wc5.alloc (.cells #[.bool false, .bool false, .bool false, .bool false, .int .u64 0, .int .u64 0] 33)).heap.size) := Lib.hid (by rw [World.size_alloc]; omega)
            replace HS := HSn
            clear HSn
            generalize wc5.alloc (.cells #[.bool false, .bool false, .bool false, .bool false, .int .u64 0, .int .u64 0] 33) = wa at *
            generalize wc5.heap.size = x at *
            have HA : Hid (Below wa.heap.size wa wa) := Lib.hid (Below.refl _ _)
            refine wpAnyH_ready (rs := [29]) (by kernel_rfl) (by simp) ?_
            refine AllReadyH.cons rfl (fun K hK => ?_) AllReadyH.nil
            rw [if_pos (by rfl)]
            have hD : wa.heap[x]? = some (.cells #[.bool false, .bool false, .bool false, .bool false, .int .u64 0, .int .u64 0] 33 (0, 0)) := (HA.out.block x HZA.out).trans HDA.out
            refine wp_store_row 33 (.tmp 3) (.tmp 34) rfl x #[.bool cs, .bool mt, .bool l0, .bool l1, .int .u64 0, .int .u64 cn] rfl rfl 33 #[.bool false, .bool false, .bool false, .bool false, .int .u64 0, .int .u64 0] hD info_lines rfl (by simp [Value.oneCell']) ?_
            have HSn : Hid (Below w1.heap.size w1 (wa.setRow x #[.bool cs, .bool mt, .bool l0, .bool l1, .int .u64 0, .int .u64 cn])) := Lib.hid (below_setRow HS.out HX.out _)
            have HXR : Hid ((wa.setRow x #[.bool cs, .bool mt, .bool l0, .bool l1, .int .u64 0, .int .u64 cn]).heap[x]? = some (.cells #[.bool cs, .bool mt, .bool l0, .bool l1, .int .u64 0, .int .u64 cn] 33 (0, 0))) := Lib.hid (setRow_heap wa x _ _ _ _ hD)
            refine hK.out _ _ ?_ (fun hHeld => ?_)
            · exact HSn.out
            clear hHeld hK K hD
            try simp only [Act.put, List.setIfInBounds_toArray, List.set_cons_zero, List.set_cons_succ]
            replace HS := HSn
            clear HSn HA HZA HDA
            refine wpAnyH_done (by kernel_rfl) ?_ _
            generalize (wa.setRow x #[.bool cs, .bool mt, .bool l0, .bool l1, .int .u64 0, .int .u64 cn]) = wz at *
            have HRZ := Lib.hid (HRG.out wz HS.out)
            have hxz : x < wz.heap.size := (Array.getElem?_eq_some_iff.1 HXR.out).1
            go_wp2_with (refine wpList_load_fr rfl _ _ rfl b 4 rfl _ _ HRZ.out Tryz.underlying69 rfl ?_ ?_; · exact HSZ.out)
            (with_reducible refine (HUP.out _).mono ?_)
            rintro e wu ⟨rfl, hb⟩
            have hxw : wu.heap[x]? = some (.cells #[.bool cs, .bool mt, .bool l0, .bool l1, .int .u64 0, .int .u64 cn] 33 (0, 0)) := (hb.block x hxz).trans HXR.out
            have HBW : Hid (Below w1.heap.size w1 wu) := Lib.hid (HS.out.trans (hb.mono HS.out.size))
            have hrw : wu.heap[w.heap.size]? = some (.cells #[.bool false, .bool false, .bool false, .bool false, .int .u64 0, .int .u64 0] 33 (0, 0)) := (HBW.out.block _ HZ1.out).trans HRES.out
            have hne : ¬ w.heap.size = x := by have := HX.out; have := HZ1.out; omega
            have fx : wu.frozen? ⟨x, 4, none⟩ = false := frozen_of_row wu x 4 _ _ hxw
            have cx : wu.cell? ⟨x, 4, none⟩ = some (.int .u64 0) := by rw [cell_of_row wu x 4 _ _ _ hxw]; rfl
            have hx2 : (wu.setCell ⟨x, 4, none⟩ (.int .u64 2)).heap[x]? = some (.cells #[.bool cs, .bool mt, .bool l0, .bool l1, .int .u64 2, .int .u64 cn] 33 (0, 0)) := by rw [heap_setCell_same wu x 4 _ _ _ hxw]; rfl
            have hr2 : (wu.setCell ⟨x, 4, none⟩ (.int .u64 2)).heap[w.heap.size]? = some (.cells #[.bool false, .bool false, .bool false, .bool false, .int .u64 0, .int .u64 0] 33 (0, 0)) := by rw [heap_setCell_other wu ⟨x, 4, none⟩ w.heap.size _ hne]; exact hrw
            have HX1 := Lib.hid hxw
            have HR1 := Lib.hid hrw
            have HX2 := Lib.hid hx2
            have HR2 := Lib.hid hr2
            have HB2 : Hid (Below w1.heap.size w1 (wu.setCell ⟨x, 4, none⟩ (.int .u64 2))) := Lib.hid (HBW.out.setCell HX.out _)
            have HW1B := Lib.hid HW1.out.size
            clear hb hxw hrw hx2 hr2 hxz hne HRZ HUP HRG HOC HSZ HS HXR HC1 HC2 HC3 HC4 HC5
            cases up with
            | false =>
              go_wp2_with (first | (refine wpList_load_row rfl _ _ rfl x rfl 33 _ _ _ HX1.out Tryz.underlying33 rfl ?_ ?_; · exact info_lines) | (refine wpList_store_row rfl 33 (.tmp 2) (.tmp 41) rfl w.heap.size #[.bool cs, .bool mt, .bool l0, .bool l1, .int .u64 0, .int .u64 cn] rfl rfl 33 #[.bool false, .bool false, .bool false, .bool false, .int .u64 0, .int .u64 0] HR1.out info_lines rfl (by simp [Value.oneCell']) ?_))
              exact bodyPost_ret (v := linesW cs mt l0 l1 false cn) (results_cell_row (show Tryz.f12.results = #[.cell 2 33] by kernel_rfl) _ _ w.heap.size 33 _ _ _ rfl (setRow_heap _ _ _ _ _ _ HR1.out) Tryz.underlying33 rfl info_lines) rfl ⟨rfl, below_setRow (HW1.out.trans (HBW.out.mono HW1B.out)) (Nat.le_refl _) _⟩
            | true =>
              go_wp2_with (first | (refine wpList_load_row rfl _ _ rfl x rfl 33 _ _ _ HX2.out Tryz.underlying33 rfl ?_ ?_; · exact info_lines) | (refine wpList_store_row rfl 33 (.tmp 2) (.tmp 41) rfl w.heap.size #[.bool cs, .bool mt, .bool l0, .bool l1, .int .u64 2, .int .u64 cn] rfl rfl 33 #[.bool false, .bool false, .bool false, .bool false, .int .u64 0, .int .u64 0] HR2.out info_lines rfl (by simp [Value.oneCell']) ?_))
              exact bodyPost_ret (v := linesW cs mt l0 l1 true cn) (results_cell_row (show Tryz.f12.results = #[.cell 2 33] by kernel_rfl) _ _ w.heap.size 33 _ _ _ rfl (setRow_heap _ _ _ _ _ _ HR2.out) Tryz.underlying33 rfl info_lines) rfl ⟨rfl, below_setRow (HW1.out.trans (HB2.out.mono HW1B.out)) (Nat.le_refl _) _⟩
          · go_simp
            refine hK.out _ _ ?_ (fun hHeld => ?_)
            · exact HS.out.alloc HS.out.size _
            clear hHeld hK K
            try simp only [Act.put, List.setIfInBounds_toArray, List.set_cons_zero, List.set_cons_succ]
            have HX : Hid (w1.heap.size ≤ wc4.heap.size) := Lib.hid HS.out.size
            have HSn : Hid (Below w1.heap.size w1 (wc4.alloc (.cells #[.bool false, .bool false, .bool false, .bool false, .int .u64 0, .int .u64 0] 33))) := Lib.hid (HS.out.alloc HS.out.size _)
            have HDA : Hid ((wc4.alloc (.cells #[.bool false, .bool false, .bool false, .bool false, .int .u64 0, .int .u64 0] 33)).heap[wc4.heap.size]? = some (.cells #[.bool false, .bool false, .bool false, .bool false, .int .u64 0, .int .u64 0] 33 (0, 0))) := Lib.hid (heap_alloc_new wc4 _)
            have HZA : Hid (wc4.heap.size < (wc4.alloc (.cells #[.bool false, .bool false, .bool false, .bool false, .int .u64 0, .int .u64 0] 33)).heap.size) := Lib.hid (by rw [World.size_alloc]; omega)
            replace HS := HSn
            clear HSn
            generalize wc4.alloc (.cells #[.bool false, .bool false, .bool false, .bool false, .int .u64 0, .int .u64 0] 33) = wa at *
            generalize wc4.heap.size = x at *
            have HA : Hid (Below wa.heap.size wa wa) := Lib.hid (Below.refl _ _)
            refine wpAnyH_ready (rs := [26]) (by kernel_rfl) (by simp) ?_
            refine AllReadyH.cons rfl (fun K hK => ?_) AllReadyH.nil
            go_simp
            (with_reducible refine (HC5.out _).mono ?_)
            rintro e wc6 ⟨rfl, hb⟩
            have HSn : Hid (Below w1.heap.size w1 wc6) := Lib.hid (HS.out.trans (hb.mono HS.out.size))
            have HAn : Hid (Below wa.heap.size wa wc6) := Lib.hid (HA.out.trans (hb.mono HA.out.size))
            clear hb
            go_simp
            refine hK.out _ _ ?_ (fun hHeld => ?_)
            · exact HSn.out
            clear hHeld hK K
            try simp only [Act.put, List.setIfInBounds_toArray, List.set_cons_zero, List.set_cons_succ]
            replace HS := HSn
            clear HSn
            replace HA := HAn
            clear HAn
            refine takeD (i := 27) (some 34) (v := ?_) rfl rfl (by kernel_rfl) (by kernel_rfl) (by kernel_rfl) (fun _ _ _ h => h) (by rfl) HS.out ?_ ?_
            rotate_left
            · intro wx hSx
              exact (by refine yield_build 33 #[(0, .tmp 11), (1, .tmp 17), (2, .tmp 22), (3, .tmp 27), (5, .tmp 33)] ?_ [(0, .bool cs), (1, .bool mt), (2, .bool l0), (3, .bool l1), (5, .int .u64 cn)] ?_ (built_lines cs mt l0 l1 cn) <;> first | rfl | simp [Act.eval, Act.put])
            simp only [Act.put, List.setIfInBounds_toArray, List.set_cons_zero, List.set_cons_succ]
            refine wpAnyH_ready (rs := [29]) (by kernel_rfl) (by simp) ?_
            refine AllReadyH.cons rfl (fun K hK => ?_) AllReadyH.nil
            rw [if_pos (by rfl)]
            have hD : wc6.heap[x]? = some (.cells #[.bool false, .bool false, .bool false, .bool false, .int .u64 0, .int .u64 0] 33 (0, 0)) := (HA.out.block x HZA.out).trans HDA.out
            refine wp_store_row 33 (.tmp 3) (.tmp 34) rfl x #[.bool cs, .bool mt, .bool l0, .bool l1, .int .u64 0, .int .u64 cn] rfl rfl 33 #[.bool false, .bool false, .bool false, .bool false, .int .u64 0, .int .u64 0] hD info_lines rfl (by simp [Value.oneCell']) ?_
            have HSn : Hid (Below w1.heap.size w1 (wc6.setRow x #[.bool cs, .bool mt, .bool l0, .bool l1, .int .u64 0, .int .u64 cn])) := Lib.hid (below_setRow HS.out HX.out _)
            have HXR : Hid ((wc6.setRow x #[.bool cs, .bool mt, .bool l0, .bool l1, .int .u64 0, .int .u64 cn]).heap[x]? = some (.cells #[.bool cs, .bool mt, .bool l0, .bool l1, .int .u64 0, .int .u64 cn] 33 (0, 0))) := Lib.hid (setRow_heap wc6 x _ _ _ _ hD)
            refine hK.out _ _ ?_ (fun hHeld => ?_)
            · exact HSn.out
            clear hHeld hK K hD
            try simp only [Act.put, List.setIfInBounds_toArray, List.set_cons_zero, List.set_cons_succ]
            replace HS := HSn
            clear HSn HA HZA HDA
            refine wpAnyH_done (by kernel_rfl) ?_ _
            generalize (wc6.setRow x #[.bool cs, .bool mt, .bool l0, .bool l1, .int .u64 0, .int .u64 cn]) = wz at *
            have HRZ := Lib.hid (HRG.out wz HS.out)
            have hxz : x < wz.heap.size := (Array.getElem?_eq_some_iff.1 HXR.out).1
            go_wp2_with (refine wpList_load_fr rfl _ _ rfl b 4 rfl _ _ HRZ.out Tryz.underlying69 rfl ?_ ?_; · exact HSZ.out)
            (with_reducible refine (HUP.out _).mono ?_)
            rintro e wu ⟨rfl, hb⟩
            have hxw : wu.heap[x]? = some (.cells #[.bool cs, .bool mt, .bool l0, .bool l1, .int .u64 0, .int .u64 cn] 33 (0, 0)) := (hb.block x hxz).trans HXR.out
            have HBW : Hid (Below w1.heap.size w1 wu) := Lib.hid (HS.out.trans (hb.mono HS.out.size))
            have hrw : wu.heap[w.heap.size]? = some (.cells #[.bool false, .bool false, .bool false, .bool false, .int .u64 0, .int .u64 0] 33 (0, 0)) := (HBW.out.block _ HZ1.out).trans HRES.out
            have hne : ¬ w.heap.size = x := by have := HX.out; have := HZ1.out; omega
            have fx : wu.frozen? ⟨x, 4, none⟩ = false := frozen_of_row wu x 4 _ _ hxw
            have cx : wu.cell? ⟨x, 4, none⟩ = some (.int .u64 0) := by rw [cell_of_row wu x 4 _ _ _ hxw]; rfl
            have hx2 : (wu.setCell ⟨x, 4, none⟩ (.int .u64 2)).heap[x]? = some (.cells #[.bool cs, .bool mt, .bool l0, .bool l1, .int .u64 2, .int .u64 cn] 33 (0, 0)) := by rw [heap_setCell_same wu x 4 _ _ _ hxw]; rfl
            have hr2 : (wu.setCell ⟨x, 4, none⟩ (.int .u64 2)).heap[w.heap.size]? = some (.cells #[.bool false, .bool false, .bool false, .bool false, .int .u64 0, .int .u64 0] 33 (0, 0)) := by rw [heap_setCell_other wu ⟨x, 4, none⟩ w.heap.size _ hne]; exact hrw
            have HX1 := Lib.hid hxw
            have HR1 := Lib.hid hrw
            have HX2 := Lib.hid hx2
            have HR2 := Lib.hid hr2
            have HB2 : Hid (Below w1.heap.size w1 (wu.setCell ⟨x, 4, none⟩ (.int .u64 2))) := Lib.hid (HBW.out.setCell HX.out _)
            have HW1B := Lib.hid HW1.out.size
            clear hb hxw hrw hx2 hr2 hxz hne HRZ HUP HRG HOC HSZ HS HXR HC1 HC2 HC3 HC4 HC5
            cases up with
            | false =>
              go_wp2_with (first | (refine wpList_load_row rfl _ _ rfl x rfl 33 _ _ _ HX1.out Tryz.underlying33 rfl ?_ ?_; · exact info_lines) | (refine wpList_store_row rfl 33 (.tmp 2) (.tmp 41) rfl w.heap.size #[.bool cs, .bool mt, .bool l0, .bool l1, .int .u64 0, .int .u64 cn] rfl rfl 33 #[.bool false, .bool false, .bool false, .bool false, .int .u64 0, .int .u64 0] HR1.out info_lines rfl (by simp [Value.oneCell']) ?_))
              exact bodyPost_ret (v := linesW cs mt l0 l1 false cn) (results_cell_row (show Tryz.f12.results = #[.cell 2 33] by kernel_rfl) _ _ w.heap.size 33 _ _ _ rfl (setRow_heap _ _ _ _ _ _ HR1.out) Tryz.underlying33 rfl info_lines) rfl ⟨rfl, below_setRow (HW1.out.trans (HBW.out.mono HW1B.out)) (Nat.le_refl _) _⟩
            | true =>
              go_wp2_with (first | (refine wpList_load_row rfl _ _ rfl x rfl 33 _ _ _ HX2.out Tryz.underlying33 rfl ?_ ?_; · exact info_lines) | (refine wpList_store_row rfl 33 (.tmp 2) (.tmp 41) rfl w.heap.size #[.bool cs, .bool mt, .bool l0, .bool l1, .int .u64 2, .int .u64 cn] rfl rfl 33 #[.bool false, .bool false, .bool false, .bool false, .int .u64 0, .int .u64 0] HR2.out info_lines rfl (by simp [Value.oneCell']) ?_))
              exact bodyPost_ret (v := linesW cs mt l0 l1 true cn) (results_cell_row (show Tryz.f12.results = #[.cell 2 33] by kernel_rfl) _ _ w.heap.size 33 _ _ _ rfl (setRow_heap _ _ _ _ _ _ HR2.out) Tryz.underlying33 rfl info_lines) rfl ⟨rfl, below_setRow (HW1.out.trans (HB2.out.mono HW1B.out)) (Nat.le_refl _) _⟩
        · go_simp
          refine hK.out _ _ ?_ (fun hHeld => ?_)
          · exact HS.out.alloc HS.out.size _
          clear hHeld hK K
          try simp only [Act.put, List.setIfInBounds_toArray, List.set_cons_zero, List.set_cons_succ]
          have HX : Hid (w1.heap.size ≤ wc3.heap.size) := Lib.hid HS.out.size
          have HSn : Hid (Below w1.heap.size w1 (wc3.alloc (.cells #[.bool false, .bool false, .bool false, .bool false, .int .u64 0, .int .u64 0] 33))) := Lib.hid (HS.out.alloc HS.out.size _)
          have HDA : Hid ((wc3.alloc (.cells #[.bool false, .bool false, .bool false, .bool false, .int .u64 0, .int .u64 0] 33)).heap[wc3.heap.size]? = some (.cells #[.bool false, .bool false, .bool false, .bool false, .int .u64 0, .int .u64 0] 33 (0, 0))) := Lib.hid (heap_alloc_new wc3 _)
          have HZA : Hid (wc3.heap.size < (wc3.alloc (.cells #[.bool false, .bool false, .bool false, .bool false, .int .u64 0, .int .u64 0] 33)).heap.size) := Lib.hid (by rw [World.size_alloc]; omega)
          replace HS := HSn
          clear HSn
          generalize wc3.alloc (.cells #[.bool false, .bool false, .bool false, .bool false, .int .u64 0, .int .u64 0] 33) = wa at *
          generalize wc3.heap.size = x at *
          have HA : Hid (Below wa.heap.size wa wa) := Lib.hid (Below.refl _ _)
          refine wpAnyH_ready (rs := [20]) (by kernel_rfl) (by simp) ?_
          refine AllReadyH.cons rfl (fun K hK => ?_) AllReadyH.nil
          go_simp
          (with_reducible refine (HC4.out _).mono ?_)
          rintro e wc7 ⟨rfl, hb⟩
          have HSn : Hid (Below w1.heap.size w1 wc7) := Lib.hid (HS.out.trans (hb.mono HS.out.size))
          have HAn : Hid (Below wa.heap.size wa wc7) := Lib.hid (HA.out.trans (hb.mono HA.out.size))
          clear hb
          go_simp
          refine hK.out _ _ ?_ (fun hHeld => ?_)
          · exact HSn.out
          clear hHeld hK K
          try simp only [Act.put, List.setIfInBounds_toArray, List.set_cons_zero, List.set_cons_succ]
          replace HS := HSn
          clear HSn
          replace HA := HAn
          clear HAn
          refine wpAnyH_ready (rs := [26]) (by kernel_rfl) (by simp) ?_
          refine AllReadyH.cons rfl (fun K hK => ?_) AllReadyH.nil
          go_simp
          (with_reducible refine (HC5.out _).mono ?_)
          rintro e wc8 ⟨rfl, hb⟩
          have HSn : Hid (Below w1.heap.size w1 wc8) := Lib.hid (HS.out.trans (hb.mono HS.out.size))
          have HAn : Hid (Below wa.heap.size wa wc8) := Lib.hid (HA.out.trans (hb.mono HA.out.size))
          clear hb
          go_simp
          refine hK.out _ _ ?_ (fun hHeld => ?_)
          · exact HSn.out
          clear hHeld hK K
          try simp only [Act.put, List.setIfInBounds_toArray, List.set_cons_zero, List.set_cons_succ]
          replace HS := HSn
          clear HSn
          replace HA := HAn
          clear HAn
          refine takeD (i := 27) (some 34) (v := ?_) rfl rfl (by kernel_rfl) (by kernel_rfl) (by kernel_rfl) (fun _ _ _ h => h) (by rfl) HS.out ?_ ?_
          rotate_left
          · intro wx hSx
            exact (by refine yield_build 33 #[(0, .tmp 11), (1, .tmp 17), (2, .tmp 22), (3, .tmp 27), (5, .tmp 33)] ?_ [(0, .bool cs), (1, .bool mt), (2, .bool l0), (3, .bool l1), (5, .int .u64 cn)] ?_ (built_lines cs mt l0 l1 cn) <;> first | rfl | simp [Act.eval, Act.put])
          simp only [Act.put, List.setIfInBounds_toArray, List.set_cons_zero, List.set_cons_succ]
          refine wpAnyH_ready (rs := [29]) (by kernel_rfl) (by simp) ?_
          refine AllReadyH.cons rfl (fun K hK => ?_) AllReadyH.nil
          rw [if_pos (by rfl)]
          have hD : wc8.heap[x]? = some (.cells #[.bool false, .bool false, .bool false, .bool false, .int .u64 0, .int .u64 0] 33 (0, 0)) := (HA.out.block x HZA.out).trans HDA.out
          refine wp_store_row 33 (.tmp 3) (.tmp 34) rfl x #[.bool cs, .bool mt, .bool l0, .bool l1, .int .u64 0, .int .u64 cn] rfl rfl 33 #[.bool false, .bool false, .bool false, .bool false, .int .u64 0, .int .u64 0] hD info_lines rfl (by simp [Value.oneCell']) ?_
          have HSn : Hid (Below w1.heap.size w1 (wc8.setRow x #[.bool cs, .bool mt, .bool l0, .bool l1, .int .u64 0, .int .u64 cn])) := Lib.hid (below_setRow HS.out HX.out _)
          have HXR : Hid ((wc8.setRow x #[.bool cs, .bool mt, .bool l0, .bool l1, .int .u64 0, .int .u64 cn]).heap[x]? = some (.cells #[.bool cs, .bool mt, .bool l0, .bool l1, .int .u64 0, .int .u64 cn] 33 (0, 0))) := Lib.hid (setRow_heap wc8 x _ _ _ _ hD)
          refine hK.out _ _ ?_ (fun hHeld => ?_)
          · exact HSn.out
          clear hHeld hK K hD
          try simp only [Act.put, List.setIfInBounds_toArray, List.set_cons_zero, List.set_cons_succ]
          replace HS := HSn
          clear HSn HA HZA HDA
          refine wpAnyH_done (by kernel_rfl) ?_ _
          generalize (wc8.setRow x #[.bool cs, .bool mt, .bool l0, .bool l1, .int .u64 0, .int .u64 cn]) = wz at *
          have HRZ := Lib.hid (HRG.out wz HS.out)
          have hxz : x < wz.heap.size := (Array.getElem?_eq_some_iff.1 HXR.out).1
          go_wp2_with (refine wpList_load_fr rfl _ _ rfl b 4 rfl _ _ HRZ.out Tryz.underlying69 rfl ?_ ?_; · exact HSZ.out)
          (with_reducible refine (HUP.out _).mono ?_)
          rintro e wu ⟨rfl, hb⟩
          have hxw : wu.heap[x]? = some (.cells #[.bool cs, .bool mt, .bool l0, .bool l1, .int .u64 0, .int .u64 cn] 33 (0, 0)) := (hb.block x hxz).trans HXR.out
          have HBW : Hid (Below w1.heap.size w1 wu) := Lib.hid (HS.out.trans (hb.mono HS.out.size))
          have hrw : wu.heap[w.heap.size]? = some (.cells #[.bool false, .bool false, .bool false, .bool false, .int .u64 0, .int .u64 0] 33 (0, 0)) := (HBW.out.block _ HZ1.out).trans HRES.out
          have hne : ¬ w.heap.size = x := by have := HX.out; have := HZ1.out; omega
          have fx : wu.frozen? ⟨x, 4, none⟩ = false := frozen_of_row wu x 4 _ _ hxw
          have cx : wu.cell? ⟨x, 4, none⟩ = some (.int .u64 0) := by rw [cell_of_row wu x 4 _ _ _ hxw]; rfl
          have hx2 : (wu.setCell ⟨x, 4, none⟩ (.int .u64 2)).heap[x]? = some (.cells #[.bool cs, .bool mt, .bool l0, .bool l1, .int .u64 2, .int .u64 cn] 33 (0, 0)) := by rw [heap_setCell_same wu x 4 _ _ _ hxw]; rfl
          have hr2 : (wu.setCell ⟨x, 4, none⟩ (.int .u64 2)).heap[w.heap.size]? = some (.cells #[.bool false, .bool false, .bool false, .bool false, .int .u64 0, .int .u64 0] 33 (0, 0)) := by rw [heap_setCell_other wu ⟨x, 4, none⟩ w.heap.size _ hne]; exact hrw
          have HX1 := Lib.hid hxw
          have HR1 := Lib.hid hrw
          have HX2 := Lib.hid hx2
          have HR2 := Lib.hid hr2
          have HB2 : Hid (Below w1.heap.size w1 (wu.setCell ⟨x, 4, none⟩ (.int .u64 2))) := Lib.hid (HBW.out.setCell HX.out _)
          have HW1B := Lib.hid HW1.out.size
          clear hb hxw hrw hx2 hr2 hxz hne HRZ HUP HRG HOC HSZ HS HXR HC1 HC2 HC3 HC4 HC5
          cases up with
          | false =>
            go_wp2_with (first | (refine wpList_load_row rfl _ _ rfl x rfl 33 _ _ _ HX1.out Tryz.underlying33 rfl ?_ ?_; · exact info_lines) | (refine wpList_store_row rfl 33 (.tmp 2) (.tmp 41) rfl w.heap.size #[.bool cs, .bool mt, .bool l0, .bool l1, .int .u64 0, .int .u64 cn] rfl rfl 33 #[.bool false, .bool false, .bool false, .bool false, .int .u64 0, .int .u64 0] HR1.out info_lines rfl (by simp [Value.oneCell']) ?_))
            exact bodyPost_ret (v := linesW cs mt l0 l1 false cn) (results_cell_row (show Tryz.f12.results = #[.cell 2 33] by kernel_rfl) _ _ w.heap.size 33 _ _ _ rfl (setRow_heap _ _ _ _ _ _ HR1.out) Tryz.underlying33 rfl info_lines) rfl ⟨rfl, below_setRow (HW1.out.trans (HBW.out.mono HW1B.out)) (Nat.le_refl _) _⟩
          | true =>
            go_wp2_with (first | (refine wpList_load_row rfl _ _ rfl x rfl 33 _ _ _ HX2.out Tryz.underlying33 rfl ?_ ?_; · exact info_lines) | (refine wpList_store_row rfl 33 (.tmp 2) (.tmp 41) rfl w.heap.size #[.bool cs, .bool mt, .bool l0, .bool l1, .int .u64 2, .int .u64 cn] rfl rfl 33 #[.bool false, .bool false, .bool false, .bool false, .int .u64 0, .int .u64 0] HR2.out info_lines rfl (by simp [Value.oneCell']) ?_))
            exact bodyPost_ret (v := linesW cs mt l0 l1 true cn) (results_cell_row (show Tryz.f12.results = #[.cell 2 33] by kernel_rfl) _ _ w.heap.size 33 _ _ _ rfl (setRow_heap _ _ _ _ _ _ HR2.out) Tryz.underlying33 rfl info_lines) rfl ⟨rfl, below_setRow (HW1.out.trans (HB2.out.mono HW1B.out)) (Nat.le_refl _) _⟩
      · go_simp
        refine hK.out _ _ ?_ (fun hHeld => ?_)
        · exact HS.out.alloc HS.out.size _
        clear hHeld hK K
        try simp only [Act.put, List.setIfInBounds_toArray, List.set_cons_zero, List.set_cons_succ]
        have HX : Hid (w1.heap.size ≤ wc2.heap.size) := Lib.hid HS.out.size
        have HSn : Hid (Below w1.heap.size w1 (wc2.alloc (.cells #[.bool false, .bool false, .bool false, .bool false, .int .u64 0, .int .u64 0] 33))) := Lib.hid (HS.out.alloc HS.out.size _)
        have HDA : Hid ((wc2.alloc (.cells #[.bool false, .bool false, .bool false, .bool false, .int .u64 0, .int .u64 0] 33)).heap[wc2.heap.size]? = some (.cells #[.bool false, .bool false, .bool false, .bool false, .int .u64 0, .int .u64 0] 33 (0, 0))) := Lib.hid (heap_alloc_new wc2 _)
        have HZA : Hid (wc2.heap.size < (wc2.alloc (.cells #[.bool false, .bool false, .bool false, .bool false, .int .u64 0, .int .u64 0] 33)).heap.size) := Lib.hid (by rw [World.size_alloc]; omega)
        replace HS := HSn
        clear HSn
        generalize wc2.alloc (.cells #[.bool false, .bool false, .bool false, .bool false, .int .u64 0, .int .u64 0] 33) = wa at *
        generalize wc2.heap.size = x at *
        have HA : Hid (Below wa.heap.size wa wa) := Lib.hid (Below.refl _ _)
        refine wpAnyH_ready (rs := [15]) (by kernel_rfl) (by simp) ?_
        refine AllReadyH.cons rfl (fun K hK => ?_) AllReadyH.nil
        go_simp
        (with_reducible refine (HC3.out _).mono ?_)
        rintro e wc9 ⟨rfl, hb⟩
        have HSn : Hid (Below w1.heap.size w1 wc9) := Lib.hid (HS.out.trans (hb.mono HS.out.size))
        have HAn : Hid (Below wa.heap.size wa wc9) := Lib.hid (HA.out.trans (hb.mono HA.out.size))
        clear hb
        go_simp
        refine hK.out _ _ ?_ (fun hHeld => ?_)
        · exact HSn.out
        clear hHeld hK K
        try simp only [Act.put, List.setIfInBounds_toArray, List.set_cons_zero, List.set_cons_succ]
        replace HS := HSn
        clear HSn
        replace HA := HAn
        clear HAn
        refine wpAnyH_ready (rs := [20]) (by kernel_rfl) (by simp) ?_
        refine AllReadyH.cons rfl (fun K hK => ?_) AllReadyH.nil
        go_simp
        (with_reducible refine (HC4.out _).mono ?_)
        rintro e wc10 ⟨rfl, hb⟩
        have HSn : Hid (Below w1.heap.size w1 wc10) := Lib.hid (HS.out.trans (hb.mono HS.out.size))
        have HAn : Hid (Below wa.heap.size wa wc10) := Lib.hid (HA.out.trans (hb.mono HA.out.size))
        clear hb
        go_simp
        refine hK.out _ _ ?_ (fun hHeld => ?_)
        · exact HSn.out
        clear hHeld hK K
        try simp only [Act.put, List.setIfInBounds_toArray, List.set_cons_zero, List.set_cons_succ]
        replace HS := HSn
        clear HSn
        replace HA := HAn
        clear HAn
        refine wpAnyH_ready (rs := [26]) (by kernel_rfl) (by simp) ?_
        refine AllReadyH.cons rfl (fun K hK => ?_) AllReadyH.nil
        go_simp
        (with_reducible refine (HC5.out _).mono ?_)
        rintro e wc11 ⟨rfl, hb⟩
        have HSn : Hid (Below w1.heap.size w1 wc11) := Lib.hid (HS.out.trans (hb.mono HS.out.size))
        have HAn : Hid (Below wa.heap.size wa wc11) := Lib.hid (HA.out.trans (hb.mono HA.out.size))
        clear hb
        go_simp
        refine hK.out _ _ ?_ (fun hHeld => ?_)
        · exact HSn.out
        clear hHeld hK K
        try simp only [Act.put, List.setIfInBounds_toArray, List.set_cons_zero, List.set_cons_succ]
        replace HS := HSn
        clear HSn
        replace HA := HAn
        clear HAn
        refine takeD (i := 27) (some 34) (v := ?_) rfl rfl (by kernel_rfl) (by kernel_rfl) (by kernel_rfl) (fun _ _ _ h => h) (by rfl) HS.out ?_ ?_
        rotate_left
        · intro wx hSx
          exact (by refine yield_build 33 #[(0, .tmp 11), (1, .tmp 17), (2, .tmp 22), (3, .tmp 27), (5, .tmp 33)] ?_ [(0, .bool cs), (1, .bool mt), (2, .bool l0), (3, .bool l1), (5, .int .u64 cn)] ?_ (built_lines cs mt l0 l1 cn) <;> first | rfl | simp [Act.eval, Act.put])
        simp only [Act.put, List.setIfInBounds_toArray, List.set_cons_zero, List.set_cons_succ]
        refine wpAnyH_ready (rs := [29]) (by kernel_rfl) (by simp) ?_
        refine AllReadyH.cons rfl (fun K hK => ?_) AllReadyH.nil
        rw [if_pos (by rfl)]
        have hD : wc11.heap[x]? = some (.cells #[.bool false, .bool false, .bool false, .bool false, .int .u64 0, .int .u64 0] 33 (0, 0)) := (HA.out.block x HZA.out).trans HDA.out
        refine wp_store_row 33 (.tmp 3) (.tmp 34) rfl x #[.bool cs, .bool mt, .bool l0, .bool l1, .int .u64 0, .int .u64 cn] rfl rfl 33 #[.bool false, .bool false, .bool false, .bool false, .int .u64 0, .int .u64 0] hD info_lines rfl (by simp [Value.oneCell']) ?_
        have HSn : Hid (Below w1.heap.size w1 (wc11.setRow x #[.bool cs, .bool mt, .bool l0, .bool l1, .int .u64 0, .int .u64 cn])) := Lib.hid (below_setRow HS.out HX.out _)
        have HXR : Hid ((wc11.setRow x #[.bool cs, .bool mt, .bool l0, .bool l1, .int .u64 0, .int .u64 cn]).heap[x]? = some (.cells #[.bool cs, .bool mt, .bool l0, .bool l1, .int .u64 0, .int .u64 cn] 33 (0, 0))) := Lib.hid (setRow_heap wc11 x _ _ _ _ hD)
        refine hK.out _ _ ?_ (fun hHeld => ?_)
        · exact HSn.out
        clear hHeld hK K hD
        try simp only [Act.put, List.setIfInBounds_toArray, List.set_cons_zero, List.set_cons_succ]
        replace HS := HSn
        clear HSn HA HZA HDA
        refine wpAnyH_done (by kernel_rfl) ?_ _
        generalize (wc11.setRow x #[.bool cs, .bool mt, .bool l0, .bool l1, .int .u64 0, .int .u64 cn]) = wz at *
        have HRZ := Lib.hid (HRG.out wz HS.out)
        have hxz : x < wz.heap.size := (Array.getElem?_eq_some_iff.1 HXR.out).1
        go_wp2_with (refine wpList_load_fr rfl _ _ rfl b 4 rfl _ _ HRZ.out Tryz.underlying69 rfl ?_ ?_; · exact HSZ.out)
        (with_reducible refine (HUP.out _).mono ?_)
        rintro e wu ⟨rfl, hb⟩
        have hxw : wu.heap[x]? = some (.cells #[.bool cs, .bool mt, .bool l0, .bool l1, .int .u64 0, .int .u64 cn] 33 (0, 0)) := (hb.block x hxz).trans HXR.out
        have HBW : Hid (Below w1.heap.size w1 wu) := Lib.hid (HS.out.trans (hb.mono HS.out.size))
        have hrw : wu.heap[w.heap.size]? = some (.cells #[.bool false, .bool false, .bool false, .bool false, .int .u64 0, .int .u64 0] 33 (0, 0)) := (HBW.out.block _ HZ1.out).trans HRES.out
        have hne : ¬ w.heap.size = x := by have := HX.out; have := HZ1.out; omega
        have fx : wu.frozen? ⟨x, 4, none⟩ = false := frozen_of_row wu x 4 _ _ hxw
        have cx : wu.cell? ⟨x, 4, none⟩ = some (.int .u64 0) := by rw [cell_of_row wu x 4 _ _ _ hxw]; rfl
        have hx2 : (wu.setCell ⟨x, 4, none⟩ (.int .u64 2)).heap[x]? = some (.cells #[.bool cs, .bool mt, .bool l0, .bool l1, .int .u64 2, .int .u64 cn] 33 (0, 0)) := by rw [heap_setCell_same wu x 4 _ _ _ hxw]; rfl
        have hr2 : (wu.setCell ⟨x, 4, none⟩ (.int .u64 2)).heap[w.heap.size]? = some (.cells #[.bool false, .bool false, .bool false, .bool false, .int .u64 0, .int .u64 0] 33 (0, 0)) := by rw [heap_setCell_other wu ⟨x, 4, none⟩ w.heap.size _ hne]; exact hrw
        have HX1 := Lib.hid hxw
        have HR1 := Lib.hid hrw
        have HX2 := Lib.hid hx2
        have HR2 := Lib.hid hr2
        have HB2 : Hid (Below w1.heap.size w1 (wu.setCell ⟨x, 4, none⟩ (.int .u64 2))) := Lib.hid (HBW.out.setCell HX.out _)
        have HW1B := Lib.hid HW1.out.size
        clear hb hxw hrw hx2 hr2 hxz hne HRZ HUP HRG HOC HSZ HS HXR HC1 HC2 HC3 HC4 HC5
        cases up with
        | false =>
          go_wp2_with (first | (refine wpList_load_row rfl _ _ rfl x rfl 33 _ _ _ HX1.out Tryz.underlying33 rfl ?_ ?_; · exact info_lines) | (refine wpList_store_row rfl 33 (.tmp 2) (.tmp 41) rfl w.heap.size #[.bool cs, .bool mt, .bool l0, .bool l1, .int .u64 0, .int .u64 cn] rfl rfl 33 #[.bool false, .bool false, .bool false, .bool false, .int .u64 0, .int .u64 0] HR1.out info_lines rfl (by simp [Value.oneCell']) ?_))
          exact bodyPost_ret (v := linesW cs mt l0 l1 false cn) (results_cell_row (show Tryz.f12.results = #[.cell 2 33] by kernel_rfl) _ _ w.heap.size 33 _ _ _ rfl (setRow_heap _ _ _ _ _ _ HR1.out) Tryz.underlying33 rfl info_lines) rfl ⟨rfl, below_setRow (HW1.out.trans (HBW.out.mono HW1B.out)) (Nat.le_refl _) _⟩
        | true =>
          go_wp2_with (first | (refine wpList_load_row rfl _ _ rfl x rfl 33 _ _ _ HX2.out Tryz.underlying33 rfl ?_ ?_; · exact info_lines) | (refine wpList_store_row rfl 33 (.tmp 2) (.tmp 41) rfl w.heap.size #[.bool cs, .bool mt, .bool l0, .bool l1, .int .u64 2, .int .u64 cn] rfl rfl 33 #[.bool false, .bool false, .bool false, .bool false, .int .u64 0, .int .u64 0] HR2.out info_lines rfl (by simp [Value.oneCell']) ?_))
          exact bodyPost_ret (v := linesW cs mt l0 l1 true cn) (results_cell_row (show Tryz.f12.results = #[.cell 2 33] by kernel_rfl) _ _ w.heap.size 33 _ _ _ rfl (setRow_heap _ _ _ _ _ _ HR2.out) Tryz.underlying33 rfl info_lines) rfl ⟨rfl, below_setRow (HW1.out.trans (HB2.out.mono HW1B.out)) (Nat.le_refl _) _⟩
    · go_simp
      refine hK.out _ _ ?_ (fun hHeld => ?_)
      · exact HS.out.alloc HS.out.size _
      clear hHeld hK K
      try simp only [Act.put, List.setIfInBounds_toArray, List.set_cons_zero, List.set_cons_succ]
      have HX : Hid (w1.heap.size ≤ wc1.heap.size) := Lib.hid HS.out.size
      have HSn : Hid (Below w1.heap.size w1 (wc1.alloc (.cells #[.bool false, .bool false, .bool false, .bool false, .int .u64 0, .int .u64 0] 33))) := Lib.hid (HS.out.alloc HS.out.size _)
      have HDA : Hid ((wc1.alloc (.cells #[.bool false, .bool false, .bool false, .bool false, .int .u64 0, .int .u64 0] 33)).heap[wc1.heap.size]? = some (.cells #[.bool false, .bool false, .bool false, .bool false, .int .u64 0, .int .u64 0] 33 (0, 0))) := Lib.hid (heap_alloc_new wc1 _)
      have HZA : Hid (wc1.heap.size < (wc1.alloc (.cells #[.bool false, .bool false, .bool false, .bool false, .int .u64 0, .int .u64 0] 33)).heap.size) := Lib.hid (by rw [World.size_alloc]; omega)
      replace HS := HSn
      clear HSn
      generalize wc1.alloc (.cells #[.bool false, .bool false, .bool false, .bool false, .int .u64 0, .int .u64 0] 33) = wa at *
      generalize wc1.heap.size = x at *
      have HA : Hid (Below wa.heap.size wa wa) := Lib.hid (Below.refl _ _)
      refine wpAnyH_ready (rs := [10]) (by kernel_rfl) (by simp) ?_
      refine AllReadyH.cons rfl (fun K hK => ?_) AllReadyH.nil
      go_simp
      (with_reducible refine (HC2.out _).mono ?_)
      rintro e wc12 ⟨rfl, hb⟩
      have HSn : Hid (Below w1.heap.size w1 wc12) := Lib.hid (HS.out.trans (hb.mono HS.out.size))
      have HAn : Hid (Below wa.heap.size wa wc12) := Lib.hid (HA.out.trans (hb.mono HA.out.size))
      clear hb
      go_simp
      refine hK.out _ _ ?_ (fun hHeld => ?_)
      · exact HSn.out
      clear hHeld hK K
      try simp only [Act.put, List.setIfInBounds_toArray, List.set_cons_zero, List.set_cons_succ]
      replace HS := HSn
      clear HSn
      replace HA := HAn
      clear HAn
      refine wpAnyH_ready (rs := [15]) (by kernel_rfl) (by simp) ?_
      refine AllReadyH.cons rfl (fun K hK => ?_) AllReadyH.nil
      go_simp
      (with_reducible refine (HC3.out _).mono ?_)
      rintro e wc13 ⟨rfl, hb⟩
      have HSn : Hid (Below w1.heap.size w1 wc13) := Lib.hid (HS.out.trans (hb.mono HS.out.size))
      have HAn : Hid (Below wa.heap.size wa wc13) := Lib.hid (HA.out.trans (hb.mono HA.out.size))
      clear hb
      go_simp
      refine hK.out _ _ ?_ (fun hHeld => ?_)
      · exact HSn.out
      clear hHeld hK K
      try simp only [Act.put, List.setIfInBounds_toArray, List.set_cons_zero, List.set_cons_succ]
      replace HS := HSn
      clear HSn
      replace HA := HAn
      clear HAn
      refine wpAnyH_ready (rs := [20]) (by kernel_rfl) (by simp) ?_
      refine AllReadyH.cons rfl (fun K hK => ?_) AllReadyH.nil
      go_simp
      (with_reducible refine (HC4.out _).mono ?_)
      rintro e wc14 ⟨rfl, hb⟩
      have HSn : Hid (Below w1.heap.size w1 wc14) := Lib.hid (HS.out.trans (hb.mono HS.out.size))
      have HAn : Hid (Below wa.heap.size wa wc14) := Lib.hid (HA.out.trans (hb.mono HA.out.size))
      clear hb
      go_simp
      refine hK.out _ _ ?_ (fun hHeld => ?_)
      · exact HSn.out
      clear hHeld hK K
      try simp only [Act.put, List.setIfInBounds_toArray, List.set_cons_zero, List.set_cons_succ]
      replace HS := HSn
      clear HSn
      replace HA := HAn
      clear HAn
      refine wpAnyH_ready (rs := [26]) (by kernel_rfl) (by simp) ?_
      refine AllReadyH.cons rfl (fun K hK => ?_) AllReadyH.nil
      go_simp
      (with_reducible refine (HC5.out _).mono ?_)
      rintro e wc15 ⟨rfl, hb⟩
      have HSn : Hid (Below w1.heap.size w1 wc15) := Lib.hid (HS.out.trans (hb.mono HS.out.size))
      have HAn : Hid (Below wa.heap.size wa wc15) := Lib.hid (HA.out.trans (hb.mono HA.out.size))
      clear hb
      go_simp
      refine hK.out _ _ ?_ (fun hHeld => ?_)
      · exact HSn.out
      clear hHeld hK K
      try simp only [Act.put, List.setIfInBounds_toArray, List.set_cons_zero, List.set_cons_succ]
      replace HS := HSn
      clear HSn
      replace HA := HAn
      clear HAn
      refine takeD (i := 27) (some 34) (v := ?_) rfl rfl (by kernel_rfl) (by kernel_rfl) (by kernel_rfl) (fun _ _ _ h => h) (by rfl) HS.out ?_ ?_
      rotate_left
      · intro wx hSx
        exact (by refine yield_build 33 #[(0, .tmp 11), (1, .tmp 17), (2, .tmp 22), (3, .tmp 27), (5, .tmp 33)] ?_ [(0, .bool cs), (1, .bool mt), (2, .bool l0), (3, .bool l1), (5, .int .u64 cn)] ?_ (built_lines cs mt l0 l1 cn) <;> first | rfl | simp [Act.eval, Act.put])
      simp only [Act.put, List.setIfInBounds_toArray, List.set_cons_zero, List.set_cons_succ]
      refine wpAnyH_ready (rs := [29]) (by kernel_rfl) (by simp) ?_
      refine AllReadyH.cons rfl (fun K hK => ?_) AllReadyH.nil
      rw [if_pos (by rfl)]
      have hD : wc15.heap[x]? = some (.cells #[.bool false, .bool false, .bool false, .bool false, .int .u64 0, .int .u64 0] 33 (0, 0)) := (HA.out.block x HZA.out).trans HDA.out
      refine wp_store_row 33 (.tmp 3) (.tmp 34) rfl x #[.bool cs, .bool mt, .bool l0, .bool l1, .int .u64 0, .int .u64 cn] rfl rfl 33 #[.bool false, .bool false, .bool false, .bool false, .int .u64 0, .int .u64 0] hD info_lines rfl (by simp [Value.oneCell']) ?_
      have HSn : Hid (Below w1.heap.size w1 (wc15.setRow x #[.bool cs, .bool mt, .bool l0, .bool l1, .int .u64 0, .int .u64 cn])) := Lib.hid (below_setRow HS.out HX.out _)
      have HXR : Hid ((wc15.setRow x #[.bool cs, .bool mt, .bool l0, .bool l1, .int .u64 0, .int .u64 cn]).heap[x]? = some (.cells #[.bool cs, .bool mt, .bool l0, .bool l1, .int .u64 0, .int .u64 cn] 33 (0, 0))) := Lib.hid (setRow_heap wc15 x _ _ _ _ hD)
      refine hK.out _ _ ?_ (fun hHeld => ?_)
      · exact HSn.out
      clear hHeld hK K hD
      try simp only [Act.put, List.setIfInBounds_toArray, List.set_cons_zero, List.set_cons_succ]
      replace HS := HSn
      clear HSn HA HZA HDA
      refine wpAnyH_done (by kernel_rfl) ?_ _
      generalize (wc15.setRow x #[.bool cs, .bool mt, .bool l0, .bool l1, .int .u64 0, .int .u64 cn]) = wz at *
      have HRZ := Lib.hid (HRG.out wz HS.out)
      have hxz : x < wz.heap.size := (Array.getElem?_eq_some_iff.1 HXR.out).1
      go_wp2_with (refine wpList_load_fr rfl _ _ rfl b 4 rfl _ _ HRZ.out Tryz.underlying69 rfl ?_ ?_; · exact HSZ.out)
      (with_reducible refine (HUP.out _).mono ?_)
      rintro e wu ⟨rfl, hb⟩
      have hxw : wu.heap[x]? = some (.cells #[.bool cs, .bool mt, .bool l0, .bool l1, .int .u64 0, .int .u64 cn] 33 (0, 0)) := (hb.block x hxz).trans HXR.out
      have HBW : Hid (Below w1.heap.size w1 wu) := Lib.hid (HS.out.trans (hb.mono HS.out.size))
      have hrw : wu.heap[w.heap.size]? = some (.cells #[.bool false, .bool false, .bool false, .bool false, .int .u64 0, .int .u64 0] 33 (0, 0)) := (HBW.out.block _ HZ1.out).trans HRES.out
      have hne : ¬ w.heap.size = x := by have := HX.out; have := HZ1.out; omega
      have fx : wu.frozen? ⟨x, 4, none⟩ = false := frozen_of_row wu x 4 _ _ hxw
      have cx : wu.cell? ⟨x, 4, none⟩ = some (.int .u64 0) := by rw [cell_of_row wu x 4 _ _ _ hxw]; rfl
      have hx2 : (wu.setCell ⟨x, 4, none⟩ (.int .u64 2)).heap[x]? = some (.cells #[.bool cs, .bool mt, .bool l0, .bool l1, .int .u64 2, .int .u64 cn] 33 (0, 0)) := by rw [heap_setCell_same wu x 4 _ _ _ hxw]; rfl
      have hr2 : (wu.setCell ⟨x, 4, none⟩ (.int .u64 2)).heap[w.heap.size]? = some (.cells #[.bool false, .bool false, .bool false, .bool false, .int .u64 0, .int .u64 0] 33 (0, 0)) := by rw [heap_setCell_other wu ⟨x, 4, none⟩ w.heap.size _ hne]; exact hrw
      have HX1 := Lib.hid hxw
      have HR1 := Lib.hid hrw
      have HX2 := Lib.hid hx2
      have HR2 := Lib.hid hr2
      have HB2 : Hid (Below w1.heap.size w1 (wu.setCell ⟨x, 4, none⟩ (.int .u64 2))) := Lib.hid (HBW.out.setCell HX.out _)
      have HW1B := Lib.hid HW1.out.size
      clear hb hxw hrw hx2 hr2 hxz hne HRZ HUP HRG HOC HSZ HS HXR HC1 HC2 HC3 HC4 HC5
      cases up with
      | false =>
        go_wp2_with (first | (refine wpList_load_row rfl _ _ rfl x rfl 33 _ _ _ HX1.out Tryz.underlying33 rfl ?_ ?_; · exact info_lines) | (refine wpList_store_row rfl 33 (.tmp 2) (.tmp 41) rfl w.heap.size #[.bool cs, .bool mt, .bool l0, .bool l1, .int .u64 0, .int .u64 cn] rfl rfl 33 #[.bool false, .bool false, .bool false, .bool false, .int .u64 0, .int .u64 0] HR1.out info_lines rfl (by simp [Value.oneCell']) ?_))
        exact bodyPost_ret (v := linesW cs mt l0 l1 false cn) (results_cell_row (show Tryz.f12.results = #[.cell 2 33] by kernel_rfl) _ _ w.heap.size 33 _ _ _ rfl (setRow_heap _ _ _ _ _ _ HR1.out) Tryz.underlying33 rfl info_lines) rfl ⟨rfl, below_setRow (HW1.out.trans (HBW.out.mono HW1B.out)) (Nat.le_refl _) _⟩
      | true =>
        go_wp2_with (first | (refine wpList_load_row rfl _ _ rfl x rfl 33 _ _ _ HX2.out Tryz.underlying33 rfl ?_ ?_; · exact info_lines) | (refine wpList_store_row rfl 33 (.tmp 2) (.tmp 41) rfl w.heap.size #[.bool cs, .bool mt, .bool l0, .bool l1, .int .u64 2, .int .u64 cn] rfl rfl 33 #[.bool false, .bool false, .bool false, .bool false, .int .u64 0, .int .u64 0] HR2.out info_lines rfl (by simp [Value.oneCell']) ?_))
        exact bodyPost_ret (v := linesW cs mt l0 l1 true cn) (results_cell_row (show Tryz.f12.results = #[.cell 2 33] by kernel_rfl) _ _ w.heap.size 33 _ _ _ rfl (setRow_heap _ _ _ _ _ _ HR2.out) Tryz.underlying33 rfl info_lines) rfl ⟨rfl, below_setRow (HW1.out.trans (HB2.out.mono HW1B.out)) (Nat.le_refl _) _⟩
  · go_simp
    refine hK.out _ _ ?_ (fun hHeld => ?_)
    · exact HS.out.alloc HS.out.size _
    clear hHeld hK K
    try simp only [Act.put, List.setIfInBounds_toArray, List.set_cons_zero, List.set_cons_succ]
    have HX : Hid (w1.heap.size ≤ wd.heap.size) := Lib.hid HS.out.size
    have HSn : Hid (Below w1.heap.size w1 (wd.alloc (.cells #[.bool false, .bool false, .bool false, .bool false, .int .u64 0, .int .u64 0] 33))) := Lib.hid (HS.out.alloc HS.out.size _)
    have HDA : Hid ((wd.alloc (.cells #[.bool false, .bool false, .bool false, .bool false, .int .u64 0, .int .u64 0] 33)).heap[wd.heap.size]? = some (.cells #[.bool false, .bool false, .bool false, .bool false, .int .u64 0, .int .u64 0] 33 (0, 0))) := Lib.hid (heap_alloc_new wd _)
    have HZA : Hid (wd.heap.size < (wd.alloc (.cells #[.bool false, .bool false, .bool false, .bool false, .int .u64 0, .int .u64 0] 33)).heap.size) := Lib.hid (by rw [World.size_alloc]; omega)
    replace HS := HSn
    clear HSn
    generalize wd.alloc (.cells #[.bool false, .bool false, .bool false, .bool false, .int .u64 0, .int .u64 0] 33) = wa at *
    generalize wd.heap.size = x at *
    have HA : Hid (Below wa.heap.size wa wa) := Lib.hid (Below.refl _ _)
    refine wpAnyH_ready (rs := [4]) (by kernel_rfl) (by simp) ?_
    refine AllReadyH.cons rfl (fun K hK => ?_) AllReadyH.nil
    go_simp
    (with_reducible refine (HC1.out _).mono ?_)
    rintro e wc16 ⟨rfl, hb⟩
    have HSn : Hid (Below w1.heap.size w1 wc16) := Lib.hid (HS.out.trans (hb.mono HS.out.size))
    have HAn : Hid (Below wa.heap.size wa wc16) := Lib.hid (HA.out.trans (hb.mono HA.out.size))
    clear hb
    go_simp
    refine hK.out _ _ ?_ (fun hHeld => ?_)
    · exact HSn.out
    clear hHeld hK K
    try simp only [Act.put, List.setIfInBounds_toArray, List.set_cons_zero, List.set_cons_succ]
    replace HS := HSn
    clear HSn
    replace HA := HAn
    clear HAn
    refine wpAnyH_ready (rs := [10]) (by kernel_rfl) (by simp) ?_
    refine AllReadyH.cons rfl (fun K hK => ?_) AllReadyH.nil
    go_simp
    (with_reducible refine (HC2.out _).mono ?_)
    rintro e wc17 ⟨rfl, hb⟩
    have HSn : Hid (Below w1.heap.size w1 wc17) := Lib.hid (HS.out.trans (hb.mono HS.out.size))
    have HAn : Hid (Below wa.heap.size wa wc17) := Lib.hid (HA.out.trans (hb.mono HA.out.size))
    clear hb
    go_simp
    refine hK.out _ _ ?_ (fun hHeld => ?_)
    · exact HSn.out
    clear hHeld hK K
    try simp only [Act.put, List.setIfInBounds_toArray, List.set_cons_zero, List.set_cons_succ]
    replace HS := HSn
    clear HSn
    replace HA := HAn
    clear HAn
    refine wpAnyH_ready (rs := [15]) (by kernel_rfl) (by simp) ?_
    refine AllReadyH.cons rfl (fun K hK => ?_) AllReadyH.nil
    go_simp
    (with_reducible refine (HC3.out _).mono ?_)
    rintro e wc18 ⟨rfl, hb⟩
    have HSn : Hid (Below w1.heap.size w1 wc18) := Lib.hid (HS.out.trans (hb.mono HS.out.size))
    have HAn : Hid (Below wa.heap.size wa wc18) := Lib.hid (HA.out.trans (hb.mono HA.out.size))
    clear hb
    go_simp
    refine hK.out _ _ ?_ (fun hHeld => ?_)
    · exact HSn.out
    clear hHeld hK K
    try simp only [Act.put, List.setIfInBounds_toArray, List.set_cons_zero, List.set_cons_succ]
    replace HS := HSn
    clear HSn
    replace HA := HAn
    clear HAn
    refine wpAnyH_ready (rs := [20]) (by kernel_rfl) (by simp) ?_
    refine AllReadyH.cons rfl (fun K hK => ?_) AllReadyH.nil
    go_simp
    (with_reducible refine (HC4.out _).mono ?_)
    rintro e wc19 ⟨rfl, hb⟩
    have HSn : Hid (Below w1.heap.size w1 wc19) := Lib.hid (HS.out.trans (hb.mono HS.out.size))
    have HAn : Hid (Below wa.heap.size wa wc19) := Lib.hid (HA.out.trans (hb.mono HA.out.size))
    clear hb
    go_simp
    refine hK.out _ _ ?_ (fun hHeld => ?_)
    · exact HSn.out
    clear hHeld hK K
    try simp only [Act.put, List.setIfInBounds_toArray, List.set_cons_zero, List.set_cons_succ]
    replace HS := HSn
    clear HSn
    replace HA := HAn
    clear HAn
    refine wpAnyH_ready (rs := [26]) (by kernel_rfl) (by simp) ?_
    refine AllReadyH.cons rfl (fun K hK => ?_) AllReadyH.nil
    go_simp
    (with_reducible refine (HC5.out _).mono ?_)
    rintro e wc20 ⟨rfl, hb⟩
    have HSn : Hid (Below w1.heap.size w1 wc20) := Lib.hid (HS.out.trans (hb.mono HS.out.size))
    have HAn : Hid (Below wa.heap.size wa wc20) := Lib.hid (HA.out.trans (hb.mono HA.out.size))
    clear hb
    go_simp
    refine hK.out _ _ ?_ (fun hHeld => ?_)
    · exact HSn.out
    clear hHeld hK K
    try simp only [Act.put, List.setIfInBounds_toArray, List.set_cons_zero, List.set_cons_succ]
    replace HS := HSn
    clear HSn
    replace HA := HAn
    clear HAn
    refine takeD (i := 27) (some 34) (v := ?_) rfl rfl (by kernel_rfl) (by kernel_rfl) (by kernel_rfl) (fun _ _ _ h => h) (by rfl) HS.out ?_ ?_
    rotate_left
    · intro wx hSx
      exact (by refine yield_build 33 #[(0, .tmp 11), (1, .tmp 17), (2, .tmp 22), (3, .tmp 27), (5, .tmp 33)] ?_ [(0, .bool cs), (1, .bool mt), (2, .bool l0), (3, .bool l1), (5, .int .u64 cn)] ?_ (built_lines cs mt l0 l1 cn) <;> first | rfl | simp [Act.eval, Act.put])
    simp only [Act.put, List.setIfInBounds_toArray, List.set_cons_zero, List.set_cons_succ]
    refine wpAnyH_ready (rs := [29]) (by kernel_rfl) (by simp) ?_
    refine AllReadyH.cons rfl (fun K hK => ?_) AllReadyH.nil
    rw [if_pos (by rfl)]
    have hD : wc20.heap[x]? = some (.cells #[.bool false, .bool false, .bool false, .bool false, .int .u64 0, .int .u64 0] 33 (0, 0)) := (HA.out.block x HZA.out).trans HDA.out
    refine wp_store_row 33 (.tmp 3) (.tmp 34) rfl x #[.bool cs, .bool mt, .bool l0, .bool l1, .int .u64 0, .int .u64 cn] rfl rfl 33 #[.bool false, .bool false, .bool false, .bool false, .int .u64 0, .int .u64 0] hD info_lines rfl (by simp [Value.oneCell']) ?_
    have HSn : Hid (Below w1.heap.size w1 (wc20.setRow x #[.bool cs, .bool mt, .bool l0, .bool l1, .int .u64 0, .int .u64 cn])) := Lib.hid (below_setRow HS.out HX.out _)
    have HXR : Hid ((wc20.setRow x #[.bool cs, .bool mt, .bool l0, .bool l1, .int .u64 0, .int .u64 cn]).heap[x]? = some (.cells #[.bool cs, .bool mt, .bool l0, .bool l1, .int .u64 0, .int .u64 cn] 33 (0, 0))) := Lib.hid (setRow_heap wc20 x _ _ _ _ hD)
    refine hK.out _ _ ?_ (fun hHeld => ?_)
    · exact HSn.out
    clear hHeld hK K hD
    try simp only [Act.put, List.setIfInBounds_toArray, List.set_cons_zero, List.set_cons_succ]
    replace HS := HSn
    clear HSn HA HZA HDA
    refine wpAnyH_done (by kernel_rfl) ?_ _
    generalize (wc20.setRow x #[.bool cs, .bool mt, .bool l0, .bool l1, .int .u64 0, .int .u64 cn]) = wz at *
    have HRZ := Lib.hid (HRG.out wz HS.out)
    have hxz : x < wz.heap.size := (Array.getElem?_eq_some_iff.1 HXR.out).1
    go_wp2_with (refine wpList_load_fr rfl _ _ rfl b 4 rfl _ _ HRZ.out Tryz.underlying69 rfl ?_ ?_; · exact HSZ.out)
    (with_reducible refine (HUP.out _).mono ?_)
    rintro e wu ⟨rfl, hb⟩
    have hxw : wu.heap[x]? = some (.cells #[.bool cs, .bool mt, .bool l0, .bool l1, .int .u64 0, .int .u64 cn] 33 (0, 0)) := (hb.block x hxz).trans HXR.out
    have HBW : Hid (Below w1.heap.size w1 wu) := Lib.hid (HS.out.trans (hb.mono HS.out.size))
    have hrw : wu.heap[w.heap.size]? = some (.cells #[.bool false, .bool false, .bool false, .bool false, .int .u64 0, .int .u64 0] 33 (0, 0)) := (HBW.out.block _ HZ1.out).trans HRES.out
    have hne : ¬ w.heap.size = x := by have := HX.out; have := HZ1.out; omega
    have fx : wu.frozen? ⟨x, 4, none⟩ = false := frozen_of_row wu x 4 _ _ hxw
    have cx : wu.cell? ⟨x, 4, none⟩ = some (.int .u64 0) := by rw [cell_of_row wu x 4 _ _ _ hxw]; rfl
    have hx2 : (wu.setCell ⟨x, 4, none⟩ (.int .u64 2)).heap[x]? = some (.cells #[.bool cs, .bool mt, .bool l0, .bool l1, .int .u64 2, .int .u64 cn] 33 (0, 0)) := by rw [heap_setCell_same wu x 4 _ _ _ hxw]; rfl
    have hr2 : (wu.setCell ⟨x, 4, none⟩ (.int .u64 2)).heap[w.heap.size]? = some (.cells #[.bool false, .bool false, .bool false, .bool false, .int .u64 0, .int .u64 0] 33 (0, 0)) := by rw [heap_setCell_other wu ⟨x, 4, none⟩ w.heap.size _ hne]; exact hrw
    have HX1 := Lib.hid hxw
    have HR1 := Lib.hid hrw
    have HX2 := Lib.hid hx2
    have HR2 := Lib.hid hr2
    have HB2 : Hid (Below w1.heap.size w1 (wu.setCell ⟨x, 4, none⟩ (.int .u64 2))) := Lib.hid (HBW.out.setCell HX.out _)
    have HW1B := Lib.hid HW1.out.size
    clear hb hxw hrw hx2 hr2 hxz hne HRZ HUP HRG HOC HSZ HS HXR HC1 HC2 HC3 HC4 HC5
    cases up with
    | false =>
      go_wp2_with (first | (refine wpList_load_row rfl _ _ rfl x rfl 33 _ _ _ HX1.out Tryz.underlying33 rfl ?_ ?_; · exact info_lines) | (refine wpList_store_row rfl 33 (.tmp 2) (.tmp 41) rfl w.heap.size #[.bool cs, .bool mt, .bool l0, .bool l1, .int .u64 0, .int .u64 cn] rfl rfl 33 #[.bool false, .bool false, .bool false, .bool false, .int .u64 0, .int .u64 0] HR1.out info_lines rfl (by simp [Value.oneCell']) ?_))
      exact bodyPost_ret (v := linesW cs mt l0 l1 false cn) (results_cell_row (show Tryz.f12.results = #[.cell 2 33] by kernel_rfl) _ _ w.heap.size 33 _ _ _ rfl (setRow_heap _ _ _ _ _ _ HR1.out) Tryz.underlying33 rfl info_lines) rfl ⟨rfl, below_setRow (HW1.out.trans (HBW.out.mono HW1B.out)) (Nat.le_refl _) _⟩
    | true =>
      go_wp2_with (first | (refine wpList_load_row rfl _ _ rfl x rfl 33 _ _ _ HX2.out Tryz.underlying33 rfl ?_ ?_; · exact info_lines) | (refine wpList_store_row rfl 33 (.tmp 2) (.tmp 41) rfl w.heap.size #[.bool cs, .bool mt, .bool l0, .bool l1, .int .u64 2, .int .u64 cn] rfl rfl 33 #[.bool false, .bool false, .bool false, .bool false, .int .u64 0, .int .u64 0] HR2.out info_lines rfl (by simp [Value.oneCell']) ?_))
      exact bodyPost_ret (v := linesW cs mt l0 l1 true cn) (results_cell_row (show Tryz.f12.results = #[.cell 2 33] by kernel_rfl) _ _ w.heap.size 33 _ _ _ rfl (setRow_heap _ _ _ _ _ _ HR2.out) Tryz.underlying33 rfl info_lines) rfl ⟨rfl, below_setRow (HW1.out.trans (HB2.out.mono HW1B.out)) (Nat.le_refl _) _⟩

end Go.Proofs.YtbcnkhfpogglmaaGreatDoor

namespace Go.Proofs.YtbcnkhfpogglmaaGreatDoor.C4.In
open Go.RowKit
set_option linter.unusedVariables false
set_option maxRecDepth 100000
variable {fr : Fr 1}

/-- The document's clint t stands one cell behind the beginning of block b. -/
def RefC (fr : Fr 1) (w : World) (b : Nat) (t : Cl) : Prop := w.heap[b]? = some (.cells (fr.all #[.int .u64 (sI t.s), .int .u64 t.c, .int .u64 t.n]) fr.ty (0, 0)) ∧ t.ok
theorem RefC.keeps {w w' : World} {b : Nat} {t : Cl} {T : Nat → Prop} (h : RefC fr w b t) (o : Only T w w') (hb : ¬ T b) : RefC fr w' b t := ⟨o.keeps hb h.1, h.2⟩
theorem RefC.lt {w : World} {b : Nat} {t : Cl} (h : RefC fr w b t) : b < w.heap.size := (Array.getElem?_eq_some_iff.1 h.1).1
theorem RefC.below {w w' : World} {b : Nat} {t : Cl} (h : RefC fr w b t) (o : Below w.heap.size w w') : RefC fr w' b t := ⟨(o.block b h.lt).trans h.1, h.2⟩
theorem RefC.cells {w : World} {b : Nat} {t : Cl} (h : RefC fr w b t) : w.cell? ⟨b, 1, none⟩ = some (.int .u64 (sI t.s)) ∧ w.cell? ⟨b, 2, none⟩ = some (.int .u64 t.c) ∧ w.cell? ⟨b, 3, none⟩ = some (.int .u64 t.n) := by
  refine ⟨?_, ?_, ?_⟩
  · rw [cell_of_row w b _ _ _ _ h.1]; exact fr.get _ 0 (by simp)
  · rw [cell_of_row w b _ _ _ _ h.1]; exact fr.get _ 1 (by simp)
  · rw [cell_of_row w b _ _ _ _ h.1]; exact fr.get _ 2 (by simp)
theorem RefC.free {w : World} {b : Nat} {t : Cl} (h : RefC fr w b t) (k : Nat) : w.frozen? ⟨b, k, none⟩ = false := frozen_of_row w b k _ _ h.1
/-- What a call leaves that turns the clint. -/
def RefEnd (fr : Fr 1) (w : World) (b : Nat) (r : Value) (t' : Cl) (e : Ending) (w' : World) : Prop := e = .returned r ∧ Only (fun i => i = b) w w' ∧ RefC fr w' b t'
theorem refC_set {w w' : World} {b k : Nat} {t t' : Cl} {v : Value} {r : Value} (h : RefC fr w b t) (ho : ∃ n, w' = (w.drewN n).setCell ⟨b, 1 + k, none⟩ v)
    (e : (#[.int .u64 (sI t.s), .int .u64 t.c, .int .u64 t.n] : Array Value).setIfInBounds k v = #[.int .u64 (sI t'.s), .int .u64 t'.c, .int .u64 t'.n]) (hok : t'.ok) (hk : k < 3 := by omega) : RefEnd fr w b r t' (.returned r) w' := by
  obtain ⟨n, rfl⟩ := ho
  refine ⟨rfl, ((Only.refl (fun i => i = b) w).drewN n).setCell (p := ⟨b, 1 + k, none⟩) (.inl rfl) v, ?_, hok⟩
  rw [heap_setCell_same (w.drewN n) b (1 + k) _ _ _ h.1, fr.set _ _ _ (by simpa using hk), e]

theorem refWrite_1 (w : World) (b : Nat) (t : Cl) (v : Int) (h : RefC fr w b t) (hv : In64 v) :
    Calls Tryz.prog 98 #[.pointer (some ⟨b, 1, none⟩), .int .u64 0, .int .i64 4, .int .u64 v] w (RefEnd fr w b (.bool true) (wrC t v 1)) := by
  obtain ⟨hc0, hc1, hc2⟩ := h.cells
  have f0 := h.free 1
  have f1 := h.free 2
  have f2 := h.free 3
  have H := Lib.hid h
  have HV := Lib.hid hv
  have HO := Lib.hid h.2
  have hv0 := hv.1
  have hb1 := h.2.1.1
  have hb2 := h.2.2.1
  clear h hv
  go_enter Tryz.func98, Tryz.ntmps98
  go_wp2
  go_ret
  exact refC_set (k := 0) H.out ⟨0, rfl⟩ (by simp only [wrC]; rw [sI_mod HV.out]; rfl) (wrC_ok H.out.2 HV.out 1)
theorem refWrite_2 (w : World) (b : Nat) (t : Cl) (v : Int) (h : RefC fr w b t) (hv : In64 v) :
    Calls Tryz.prog 98 #[.pointer (some ⟨b, 1, none⟩), .int .u64 16384, .int .i64 8, .int .u64 v] w (RefEnd fr w b (.bool true) (wrC t v 2)) := by
  obtain ⟨hc0, hc1, hc2⟩ := h.cells
  have f0 := h.free 1
  have f1 := h.free 2
  have f2 := h.free 3
  have H := Lib.hid h
  have HV := Lib.hid hv
  have HO := Lib.hid h.2
  have hv0 := hv.1
  have hb1 := h.2.1.1
  have hb2 := h.2.2.1
  clear h hv
  go_enter Tryz.func98, Tryz.ntmps98
  go_wp2
  go_ret
  exact refC_set (k := 1) H.out ⟨0, rfl⟩ (rfl) (wrC_ok H.out.2 HV.out 2)
theorem refWrite_3 (w : World) (b : Nat) (t : Cl) (v : Int) (h : RefC fr w b t) (hv : In64 v) :
    Calls Tryz.prog 98 #[.pointer (some ⟨b, 1, none⟩), .int .u64 16384, .int .i64 4, .int .u64 v] w (RefEnd fr w b (.bool true) (wrC t v 3)) := by
  obtain ⟨hc0, hc1, hc2⟩ := h.cells
  have f0 := h.free 1
  have f1 := h.free 2
  have f2 := h.free 3
  have H := Lib.hid h
  have HV := Lib.hid hv
  have HO := Lib.hid h.2
  have hv0 := hv.1
  have hb1 := h.2.1.1
  have hb2 := h.2.2.1
  have HS : Hid (IntKind.u64.wrap (IntKind.u64.wrap (t.c / 4294967296 * 4294967296) + v % 4294967296) = t.c / 4294967296 * 4294967296 + v % 4294967296) := by
    have h1 := h.2.1
    have h2 := h.2.2
    show IntKind.u64.wrap (IntKind.u64.wrap (t.c / 4294967296 * 4294967296) + v % 4294967296) = t.c / 4294967296 * 4294967296 + v % 4294967296
    unfold In64 at h1 h2 hv
    rw [IntKind.wrap_u64, IntKind.wrap_u64]; omega
  clear h hv
  go_enter Tryz.func98, Tryz.ntmps98
  go_wp2_with (first
    | (go_at_call 132; refine (high_any _ _ (by first | exact HO.out.1 | exact HO.out.2)).mono ?_; rintro e w' ⟨rfl, rfl⟩)
    | (go_at_call 133; refine (low_any _ _ HV.out).mono ?_; rintro e w' ⟨rfl, rfl⟩))
  go_ret
  exact refC_set (k := 1) H.out ⟨0, rfl⟩ (by simp only [wrC]; rw [← HS.out]; rfl) (wrC_ok H.out.2 HV.out 3)
theorem refWrite_4 (w : World) (b : Nat) (t : Cl) (v : Int) (h : RefC fr w b t) (hv : In64 v) :
    Calls Tryz.prog 98 #[.pointer (some ⟨b, 1, none⟩), .int .u64 16388, .int .i64 4, .int .u64 v] w (RefEnd fr w b (.bool true) (wrC t v 4)) := by
  obtain ⟨hc0, hc1, hc2⟩ := h.cells
  have f0 := h.free 1
  have f1 := h.free 2
  have f2 := h.free 3
  have H := Lib.hid h
  have HV := Lib.hid hv
  have HO := Lib.hid h.2
  have hv0 := hv.1
  have hb1 := h.2.1.1
  have hb2 := h.2.2.1
  have HS : Hid (IntKind.u64.wrap (IntKind.u64.wrap (v % 4294967296 * 4294967296) + t.c % 4294967296) = v % 4294967296 * 4294967296 + t.c % 4294967296) := by
    have h1 := h.2.1
    have h2 := h.2.2
    show IntKind.u64.wrap (IntKind.u64.wrap (v % 4294967296 * 4294967296) + t.c % 4294967296) = v % 4294967296 * 4294967296 + t.c % 4294967296
    unfold In64 at h1 h2 hv
    rw [IntKind.wrap_u64, IntKind.wrap_u64]; omega
  clear h hv
  go_enter Tryz.func98, Tryz.ntmps98
  go_wp2_with fail
  go_still_tail 12, (by kernel_rfl)
  still_call (low_still _ _ HV.out)
  repeat still_step
  still_call (low_still _ _ HO.out.1)
  repeat still_step
  refine wpStill_nil ?_
  change wpList _ _ _ _ _ w.drew
  have HD : Hid (∃ n, w.drew = w.drewN n) := Lib.hid ⟨1, rfl⟩
  have g1 : w.drew.frozen? ⟨b, 2, none⟩ = false := f1
  have gc : w.drew.cell? ⟨b, 2, none⟩ = some (.int .u64 t.c) := hc1
  clear hc0 hc1 hc2 f0 f1 f2
  generalize w.drew = wd at *
  go_wp2
  go_ret
  exact refC_set (k := 1) H.out (by obtain ⟨n, rfl⟩ := HD.out; exact ⟨n, rfl⟩) (by simp only [wrC]; rw [← HS.out]; rfl) (wrC_ok H.out.2 HV.out 4)
theorem refWrite_5 (w : World) (b : Nat) (t : Cl) (v : Int) (h : RefC fr w b t) (hv : In64 v) :
    Calls Tryz.prog 98 #[.pointer (some ⟨b, 1, none⟩), .int .u64 49144, .int .i64 8, .int .u64 v] w (RefEnd fr w b (.bool true) (wrC t v 5)) := by
  obtain ⟨hc0, hc1, hc2⟩ := h.cells
  have f0 := h.free 1
  have f1 := h.free 2
  have f2 := h.free 3
  have H := Lib.hid h
  have HV := Lib.hid hv
  have HO := Lib.hid h.2
  have hv0 := hv.1
  have hb1 := h.2.1.1
  have hb2 := h.2.2.1
  clear h hv
  go_enter Tryz.func98, Tryz.ntmps98
  go_wp2
  go_ret
  exact refC_set (k := 2) H.out ⟨0, rfl⟩ (rfl) (wrC_ok H.out.2 HV.out 5)
theorem refWrite_6 (w : World) (b : Nat) (t : Cl) (v : Int) (h : RefC fr w b t) (hv : In64 v) :
    Calls Tryz.prog 98 #[.pointer (some ⟨b, 1, none⟩), .int .u64 49144, .int .i64 4, .int .u64 v] w (RefEnd fr w b (.bool true) (wrC t v 6)) := by
  obtain ⟨hc0, hc1, hc2⟩ := h.cells
  have f0 := h.free 1
  have f1 := h.free 2
  have f2 := h.free 3
  have H := Lib.hid h
  have HV := Lib.hid hv
  have HO := Lib.hid h.2
  have hv0 := hv.1
  have hb1 := h.2.1.1
  have hb2 := h.2.2.1
  have HS : Hid (IntKind.u64.wrap (IntKind.u64.wrap (t.n / 4294967296 * 4294967296) + v % 4294967296) = t.n / 4294967296 * 4294967296 + v % 4294967296) := by
    have h1 := h.2.1
    have h2 := h.2.2
    show IntKind.u64.wrap (IntKind.u64.wrap (t.n / 4294967296 * 4294967296) + v % 4294967296) = t.n / 4294967296 * 4294967296 + v % 4294967296
    unfold In64 at h1 h2 hv
    rw [IntKind.wrap_u64, IntKind.wrap_u64]; omega
  clear h hv
  go_enter Tryz.func98, Tryz.ntmps98
  go_wp2_with (first
    | (go_at_call 132; refine (high_any _ _ (by first | exact HO.out.1 | exact HO.out.2)).mono ?_; rintro e w' ⟨rfl, rfl⟩)
    | (go_at_call 133; refine (low_any _ _ HV.out).mono ?_; rintro e w' ⟨rfl, rfl⟩))
  go_ret
  exact refC_set (k := 2) H.out ⟨0, rfl⟩ (by simp only [wrC]; rw [← HS.out]; rfl) (wrC_ok H.out.2 HV.out 6)
theorem refWrite_7 (w : World) (b : Nat) (t : Cl) (v : Int) (h : RefC fr w b t) (hv : In64 v) :
    Calls Tryz.prog 98 #[.pointer (some ⟨b, 1, none⟩), .int .u64 49148, .int .i64 4, .int .u64 v] w (RefEnd fr w b (.bool true) (wrC t v 7)) := by
  obtain ⟨hc0, hc1, hc2⟩ := h.cells
  have f0 := h.free 1
  have f1 := h.free 2
  have f2 := h.free 3
  have H := Lib.hid h
  have HV := Lib.hid hv
  have HO := Lib.hid h.2
  have hv0 := hv.1
  have hb1 := h.2.1.1
  have hb2 := h.2.2.1
  have HS : Hid (IntKind.u64.wrap (IntKind.u64.wrap (v % 4294967296 * 4294967296) + t.n % 4294967296) = v % 4294967296 * 4294967296 + t.n % 4294967296) := by
    have h1 := h.2.1
    have h2 := h.2.2
    show IntKind.u64.wrap (IntKind.u64.wrap (v % 4294967296 * 4294967296) + t.n % 4294967296) = v % 4294967296 * 4294967296 + t.n % 4294967296
    unfold In64 at h1 h2 hv
    rw [IntKind.wrap_u64, IntKind.wrap_u64]; omega
  clear h hv
  go_enter Tryz.func98, Tryz.ntmps98
  go_wp2_with fail
  go_still_tail 12, (by kernel_rfl)
  still_call (low_still _ _ HV.out)
  repeat still_step
  still_call (low_still _ _ HO.out.2)
  repeat still_step
  refine wpStill_nil ?_
  change wpList _ _ _ _ _ w.drew
  have HD : Hid (∃ n, w.drew = w.drewN n) := Lib.hid ⟨1, rfl⟩
  have g2 : w.drew.frozen? ⟨b, 3, none⟩ = false := f2
  have gc : w.drew.cell? ⟨b, 3, none⟩ = some (.int .u64 t.n) := hc2
  clear hc0 hc1 hc2 f0 f1 f2
  generalize w.drew = wd at *
  go_wp2
  go_ret
  exact refC_set (k := 2) H.out (by obtain ⟨n, rfl⟩ := HD.out; exact ⟨n, rfl⟩) (by simp only [wrC]; rw [← HS.out]; rfl) (wrC_ok H.out.2 HV.out 7)
theorem refWrite_0 (w : World) (b : Nat) (t : Cl) (off n v : Int) (h : RefC fr w b t) (hp : NoPlace off n) :
    Calls Tryz.prog 98 #[.pointer (some ⟨b, 1, none⟩), .int .u64 off, .int .i64 n, .int .u64 v] w (RefEnd fr w b (.bool false) t) := by
  obtain ⟨hk, h1, h2, h3⟩ := hp
  have HE : Hid (RefEnd fr w b (.bool false) t (.returned (.bool false)) w) := Lib.hid ⟨rfl, Only.refl _ _, h⟩
  clear h hk
  by_cases n8 : n = 8
  · subst n8
    have e1 := ne_bool (show ¬ off = 16384 by omega)
    have e2 := ne_bool (show ¬ off = 49144 by omega)
    clear h1 h2 h3
    go_enter Tryz.func98, Tryz.ntmps98
    go_wp2
    go_ret
    exact HE.out
  have e8 := ne_bool n8
  by_cases n4 : n = 4
  · subst n4
    have e0 := ne_bool (show ¬ off = 0 by omega)
    have e1 := ne_bool (show ¬ off = 16384 by omega)
    have e2 := ne_bool (show ¬ off = 16388 by omega)
    have e3 := ne_bool (show ¬ off = 49144 by omega)
    have e4 := ne_bool (show ¬ off = 49148 by omega)
    clear h1 h2 h3 n8 e8
    go_enter Tryz.func98, Tryz.ntmps98
    go_wp2
    go_ret
    exact HE.out
  · have e4 := ne_bool2 n4
    clear h1 h2 h3 n8 n4
    go_enter Tryz.func98, Tryz.ntmps98
    go_wp2
    go_ret
    exact HE.out
theorem refWrite_any (w : World) (b : Nat) (t : Cl) (off n v : Int) (h : RefC fr w b t) (hv : In64 v) :
    Calls Tryz.prog 98 #[.pointer (some ⟨b, 1, none⟩), .int .u64 off, .int .i64 n, .int .u64 v] w (RefEnd fr w b (.bool (okC off n)) (wrC t v (kindC off n))) := by
  unfold okC
  rcases kind_cases off n with ⟨rfl, rfl, hk⟩ | ⟨rfl, rfl, hk⟩ | ⟨rfl, rfl, hk⟩ | ⟨rfl, rfl, hk⟩ | ⟨rfl, rfl, hk⟩ | ⟨rfl, rfl, hk⟩ | ⟨rfl, rfl, hk⟩ | ⟨hk, h1, h2, h3⟩
  all_goals rw [hk]
  · exact refWrite_1 w b t v h hv
  · exact refWrite_2 w b t v h hv
  · exact refWrite_3 w b t v h hv
  · exact refWrite_4 w b t v h hv
  · exact refWrite_5 w b t v h hv
  · exact refWrite_6 w b t v h hv
  · exact refWrite_7 w b t v h hv
  · exact refWrite_0 w b t off n v h ⟨hk, h1, h2, h3⟩
theorem refTick_any (w : World) (b : Nat) (t : Cl) (n : Int) (h : RefC fr w b t) (hn : In64 n) :
    Calls Tryz.prog 109 #[.pointer (some ⟨b, 1, none⟩), .int .u64 n] w fun e w' => (∃ u, e = .returned u) ∧ Only (fun i => i = b) w w' ∧ RefC fr w' b (tickC t n) := by
  obtain ⟨hc0, hc1, hc2⟩ := h.cells
  have f2 := h.free 3
  have H := Lib.hid h
  have HS : Hid (IntKind.u64.wrap (t.n + n) = (t.n + n) % 18446744073709551616) := Lib.hid (IntKind.wrap_u64 _)
  clear h
  go_enter Tryz.func109, Tryz.ntmps109
  go_wp2
  go_end0
  refine ⟨⟨_, rfl⟩, ?_⟩
  exact (refC_set (k := 2) (r := .bool true) (t' := tickC t n) H.out ⟨0, rfl⟩ (by simp only [tickC]; rw [← HS.out]; rfl) (tickC_ok H.out.2)).2

end Go.Proofs.YtbcnkhfpogglmaaGreatDoor.C4.In

namespace Go.Proofs.YtbcnkhfpogglmaaGreatDoor.P5
open Go.RowKit
set_option linter.unusedVariables false
set_option maxRecDepth 100000

theorem tells_end {w : World} {b : Nat} {t : PS} {x : Int} {r : Bool} (h : RefP w b t) {e : Ending} {w' : World} (k : TellsP w x r e w') : RefPEnd w b (.tuple #[.int .u64 x, .bool r]) t e w' := by
  obtain ⟨rfl, rfl⟩ := k
  exact ⟨rfl, Only.refl _ _, h⟩
theorem refRead_any (w : World) (b : Nat) (t : PS) (h : RefP w b t) (off n : Int) (ho : In64 off) :
    Calls Tryz.prog 104 #[.pointer (some ⟨b, 0, none⟩), .int .u64 off, .int .i64 n] w (RefPEnd w b (.tuple #[.int .u64 (rdX t (plcK off n)), .bool (okP (plcK off n))]) (rdT t (plcK off n))) := by
  rcases plc_cases off n ho.1 with ⟨rfl, k, hk, hk4, hp⟩ | ⟨rfl, rfl, hp⟩ | ⟨rfl, rfl, hp⟩ | ⟨rfl, rfl, hp⟩ | ⟨rfl, rfl, hp⟩ | ⟨rfl, rfl, hp⟩ | ⟨rfl, rfl, hp⟩ | ⟨rfl, rfl, hp⟩ | ⟨rfl, hn, hp⟩ | ⟨hn, hp⟩
  all_goals rw [hp]
  · exact (refRead_prio w b t h k hk off hk4).mono fun e w' k => tells_end h k
  · exact (refRead_pend w b t h).mono fun e w' k => tells_end h k
  · exact (refRead_on0 w b t h).mono fun e w' k => tells_end h k
  · exact (refRead_on1 w b t h).mono fun e w' k => tells_end h k
  · exact (refRead_floor0 w b t h).mono fun e w' k => tells_end h k
  · exact (refRead_floor1 w b t h).mono fun e w' k => tells_end h k
  · exact refRead_claim0 w b t h _ rfl
  · exact refRead_claim1 w b t h _ rfl
  · exact (refRead_no w b off hn ho.1).mono fun e w' k => tells_end h k
  · exact (refRead_len w b off n hn).mono fun e w' k => tells_end h k
theorem same_end {w : World} {b : Nat} {t : PS} {r : Value} (h : RefP w b t) {e : Ending} {w' : World} (k : e = .returned r ∧ w = w') : RefPEnd w b r t e w' := by
  obtain ⟨rfl, rfl⟩ := k
  exact ⟨rfl, Only.refl _ _, h⟩
theorem refWrite_any (w : World) (b : Nat) (t : PS) (h : RefP w b t) (off n v : Int) (ho : In64 off) (hv : In64 v) :
    Calls Tryz.prog 99 #[.pointer (some ⟨b, 0, none⟩), .int .u64 off, .int .i64 n, .int .u64 v] w (RefPEnd w b (.bool (okP (plcK off n))) (wrT t (plcK off n) v)) := by
  have hx1 := Int.emod_nonneg v (show (4294967296 : Int) ≠ 0 by decide)
  rcases plc_cases off n ho.1 with ⟨rfl, k, hk, hk4, hp⟩ | ⟨rfl, rfl, hp⟩ | ⟨rfl, rfl, hp⟩ | ⟨rfl, rfl, hp⟩ | ⟨rfl, rfl, hp⟩ | ⟨rfl, rfl, hp⟩ | ⟨rfl, rfl, hp⟩ | ⟨rfl, rfl, hp⟩ | ⟨rfl, hn, hp⟩ | ⟨hn, hp⟩
  all_goals rw [hp]
  · by_cases k0 : k = 0
    · subst k0
      obtain rfl : off = 0 := by omega
      exact (refWrite_prio0 w b v).mono fun e w' k => same_end h k
    · rw [show wrT t (0, k) v = prioT t k (v % 8) from if_neg k0]
      exact refWrite_prio w b t h k (by omega) hk off v hk4 hv.1
  · exact (refWrite_pend w b v).mono fun e w' k => same_end h k
  · exact refWrite_on0 w b t h v hv
  · exact refWrite_on1 w b t h v hv
  · exact refWrite_floor0 w b t h v hv.1
  · exact refWrite_floor1 w b t h v hv.1
  · exact refWrite_done0 w b t h v _ hv.1 (by omega)
  · exact refWrite_done1 w b t h v _ hv.1 (by omega)
  · exact (refWrite_no w b off v hn ho.1).mono fun e w' k => same_end h k
  · exact (refWrite_len w b off n v hn).mono fun e w' k => same_end h k
set_option maxHeartbeats 2000000 in
theorem refLine_none (w : World) (t : PS) (c : Int) (h0 : ¬ c = 0) (h1 : ¬ c = 1) : Calls Tryz.prog 64 #[refPV t, .int .i64 c] w fun e w' => e = .returned (.bool false) ∧ Below w.heap.size w w' := by
  have HB := Lib.hid ((Below.refl w.heap.size w).alloc (Nat.le_refl _) (.cells (varr 194 (cellR t)) 104))
  have hsz : (varr 194 (cellR t)).size = 194 := varr_size _ _
  have HSZ := Lib.hid hsz
  have HBEST := Lib.hid (fun w' => refBest_none w' t c h0 h1)
  unfold refPV at HBEST
  clear hsz h0 h1
  show Calls Tryz.prog 64 #[.agg (varr 194 (cellR t)), .int .i64 c] w _
  have HR : Hid ((w.alloc (.cells (varr 194 (cellR t)) 104)).heap[w.heap.size]? = some (.cells (varr 194 (cellR t)) 104 (0, 0))) := Lib.hid (heap_alloc_new w _)
  generalize varr 194 (cellR t) = row at *
  go_enter Tryz.func64, Tryz.ntmps64
  go_wp2_with (refine wpList_load_row rfl _ _ rfl w.heap.size rfl 104 _ _ _ HR.out Tryz.underlying104 rfl ?_ ?_; · exact size_refP.trans (by rw [HSZ.out]))
  refine (HBEST.out _).mono ?_
  rintro e w2 ⟨rfl, hb⟩
  have HB2 := Lib.hid (HB.out.trans (hb.mono HB.out.size))
  clear hb HBEST HR
  go_wp2_with fail
  go_quiet (fail)
  go_wp2
  go_ret
  exact ⟨rfl, ⟨HB2.out.os, HB2.out.tape, HB2.out.output, HB2.out.size, HB2.out.block⟩⟩
theorem refLine_any (w : World) (t : PS) (c : Int) : Calls Tryz.prog 64 #[refPV t, .int .i64 c] w fun e w' => e = .returned (.bool (lineT t c)) ∧ Below w.heap.size w w' := by
  by_cases h0 : c = 0
  · subst h0
    have e : lineT t 0 = lineC t 0 := by unfold lineT; rw [show isC 0 = true by decide, Bool.true_and]
    rw [e]; exact refLine_0 w t
  by_cases h1 : c = 1
  · subst h1
    have e : lineT t 1 = lineC t 1 := by unfold lineT; rw [show isC 1 = true by decide, Bool.true_and]
    rw [e]; exact refLine_1 w t
  have e : lineT t c = false := by unfold lineT; rw [isC_no h0 h1, Bool.false_and]
  rw [e]; exact refLine_none w t c h0 h1

/-! ### what is always so, stays so -/
end Go.Proofs.YtbcnkhfpogglmaaGreatDoor.P5

namespace Go.Proofs.YtbcnkhfpogglmaaGreatDoor.P5.In
open Go.RowKit
set_option linter.unusedVariables false
set_option maxRecDepth 100000
variable {fr : Fr 4}

/-- The document's plic t stands four cells behind the beginning of block b. -/
def RefP (fr : Fr 4) (w : World) (b : Nat) (t : PS) : Prop := w.heap[b]? = some (.cells (fr.all (varr 194 (cellR t))) fr.ty (0, 0))
theorem RefP.lt {w : World} {b : Nat} {t : PS} (h : RefP fr w b t) : b < w.heap.size := (Array.getElem?_eq_some_iff.1 h).1
theorem RefP.below {w w' : World} {b : Nat} {t : PS} (h : RefP fr w b t) (o : Below w.heap.size w w') : RefP fr w' b t := (o.block b h.lt).trans h
theorem RefP.keeps {w w' : World} {b : Nat} {t : PS} {T : Nat → Prop} (h : RefP fr w b t) (o : Only T w w') (hb : ¬ T b) : RefP fr w' b t := o.keeps hb h
theorem RefP.src {w : World} {b : Nat} {t : PS} (h : RefP fr w b t) {s j : Nat} (hs : s < 32) (hj : j < 6) : w.cell? ⟨b, 4 + s * 6 + j, none⟩ = some (srcCell t s j) := by
  rw [Nat.add_assoc, cell_of_row w b _ _ _ _ h, fr.get _ _ (by rw [varr_size]; omega), varr_get _ _ _ (by omega), cellR_src t hs hj]
theorem RefP.floor_ {w : World} {b : Nat} {t : PS} (h : RefP fr w b t) {c : Nat} (hc : c < 2) : w.cell? ⟨b, 196 + c, none⟩ = some (.int .u64 (t.floor c)) := by
  rw [show 196 + c = 4 + (192 + c) by omega, cell_of_row w b _ _ _ _ h, fr.get _ _ (by rw [varr_size]; omega), varr_get _ _ _ (by omega), cellR_floor]
theorem RefP.free {w : World} {b : Nat} {t : PS} (h : RefP fr w b t) (k : Nat) : w.frozen? ⟨b, k, none⟩ = false := frozen_of_row w b k _ _ h
/-- One cell of a source turned. -/
theorem RefP.set {w : World} {b : Nat} {t t' : PS} (h : RefP fr w b t) {s j : Nat} (v : Value) (hs : s < 32) (hj : j < 6) (he : ∀ s' j', s' < 32 → j' < 6 → srcCell t' s' j' = if s' = s ∧ j' = j then v else srcCell t s' j') (hf : t'.floor = t.floor) :
    RefP fr (w.setCell ⟨b, 4 + s * 6 + j, none⟩ v) b t' := by
  unfold RefP
  rw [Nat.add_assoc, heap_setCell_same w b _ _ _ _ h, fr.set _ _ _ (by rw [varr_size]; omega), varr_set]
  have e : (varr 194 fun i => if i = s * 6 + j then v else cellR t i) = varr 194 (cellR t') := varr_congr fun i hi => by
    by_cases h1 : i < 192
    · have h2 : i = i / 6 * 6 + i % 6 := by omega
      have e1 : cellR t' i = srcCell t' (i / 6) (i % 6) := by unfold cellR; rw [if_pos h1]
      have e2 : cellR t i = srcCell t (i / 6) (i % 6) := by unfold cellR; rw [if_pos h1]
      rw [e1, e2, he _ _ (by omega) (by omega)]
      by_cases c : i = s * 6 + j
      · rw [if_pos c, if_pos ⟨by omega, by omega⟩]
      · rw [if_neg c, if_neg (by omega)]
    · rw [if_neg (by omega)]
      unfold cellR
      rw [if_neg h1, if_neg h1, hf]
  rw [e]
theorem RefP.floorS {w : World} {b : Nat} {t : PS} (h : RefP fr w b t) {c : Nat} (v : Int) (hc : c < 2) : RefP fr (w.setCell ⟨b, 196 + c, none⟩ (.int .u64 v)) b (floorT t c v) := by
  unfold RefP
  rw [show 196 + c = 4 + (192 + c) by omega, heap_setCell_same w b _ _ _ _ h, fr.set _ _ _ (by rw [varr_size]; omega), varr_set]
  have e : (varr 194 fun i => if i = 192 + c then .int .u64 v else cellR t i) = varr 194 (cellR (floorT t c v)) := varr_congr fun i hi => by
    unfold cellR
    by_cases h1 : i < 192
    · rw [if_neg (by omega), if_pos h1, if_pos h1]; rfl
    · rw [if_neg h1, if_neg h1]
      by_cases e : i = 192 + c
      · rw [if_pos e, floorT_at, if_pos (by omega)]
      · rw [if_neg e, floorT_at, if_neg (by omega)]
  rw [e]

def SetP (fr : Fr 4) (w : World) (b : Nat) (t' : PS) (e : Ending) (w' : World) : Prop := (∃ u, e = .returned u) ∧ Only (fun i => i = b) w w' ∧ RefP fr w' b t'
set_option maxHeartbeats 1000000 in
theorem refLook_any (w : World) (b : Nat) (t : PS) (s : Nat) (h : RefP fr w b t) (hs : s < 32) :
    Calls Tryz.prog 134 #[.pointer (some ⟨b, 4, none⟩), .int .i64 s] w (SetP fr w b (lookP t s)) := by
  have c1 : w.cell? ⟨b, 4 + s * 6 + 1, none⟩ = some (.bool (t.up s)) := h.src hs (by omega)
  have c2 : w.cell? ⟨b, 4 + s * 6 + 2, none⟩ = some (.bool (t.pend s)) := h.src hs (by omega)
  have c3 : w.cell? ⟨b, 4 + s * 6 + 3, none⟩ = some (.bool (t.busy s)) := h.src hs (by omega)
  have f2 := h.free (4 + s * 6 + 2)
  have i1 : (s : Int) < 32 := by omega
  have H := Lib.hid h
  clear h
  unfold lookP
  generalize hu : t.up s = u at *
  generalize hb : t.busy s = v at *
  clear hu hb
  cases u <;> cases v
  all_goals
    go_enter Tryz.func134, Tryz.ntmps134
    go_wp2
    go_end0
    first
      | exact ⟨⟨_, rfl⟩, Only.refl _ _, H.out⟩
      | exact ⟨⟨_, rfl⟩, (Only.refl (fun i => i = b) w).setCell (p := ⟨b, 4 + s * 6 + 2, none⟩) (.inl rfl) _, H.out.set _ hs (by omega) (fun s' j' _ _ => by
          by_cases c : s' = s ∧ j' = 2
          · obtain ⟨rfl, rfl⟩ := c; rw [if_pos ⟨rfl, rfl⟩]; simp [srcCell, upd_same]
          · rw [if_neg c]; match j' with
            | 0 => rfl
            | 1 => rfl
            | 2 => simp [srcCell, upd_other _ _ (fun e : s' = s => c ⟨e, rfl⟩)]
            | 3 => rfl
            | 4 => rfl
            | _ + 5 => rfl) rfl⟩
theorem RefP.upS {w : World} {b : Nat} {t : PS} (h : RefP fr w b t) {s : Nat} (u : Bool) (hs : s < 32) : RefP fr (w.setCell ⟨b, 4 + s * 6 + 1, none⟩ (.bool u)) b (upP t s u) :=
  h.set _ hs (by omega) (fun s' j' _ _ => by
    by_cases c : s' = s ∧ j' = 1
    · obtain ⟨rfl, rfl⟩ := c; rw [if_pos ⟨rfl, rfl⟩]; simp [srcCell, upP, upd_same]
    · rw [if_neg c]; match j' with
      | 0 => rfl
      | 1 => simp [srcCell, upP, upd_other _ _ (fun e : s' = s => c ⟨e, rfl⟩)]
      | 2 => rfl
      | 3 => rfl
      | 4 => rfl
      | _ + 5 => rfl) rfl
def RefPEnd (fr : Fr 4) (w : World) (b : Nat) (r : Value) (t' : PS) (e : Ending) (w' : World) : Prop := e = .returned r ∧ Only (fun i => i = b) w w' ∧ RefP fr w' b t'
set_option maxHeartbeats 1000000 in
theorem refLevel_any (w : World) (b : Nat) (t : PS) (s : Int) (u : Bool) (h : RefP fr w b t) :
    Calls Tryz.prog 108 #[.pointer (some ⟨b, 4, none⟩), .int .i64 s, .bool u] w (RefPEnd fr w b (.bool (isS s)) (levelP t s u)) := by
  cases hs : isS s with
  | false =>
    have HE : Hid (RefPEnd fr w b (.bool false) (levelP t s u) (.returned (.bool false)) w) := by
      refine Lib.hid ⟨rfl, Only.refl _ _, ?_⟩
      unfold levelP; rw [hs, if_neg (by simp)]; exact h
    have HS := Lib.hid hs
    clear h hs
    go_enter Tryz.func108, Tryz.ntmps108
    go_wp2_with fail
    refine (refIs_any _ _).mono ?_
    rintro e w' ⟨rfl, rfl⟩
    rw [HS.out]
    go_wp2
    go_ret
    exact HE.out
  | true =>
    obtain ⟨k, rfl, hk1, hk2⟩ := isS_nat hs
    have HS := Lib.hid hs
    have c1 : w.cell? ⟨b, 4 + k * 6 + 1, none⟩ = some (.bool (t.up k)) := h.src hk2 (by omega)
    have f1 := h.free (4 + k * 6 + 1)
    have i1 : (k : Int) < 32 := by omega
    have H := Lib.hid (h.upS u hk2)
    have HL : Hid (levelP t (k : Int) u = lookP (upP t k u) k) := by
      refine Lib.hid ?_
      unfold levelP; rw [hs, if_pos rfl]; rfl
    have HO := Lib.hid ((Only.refl (fun i => i = b) w).setCell (p := ⟨b, 4 + k * 6 + 1, none⟩) (.inl rfl) (.bool u))
    clear h hs
    rw [HL.out]
    go_enter Tryz.func108, Tryz.ntmps108
    go_wp2_with fail
    refine (refIs_any _ _).mono ?_
    rintro e w' ⟨rfl, rfl⟩
    rw [HS.out]
    go_wp2_with fail
    refine (refLook_any _ b _ k H.out hk2).mono ?_
    rintro e w' ⟨hu, ho, hp⟩
    obtain ⟨v, rfl⟩ := hu
    have HO2 := Lib.hid (HO.out.trans ho)
    have HP := Lib.hid hp
    clear ho hp
    go_wp2
    go_ret
    exact ⟨rfl, HO2.out, HP.out⟩
theorem refRead_len (w : World) (b : Nat) (off n : Int) (hn : ¬ n = 4) : Calls Tryz.prog 104 #[.pointer (some ⟨b, 4, none⟩), .int .u64 off, .int .i64 n] w (TellsP w 0 false) := by
  have e4 : (n != 4) = true := by simpa using hn
  clear hn
  go_enter Tryz.func104, Tryz.ntmps104
  go_wp2
  go_ret2
  exact ⟨rfl, rfl⟩
set_option maxHeartbeats 2000000 in
theorem refRead_pend (w : World) (b : Nat) (t : PS) (h : RefP fr w b t) : Calls Tryz.prog 104 #[.pointer (some ⟨b, 4, none⟩), .int .u64 4096, .int .i64 4] w (TellsP w (bits32 t.pend) true) := by
  have H := Lib.hid h
  clear h
  go_enter Tryz.func104, Tryz.ntmps104
  go_wp2
  go_loop [8, 9] (fun x i => ∃ (k : Nat) (y : Int), k ≤ 32 ∧ i = .int .i64 ((k : Int) - 1) ∧ x = .int .u64 y ∧ Hid (y = bitsN t.pend (32 - k))) (fun _ i => (intOf i + 1).toNat)
  case atStart => exact ⟨32, 0, Nat.le_refl _, rfl, rfl, Lib.hid rfl⟩
  case round =>
    obtain ⟨k, y, hk, rfl, rfl, HY⟩ := hrel
    have hbd := bitsN_bd t.pend (32 - k)
    have hy0 : 0 ≤ y := by rw [HY.out]; exact hbd.1
    have hy1 : y < 2147483648 ∨ k = 0 := by
      by_cases k0 : k = 0
      · exact .inr k0
      · left
        rw [HY.out]
        refine Int.lt_of_lt_of_le hbd.2 ?_
        have := two_pow_le (show 32 - k ≤ 31 by omega)
        exact Int.le_trans this (by decide)
    clear hbd
    by_cases hk1 : 1 ≤ k
    · obtain ⟨j, rfl⟩ : ∃ j, k = j + 1 := ⟨k - 1, by omega⟩
      have hy2 : y < 2147483648 := by omega
      have hwy : IntKind.u64.wrap (2 * y) = 2 * y := by rw [IntKind.wrap_u64]; omega
      have hwy2 : IntKind.u64.wrap (2 * y + 1) = 2 * y + 1 := by rw [IntKind.wrap_u64]; omega
      have c2 : w.cell? ⟨b, 4 + j * 6 + 2, none⟩ = some (.bool (t.pend j)) := H.out.src (by omega) (by omega)
      have i1 : (j : Int) < 32 := by omega
      have HE := Lib.hid (bitsN_even (f := t.pend) (n := 31 - j))
      have HO := Lib.hid (bitsN_odd (f := t.pend) (n := 31 - j))
      cases hp : t.pend j with
      | false =>
        rw [hp] at c2
        have HN : Hid (2 * y = bitsN t.pend (32 - j)) := by
          refine Lib.hid ?_
          have := HE.out (by rw [show 31 - (31 - j) = j by omega]; exact hp)
          rw [show 32 - j = 31 - j + 1 by omega, this, HY.out, show 32 - (j + 1) = 31 - j by omega]
        clear hp hy1
        go_wp2
        go_round
        case rel => exact ⟨j, 2 * y, by omega, by go_num, rfl, HN⟩
        case measure => simp [intOf]
      | true =>
        rw [hp] at c2
        have HN : Hid (2 * y + 1 = bitsN t.pend (32 - j)) := by
          refine Lib.hid ?_
          have := HO.out (by rw [show 31 - (31 - j) = j by omega]; exact hp)
          rw [show 32 - j = 31 - j + 1 by omega, this, HY.out, show 32 - (j + 1) = 31 - j by omega]
        clear hp hy1
        go_wp2
        go_round
        case rel => exact ⟨j, 2 * y + 1, by omega, by go_num, rfl, HN⟩
        case measure => simp [intOf]
    · obtain rfl : k = 0 := by omega
      have HF : Hid (y = bits32 t.pend) := Lib.hid HY.out
      clear hy1
      go_wp2
      go_ret2
      exact ⟨by rw [← HF.out]; rfl, rfl⟩
theorem refRead_prio (w : World) (b : Nat) (t : PS) (h : RefP fr w b t) (k : Nat) (hk : k < 32) (off : Int) (ho : off = 4 * (k : Int)) :
    Calls Tryz.prog 104 #[.pointer (some ⟨b, 4, none⟩), .int .u64 off, .int .i64 4] w (TellsP w (t.prio k) true) := by
  have c0 : w.cell? ⟨b, 4 + k * 6, none⟩ = some (.int .u64 (t.prio k)) := h.src (s := k) (j := 0) hk (by omega)
  have h0 : 0 ≤ off := by omega
  have h1 : off < 128 := by omega
  have h2 : (off % 4 == 0) = true := by rw [beq_iff_eq]; omega
  have h4 : IntKind.u64.wrap (off.tdiv 4) = (k : Int) := by rw [Int.tdiv_eq_ediv_of_nonneg h0, IntKind.wrap_u64]; omega
  have i1 : (k : Int) < 32 := by omega
  clear ho h
  go_enter Tryz.func104, Tryz.ntmps104
  go_wp2
  go_ret2
  exact ⟨rfl, rfl⟩
set_option maxRecDepth 100000 in
set_option maxHeartbeats 1000000 in
theorem refRead_floor0 (w : World) (b : Nat) (t : PS) (h : RefP fr w b t) :
    Calls Tryz.prog 104 #[.pointer (some ⟨b, 4, none⟩), .int .u64 2097152, .int .i64 4] w (TellsP w (t.floor 0) true) := by
  have c0 : w.cell? ⟨b, 196, none⟩ = some (.int .u64 (t.floor 0)) := h.floor_ (c := 0) (by omega)
  clear h
  go_enter Tryz.func104, Tryz.ntmps104
  go_wp2
  go_loop [10] (fun i => i = .int .i64 0) (fun _ => 0)
  case atStart => rfl
  case round =>
    obtain rfl := hrel
    go_wp2
    go_ret2
    exact ⟨rfl, rfl⟩
set_option maxRecDepth 100000 in
set_option maxHeartbeats 1000000 in
theorem refRead_floor1 (w : World) (b : Nat) (t : PS) (h : RefP fr w b t) :
    Calls Tryz.prog 104 #[.pointer (some ⟨b, 4, none⟩), .int .u64 2101248, .int .i64 4] w (TellsP w (t.floor 1) true) := by
  have c0 : w.cell? ⟨b, 197, none⟩ = some (.int .u64 (t.floor 1)) := h.floor_ (c := 1) (by omega)
  clear h
  go_enter Tryz.func104, Tryz.ntmps104
  go_wp2
  go_loop [10] (fun i => i = .int .i64 0 ∨ i = .int .i64 1) (fun i => (1 - intOf i).toNat)
  case atStart => exact .inl rfl
  case round =>
    rcases hrel with rfl | rfl
    · go_wp2
      exact ⟨.inr rfl, by simp [intOf]⟩
    · go_wp2
      go_ret2
      exact ⟨rfl, rfl⟩
set_option maxRecDepth 100000 in
set_option maxHeartbeats 2000000 in
theorem refRead_no (w : World) (b : Nat) (off : Int) (hn : NoPlic off) (h0 : 0 ≤ off) :
    Calls Tryz.prog 104 #[.pointer (some ⟨b, 4, none⟩), .int .u64 off, .int .i64 4] w (TellsP w 0 false) := by
  have hp := hn.prio
  have e1 := neB hn.pend
  have e2 := neB hn.on0
  have e3 := neB hn.on1
  have e4 := neB hn.fl0
  have e5 := neB hn.fl1
  have e6 := neB hn.cl0
  have e7 := neB hn.cl1
  clear hn
  by_cases h1 : off < 128
  · have h2 : (off % 4 == 0) = false := by simp; omega
    clear hp
    go_enter Tryz.func104, Tryz.ntmps104
    go_wp2
    go_loop [10] (fun i => i = .int .i64 0 ∨ i = .int .i64 1 ∨ i = .int .i64 2) (fun i => (2 - intOf i).toNat)
    case atStart => exact .inl rfl
    case round =>
      rcases hrel with rfl | rfl | rfl
      · go_wp2
        exact ⟨.inr (.inl rfl), by simp [intOf]⟩
      · go_wp2
        exact ⟨.inr (.inr rfl), by simp [intOf]⟩
      · go_wp2
        go_ret2
        exact ⟨rfl, rfl⟩
  · have h2 : decide (off < 128) = false := decide_eq_false h1
    clear hp
    go_enter Tryz.func104, Tryz.ntmps104
    go_wp2
    go_loop [10] (fun i => i = .int .i64 0 ∨ i = .int .i64 1 ∨ i = .int .i64 2) (fun i => (2 - intOf i).toNat)
    case atStart => exact .inl rfl
    case round =>
      rcases hrel with rfl | rfl | rfl
      · go_wp2
        exact ⟨.inr (.inl rfl), by simp [intOf]⟩
      · go_wp2
        exact ⟨.inr (.inr rfl), by simp [intOf]⟩
      · go_wp2
        go_ret2
        exact ⟨rfl, rfl⟩
set_option maxRecDepth 100000 in
set_option maxHeartbeats 2000000 in
theorem refRead_on0 (w : World) (b : Nat) (t : PS) (h : RefP fr w b t) : Calls Tryz.prog 104 #[.pointer (some ⟨b, 4, none⟩), .int .u64 8192, .int .i64 4] w (TellsP w (bits32 fun s => t.on s 0) true) := by
  have H := Lib.hid h
  clear h
  go_enter Tryz.func104, Tryz.ntmps104
  go_wp2
  go_loop [10] (fun i => i = .int .i64 0) (fun _ => 0)
  case atStart => rfl
  case round =>
    obtain rfl := hrel
    go_wp2
    go_loop [12, 13] (fun x i => ∃ (k : Nat) (y : Int), k ≤ 32 ∧ i = .int .i64 ((k : Int) - 1) ∧ x = .int .u64 y ∧ Hid (y = bitsN (fun s => t.on s 0) (32 - k))) (fun _ i => (intOf i + 1).toNat)
    case atStart => exact ⟨32, 0, Nat.le_refl _, rfl, rfl, Lib.hid rfl⟩
    case round =>
      obtain ⟨k, y, hk, rfl, rfl, HY⟩ := hrel
      have hbd := bitsN_bd (fun s => t.on s 0) (32 - k)
      have hy0 : 0 ≤ y := by rw [HY.out]; exact hbd.1
      have hy1 : y < 2147483648 ∨ k = 0 := by
        by_cases k0 : k = 0
        · exact .inr k0
        · left
          rw [HY.out]
          refine Int.lt_of_lt_of_le hbd.2 ?_
          have := two_pow_le (show 32 - k ≤ 31 by omega)
          exact Int.le_trans this (by decide)
      clear hbd
      by_cases hk1 : 1 ≤ k
      · obtain ⟨j, rfl⟩ : ∃ j, k = j + 1 := ⟨k - 1, by omega⟩
        have hy2 : y < 2147483648 := by omega
        have hwy : IntKind.u64.wrap (2 * y) = 2 * y := by rw [IntKind.wrap_u64]; omega
        have hwy2 : IntKind.u64.wrap (2 * y + 1) = 2 * y + 1 := by rw [IntKind.wrap_u64]; omega
        have c2 : w.cell? ⟨b, 4 + j * 6 + 4, none⟩ = some (.bool (t.on j 0)) := H.out.src (s := j) (j := 4) (by omega) (by omega)
        have i1 : (j : Int) < 32 := by omega
        have HE := Lib.hid (bitsN_even (f := (fun s => t.on s 0)) (n := 31 - j))
        have HO := Lib.hid (bitsN_odd (f := (fun s => t.on s 0)) (n := 31 - j))
        cases hp : t.on j 0 with
        | false =>
          rw [hp] at c2
          have HN : Hid (2 * y = bitsN (fun s => t.on s 0) (32 - j)) := by
            refine Lib.hid ?_
            have := HE.out (by rw [show 31 - (31 - j) = j by omega]; exact hp)
            rw [show 32 - j = 31 - j + 1 by omega, this, HY.out, show 32 - (j + 1) = 31 - j by omega]
          clear hp hy1
          go_wp2
          go_round
          case rel => exact ⟨j, 2 * y, by omega, by go_num, rfl, HN⟩
          case measure => simp [intOf]
        | true =>
          rw [hp] at c2
          have HN : Hid (2 * y + 1 = bitsN (fun s => t.on s 0) (32 - j)) := by
            refine Lib.hid ?_
            have := HO.out (by rw [show 31 - (31 - j) = j by omega]; exact hp)
            rw [show 32 - j = 31 - j + 1 by omega, this, HY.out, show 32 - (j + 1) = 31 - j by omega]
          clear hp hy1
          go_wp2
          go_round
          case rel => exact ⟨j, 2 * y + 1, by omega, by go_num, rfl, HN⟩
          case measure => simp [intOf]
      · obtain rfl : k = 0 := by omega
        have HF : Hid (y = bits32 (fun s => t.on s 0)) := Lib.hid HY.out
        clear hy1
        go_wp2
        go_ret2
        exact ⟨by rw [← HF.out]; rfl, rfl⟩
set_option maxRecDepth 100000 in
set_option maxHeartbeats 2000000 in
theorem refRead_on1 (w : World) (b : Nat) (t : PS) (h : RefP fr w b t) : Calls Tryz.prog 104 #[.pointer (some ⟨b, 4, none⟩), .int .u64 8320, .int .i64 4] w (TellsP w (bits32 fun s => t.on s 1) true) := by
  have H := Lib.hid h
  clear h
  go_enter Tryz.func104, Tryz.ntmps104
  go_wp2
  go_loop [10] (fun i => i = .int .i64 0 ∨ i = .int .i64 1) (fun i => (1 - intOf i).toNat)
  case atStart => exact .inl rfl
  case round =>
    rcases hrel with rfl | rfl
    · go_wp2
      exact ⟨.inr rfl, by simp [intOf]⟩
    go_wp2
    go_loop [12, 13] (fun x i => ∃ (k : Nat) (y : Int), k ≤ 32 ∧ i = .int .i64 ((k : Int) - 1) ∧ x = .int .u64 y ∧ Hid (y = bitsN (fun s => t.on s 1) (32 - k))) (fun _ i => (intOf i + 1).toNat)
    case atStart => exact ⟨32, 0, Nat.le_refl _, rfl, rfl, Lib.hid rfl⟩
    case round =>
      obtain ⟨k, y, hk, rfl, rfl, HY⟩ := hrel
      have hbd := bitsN_bd (fun s => t.on s 1) (32 - k)
      have hy0 : 0 ≤ y := by rw [HY.out]; exact hbd.1
      have hy1 : y < 2147483648 ∨ k = 0 := by
        by_cases k0 : k = 0
        · exact .inr k0
        · left
          rw [HY.out]
          refine Int.lt_of_lt_of_le hbd.2 ?_
          have := two_pow_le (show 32 - k ≤ 31 by omega)
          exact Int.le_trans this (by decide)
      clear hbd
      by_cases hk1 : 1 ≤ k
      · obtain ⟨j, rfl⟩ : ∃ j, k = j + 1 := ⟨k - 1, by omega⟩
        have hy2 : y < 2147483648 := by omega
        have hwy : IntKind.u64.wrap (2 * y) = 2 * y := by rw [IntKind.wrap_u64]; omega
        have hwy2 : IntKind.u64.wrap (2 * y + 1) = 2 * y + 1 := by rw [IntKind.wrap_u64]; omega
        have c2 : w.cell? ⟨b, 4 + j * 6 + 4 + 1, none⟩ = some (.bool (t.on j 1)) := H.out.src (s := j) (j := 5) (by omega) (by omega)
        have i1 : (j : Int) < 32 := by omega
        have HE := Lib.hid (bitsN_even (f := (fun s => t.on s 1)) (n := 31 - j))
        have HO := Lib.hid (bitsN_odd (f := (fun s => t.on s 1)) (n := 31 - j))
        cases hp : t.on j 1 with
        | false =>
          rw [hp] at c2
          have HN : Hid (2 * y = bitsN (fun s => t.on s 1) (32 - j)) := by
            refine Lib.hid ?_
            have := HE.out (by rw [show 31 - (31 - j) = j by omega]; exact hp)
            rw [show 32 - j = 31 - j + 1 by omega, this, HY.out, show 32 - (j + 1) = 31 - j by omega]
          clear hp hy1
          go_wp2
          go_round
          case rel => exact ⟨j, 2 * y, by omega, by go_num, rfl, HN⟩
          case measure => simp [intOf]
        | true =>
          rw [hp] at c2
          have HN : Hid (2 * y + 1 = bitsN (fun s => t.on s 1) (32 - j)) := by
            refine Lib.hid ?_
            have := HO.out (by rw [show 31 - (31 - j) = j by omega]; exact hp)
            rw [show 32 - j = 31 - j + 1 by omega, this, HY.out, show 32 - (j + 1) = 31 - j by omega]
          clear hp hy1
          go_wp2
          go_round
          case rel => exact ⟨j, 2 * y + 1, by omega, by go_num, rfl, HN⟩
          case measure => simp [intOf]
      · obtain rfl : k = 0 := by omega
        have HF : Hid (y = bits32 (fun s => t.on s 1)) := Lib.hid HY.out
        clear hy1
        go_wp2
        go_ret2
        exact ⟨by rw [← HF.out]; rfl, rfl⟩
theorem RefP.unpend {w : World} {b : Nat} {t : PS} (h : RefP fr w b t) {s : Nat} (hs : s < 32) : RefP fr (w.setCell ⟨b, 4 + s * 6 + 2, none⟩ (.bool false)) b (unpendP t s) :=
  h.set _ hs (by omega) (fun s' j' _ _ => by
    by_cases c : s' = s ∧ j' = 2
    · obtain ⟨rfl, rfl⟩ := c; rw [if_pos ⟨rfl, rfl⟩]; simp [srcCell, unpendP, upd_same]
    · rw [if_neg c]; match j' with
      | 0 => rfl
      | 1 => rfl
      | 2 => simp [srcCell, unpendP, upd_other _ _ (fun e : s' = s => c ⟨e, rfl⟩)]
      | 3 => rfl
      | 4 => rfl
      | _ + 5 => rfl) rfl
theorem RefP.claim {w : World} {b : Nat} {t : PS} {s : Nat} (h : RefP fr w b (unpendP t s)) (hs : s < 32) : RefP fr (w.setCell ⟨b, 4 + s * 6 + 3, none⟩ (.bool true)) b (claimP t s) :=
  h.set _ hs (by omega) (fun s' j' _ _ => by
    by_cases c : s' = s ∧ j' = 3
    · obtain ⟨rfl, rfl⟩ := c; rw [if_pos ⟨rfl, rfl⟩]; simp [srcCell, claimP, upd_same]
    · rw [if_neg c]; match j' with
      | 0 => rfl
      | 1 => rfl
      | 2 => rfl
      | 3 => simp [srcCell, claimP, unpendP, upd_other _ _ (fun e : s' = s => c ⟨e, rfl⟩)]
      | 4 => rfl
      | _ + 5 => rfl) rfl
set_option maxRecDepth 100000 in
set_option maxHeartbeats 2000000 in
theorem refRead_claim0 (w : World) (b : Nat) (t : PS) (h : RefP fr w b t) (k : Nat) (hk0 : bestC t 0 = k) : Calls Tryz.prog 104 #[.pointer (some ⟨b, 4, none⟩), .int .u64 2097156, .int .i64 4] w (RefPEnd fr w b (.tuple #[.int .u64 k, .bool true]) (claimed t k)) := by
  have H := Lib.hid h
  have HSZ : Hid ((varr 194 (cellR t)).size = 194) := Lib.hid (varr_size _ _)
  have hbest := fun w' => refBest_any w' t 0
  rw [hk0] at hbest
  unfold refPV at hbest
  have HBEST := Lib.hid hbest
  clear hbest
  have HR : Hid (w.rangeAt b 4 (varr 194 (cellR t)).toList) := Lib.hid (fr.range h)
  have hle : k ≤ 31 := by rw [← hk0]; exact bestC_le t 0
  clear h hk0
  generalize varr 194 (cellR t) = row at *
  go_enter Tryz.func104, Tryz.ntmps104
  go_wp2
  go_loop [10] (fun i => i = .int .i64 0) (fun _ => 0)
  case atStart => rfl
  case round =>
    obtain rfl := hrel
    go_wp2_with (refine wpList_load_fr rfl _ _ rfl b 4 rfl _ _ HR.out Tryz.underlying104 rfl ?_ ?_; · exact size_refP.trans (by rw [HSZ.out]))
    refine (HBEST.out _).mono ?_
    rintro e w2 ⟨rfl, hb⟩
    have HB2 := Lib.hid hb
    have HP := Lib.hid (H.out.below hb)
    clear hb HR HSZ HBEST
    by_cases k0 : k = 0
    · subst k0
      go_wp2
      go_ret2
      exact ⟨rfl, Only.of_below _ HB2.out, by unfold claimed; rw [if_pos rfl]; exact HP.out⟩
    · have hk : (0 : Int) < (k : Int) := by omega
      have ik : (k : Int) < 32 := by omega
      have hk2 : IntKind.u64.wrap (k : Int) = k := by rw [IntKind.wrap_u64]; omega
      have c2 : w2.cell? ⟨b, 4 + k * 6 + 2, none⟩ = some (.bool (t.pend k)) := HP.out.src (by omega) (by omega)
      have f2 := HP.out.free (4 + k * 6 + 2)
      have H3 := HP.out.unpend (s := k) (by omega)
      have c3 : (w2.setCell ⟨b, 4 + k * 6 + 2, none⟩ (.bool false)).cell? ⟨b, 4 + k * 6 + 3, none⟩ = some (.bool (t.busy k)) := H3.src (s := k) (j := 3) (by omega) (by omega)
      have f3 := H3.free (4 + k * 6 + 3)
      have H4 := Lib.hid (H3.claim (by omega))
      have HC : Hid (claimed t k = claimP t k) := Lib.hid (by unfold claimed; rw [if_neg k0])
      clear H3
      go_wp2
      go_ret2
      refine ⟨rfl, ((Only.of_below (fun i => i = b) HB2.out).setCell (p := ⟨b, 4 + k * 6 + 2, none⟩) (.inl rfl) _).setCell (p := ⟨b, 4 + k * 6 + 3, none⟩) (.inl rfl) _, ?_⟩
      rw [HC.out]; exact H4.out
set_option maxRecDepth 100000 in
set_option maxHeartbeats 2000000 in
theorem refRead_claim1 (w : World) (b : Nat) (t : PS) (h : RefP fr w b t) (k : Nat) (hk0 : bestC t 1 = k) : Calls Tryz.prog 104 #[.pointer (some ⟨b, 4, none⟩), .int .u64 2101252, .int .i64 4] w (RefPEnd fr w b (.tuple #[.int .u64 k, .bool true]) (claimed t k)) := by
  have H := Lib.hid h
  have HSZ : Hid ((varr 194 (cellR t)).size = 194) := Lib.hid (varr_size _ _)
  have hbest := fun w' => refBest_any w' t 1
  rw [hk0] at hbest
  unfold refPV at hbest
  have HBEST := Lib.hid hbest
  clear hbest
  have HR : Hid (w.rangeAt b 4 (varr 194 (cellR t)).toList) := Lib.hid (fr.range h)
  have hle : k ≤ 31 := by rw [← hk0]; exact bestC_le t 1
  clear h hk0
  generalize varr 194 (cellR t) = row at *
  go_enter Tryz.func104, Tryz.ntmps104
  go_wp2
  go_loop [10] (fun i => i = .int .i64 0 ∨ i = .int .i64 1) (fun i => (1 - intOf i).toNat)
  case atStart => exact .inl rfl
  case round =>
    rcases hrel with rfl | rfl
    · go_wp2
      exact ⟨.inr rfl, by simp [intOf]⟩
    go_wp2_with (refine wpList_load_fr rfl _ _ rfl b 4 rfl _ _ HR.out Tryz.underlying104 rfl ?_ ?_; · exact size_refP.trans (by rw [HSZ.out]))
    refine (HBEST.out _).mono ?_
    rintro e w2 ⟨rfl, hb⟩
    have HB2 := Lib.hid hb
    have HP := Lib.hid (H.out.below hb)
    clear hb HR HSZ HBEST
    by_cases k0 : k = 0
    · subst k0
      go_wp2
      go_ret2
      exact ⟨rfl, Only.of_below _ HB2.out, by unfold claimed; rw [if_pos rfl]; exact HP.out⟩
    · have hk : (0 : Int) < (k : Int) := by omega
      have ik : (k : Int) < 32 := by omega
      have hk2 : IntKind.u64.wrap (k : Int) = k := by rw [IntKind.wrap_u64]; omega
      have c2 : w2.cell? ⟨b, 4 + k * 6 + 2, none⟩ = some (.bool (t.pend k)) := HP.out.src (by omega) (by omega)
      have f2 := HP.out.free (4 + k * 6 + 2)
      have H3 := HP.out.unpend (s := k) (by omega)
      have c3 : (w2.setCell ⟨b, 4 + k * 6 + 2, none⟩ (.bool false)).cell? ⟨b, 4 + k * 6 + 3, none⟩ = some (.bool (t.busy k)) := H3.src (s := k) (j := 3) (by omega) (by omega)
      have f3 := H3.free (4 + k * 6 + 3)
      have H4 := Lib.hid (H3.claim (by omega))
      have HC : Hid (claimed t k = claimP t k) := Lib.hid (by unfold claimed; rw [if_neg k0])
      clear H3
      go_wp2
      go_ret2
      refine ⟨rfl, ((Only.of_below (fun i => i = b) HB2.out).setCell (p := ⟨b, 4 + k * 6 + 2, none⟩) (.inl rfl) _).setCell (p := ⟨b, 4 + k * 6 + 3, none⟩) (.inl rfl) _, ?_⟩
      rw [HC.out]; exact H4.out
theorem RefP.congr {w : World} {b : Nat} {t t' : PS} (h : RefP fr w b t) (hs : ∀ s j, s < 32 → j < 6 → srcCell t s j = srcCell t' s j) (hf : ∀ c, c < 2 → t.floor c = t'.floor c) : RefP fr w b t' := by
  unfold RefP at *
  have e : varr 194 (cellR t) = varr 194 (cellR t') := varr_congr fun i hi => by
    unfold cellR
    by_cases h1 : i < 192
    · rw [if_pos h1, if_pos h1]; exact hs _ _ (by omega) (by omega)
    · rw [if_neg h1, if_neg h1, hf _ (by omega)]
  rw [← e]; exact h
theorem RefP.prioS {w : World} {b : Nat} {t : PS} (h : RefP fr w b t) {s : Nat} (v : Int) (hs : s < 32) : RefP fr (w.setCell ⟨b, 4 + s * 6, none⟩ (.int .u64 v)) b (prioT t s v) :=
  h.set (s := s) (j := 0) _ hs (by omega) (fun s' j' _ _ => by
    by_cases c : s' = s ∧ j' = 0
    · obtain ⟨rfl, rfl⟩ := c; rw [if_pos ⟨rfl, rfl⟩]; simp [srcCell, prioT, upd_same]
    · rw [if_neg c]; match j' with
      | 0 => simp [srcCell, prioT, upd_other _ _ (fun e : s' = s => c ⟨e, rfl⟩)]
      | 1 => rfl
      | 2 => rfl
      | 3 => rfl
      | 4 => rfl
      | _ + 5 => rfl) rfl
theorem RefP.idleS {w : World} {b : Nat} {t : PS} (h : RefP fr w b t) {s : Nat} (hs : s < 32) : RefP fr (w.setCell ⟨b, 4 + s * 6 + 3, none⟩ (.bool false)) b (idleP t s) :=
  h.set (s := s) (j := 3) _ hs (by omega) (fun s' j' _ _ => by
    by_cases c : s' = s ∧ j' = 3
    · obtain ⟨rfl, rfl⟩ := c; rw [if_pos ⟨rfl, rfl⟩]; simp [srcCell, idleP, upd_same]
    · rw [if_neg c]; match j' with
      | 0 => rfl
      | 1 => rfl
      | 2 => rfl
      | 3 => simp [srcCell, idleP, upd_other _ _ (fun e : s' = s => c ⟨e, rfl⟩)]
      | 4 => rfl
      | _ + 5 => rfl) rfl
theorem RefP.on0S {w : World} {b : Nat} {t : PS} {v : Int} {k : Nat} (h : RefP fr w b (onK t 0 v k)) (hk : k < 32) : RefP fr (w.setCell ⟨b, 4 + k * 6 + 4, none⟩ (.bool (onBits v k))) b (onK t 0 v (k + 1)) :=
  h.set (s := k) (j := 4) _ hk (by omega) (fun s' j' _ _ => by
    by_cases c : s' = k ∧ j' = 4
    · obtain ⟨rfl, rfl⟩ := c; rw [if_pos ⟨rfl, rfl⟩]; simp [srcCell, onK]
    · rw [if_neg c]; match j' with
      | 0 => rfl
      | 1 => rfl
      | 2 => rfl
      | 3 => rfl
      | 4 => (have n : ¬ s' = k := fun e => c ⟨e, rfl⟩); simp only [srcCell, onK, true_and]; congr 1; by_cases e : s' < k; rw [if_pos e, if_pos (by omega)]; rw [if_neg e, if_neg (by omega)]
      | _ + 5 => simp [srcCell, onK]) rfl
theorem RefP.on1S {w : World} {b : Nat} {t : PS} {v : Int} {k : Nat} (h : RefP fr w b (onK t 1 v k)) (hk : k < 32) : RefP fr (w.setCell ⟨b, 4 + k * 6 + 5, none⟩ (.bool (onBits v k))) b (onK t 1 v (k + 1)) :=
  h.set (s := k) (j := 5) _ hk (by omega) (fun s' j' _ hj => by
    by_cases c : s' = k ∧ j' = 5
    · obtain ⟨rfl, rfl⟩ := c; rw [if_pos ⟨rfl, rfl⟩]; simp [srcCell, onK]
    · rw [if_neg c]; match j' with
      | 0 => rfl
      | 1 => rfl
      | 2 => rfl
      | 3 => rfl
      | 4 => simp [srcCell, onK]
      | 5 => (have n : ¬ s' = k := fun e => c ⟨e, rfl⟩); simp only [srcCell, onK, true_and]; congr 1; by_cases e : s' < k; rw [if_pos e, if_pos (by omega)]; rw [if_neg e, if_neg (by omega)]
      | _ + 6 => omega) rfl
theorem RefP.onAll {w : World} {b : Nat} {t : PS} {c : Nat} {v : Int} (h : RefP fr w b (onK t c v 32)) : RefP fr w b (onT t c (onBits v)) :=
  h.congr (fun s j hs _ => by
    match j with
    | 0 => rfl
    | 1 => rfl
    | 2 => rfl
    | 3 => rfl
    | 4 => simp [srcCell, onK, onT, hs]
    | _ + 5 => simp [srcCell, onK, onT, hs]) (fun _ _ => rfl)
theorem RefP.onNone {w : World} {b : Nat} {t : PS} (c : Nat) (v : Int) (h : RefP fr w b t) : RefP fr w b (onK t c v 0) :=
  h.congr (fun s j hs _ => by
    match j with
    | 0 => rfl
    | 1 => rfl
    | 2 => rfl
    | 3 => rfl
    | 4 => simp [srcCell, onK]
    | _ + 5 => simp [srcCell, onK]) (fun _ _ => rfl)
theorem refWrite_len (w : World) (b : Nat) (off n v : Int) (hn : ¬ n = 4) : Calls Tryz.prog 99 #[.pointer (some ⟨b, 4, none⟩), .int .u64 off, .int .i64 n, .int .u64 v] w fun e w' => e = .returned (.bool false) ∧ w = w' := by
  have e4 : (n != 4) = true := by simpa using hn
  clear hn
  go_enter Tryz.func99, Tryz.ntmps99
  go_wp2
  go_ret
  exact ⟨rfl, rfl⟩
theorem refWrite_pend (w : World) (b : Nat) (v : Int) : Calls Tryz.prog 99 #[.pointer (some ⟨b, 4, none⟩), .int .u64 4096, .int .i64 4, .int .u64 v] w fun e w' => e = .returned (.bool true) ∧ w = w' := by
  go_enter Tryz.func99, Tryz.ntmps99
  go_wp2
  go_ret
  exact ⟨rfl, rfl⟩
theorem refWrite_prio0 (w : World) (b : Nat) (v : Int) : Calls Tryz.prog 99 #[.pointer (some ⟨b, 4, none⟩), .int .u64 0, .int .i64 4, .int .u64 v] w fun e w' => e = .returned (.bool true) ∧ w = w' := by
  go_enter Tryz.func99, Tryz.ntmps99
  go_wp2
  go_ret
  exact ⟨rfl, rfl⟩
theorem refWrite_prio (w : World) (b : Nat) (t : PS) (h : RefP fr w b t) (k : Nat) (hk0 : 1 ≤ k) (hk : k < 32) (off v : Int) (ho : off = 4 * (k : Int)) (hv : 0 ≤ v) :
    Calls Tryz.prog 99 #[.pointer (some ⟨b, 4, none⟩), .int .u64 off, .int .i64 4, .int .u64 v] w (RefPEnd fr w b (.bool true) (prioT t k (v % 8))) := by
  have c0 : w.cell? ⟨b, 4 + k * 6, none⟩ = some (.int .u64 (t.prio k)) := h.src (s := k) (j := 0) hk (by omega)
  have f0 := h.free (4 + k * 6)
  have H := Lib.hid (h.prioS (v % 8) hk)
  have h0 : 0 ≤ off := by omega
  have h00 : 0 < off := by omega
  have h1 : off < 128 := by omega
  have h2 : (off % 4 == 0) = true := by rw [beq_iff_eq]; omega
  have h4 : IntKind.u64.wrap (off.tdiv 4) = (k : Int) := by rw [Int.tdiv_eq_ediv_of_nonneg h0, IntKind.wrap_u64]; omega
  have i1 : (k : Int) < 32 := by omega
  clear ho h
  go_enter Tryz.func99, Tryz.ntmps99
  go_wp2
  go_ret
  exact ⟨rfl, (Only.refl (fun i => i = b) w).setCell (p := ⟨b, 4 + k * 6, none⟩) (.inl rfl) _, H.out⟩
set_option maxRecDepth 100000 in
set_option maxHeartbeats 1000000 in
theorem refWrite_floor0 (w : World) (b : Nat) (t : PS) (h : RefP fr w b t) (v : Int) (hv : 0 ≤ v) :
    Calls Tryz.prog 99 #[.pointer (some ⟨b, 4, none⟩), .int .u64 2097152, .int .i64 4, .int .u64 v] w (RefPEnd fr w b (.bool true) (floorT t 0 (v % 8))) := by
  have c0 : w.cell? ⟨b, 196, none⟩ = some (.int .u64 (t.floor 0)) := h.floor_ (c := 0) (by omega)
  have f0 := h.free 196
  have H := Lib.hid (h.floorS (c := 0) (v % 8) (by omega))
  clear h
  go_enter Tryz.func99, Tryz.ntmps99
  go_wp2
  go_loop [9] (fun i => i = .int .i64 0) (fun _ => 0)
  case atStart => exact rfl
  case round =>
    obtain rfl := hrel
    go_wp2
    go_ret
    exact ⟨rfl, (Only.refl (fun i => i = b) w).setCell (p := ⟨b, 196, none⟩) (.inl rfl) _, H.out⟩
set_option maxRecDepth 100000 in
set_option maxHeartbeats 1000000 in
theorem refWrite_floor1 (w : World) (b : Nat) (t : PS) (h : RefP fr w b t) (v : Int) (hv : 0 ≤ v) :
    Calls Tryz.prog 99 #[.pointer (some ⟨b, 4, none⟩), .int .u64 2101248, .int .i64 4, .int .u64 v] w (RefPEnd fr w b (.bool true) (floorT t 1 (v % 8))) := by
  have c0 : w.cell? ⟨b, 197, none⟩ = some (.int .u64 (t.floor 1)) := h.floor_ (c := 1) (by omega)
  have f0 := h.free 197
  have H := Lib.hid (h.floorS (c := 1) (v % 8) (by omega))
  clear h
  go_enter Tryz.func99, Tryz.ntmps99
  go_wp2
  go_loop [9] (fun i => i = .int .i64 0 ∨ i = .int .i64 1) (fun i => (1 - intOf i).toNat)
  case atStart => exact .inl rfl
  case round =>
    rcases hrel with rfl | rfl
    · go_wp2
      exact ⟨.inr rfl, by simp [intOf]⟩
    go_wp2
    go_ret
    exact ⟨rfl, (Only.refl (fun i => i = b) w).setCell (p := ⟨b, 197, none⟩) (.inl rfl) _, H.out⟩
set_option maxRecDepth 100000 in
set_option maxHeartbeats 4000000 in
theorem refWrite_on0 (w : World) (b : Nat) (t : PS) (h : RefP fr w b t) (v : Int) (hv : In64 v) :
    Calls Tryz.prog 99 #[.pointer (some ⟨b, 4, none⟩), .int .u64 8192, .int .i64 4, .int .u64 v] w (RefPEnd fr w b (.bool true) (onT t 0 (onBits v))) := by
  have H := Lib.hid h
  have HV := Lib.hid hv
  clear h hv
  go_enter Tryz.func99, Tryz.ntmps99
  go_wp2
  go_loop [9] (fun i => i = .int .i64 0) (fun _ => 0)
  case atStart => exact rfl
  case round =>
    obtain rfl := hrel
    go_wp2
    obtain ⟨wo, hwo⟩ : ∃ wo : World, wo = w := ⟨_, rfl⟩
    have HWO := Lib.hid hwo
    clear hwo
    go_loopw [11, 12] (fun x i wr => ∃ (k : Nat) (y : Int), k ≤ 32 ∧ i = .int .i64 k ∧ x = .int .u64 y ∧ Hid (y = v / 2 ^ k) ∧ RefP fr wr b (onK t 0 v k) ∧ Only (fun i => i = b) w wr) (fun _ i _ => (32 - intOf i).toNat)
    case atStart => exact ⟨0, v, by omega, rfl, rfl, Lib.hid (by simp), H.out.onNone 0 v, Only.refl _ _⟩
    case round =>
      obtain ⟨k, y, hk, rfl, rfl, HY, hR, hO⟩ := hrel
      have HO := Lib.hid hO
      have HR := Lib.hid hR
      by_cases hk1 : k < 32
      · have ck : wr.cell? ⟨b, 4 + k * 6 + 4, none⟩ = some (.bool ((onK t 0 v k).on k 0)) := hR.src (s := k) (j := 4) hk1 (by omega)
        have fk := hR.free (4 + k * 6 + 4)
        have i1 : (k : Int) < 32 := by omega
        have hn0 : 0 ≤ y := by rw [HY.out]; exact Int.ediv_nonneg HV.out.1 (Int.le_of_lt (Int.pow_pos (by decide)))
        have HWD : Hid (IntKind.u64.wrap (y.tdiv 2) = y / 2) := by
          refine Lib.hid ?_
          have h1 : y ≤ v := by rw [HY.out]; exact Int.ediv_le_self _ HV.out.1
          have h2 := HV.out.2
          rw [Int.tdiv_eq_ediv_of_nonneg hn0, IntKind.wrap_u64]; omega
        have HD : Hid (y / 2 = v / 2 ^ (k + 1)) := by
          refine Lib.hid ?_
          rw [HY.out, Int.pow_succ, Int.ediv_ediv_of_nonneg (Int.le_of_lt (Int.pow_pos (by decide)))]
        have HN := Lib.hid (hR.on0S hk1)
        have HO2 : Hid (∀ u, Only (fun i => i = b) w (wr.setCell ⟨b, 4 + k * 6 + 4, none⟩ u)) := Lib.hid fun u => hO.setCell (p := ⟨b, 4 + k * 6 + 4, none⟩) (.inl rfl) u
        by_cases hk0 : k = 0
        · have HB : Hid (onBits v k = false) := Lib.hid (by unfold onBits; rw [decide_eq_false (by omega), Bool.false_and])
          subst hk0
          rw [HB.out] at HN
          clear hR hO
          go_wp2
          go_roundw
          case rel => exact ⟨1, y / 2, by omega, rfl, by rw [HWD.out], HD, HN.out, HO2.out _⟩
          case measure => simp [intOf]
        · have HB : Hid (onBits v k = (y % 2 == 1)) := Lib.hid (by unfold onBits vbit; rw [decide_eq_true (by omega), Bool.true_and, HY.out])
          rw [HB.out] at HN
          have hk2 : (0 : Int) < (k : Int) := by omega
          have hk3 : 0 < k := by omega
          clear hR hO
          go_wp2
          go_roundw
          case rel => exact ⟨k + 1, y / 2, by omega, by go_num, by rw [HWD.out], HD, HN.out, HO2.out _⟩
          case measure => simp [intOf]; omega
      · obtain rfl : k = 32 := by omega
        have HF := Lib.hid hR.onAll
        clear hR hO
        go_wp2
        go_ret
        exact ⟨rfl, HO.out, HF.out⟩
set_option maxRecDepth 100000 in
set_option maxHeartbeats 4000000 in
theorem refWrite_on1 (w : World) (b : Nat) (t : PS) (h : RefP fr w b t) (v : Int) (hv : In64 v) :
    Calls Tryz.prog 99 #[.pointer (some ⟨b, 4, none⟩), .int .u64 8320, .int .i64 4, .int .u64 v] w (RefPEnd fr w b (.bool true) (onT t 1 (onBits v))) := by
  have H := Lib.hid h
  have HV := Lib.hid hv
  clear h hv
  go_enter Tryz.func99, Tryz.ntmps99
  go_wp2
  go_loop [9] (fun i => i = .int .i64 0 ∨ i = .int .i64 1) (fun i => (1 - intOf i).toNat)
  case atStart => exact .inl rfl
  case round =>
    rcases hrel with rfl | rfl
    · go_wp2
      exact ⟨.inr rfl, by simp [intOf]⟩
    go_wp2
    obtain ⟨wo, hwo⟩ : ∃ wo : World, wo = w := ⟨_, rfl⟩
    have HWO := Lib.hid hwo
    clear hwo
    go_loopw [11, 12] (fun x i wr => ∃ (k : Nat) (y : Int), k ≤ 32 ∧ i = .int .i64 k ∧ x = .int .u64 y ∧ Hid (y = v / 2 ^ k) ∧ RefP fr wr b (onK t 1 v k) ∧ Only (fun i => i = b) w wr) (fun _ i _ => (32 - intOf i).toNat)
    case atStart => exact ⟨0, v, by omega, rfl, rfl, Lib.hid (by simp), H.out.onNone 1 v, Only.refl _ _⟩
    case round =>
      obtain ⟨k, y, hk, rfl, rfl, HY, hR, hO⟩ := hrel
      have HO := Lib.hid hO
      have HR := Lib.hid hR
      by_cases hk1 : k < 32
      · have ck : wr.cell? ⟨b, 4 + k * 6 + 4 + 1, none⟩ = some (.bool ((onK t 1 v k).on k 1)) := hR.src (s := k) (j := 5) hk1 (by omega)
        have fk := hR.free (4 + k * 6 + 4 + 1)
        have i1 : (k : Int) < 32 := by omega
        have hn0 : 0 ≤ y := by rw [HY.out]; exact Int.ediv_nonneg HV.out.1 (Int.le_of_lt (Int.pow_pos (by decide)))
        have HWD : Hid (IntKind.u64.wrap (y.tdiv 2) = y / 2) := by
          refine Lib.hid ?_
          have h1 : y ≤ v := by rw [HY.out]; exact Int.ediv_le_self _ HV.out.1
          have h2 := HV.out.2
          rw [Int.tdiv_eq_ediv_of_nonneg hn0, IntKind.wrap_u64]; omega
        have HD : Hid (y / 2 = v / 2 ^ (k + 1)) := by
          refine Lib.hid ?_
          rw [HY.out, Int.pow_succ, Int.ediv_ediv_of_nonneg (Int.le_of_lt (Int.pow_pos (by decide)))]
        have HN := Lib.hid (hR.on1S hk1)
        have HO2 : Hid (∀ u, Only (fun i => i = b) w (wr.setCell ⟨b, 4 + k * 6 + 4 + 1, none⟩ u)) := Lib.hid fun u => hO.setCell (p := ⟨b, 4 + k * 6 + 4 + 1, none⟩) (.inl rfl) u
        by_cases hk0 : k = 0
        · have HB : Hid (onBits v k = false) := Lib.hid (by unfold onBits; rw [decide_eq_false (by omega), Bool.false_and])
          subst hk0
          rw [HB.out] at HN
          clear hR hO
          go_wp2
          go_roundw
          case rel => exact ⟨1, y / 2, by omega, rfl, by rw [HWD.out], HD, HN.out, HO2.out _⟩
          case measure => simp [intOf]
        · have HB : Hid (onBits v k = (y % 2 == 1)) := Lib.hid (by unfold onBits vbit; rw [decide_eq_true (by omega), Bool.true_and, HY.out])
          rw [HB.out] at HN
          have hk2 : (0 : Int) < (k : Int) := by omega
          have hk3 : 0 < k := by omega
          clear hR hO
          go_wp2
          go_roundw
          case rel => exact ⟨k + 1, y / 2, by omega, by go_num, by rw [HWD.out], HD, HN.out, HO2.out _⟩
          case measure => simp [intOf]; omega
      · obtain rfl : k = 32 := by omega
        have HF := Lib.hid hR.onAll
        clear hR hO
        go_wp2
        go_ret
        exact ⟨rfl, HO.out, HF.out⟩
set_option maxRecDepth 100000 in
set_option maxHeartbeats 4000000 in
theorem refWrite_done0 (w : World) (b : Nat) (t : PS) (h : RefP fr w b t) (v : Int) (x : Nat) (hv : 0 ≤ v) (hx0 : v % 4294967296 = (x : Int)) :
    Calls Tryz.prog 99 #[.pointer (some ⟨b, 4, none⟩), .int .u64 2097156, .int .i64 4, .int .u64 v] w (RefPEnd fr w b (.bool true) (doneT t 0 x)) := by
  have H := Lib.hid h
  clear h
  have HX := Lib.hid hx0
  clear hx0
  go_enter Tryz.func99, Tryz.ntmps99
  go_wp2
  go_loop [9] (fun i => i = .int .i64 0) (fun _ => 0)
  case atStart => exact rfl
  case round =>
    obtain rfl := hrel
    have hxe := HX.out
    by_cases hx1 : 1 ≤ x
    · have d1 : decide ((1 : Int) ≤ (x : Int)) = true := by rw [decide_eq_true_eq]; omega
      by_cases hx2 : x ≤ 31
      · have d2 : decide ((x : Int) ≤ 31) = true := by rw [decide_eq_true_eq]; omega
        have con : w.cell? ⟨b, 4 + x * 6 + 4, none⟩ = some (.bool (t.on x 0)) := H.out.src (s := x) (j := 4) (by omega) (by omega)
        have cbu : w.cell? ⟨b, 4 + x * 6 + 3, none⟩ = some (.bool (t.busy x)) := H.out.src (s := x) (j := 3) (by omega) (by omega)
        have i1 : (x : Int) < 32 := by omega
        have hw1 : IntKind.i64.wrap (x : Int) = x := IntWalk.i64_in _ (by omega)
        have HM : Hid (mayB t 0 x = (t.on x 0 && t.busy x)) := Lib.hid (by unfold mayB; rw [decide_eq_true hx1, decide_eq_true hx2]; rfl)
        have f3 := H.out.free (4 + x * 6 + 3)
        obtain ⟨p, hp⟩ : ∃ p, t.on x 0 = p := ⟨_, rfl⟩
        obtain ⟨q, hq⟩ : ∃ q, t.busy x = q := ⟨_, rfl⟩
        rw [hp] at con
        rw [hq] at cbu
        rw [hp, hq] at HM
        clear hp hq
        cases p with
        | false =>
          have HE : Hid (RefP fr w b (doneT t 0 x)) := Lib.hid (by unfold doneT; rw [HM.out, if_neg (by simp)]; exact H.out)
          go_wp2
          go_ret
          exact ⟨rfl, Only.refl _ _, HE.out⟩
        | true =>
        cases q with
        | false =>
          have HE : Hid (RefP fr w b (doneT t 0 x)) := Lib.hid (by unfold doneT; rw [HM.out, if_neg (by simp)]; exact H.out)
          go_wp2
          go_ret
          exact ⟨rfl, Only.refl _ _, HE.out⟩
        | true =>
          have HE : Hid (doneT t 0 x = lookP (idleP t x) x) := Lib.hid (by unfold doneT; rw [HM.out, if_pos (by rfl)])
          have h2 : Hid (RefP fr (w.setCell ⟨b, 4 + x * 6 + 3, none⟩ (.bool false)) b (idleP t x)) := Lib.hid (RefP.idleS (w := w) H.out (by omega))
          have ho : Hid (Only (fun i => i = b) w (w.setCell ⟨b, 4 + x * 6 + 3, none⟩ (.bool false))) := Lib.hid ((Only.refl (fun i => i = b) w).setCell (p := ⟨b, 4 + x * 6 + 3, none⟩) (.inl rfl) _)
          rw [HE.out]
          go_wp2_with fail
          refine (refLook_any _ b _ x h2.out (by omega)).mono ?_
          rintro e w' ⟨hu, ho2, hp⟩
          obtain ⟨u, rfl⟩ := hu
          have HO3 := Lib.hid (ho.out.trans ho2)
          have HP := Lib.hid hp
          clear ho2 hp
          go_wp2
          go_ret
          exact ⟨rfl, HO3.out, HP.out⟩
      · have d2 : decide ((x : Int) ≤ 31) = false := by rw [decide_eq_false_iff_not]; omega
        have HE : Hid (RefP fr w b (doneT t 0 x)) := Lib.hid (by unfold doneT mayB; rw [decide_eq_false hx2, if_neg (by simp)]; exact H.out)
        go_wp2
        go_ret
        exact ⟨rfl, Only.refl _ _, HE.out⟩
    · have d1 : decide ((1 : Int) ≤ (x : Int)) = false := by rw [decide_eq_false_iff_not]; omega
      have HE : Hid (RefP fr w b (doneT t 0 x)) := Lib.hid (by unfold doneT mayB; rw [decide_eq_false hx1, if_neg (by simp)]; exact H.out)
      go_wp2
      go_ret
      exact ⟨rfl, Only.refl _ _, HE.out⟩
set_option maxRecDepth 100000 in
set_option maxHeartbeats 4000000 in
theorem refWrite_done1 (w : World) (b : Nat) (t : PS) (h : RefP fr w b t) (v : Int) (x : Nat) (hv : 0 ≤ v) (hx0 : v % 4294967296 = (x : Int)) :
    Calls Tryz.prog 99 #[.pointer (some ⟨b, 4, none⟩), .int .u64 2101252, .int .i64 4, .int .u64 v] w (RefPEnd fr w b (.bool true) (doneT t 1 x)) := by
  have H := Lib.hid h
  clear h
  have HX := Lib.hid hx0
  clear hx0
  go_enter Tryz.func99, Tryz.ntmps99
  go_wp2
  go_loop [9] (fun i => i = .int .i64 0 ∨ i = .int .i64 1) (fun i => (1 - intOf i).toNat)
  case atStart => exact .inl rfl
  case round =>
    rcases hrel with rfl | rfl
    · go_wp2
      exact ⟨.inr rfl, by simp [intOf]⟩
    have hxe := HX.out
    by_cases hx1 : 1 ≤ x
    · have d1 : decide ((1 : Int) ≤ (x : Int)) = true := by rw [decide_eq_true_eq]; omega
      by_cases hx2 : x ≤ 31
      · have d2 : decide ((x : Int) ≤ 31) = true := by rw [decide_eq_true_eq]; omega
        have con : w.cell? ⟨b, 4 + x * 6 + 4 + 1, none⟩ = some (.bool (t.on x 1)) := H.out.src (s := x) (j := 5) (by omega) (by omega)
        have cbu : w.cell? ⟨b, 4 + x * 6 + 3, none⟩ = some (.bool (t.busy x)) := H.out.src (s := x) (j := 3) (by omega) (by omega)
        have i1 : (x : Int) < 32 := by omega
        have hw1 : IntKind.i64.wrap (x : Int) = x := IntWalk.i64_in _ (by omega)
        have HM : Hid (mayB t 1 x = (t.on x 1 && t.busy x)) := Lib.hid (by unfold mayB; rw [decide_eq_true hx1, decide_eq_true hx2]; rfl)
        have f3 := H.out.free (4 + x * 6 + 3)
        obtain ⟨p, hp⟩ : ∃ p, t.on x 1 = p := ⟨_, rfl⟩
        obtain ⟨q, hq⟩ : ∃ q, t.busy x = q := ⟨_, rfl⟩
        rw [hp] at con
        rw [hq] at cbu
        rw [hp, hq] at HM
        clear hp hq
        cases p with
        | false =>
          have HE : Hid (RefP fr w b (doneT t 1 x)) := Lib.hid (by unfold doneT; rw [HM.out, if_neg (by simp)]; exact H.out)
          go_wp2
          go_ret
          exact ⟨rfl, Only.refl _ _, HE.out⟩
        | true =>
        cases q with
        | false =>
          have HE : Hid (RefP fr w b (doneT t 1 x)) := Lib.hid (by unfold doneT; rw [HM.out, if_neg (by simp)]; exact H.out)
          go_wp2
          go_ret
          exact ⟨rfl, Only.refl _ _, HE.out⟩
        | true =>
          have HE : Hid (doneT t 1 x = lookP (idleP t x) x) := Lib.hid (by unfold doneT; rw [HM.out, if_pos (by rfl)])
          have h2 : Hid (RefP fr (w.setCell ⟨b, 4 + x * 6 + 3, none⟩ (.bool false)) b (idleP t x)) := Lib.hid (RefP.idleS (w := w) H.out (by omega))
          have ho : Hid (Only (fun i => i = b) w (w.setCell ⟨b, 4 + x * 6 + 3, none⟩ (.bool false))) := Lib.hid ((Only.refl (fun i => i = b) w).setCell (p := ⟨b, 4 + x * 6 + 3, none⟩) (.inl rfl) _)
          rw [HE.out]
          go_wp2_with fail
          refine (refLook_any _ b _ x h2.out (by omega)).mono ?_
          rintro e w' ⟨hu, ho2, hp⟩
          obtain ⟨u, rfl⟩ := hu
          have HO3 := Lib.hid (ho.out.trans ho2)
          have HP := Lib.hid hp
          clear ho2 hp
          go_wp2
          go_ret
          exact ⟨rfl, HO3.out, HP.out⟩
      · have d2 : decide ((x : Int) ≤ 31) = false := by rw [decide_eq_false_iff_not]; omega
        have HE : Hid (RefP fr w b (doneT t 1 x)) := Lib.hid (by unfold doneT mayB; rw [decide_eq_false hx2, if_neg (by simp)]; exact H.out)
        go_wp2
        go_ret
        exact ⟨rfl, Only.refl _ _, HE.out⟩
    · have d1 : decide ((1 : Int) ≤ (x : Int)) = false := by rw [decide_eq_false_iff_not]; omega
      have HE : Hid (RefP fr w b (doneT t 1 x)) := Lib.hid (by unfold doneT mayB; rw [decide_eq_false hx1, if_neg (by simp)]; exact H.out)
      go_wp2
      go_ret
      exact ⟨rfl, Only.refl _ _, HE.out⟩
set_option maxRecDepth 100000 in
set_option maxHeartbeats 2000000 in
theorem refWrite_no (w : World) (b : Nat) (off v : Int) (hn : NoPlic off) (h0 : 0 ≤ off) :
    Calls Tryz.prog 99 #[.pointer (some ⟨b, 4, none⟩), .int .u64 off, .int .i64 4, .int .u64 v] w fun e w' => e = .returned (.bool false) ∧ w = w' := by
  have hp := hn.prio
  have e1 := neB hn.pend
  have e2 := neB hn.on0
  have e3 := neB hn.on1
  have e4 := neB hn.fl0
  have e5 := neB hn.fl1
  have e6 := neB hn.cl0
  have e7 := neB hn.cl1
  clear hn
  by_cases h1 : off < 128
  · have h2 : (off % 4 == 0) = false := by simp; omega
    clear hp
    go_enter Tryz.func99, Tryz.ntmps99
    go_wp2
    go_loop [9] (fun i => i = .int .i64 0 ∨ i = .int .i64 1 ∨ i = .int .i64 2) (fun i => (2 - intOf i).toNat)
    case atStart => exact .inl rfl
    case round =>
      rcases hrel with rfl | rfl | rfl
      · go_wp2
        exact ⟨.inr (.inl rfl), by simp [intOf]⟩
      · go_wp2
        exact ⟨.inr (.inr rfl), by simp [intOf]⟩
      · go_wp2
        go_ret
        exact ⟨rfl, rfl⟩
  · have h2 : decide (off < 128) = false := decide_eq_false h1
    clear hp
    go_enter Tryz.func99, Tryz.ntmps99
    go_wp2
    go_loop [9] (fun i => i = .int .i64 0 ∨ i = .int .i64 1 ∨ i = .int .i64 2) (fun i => (2 - intOf i).toNat)
    case atStart => exact .inl rfl
    case round =>
      rcases hrel with rfl | rfl | rfl
      · go_wp2
        exact ⟨.inr (.inl rfl), by simp [intOf]⟩
      · go_wp2
        exact ⟨.inr (.inr rfl), by simp [intOf]⟩
      · go_wp2
        go_ret
        exact ⟨rfl, rfl⟩
theorem tells_end {w : World} {b : Nat} {t : PS} {x : Int} {r : Bool} (h : RefP fr w b t) {e : Ending} {w' : World} (k : TellsP w x r e w') : RefPEnd fr w b (.tuple #[.int .u64 x, .bool r]) t e w' := by
  obtain ⟨rfl, rfl⟩ := k
  exact ⟨rfl, Only.refl _ _, h⟩
theorem refRead_any (w : World) (b : Nat) (t : PS) (h : RefP fr w b t) (off n : Int) (ho : In64 off) :
    Calls Tryz.prog 104 #[.pointer (some ⟨b, 4, none⟩), .int .u64 off, .int .i64 n] w (RefPEnd fr w b (.tuple #[.int .u64 (rdX t (plcK off n)), .bool (okP (plcK off n))]) (rdT t (plcK off n))) := by
  rcases plc_cases off n ho.1 with ⟨rfl, k, hk, hk4, hp⟩ | ⟨rfl, rfl, hp⟩ | ⟨rfl, rfl, hp⟩ | ⟨rfl, rfl, hp⟩ | ⟨rfl, rfl, hp⟩ | ⟨rfl, rfl, hp⟩ | ⟨rfl, rfl, hp⟩ | ⟨rfl, rfl, hp⟩ | ⟨rfl, hn, hp⟩ | ⟨hn, hp⟩
  all_goals rw [hp]
  · exact (refRead_prio w b t h k hk off hk4).mono fun e w' k => tells_end h k
  · exact (refRead_pend w b t h).mono fun e w' k => tells_end h k
  · exact (refRead_on0 w b t h).mono fun e w' k => tells_end h k
  · exact (refRead_on1 w b t h).mono fun e w' k => tells_end h k
  · exact (refRead_floor0 w b t h).mono fun e w' k => tells_end h k
  · exact (refRead_floor1 w b t h).mono fun e w' k => tells_end h k
  · exact refRead_claim0 w b t h _ rfl
  · exact refRead_claim1 w b t h _ rfl
  · exact (refRead_no w b off hn ho.1).mono fun e w' k => tells_end h k
  · exact (refRead_len w b off n hn).mono fun e w' k => tells_end h k
theorem same_end {w : World} {b : Nat} {t : PS} {r : Value} (h : RefP fr w b t) {e : Ending} {w' : World} (k : e = .returned r ∧ w = w') : RefPEnd fr w b r t e w' := by
  obtain ⟨rfl, rfl⟩ := k
  exact ⟨rfl, Only.refl _ _, h⟩
theorem refWrite_any (w : World) (b : Nat) (t : PS) (h : RefP fr w b t) (off n v : Int) (ho : In64 off) (hv : In64 v) :
    Calls Tryz.prog 99 #[.pointer (some ⟨b, 4, none⟩), .int .u64 off, .int .i64 n, .int .u64 v] w (RefPEnd fr w b (.bool (okP (plcK off n))) (wrT t (plcK off n) v)) := by
  have hx1 := Int.emod_nonneg v (show (4294967296 : Int) ≠ 0 by decide)
  rcases plc_cases off n ho.1 with ⟨rfl, k, hk, hk4, hp⟩ | ⟨rfl, rfl, hp⟩ | ⟨rfl, rfl, hp⟩ | ⟨rfl, rfl, hp⟩ | ⟨rfl, rfl, hp⟩ | ⟨rfl, rfl, hp⟩ | ⟨rfl, rfl, hp⟩ | ⟨rfl, rfl, hp⟩ | ⟨rfl, hn, hp⟩ | ⟨hn, hp⟩
  all_goals rw [hp]
  · by_cases k0 : k = 0
    · subst k0
      obtain rfl : off = 0 := by omega
      exact (refWrite_prio0 w b v).mono fun e w' k => same_end h k
    · rw [show wrT t (0, k) v = prioT t k (v % 8) from if_neg k0]
      exact refWrite_prio w b t h k (by omega) hk off v hk4 hv.1
  · exact (refWrite_pend w b v).mono fun e w' k => same_end h k
  · exact refWrite_on0 w b t h v hv
  · exact refWrite_on1 w b t h v hv
  · exact refWrite_floor0 w b t h v hv.1
  · exact refWrite_floor1 w b t h v hv.1
  · exact refWrite_done0 w b t h v _ hv.1 (by omega)
  · exact refWrite_done1 w b t h v _ hv.1 (by omega)
  · exact (refWrite_no w b off v hn ho.1).mono fun e w' k => same_end h k
  · exact (refWrite_len w b off n v hn).mono fun e w' k => same_end h k

end Go.Proofs.YtbcnkhfpogglmaaGreatDoor.P5.In

namespace Go.Proofs.YtbcnkhfpogglmaaGreatDoor.U6
open Go.RowKit
set_option linter.unusedVariables false
set_option maxRecDepth 100000

section
variable {w : World} {b : Nat} {F : Nat → Prop} {t : US} {vi vo : Value}
theorem Holds.rcells (h : HR w b F t vi vo) : w.cell? ⟨b, 0, none⟩ = some vi ∧ w.cell? ⟨b, 1, none⟩ = some vo ∧ w.cell? ⟨b, 2, none⟩ = some (.int .u8 t.ier) ∧ w.cell? ⟨b, 3, none⟩ = some (.int .u8 t.fcr) ∧ w.cell? ⟨b, 4, none⟩ = some (.int .u8 t.lcr) ∧
    w.cell? ⟨b, 5, none⟩ = some (.int .u8 t.mcr) ∧ w.cell? ⟨b, 6, none⟩ = some (.int .u8 t.scr) ∧ w.cell? ⟨b, 7, none⟩ = some (.int .u8 t.dl) ∧ w.cell? ⟨b, 8, none⟩ = some (.int .u8 t.dm) ∧ w.cell? ⟨b, 9, none⟩ = some (.bool t.lost) ∧ w.cell? ⟨b, 10, none⟩ = some (.bool t.sent) :=
  ⟨h.cell 0 rfl, h.cell 1 rfl, h.cell 2 rfl, h.cell 3 rfl, h.cell 4 rfl, h.cell 5 rfl, h.cell 6 rfl, h.cell 7 rfl, h.cell 8 rfl, h.cell 9 rfl, h.cell 10 rfl⟩
end
theorem refNew_any (w : World) : Calls Tryz.prog 54 #[] w (MadeU cellsR 111 w u0) := by
  have HM := Lib.hid (made_of cellsR 111 w)
  go_enter Tryz.func54, Tryz.ntmps54
  go_wp2
  go_ret
  exact ⟨_, _, _, _, rfl, below_alloc w _, fun i hi => by omega, HM.out⟩

def TellR (w : World) (b : Nat) (F : Nat → Prop) (x : Value) (t' : US) (e : Ending) (w' : World) : Prop := e = .returned x ∧ EndU cellsR 111 w b F t' w'

set_option maxRecDepth 100000 in
set_option maxHeartbeats 2000000 in
theorem refReason_any (w : World) (b : Nat) (F : Nat → Prop) (t : US) (vi vo : Value) (h : HR w b F t vi vo) :
    Calls Tryz.prog 136 #[.pointer (some ⟨b, 0, none⟩)] w fun e w' => e = .returned (.int .u8 (rsn t)) ∧ w = w' := by
  have hlen := h.ok.li
  have hi := h.ok.ier
  obtain ⟨a, c, rfl, _, _, _⟩ := h.ri.reads (by omega)
  obtain ⟨c0, _, c2, _, _, _, _, _, _, _, c10⟩ := h.rcells
  have HR : Hid (rsn t = if t.ier % 2 = 1 ∧ 0 < t.inn.length then 4 else if t.ier / 2 % 2 = 1 ∧ t.sent = true then 2 else 1) := Lib.hid rfl
  clear h
  generalize rsn t = r at *
  generalize t.inn.length = n at *
  generalize t.sent = s at *
  generalize t.ier = x at *
  obtain ⟨x0, x1⟩ := hi
  by_cases hA : x % 2 = 1
  · have HA := Lib.hid hA
    by_cases hn : 0 < n
    · have ER : Hid (r = 4) := Lib.hid (by rw [HR.out, if_pos ⟨HA.out, hn⟩])
      clear HR
      go_enter Tryz.func136, Tryz.ntmps136
      go_wp2
      go_ret
      exact ⟨by rw [ER.out]; rfl, rfl⟩
    · obtain rfl : n = 0 := by omega
      by_cases hB : x / 2 % 2 = 1
      · have HB := Lib.hid hB
        cases s with
        | true =>
          have ER : Hid (r = 2) := Lib.hid (by rw [HR.out, if_neg (fun h => hn h.2), if_pos ⟨HB.out, rfl⟩])
          clear HR
          go_enter Tryz.func136, Tryz.ntmps136
          go_wp2
          go_ret
          exact ⟨by rw [ER.out]; rfl, rfl⟩
        | false =>
          have ER : Hid (r = 1) := Lib.hid (by rw [HR.out, if_neg (fun h => hn h.2), if_neg (fun h => by cases h.2)])
          clear HR
          go_enter Tryz.func136, Tryz.ntmps136
          go_wp2
          go_ret
          exact ⟨by rw [ER.out]; rfl, rfl⟩
      · have hb : (x / 2 % 2 == 1) = false := by simpa using hB
        have ER : Hid (r = 1) := Lib.hid (by rw [HR.out, if_neg (fun h => hn h.2), if_neg (fun h => hB h.1)])
        clear HR hB
        go_enter Tryz.func136, Tryz.ntmps136
        go_wp2
        go_ret
        exact ⟨by rw [ER.out]; rfl, rfl⟩
  · have ha : (x % 2 == 1) = false := by simpa using hA
    by_cases hB : x / 2 % 2 = 1
    · have HB := Lib.hid hB
      cases s with
      | true =>
        have ER : Hid (r = 2) := Lib.hid (by rw [HR.out, if_neg (fun h => hA h.1), if_pos ⟨HB.out, rfl⟩])
        clear HR hA
        go_enter Tryz.func136, Tryz.ntmps136
        go_wp2
        go_ret
        exact ⟨by rw [ER.out]; rfl, rfl⟩
      | false =>
        have ER : Hid (r = 1) := Lib.hid (by rw [HR.out, if_neg (fun h => hA h.1), if_neg (fun h => by cases h.2)])
        clear HR hA
        go_enter Tryz.func136, Tryz.ntmps136
        go_wp2
        go_ret
        exact ⟨by rw [ER.out]; rfl, rfl⟩
    · have hb : (x / 2 % 2 == 1) = false := by simpa using hB
      have ER : Hid (r = 1) := Lib.hid (by rw [HR.out, if_neg (fun h => hA h.1), if_neg (fun h => hB h.1)])
      clear HR hB hA
      go_enter Tryz.func136, Tryz.ntmps136
      go_wp2
      go_ret
      exact ⟨by rw [ER.out]; rfl, rfl⟩

theorem lineU_gt (t : US) : decide (1 < rsn t) = lineU t := by
  unfold lineU
  rcases rsn_vals t with h | h | h <;> rw [h] <;> rfl
theorem refLine_any (w : World) (b : Nat) (F : Nat → Prop) (t : US) (vi vo : Value) (h : HR w b F t vi vo) :
    Calls Tryz.prog 135 #[.pointer (some ⟨b, 0, none⟩)] w fun e w' => e = .returned (.bool (lineU t)) ∧ w = w' := by
  have H := Lib.hid h
  have HL := Lib.hid (lineU_gt t)
  clear h
  go_enter Tryz.func135, Tryz.ntmps135
  go_wp2_with (go_at_call 136; refine (refReason_any _ b F t vi vo H.out).mono ?_; rintro e w' ⟨rfl, rfl⟩)
  go_ret
  exact ⟨by rw [← HL.out]; rfl, rfl⟩

set_option maxRecDepth 100000 in
set_option maxHeartbeats 2000000 in
theorem refFeed_any (w : World) (b : Nat) (F : Nat → Prop) (t : US) (h : UR w b F t) (x : Int) (hx : 0 ≤ x ∧ x < 256) :
    Calls Tryz.prog 107 #[.pointer (some ⟨b, 0, none⟩), .int .u8 x] w (TellR w b F (.bool (feedK t)) (feedT t x)) := by
  obtain ⟨vi, vo, h⟩ := h
  have hli := h.ok.li
  obtain ⟨a, c, hvi, hnc, hcm, hr⟩ := h.ri.reads (by omega)
  subst hvi
  obtain ⟨c0, _⟩ := h.rcells
  have c9 := h.cell 9 (v := .bool t.lost) rfl
  have f0 := h.free 0
  have f9 := h.free 9
  have HX := Lib.hid hx
  by_cases hlt : t.inn.length < 16
  · have h2 := h.below (below_alloc w (.cells #[.int .u8 x] 5))
    obtain ⟨v', w', hrun, hR, hO, hv⟩ := run_push (w.alloc (.cells #[.int .u8 x] 5)) _ t.inn h2.ri (by omega) w.heap.size 0 x 1 (new_cell w _ _) hx 40
    obtain ⟨a2, c2, hv2, _, _, _⟩ := hR.reads (by simp; omega)
    have hl2 : (t.inn ++ [x]).length = t.inn.length + 1 := by simp
    rw [hl2] at hv2
    subst hv2
    have E1 : EndU cellsR 111 w b F { t with inn := t.inn ++ [x] } (w'.setCell ⟨b, 0, none⟩ (.slice a2 (t.inn.length + 1) c2)) := by
      have k := EndU.turnIn (t' := { t with inn := t.inn ++ [x] }) h2 hO hR hv rfl (ok_inn h.ok (by simp; omega)) rfl
      exact EndU.step (Only.of_below F (below_alloc w _)) (fun i hi => .inl hi) k
    have HE1 := Lib.hid E1
    have f0' : w'.frozen? ⟨b, 0, none⟩ = false := (World.frozen?_of_block (hO.block b (Nat.lt_of_lt_of_le h.blt (below_alloc w _).size) (fun e => (h2.fi b e).2 rfl))).trans (h2.free 0)
    have d0' : ∃ v, w'.cell? ⟨b, 0, none⟩ = some v := ⟨_, (World.cell?_of_block (hO.block b (Nat.lt_of_lt_of_le h.blt (below_alloc w _).size) (fun e => (h2.fi b e).2 rfl))).trans (h2.cell 0 rfl)⟩
    obtain ⟨v1, d0'⟩ := d0'
    have hT : feedT t x = { t with inn := t.inn ++ [x] } := by unfold feedT; rw [if_neg (by omega)]
    have hK : feedK t = true := decide_eq_true hlt
    have HRUN := Lib.hid hrun
    have hd : ((t.inn.length : Int) == 16) = false := by simp; omega
    rw [hT, hK]
    clear hT hK h h2 hR hO hv hr E1 hx hrun hli hlt
    generalize t.inn.length = n at *
    go_enter Tryz.func107, Tryz.ntmps107
    go_wp2_with ((at_builtin; refine wpList_append_run rfl _ _ _ rfl (.slice a n c) (.slice (some ⟨w.heap.size, 0, none⟩) 1 1) (.slice a2 (n + 1) c2) w' rfl rfl HRUN.out ?_))
    go_ret
    exact ⟨rfl, HE1.out⟩
  · have hd : t.inn.length = 16 := by omega
    have hT : feedT t x = { t with lost := true } := by unfold feedT; rw [if_pos (by omega)]
    have hK : feedK t = false := decide_eq_false hlt
    have OK := Lib.hid (ok_lost h.ok true)
    have H := Lib.hid h
    rw [hT, hK]
    clear hT hK h hr hlt hli hnc hcm hx
    generalize t.inn.length = n at *
    subst hd
    go_enter Tryz.func107, Tryz.ntmps107
    go_wp2
    go_ret
    exact ⟨rfl, EndU.set H.out 9 (.bool true) rfl rfl OK.out rfl⟩

end Go.Proofs.YtbcnkhfpogglmaaGreatDoor.U6
