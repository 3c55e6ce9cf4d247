/- Layer 6's laws: what stands at offsets, one behind the other (reads). -/
import Derived.Test.YtcbjfkbmbjmnbaaDoorUs
namespace Go.Proofs.YtcbjfkbmbjmnbaaDoor
open Go.RowKit
set_option linter.unusedVariables false

def stT (t : US) (o : Int) : US := rdT t (plK t o 1)
def runT (t : US) (ls : List Int) : US := ls.foldl stT t
def runX : US → List Int → List Int
  | _, [] => []
  | t, o :: ls => rdX t (plK t o 1) :: runX (stT t o) ls
theorem runX_len : ∀ (ls : List Int) (t : US), (runX t ls).length = ls.length
  | [], _ => rfl
  | o :: ls, t => by simp [runX, runX_len ls]
theorem runX_snoc : ∀ (ls : List Int) (t : US) (o : Int), runX t (ls ++ [o]) = runX t ls ++ [rdX (runT t ls) (plK (runT t ls) o 1)]
  | [], _, _ => rfl
  | p :: ls, t, o => by
    show rdX t (plK t p 1) :: runX (stT t p) (ls ++ [o]) = _
    rw [runX_snoc ls]; rfl
theorem runT_snoc (ls : List Int) (t : US) (o : Int) : runT t (ls ++ [o]) = stT (runT t ls) o := by unfold runT; rw [List.foldl_append]; rfl
theorem plK_lt {t : US} {o : Int} (h : 0 ≤ o ∧ o < 8) : plK t o 1 < 10 := by
  unfold plK; rw [if_pos ⟨rfl, h.1, h.2⟩]; split <;> omega

/-- What reads answers. -/
def ReadsE (w : World) (b : Nat) (F : Nat → Prop) (t : US) (ls : List Int) (e : Ending) (w' : World) : Prop :=
  ∃ a c, e = .returned (.slice a ls.length c) ∧ RowB w' (.slice a ls.length c) (runX t ls) ∧ EndU cellsP 52 w b F (runT t ls) w'
/-- In the midst. -/
def Midst (w wr : World) (b : Nat) (F : Nat → Prop) (t : US) (g0 : Nat) (ls : List Int) (k : Nat) (v : Value) : Prop :=
  RowB wr v (runX t (ls.take k)) ∧ Only F w wr ∧ (∀ j, j < ls.length → wr.cell? ⟨g0, j, none⟩ = some (.int .u64 (ls.getD j 0))) ∧
    ∃ F', (∀ i, F' i → F i ∨ w.heap.size ≤ i) ∧ (∀ g, v.ownBlock = some g → w.heap.size ≤ g ∧ ¬ F' g) ∧ UP wr b F' (runT t (ls.take k))
theorem midst_step {w wr w1 : World} {b : Nat} {F : Nat → Prop} {t : US} {g0 : Nat} {ls : List Int} {k : Nat} {v : Value} (h : RowB wr v (runX t (ls.take k))) (ho : Only F w wr) (hc : ∀ j, j < ls.length → wr.cell? ⟨g0, j, none⟩ = some (.int .u64 (ls.getD j 0)))
    {F' : Nat → Prop} (hF : ∀ i, F' i → F i ∨ w.heap.size ≤ i) (hv : ∀ g, v.ownBlock = some g → w.heap.size ≤ g ∧ ¬ F' g) (hg0 : ¬ F g0) (hg1 : g0 < w.heap.size) (hk : k < ls.length) (hl : ls.length ≤ 100) (x : Int) (hx : rdX (runT t (ls.take k)) (plK (runT t (ls.take k)) (ls.getD k 0) 1) = x) (hxb : 0 ≤ x ∧ x < 256)
    (ke : EndU cellsP 52 wr b F' (stT (runT t (ls.take k)) (ls.getD k 0)) w1) (ty : TypeId) :
    ∃ a c w2, (Builtin.append_ #[28, 28] ty #[v, .slice (some ⟨w1.heap.size, 0, none⟩) 1 1]).run Tryd.prog (w1.alloc (.cells #[.int .u8 x] 5)) = .ok (.slice a (k + 1) c) w2 ∧ Midst w w2 b F t g0 ls (k + 1) (.slice a (k + 1) c) := by
  obtain ⟨o1, F1, hF1, vi, vo, hp⟩ := ke
  have hlt := hp.lt
  have hlv := h.lt
  have s1 := ho.size
  have s2 := o1.size
  have r1 : RowB w1 v (runX t (ls.take k)) := h.keeps o1 fun g hg => (hv g hg).2
  have ba := below_alloc w1 (.cells #[.int .u8 x] 5)
  have sa : w1.heap.size < (w1.alloc (.cells #[.int .u8 x] 5)).heap.size := by rw [World.size_alloc]; omega
  have hlen : (runX t (ls.take k)).length = k := by rw [runX_len, List.length_take]; omega
  obtain ⟨v', w2, hrun, hR, hO, hv'⟩ := run_push _ v _ (r1.below ba) (by omega) w1.heap.size 0 x 1 (new_cell w1 _ _) hxb ty
  have hsn : ls.take (k + 1) = ls.take k ++ [ls.getD k 0] := take_snoc ls k hk
  have hX : runX t (ls.take (k + 1)) = runX t (ls.take k) ++ [x] := by rw [hsn, runX_snoc, hx]
  have hT : runT t (ls.take (k + 1)) = stT (runT t (ls.take k)) (ls.getD k 0) := by rw [hsn, runT_snoc]
  obtain ⟨a, c, hv2, _, _, _⟩ := hR.reads (by simp; omega)
  have hl2 : (runX t (ls.take k) ++ [x]).length = k + 1 := by simp [hlen]
  rw [hl2] at hv2
  subst hv2
  have hFg : ∀ i, F1 i → ¬ v.ownBlock = some i := fun i hi e => by
    rcases hF1 i hi with h1 | h1
    · exact (hv i e).2 h1
    · have := hlv i e; omega
  have ng : ¬ F' g0 := fun hi => by
    rcases hF g0 hi with h1 | h1
    · exact hg0 h1
    · omega
  have nv : ¬ v.ownBlock = some g0 := fun e => by have := (hv g0 e).1; omega
  refine ⟨a, c, w2, hrun, by rw [hX]; exact hR, ?_, fun j hj => ?_, F1, fun i hi => ?_, fun g hg => ?_, ?_⟩
  · refine ((ho.step o1 hF).trans (Only.of_below F ba)).step hO fun i hi => .inr (hv i hi).1
  · have hlg : g0 < w1.heap.size := by omega
    have c1 : w1.cell? ⟨g0, j, none⟩ = some (.int .u64 (ls.getD j 0)) := (World.cell?_of_block (o1.block g0 (by omega) ng)).trans (hc j hj)
    have c2 : (w1.alloc (.cells #[.int .u8 x] 5)).cell? ⟨g0, j, none⟩ = some (.int .u64 (ls.getD j 0)) := (ba.cell (p := ⟨g0, j, none⟩) hlg).trans c1
    exact (World.cell?_of_block (hO.block g0 (by show g0 < _; omega) nv)).trans c2
  · rcases hF1 i hi with h1 | h1
    · exact hF i h1
    · exact .inr (by omega)
  · rcases hv' g hg with h1 | h1
    · exact ⟨(hv g h1).1, fun hi => hFg g hi h1⟩
    · exact ⟨by omega, fun hi => by have := hlt g hi; omega⟩
  · rw [hT]; exact ⟨vi, vo, (hp.below ba).keeps hO hFg⟩

set_option maxRecDepth 100000 in
set_option maxHeartbeats 4000000 in
theorem reads_any (w : World) (b : Nat) (F : Nat → Prop) (t : US) (h : UP w b F t) (g0 : Nat) (ls : List Int) (hc : ∀ j, j < ls.length → w.cell? ⟨g0, j, none⟩ = some (.int .u64 (ls.getD j 0))) (hg0 : ¬ F g0) (hg1 : g0 < w.heap.size) (hl : ls.length ≤ 100)
    (ho : ∀ j, j < ls.length → 0 ≤ ls.getD j 0 ∧ ls.getD j 0 < 8) :
    Calls Tryd.prog 13 #[.pointer (some ⟨b, 0, none⟩), .slice (some ⟨g0, 0, none⟩) ls.length ls.length] w (ReadsE w b F t ls) := by
  have H := Lib.hid h
  have HC := Lib.hid hc
  have HG0 := Lib.hid hg0
  have HG1 := Lib.hid hg1
  have HO := Lib.hid ho
  have HL := Lib.hid hl
  have hn : ls.length ≤ 9223372036854775807 := by omega
  clear h hc hg0 hg1 ho hl
  obtain ⟨n, hnn⟩ : ∃ n, ls.length = n := ⟨_, rfl⟩
  have HN := Lib.hid hnn
  rw [hnn] at hn ⊢
  clear hnn
  go_enter Tryd.func13, Tryd.ntmps13
  go_wp2
  go_loopw [5, 6] (fun o i wr => ∃ k : Nat, k ≤ n ∧ i = .int .i64 k ∧ ∃ a c, o = .slice a k c ∧ Midst w wr b F t g0 ls k o) (fun _ i _ => n - (intOf i).toNat)
  case atStart => exact ⟨0, Nat.zero_le _, rfl, none, 0, rfl, RowB.nil w, Only.refl _ _, HC.out, F, fun i hi => .inl hi, fun g hg => by simp [Value.ownBlock] at hg, H.out⟩
  case round =>
    obtain ⟨k, hk, rfl, a, c, rfl, hR, hO, hcs, F', hF, hv, hU⟩ := hrel
    by_cases hlt : k < n
    · have hkl : k < ls.length := by rw [HN.out]; exact hlt
      have ck := hcs k hkl
      have hob := HO.out k hkl
      have hX : ∃ x, rdX (runT t (ls.take k)) (plK (runT t (ls.take k)) (ls.getD k 0) 1) = x := ⟨_, rfl⟩
      obtain ⟨x, hx⟩ := hX
      have hxb : 0 ≤ x ∧ x < 256 := by rw [← hx]; obtain ⟨_, _, hu⟩ := hU; exact rdX_bd hu.ok hu.ri.byt _
      have hok : okK (plK (runT t (ls.take k)) (ls.getD k 0) 1) = true := decide_eq_true (plK_lt hob)
      have HRD := Lib.hid (read_any wr b F' _ hU (ls.getD k 0) 1 ⟨hob.1, by omega⟩)
      rw [hx, hok] at HRD
      have HST : Hid (∀ w1, EndU cellsP 52 wr b F' (stT (runT t (ls.take k)) (ls.getD k 0)) w1 → ∃ a' c' w2, (Builtin.append_ #[28, 28] 28 #[.slice a k c, .slice (some ⟨w1.heap.size, 0, none⟩) 1 1]).run Tryd.prog (w1.alloc (.cells #[.int .u8 x] 5)) = .ok (.slice a' (k + 1) c') w2 ∧ Midst w w2 b F t g0 ls (k + 1) (.slice a' (k + 1) c')) :=
        Lib.hid fun w1 ke => midst_step hR hO hcs hF hv HG0.out HG1.out hkl HL.out x hx hxb ke 28
      obtain ⟨x0, x1⟩ := hxb
      have hw : IntKind.u8.wrap x = x := by rw [wrap8 x x0]; omega
      have hdx : decide ((255 : Int) < x) = false := by rw [decide_eq_false_iff_not]; omega
      clear hR hO hcs hF hv hU hx hok hob hkl
      generalize ls.getD k 0 = off at *
      go_wp2_with fail
      (with_reducible refine (HRD.out).mono ?_)
      rintro e w1 ⟨rfl, ke⟩
      obtain ⟨a', c', w2, hrun, hM⟩ := HST.out w1 ke
      have HRUN := Lib.hid hrun
      have HM := Lib.hid hM
      clear ke hrun hM HST HRD ck
      go_wp2_with ((at_builtin; refine wpList_append_run rfl _ _ _ rfl (.slice a k c) (.slice (some ⟨w1.heap.size, 0, none⟩) 1 1) (.slice a' (k + 1) c') w2 rfl rfl HRUN.out ?_))
      exact ⟨⟨k + 1, by omega, by go_num, a', c', rfl, HM.out⟩, by simp [intOf]; omega⟩
    · obtain rfl : k = n := by omega
      have hall : ls.take k = ls := by rw [← HN.out]; exact List.take_length
      rw [hall] at hR hU
      obtain ⟨vi, vo, hU⟩ := hU
      have HE : Hid (ReadsE w b F t ls (.returned (.slice a k c)) wr) := Lib.hid ⟨a, c, by rw [HN.out], by rw [HN.out]; exact hR, hO, F', hF, vi, vo, hU⟩
      clear hR hO hcs hF hv hU hall
      go_wp2
      go_ret
      exact HE.out

end Go.Proofs.YtcbjfkbmbjmnbaaDoor
