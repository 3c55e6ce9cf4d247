/- Layer 4: a write at a place. -/
import Derived.Test.YtpmlcnhkfnmheaaClFind2
namespace Go.Proofs.Ytpmlcnhkfnmheaa
open Go.RowKit
set_option linter.unusedVariables false

theorem Only.cell {S : Nat → Prop} {w w' : World} (h : Only S w w') {k o : Nat} {v : Value} (hs : ¬ S k) (hc : w.cell? ⟨k, o, none⟩ = some v) : w'.cell? ⟨k, o, none⟩ = some v := by
  have hb : k < w.heap.size := by
    by_cases hb : k < w.heap.size
    · exact hb
    · have hn : w.heap[k]? = none := by simp; omega
      simp [World.cell?, hn] at hc
  rw [← hc]
  simp only [World.cell?, h.block k hb hs]
/-- What a place's writing leaves. -/
def Puts (g : FuncId) (y : Array Value) (b : Nat) (t : Cl) (T : Int → Cl) : Prop :=
  (∀ (v : Value) (w : World), (callFunc g (y.push v)).run Try.prog w = .ok (.enter g (y.push v)) w) ∧ ∀ (v : Int) (w : World), In64 v → ProgC w b t → Calls Try.prog g (y.push (.int .u64 v)) w (SetEndC w b (T v))
/-- What Write leaves. -/
def WriteC (w : World) (b : Nat) (r : Bool) (t' : Cl) (e : Ending) (w' : World) : Prop := e = .returned (.bool r) ∧ Only (fun i => i = b) w w' ∧ ProgC w' b t'

set_option maxHeartbeats 1000000 in
theorem write_place (w : World) (b : Nat) (t : Cl) (h : ProgC w b t) (off n v : Int) (f g : FuncId) (x y : Array Value) (lo X : Int) (T : Int → Cl) (hX : In64 X) (hv : In64 v) (hn : n = 4 ∨ n = 8)
    (hf : ∀ w, ProgC w b t → Calls Try.prog 22 #[.pointer (some ⟨b, 0, none⟩), .int .u64 off, .int .i64 n] w (FindEnd w (.agg #[.func (.func f) x #[], .func (.func g) y #[], .int .i64 lo]) true)) (hrd : Tells f x X) (hwr : Puts g y b t T) :
    Calls Try.prog 12 #[.pointer (some ⟨b, 0, none⟩), .int .u64 off, .int .i64 n, .int .u64 v] w (WriteC w b true (T (U (putB (V X) lo (8 * n) (V v))))) := by
  have HP := Lib.hid h
  have hbl := h.lt
  have HF := Lib.hid hf
  have HRD := Lib.hid hrd
  have HWR := Lib.hid hwr
  have w32 : IntKind.i64.wrap 32 = 32 := rfl
  have w64 : IntKind.i64.wrap 64 = 64 := rfl
  have HX := Lib.hid hX
  have HV := Lib.hid hv
  clear h hf hrd hX hwr hv
  rcases hn with rfl | rfl
  all_goals
    go_enter Try.func12, Try.ntmps12
    go_wp2_with fail
    refine (HF.out _ HP.out).mono ?_
    rintro e w2 ⟨rfl, hb⟩
    have HB2 := Lib.hid hb
    clear hb HF
    go_wp2_with fail
    have D : (w2.alloc (.cells #[.func (.func f) x #[], .func (.func g) y #[], .int .i64 lo] 47)).heap[w2.heap.size]? = some (.cells #[.func (.func f) x #[], .func (.func g) y #[], .int .i64 lo] 47 (0, 0)) := heap_alloc_new w2 _
    have HB3 := Lib.hid (HB2.out.alloc HB2.out.size (.cells #[.func (.func f) x #[], .func (.func g) y #[], .int .i64 lo] 47))
    have hz : w2.heap.size < (w2.alloc (.cells #[.func (.func f) x #[], .func (.func g) y #[], .int .i64 lo] 47)).heap.size := by rw [World.size_alloc]; omega
    have hne : ¬ w2.heap.size = b := by have := HB2.out.size; omega
    generalize w2.alloc (.cells #[.func (.func f) x #[], .func (.func g) y #[], .int .i64 lo] 47) = w3 at *
    generalize w2.heap.size = b2 at *
    have c0 : w3.cell? ⟨b2, 0, none⟩ = some (.func (.func f) x #[]) := by rw [cell_of_row w3 b2 _ _ _ _ D]; rfl
    have c1 : w3.cell? ⟨b2, 1, none⟩ = some (.func (.func g) y #[]) := by rw [cell_of_row w3 b2 _ _ _ _ D]; rfl
    have c2 : w3.cell? ⟨b2, 2, none⟩ = some (.int .i64 lo) := by rw [cell_of_row w3 b2 _ _ _ _ D]; rfl
    have hcf := HRD.out.1
    have hcg := HWR.out.1
    clear D HB2
    go_region_held3 (fun w' => w'.cell? ⟨b2, 0, none⟩ = some (.func (.func f) x #[]) ∧ w'.cell? ⟨b2, 1, none⟩ = some (.func (.func g) y #[]) ∧ w'.cell? ⟨b2, 2, none⟩ = some (.int .i64 lo)) (go_keep)
      (first
        | (go_at_call 24; refine (put_any _ _ _ _ HX.out _).mono ?_; rintro e w5 ⟨rfl, rfl⟩)
        | (refine (HRD.out.2 _).mono ?_; rintro e w4 ⟨rfl, hb⟩; have e0 := (hb.cell (p := ⟨b2, 0, none⟩) hz).trans c0; have e1 := (hb.cell (p := ⟨b2, 1, none⟩) hz).trans c1; have e2 := (hb.cell (p := ⟨b2, 2, none⟩) hz).trans c2; have HB4 := Lib.hid (HB3.out.trans (((Below.refl w3.heap.size w3).drew.trans hb).mono HB3.out.size)); have hz4 := Nat.lt_of_lt_of_le hz hb.size; have HP4 : Hid (ProgC w4 b t) := Lib.hid (HP.out.below HB4.out); clear hb)
        | (refine (HWR.out.2 _ _ (U_in _) HP4.out).mono ?_; rintro e w5 ⟨hu, ho, hp⟩; obtain ⟨u, rfl⟩ := hu; have g0 := ho.cell hne e0; have g1 := ho.cell hne e1; have g2 := ho.cell hne e2; have HE := Lib.hid ((Only.of_below (fun i => i = b) HB4.out).trans ho); have HP5 := Lib.hid hp; clear ho hp))
    go_wp2
    go_ret
    exact ⟨rfl, HE.out, HP5.out⟩

end Go.Proofs.Ytpmlcnhkfnmheaa
