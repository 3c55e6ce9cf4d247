/- Layer 4: find at no place; find at every place. -/
import Derived.Test.YtpmlcnhkfnmheaaClFind
namespace Go.Proofs.Ytpmlcnhkfnmheaa
open Go.RowKit
set_option linter.unusedVariables false

theorem find_0 (w : World) (b : Nat) (off n : Int) (hp : NoPlace off n) (ho : In64 off) :
    Calls Try.prog 22 #[.pointer (some ⟨b, 0, none⟩), .int .u64 off, .int .i64 n] w (FindEnd w noP false) := by
  obtain ⟨hk, h1, h2, h3⟩ := hp
  have T1 : Hid (tmB (IntKind.u64.wrap (off - 16384)) n = false) := by
    refine Lib.hid ?_
    unfold tmB In64 at *; rw [decide_eq_false_iff_not, IntKind.wrap_u64]; omega
  have T2 : Hid (tmB (IntKind.u64.wrap (off - 49144)) n = false) := by
    refine Lib.hid ?_
    unfold tmB In64 at *; rw [decide_eq_false_iff_not, IntKind.wrap_u64]; omega
  clear hk ho h2 h3
  by_cases o0 : off = 0
  · subst o0
    have e4 := ne_bool (show ¬ n = 4 by omega)
    clear h1
    go_enter Try.func22, Try.ntmps22
    go_wp2_with fail
    refine (isOfTime_is _ _ false _ T1.out).mono ?_
    rintro e w' ⟨rfl, rfl⟩
    go_wp2_with fail
    refine (isOfTime_is _ _ false _ T2.out).mono ?_
    rintro e w' ⟨rfl, rfl⟩
    go_wp2_with fail
    exact bodyPost_ret (v := .tuple #[noP, .bool false]) (by simp [results, Try.results22, go_sem]; rfl) rfl ⟨rfl, (Below.refl _ _).alloc (Nat.le_refl _) _⟩
  · have e0 := ne_bool o0
    clear h1 o0
    go_enter Try.func22, Try.ntmps22
    go_wp2_with fail
    refine (isOfTime_is _ _ false _ T1.out).mono ?_
    rintro e w' ⟨rfl, rfl⟩
    go_wp2_with fail
    refine (isOfTime_is _ _ false _ T2.out).mono ?_
    rintro e w' ⟨rfl, rfl⟩
    go_wp2_with fail
    exact bodyPost_ret (v := .tuple #[noP, .bool false]) (by simp [results, Try.results22, go_sem]; rfl) rfl ⟨rfl, (Below.refl _ _).alloc (Nat.le_refl _) _⟩

/-- What a place's reading tells. -/
def Tells (f : FuncId) (x : Array Value) (X : Int) : Prop := (∀ w, (callFunc f x).run Try.prog w = .ok (.enter f x) w) ∧ ∀ w, Calls Try.prog f x w fun e w' => e = .returned (.int .u64 X) ∧ Below w.heap.size w w'

set_option maxHeartbeats 1000000 in
theorem read_place (w : World) (t : Cl) (hok : t.ok) (off n : Int) (f g : FuncId) (x y : Nat → Array Value) (lo X : Int) (hX : In64 X) (hn : n = 4 ∨ n = 8)
    (hf : ∀ w b, ProgC w b t → Calls Try.prog 22 #[.pointer (some ⟨b, 0, none⟩), .int .u64 off, .int .i64 n] w (FindEnd w (.agg #[.func (.func f) (x b) #[], .func (.func g) (y b) #[], .int .i64 lo]) true)) (hrd : ∀ b, Tells f (x b) X) :
    Calls Try.prog 9 #[progV t, .int .u64 off, .int .i64 n] w (ReadC w (U (fieldB (V X) lo (8 * n))) true) := by
  have HP : Hid (ProgC (w.alloc (.cells #[.bool t.s, .int .u64 t.c, .int .u64 t.n] 26)) w.heap.size t) := Lib.hid ⟨heap_alloc_new w _, hok⟩
  have HB := Lib.hid ((Below.refl w.heap.size w).alloc (Nat.le_refl _) (.cells #[.bool t.s, .int .u64 t.c, .int .u64 t.n] 26))
  have HF := Lib.hid hf
  have HRD := Lib.hid (hrd w.heap.size)
  have w32 : IntKind.i64.wrap 32 = 32 := rfl
  have w64 : IntKind.i64.wrap 64 = 64 := rfl
  have HX := Lib.hid hX
  clear hok hf hrd hX
  show Calls Try.prog 9 #[.agg #[.bool t.s, .int .u64 t.c, .int .u64 t.n], .int .u64 off, .int .i64 n] w _
  rcases hn with rfl | rfl
  all_goals
    go_enter Try.func9, Try.ntmps9
    go_wp2_with fail
    refine (HF.out _ _ HP.out).mono ?_
    rintro e w2 ⟨rfl, hb⟩
    have HB2 := Lib.hid (HB.out.trans (hb.mono HB.out.size))
    clear HB HP hb HF
    generalize x w.heap.size = x at *
    generalize y w.heap.size = y at *
    go_wp2_with fail
    have D : (w2.alloc (.cells #[.func (.func f) x #[], .func (.func g) y #[], .int .i64 lo] 47)).heap[w2.heap.size]? = some (.cells #[.func (.func f) x #[], .func (.func g) y #[], .int .i64 lo] 47 (0, 0)) := heap_alloc_new w2 _
    have HB3 := Lib.hid (HB2.out.alloc HB2.out.size (.cells #[.func (.func f) x #[], .func (.func g) y #[], .int .i64 lo] 47))
    have hz : w2.heap.size < (w2.alloc (.cells #[.func (.func f) x #[], .func (.func g) y #[], .int .i64 lo] 47)).heap.size := by rw [World.size_alloc]; omega
    generalize w2.alloc (.cells #[.func (.func f) x #[], .func (.func g) y #[], .int .i64 lo] 47) = w3 at *
    generalize w2.heap.size = b2 at *
    have c0 : w3.cell? ⟨b2, 0, none⟩ = some (.func (.func f) x #[]) := by rw [cell_of_row w3 b2 _ _ _ _ D]; rfl
    have c2 : w3.cell? ⟨b2, 2, none⟩ = some (.int .i64 lo) := by rw [cell_of_row w3 b2 _ _ _ _ D]; rfl
    have HD := Lib.hid D
    have hcf := HRD.out.1
    clear D HB2
    go_region_held3 (fun w' => w'.cell? ⟨b2, 0, none⟩ = some (.func (.func f) x #[]) ∧ w'.cell? ⟨b2, 2, none⟩ = some (.int .i64 lo)) (go_keep)
      (first
        | (go_at_call 23; refine (field_any _ _ _ HX.out _).mono ?_; rintro e w5 ⟨rfl, hk⟩; obtain ⟨nk, rfl⟩ := hk; have g0 : (w4.drewN nk).cell? ⟨b2, 0, none⟩ = some (.func (.func f) x #[]) := e0; have g2 : (w4.drewN nk).cell? ⟨b2, 2, none⟩ = some (.int .i64 lo) := e2; have HB5 : Hid (Below w.heap.size w (w4.drewN nk)) := Lib.hid (HB4.out.trans ⟨rfl, rfl, rfl, Nat.le_refl _, fun _ _ => rfl⟩); generalize w4.drewN nk = w6 at *)
        | (refine (HRD.out.2 _).mono ?_; rintro e w4 ⟨rfl, hb⟩; have e0 := (hb.cell (p := ⟨b2, 0, none⟩) hz).trans c0; have e2 := (hb.cell (p := ⟨b2, 2, none⟩) hz).trans c2; have HB4 := Lib.hid (HB3.out.trans (((Below.refl w3.heap.size w3).drew.trans hb).mono HB3.out.size)); clear hb))
    go_wp2
    go_ret2
    exact ⟨rfl, HB5.out⟩

end Go.Proofs.Ytpmlcnhkfnmheaa
