/- Layer 4: the document's clint: a write at no place, ticks, what is told. -/
import Derived.Test.YtpmlcnhkfnmheaaClRef
namespace Go.Proofs.Ytpmlcnhkfnmheaa
open Go.RowKit
set_option linter.unusedVariables false

/-- No such place: what the walk asks of the tests, in its own spelling. -/
structure NoPlace (off n : Int) : Prop where
  k : kindC off n = 0
  soft : ¬ (off = 0 ∧ n = 4)
  whole : ¬ ((off = 16384 ∨ off = 49144) ∧ n = 8)
  half : ¬ ((off = 16384 ∨ off = 16388 ∨ off = 49144 ∨ off = 49148) ∧ n = 4)

theorem ne_bool {a b : Int} (h : ¬ a = b) : (a == b) = false := by simpa using h
theorem ne_bool2 {a b : Int} (h : ¬ a = b) : (a != b) = true := by simpa using h

theorem refWrite_0 (w : World) (b : Nat) (t : Cl) (off n v : Int) (h : RefC w b t) (hp : NoPlace off n) :
    Calls Try.prog 17 #[.pointer (some ⟨b, 0, none⟩), .int .u64 off, .int .i64 n, .int .u64 v] w (RefEnd w b (.bool false) t) := by
  obtain ⟨hk, h1, h2, h3⟩ := hp
  have HE : Hid (RefEnd w b (.bool false) t (.returned (.bool false)) w) := Lib.hid ⟨rfl, Only.refl _ _, h⟩
  clear h hk
  by_cases n8 : n = 8
  · subst n8
    have e1 := ne_bool (show ¬ off = 16384 by omega)
    have e2 := ne_bool (show ¬ off = 49144 by omega)
    clear h1 h2 h3
    go_enter Try.func17, Try.ntmps17
    go_wp2
    go_ret
    exact HE.out
  have e8 := ne_bool n8
  by_cases n4 : n = 4
  · subst n4
    have e0 := ne_bool (show ¬ off = 0 by omega)
    have e1 := ne_bool (show ¬ off = 16384 by omega)
    have e2 := ne_bool (show ¬ off = 16388 by omega)
    have e3 := ne_bool (show ¬ off = 49144 by omega)
    have e4 := ne_bool (show ¬ off = 49148 by omega)
    clear h1 h2 h3 n8 e8
    go_enter Try.func17, Try.ntmps17
    go_wp2
    go_ret
    exact HE.out
  · have e4 := ne_bool2 n4
    clear h1 h2 h3 n8 n4
    go_enter Try.func17, Try.ntmps17
    go_wp2
    go_ret
    exact HE.out

theorem refWrite_any (w : World) (b : Nat) (t : Cl) (off n v : Int) (h : RefC w b t) (hv : In64 v) :
    Calls Try.prog 17 #[.pointer (some ⟨b, 0, none⟩), .int .u64 off, .int .i64 n, .int .u64 v] w (RefEnd w b (.bool (okC off n)) (wrC t v (kindC off n))) := by
  unfold okC
  rcases kind_cases off n with ⟨rfl, rfl, hk⟩ | ⟨rfl, rfl, hk⟩ | ⟨rfl, rfl, hk⟩ | ⟨rfl, rfl, hk⟩ | ⟨rfl, rfl, hk⟩ | ⟨rfl, rfl, hk⟩ | ⟨rfl, rfl, hk⟩ | ⟨hk, h1, h2, h3⟩
  all_goals rw [hk]
  · exact refWrite_1 w b t v h hv
  · exact refWrite_2 w b t v h hv
  · exact refWrite_3 w b t v h hv
  · exact refWrite_4 w b t v h hv
  · exact refWrite_5 w b t v h hv
  · exact refWrite_6 w b t v h hv
  · exact refWrite_7 w b t v h hv
  · exact refWrite_0 w b t off n v h ⟨hk, h1, h2, h3⟩

theorem refTick_any (w : World) (b : Nat) (t : Cl) (n : Int) (h : RefC w b t) (hn : In64 n) :
    Calls Try.prog 19 #[.pointer (some ⟨b, 0, none⟩), .int .u64 n] w fun e w' => (∃ u, e = .returned u) ∧ Only (fun i => i = b) w w' ∧ RefC w' b (tickC t n) := by
  obtain ⟨hc0, hc1, hc2⟩ := h.cells
  have f2 := h.free 2
  have H := Lib.hid h
  have HS : Hid (IntKind.u64.wrap (t.n + n) = (t.n + n) % 18446744073709551616) := Lib.hid (IntKind.wrap_u64 _)
  clear h
  go_enter Try.func19, Try.ntmps19
  go_wp2
  go_end0
  refine ⟨⟨_, rfl⟩, ?_⟩
  exact (refC_set (k := 2) (r := .bool true) (t' := tickC t n) H.out ⟨0, rfl⟩ (by simp only [tickC]; rw [← HS.out]; rfl) (tickC_ok H.out.2)).2

theorem refMsip_any (w : World) (t : Cl) : Calls Try.prog 20 #[refV t] w fun e w' => e = .returned (.bool t.s) ∧ Below w.heap.size w w' := by
  obtain ⟨s, c, n⟩ := t
  cases s with
  | true =>
    show Calls Try.prog 20 #[.agg #[.int .u64 1, .int .u64 c, .int .u64 n]] w _
    go_enter Try.func20, Try.ntmps20
    go_wp2
    go_ret
    exact ⟨rfl, (Below.refl _ _).alloc (Nat.le_refl _) _⟩
  | false =>
    show Calls Try.prog 20 #[.agg #[.int .u64 0, .int .u64 c, .int .u64 n]] w _
    go_enter Try.func20, Try.ntmps20
    go_wp2
    go_ret
    exact ⟨rfl, (Below.refl _ _).alloc (Nat.le_refl _) _⟩
/-- Whether the time has come. -/
def mtC (t : Cl) : Bool := decide (t.c ≤ t.n)
theorem refMtip_any (w : World) (t : Cl) : Calls Try.prog 21 #[refV t] w fun e w' => e = .returned (.bool (mtC t)) ∧ Below w.heap.size w w' := by
  obtain ⟨s, c, n⟩ := t
  show Calls Try.prog 21 #[.agg #[.int .u64 (sI s), .int .u64 c, .int .u64 n]] w _
  go_enter Try.func21, Try.ntmps21
  go_wp2
  go_ret
  exact ⟨rfl, (Below.refl _ _).alloc (Nat.le_refl _) _⟩

/-- What Read leaves. -/
def ReadC (w : World) (x : Int) (r : Bool) (e : Ending) (w' : World) : Prop := e = .returned (.tuple #[.int .u64 x, .bool r]) ∧ Below w.heap.size w w'
theorem refRead_1 (w : World) (s : Bool) (c n : Int) (hok : (⟨s, c, n⟩ : Cl).ok) :
    Calls Try.prog 18 #[.agg #[.int .u64 (sI s), .int .u64 c, .int .u64 n], .int .u64 0, .int .i64 4] w (ReadC w (sI s) true) := by
  clear hok
  go_enter Try.func18, Try.ntmps18
  go_wp2
  go_ret2
  exact ⟨rfl, (Below.refl _ _).alloc (Nat.le_refl _) _⟩
theorem refRead_2 (w : World) (s : Bool) (c n : Int) (hok : (⟨s, c, n⟩ : Cl).ok) :
    Calls Try.prog 18 #[.agg #[.int .u64 (sI s), .int .u64 c, .int .u64 n], .int .u64 16384, .int .i64 8] w (ReadC w (c) true) := by
  clear hok
  go_enter Try.func18, Try.ntmps18
  go_wp2
  go_ret2
  exact ⟨rfl, (Below.refl _ _).alloc (Nat.le_refl _) _⟩
theorem refRead_3 (w : World) (s : Bool) (c n : Int) (hok : (⟨s, c, n⟩ : Cl).ok) :
    Calls Try.prog 18 #[.agg #[.int .u64 (sI s), .int .u64 c, .int .u64 n], .int .u64 16384, .int .i64 4] w (ReadC w (c % 4294967296) true) := by
  have HO := Lib.hid hok.1
  clear hok
  go_enter Try.func18, Try.ntmps18
  go_wp2_with (go_at_call 27; refine (low_any _ _ HO.out).mono ?_; rintro e w' ⟨rfl, rfl⟩)
  go_ret2
  exact ⟨rfl, (Below.refl _ _).alloc (Nat.le_refl _) _⟩
theorem refRead_4 (w : World) (s : Bool) (c n : Int) (hok : (⟨s, c, n⟩ : Cl).ok) :
    Calls Try.prog 18 #[.agg #[.int .u64 (sI s), .int .u64 c, .int .u64 n], .int .u64 16388, .int .i64 4] w (ReadC w (c / 4294967296) true) := by
  have HO := Lib.hid hok.1
  clear hok
  go_enter Try.func18, Try.ntmps18
  go_wp2_with (go_at_call 26; refine (high_any _ _ HO.out).mono ?_; rintro e w' ⟨rfl, rfl⟩)
  go_ret2
  exact ⟨rfl, (Below.refl _ _).alloc (Nat.le_refl _) _⟩
theorem refRead_5 (w : World) (s : Bool) (c n : Int) (hok : (⟨s, c, n⟩ : Cl).ok) :
    Calls Try.prog 18 #[.agg #[.int .u64 (sI s), .int .u64 c, .int .u64 n], .int .u64 49144, .int .i64 8] w (ReadC w (n) true) := by
  clear hok
  go_enter Try.func18, Try.ntmps18
  go_wp2
  go_ret2
  exact ⟨rfl, (Below.refl _ _).alloc (Nat.le_refl _) _⟩
theorem refRead_6 (w : World) (s : Bool) (c n : Int) (hok : (⟨s, c, n⟩ : Cl).ok) :
    Calls Try.prog 18 #[.agg #[.int .u64 (sI s), .int .u64 c, .int .u64 n], .int .u64 49144, .int .i64 4] w (ReadC w (n % 4294967296) true) := by
  have HO := Lib.hid hok.2
  clear hok
  go_enter Try.func18, Try.ntmps18
  go_wp2_with (go_at_call 27; refine (low_any _ _ HO.out).mono ?_; rintro e w' ⟨rfl, rfl⟩)
  go_ret2
  exact ⟨rfl, (Below.refl _ _).alloc (Nat.le_refl _) _⟩
theorem refRead_7 (w : World) (s : Bool) (c n : Int) (hok : (⟨s, c, n⟩ : Cl).ok) :
    Calls Try.prog 18 #[.agg #[.int .u64 (sI s), .int .u64 c, .int .u64 n], .int .u64 49148, .int .i64 4] w (ReadC w (n / 4294967296) true) := by
  have HO := Lib.hid hok.2
  clear hok
  go_enter Try.func18, Try.ntmps18
  go_wp2_with (go_at_call 26; refine (high_any _ _ HO.out).mono ?_; rintro e w' ⟨rfl, rfl⟩)
  go_ret2
  exact ⟨rfl, (Below.refl _ _).alloc (Nat.le_refl _) _⟩
theorem refRead_0 (w : World) (s : Bool) (c m off n : Int) (hp : NoPlace off n) :
    Calls Try.prog 18 #[.agg #[.int .u64 (sI s), .int .u64 c, .int .u64 m], .int .u64 off, .int .i64 n] w (ReadC w 0 false) := by
  obtain ⟨hk, h1, h2, h3⟩ := hp
  clear hk
  by_cases n8 : n = 8
  · subst n8
    have e1 := ne_bool (show ¬ off = 16384 by omega)
    have e2 := ne_bool (show ¬ off = 49144 by omega)
    clear h1 h2 h3
    go_enter Try.func18, Try.ntmps18
    go_wp2
    go_ret2
    exact ⟨rfl, (Below.refl _ _).alloc (Nat.le_refl _) _⟩
  have e8 := ne_bool n8
  by_cases n4 : n = 4
  · subst n4
    have e0 := ne_bool (show ¬ off = 0 by omega)
    have e1 := ne_bool (show ¬ off = 16384 by omega)
    have e2 := ne_bool (show ¬ off = 16388 by omega)
    have e3 := ne_bool (show ¬ off = 49144 by omega)
    have e4 := ne_bool (show ¬ off = 49148 by omega)
    clear h1 h2 h3 n8 e8
    go_enter Try.func18, Try.ntmps18
    go_wp2
    go_ret2
    exact ⟨rfl, (Below.refl _ _).alloc (Nat.le_refl _) _⟩
  · have e4 := ne_bool2 n4
    clear h1 h2 h3 n8 n4
    go_enter Try.func18, Try.ntmps18
    go_wp2
    go_ret2
    exact ⟨rfl, (Below.refl _ _).alloc (Nat.le_refl _) _⟩

theorem refRead_any (w : World) (t : Cl) (off n : Int) (hok : t.ok) :
    Calls Try.prog 18 #[refV t, .int .u64 off, .int .i64 n] w (ReadC w (rdC t (kindC off n)) (okC off n)) := by
  obtain ⟨s, c, m⟩ := t
  unfold okC
  rcases kind_cases off n with ⟨rfl, rfl, hk⟩ | ⟨rfl, rfl, hk⟩ | ⟨rfl, rfl, hk⟩ | ⟨rfl, rfl, hk⟩ | ⟨rfl, rfl, hk⟩ | ⟨rfl, rfl, hk⟩ | ⟨rfl, rfl, hk⟩ | ⟨hk, h1, h2, h3⟩
  all_goals rw [hk]
  · exact refRead_1 w s c m hok
  · exact refRead_2 w s c m hok
  · exact refRead_3 w s c m hok
  · exact refRead_4 w s c m hok
  · exact refRead_5 w s c m hok
  · exact refRead_6 w s c m hok
  · exact refRead_7 w s c m hok
  · exact refRead_0 w s c m off n ⟨hk, h1, h2, h3⟩

end Go.Proofs.Ytpmlcnhkfnmheaa
