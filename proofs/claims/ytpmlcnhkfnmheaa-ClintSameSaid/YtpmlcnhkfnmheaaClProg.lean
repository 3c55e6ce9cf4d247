/- Layer 4: the program's clint: the contracts of all its calls. -/
import Derived.Test.YtpmlcnhkfnmheaaClWrite
import Derived.Deep.RegionWith
namespace Go.Proofs.Ytpmlcnhkfnmheaa
open Go.RowKit
set_option linter.unusedVariables false

theorem tells_soft (t : Cl) : Tells 28 #[progV t] (sI t.s) := ⟨fun _ => by kernel_rfl, fun w => softWord_any w t⟩
theorem tells_alarm (t : Cl) : Tells 31 #[timesV t] t.c := ⟨fun _ => by kernel_rfl, fun w => alarm_any w t⟩
theorem tells_time (t : Cl) : Tells 15 #[timesV t] t.n := ⟨fun _ => by kernel_rfl, fun w => time_any w t⟩
theorem puts_soft (b : Nat) (t : Cl) : Puts 29 #[.pointer (some ⟨b, 0, none⟩)] b t (fun v => ⟨bitB (V v) 0, t.c, t.n⟩) := ⟨fun _ _ => by kernel_rfl, fun v w hv h => setSoftWord_any w b t v h hv⟩
theorem puts_alarm (b : Nat) (t : Cl) : Puts 32 #[.pointer (some ⟨b, 1, none⟩)] b t (fun v => ⟨t.s, v, t.n⟩) := ⟨fun _ _ => by kernel_rfl, fun v w hv h => setAlarm_any w b t v h hv⟩
theorem puts_time (b : Nat) (t : Cl) : Puts 25 #[.pointer (some ⟨b, 1, none⟩)] b t (fun v => ⟨t.s, t.c, v⟩) := ⟨fun _ _ => by kernel_rfl, fun v w hv h => setTime_any w b t v h hv⟩
theorem sI_low (s : Bool) : sI s % 4294967296 = sI s := by cases s <;> rfl

theorem read_0 (w : World) (t : Cl) (hok : t.ok) (off n : Int) (hp : NoPlace off n) (ho : In64 off) :
    Calls Try.prog 9 #[progV t, .int .u64 off, .int .i64 n] w (ReadC w 0 false) := by
  have HP := Lib.hid hp
  have HO := Lib.hid ho
  have HB := Lib.hid ((Below.refl w.heap.size w).alloc (Nat.le_refl _) (.cells #[.bool t.s, .int .u64 t.c, .int .u64 t.n] 26))
  clear hp ho hok
  show Calls Try.prog 9 #[.agg #[.bool t.s, .int .u64 t.c, .int .u64 t.n], .int .u64 off, .int .i64 n] w _
  go_enter Try.func9, Try.ntmps9
  go_wp2_with fail
  refine (find_0 _ _ _ _ HP.out HO.out).mono ?_
  rintro e w2 ⟨rfl, hb⟩
  have HB2 := Lib.hid (HB.out.trans (hb.mono HB.out.size))
  clear HB hb
  simp only [noP]
  go_wp2
  go_ret2
  exact ⟨rfl, HB2.out.alloc HB2.out.size _⟩
theorem write_0 (w : World) (b : Nat) (t : Cl) (h : ProgC w b t) (off n v : Int) (hp : NoPlace off n) (ho : In64 off) :
    Calls Try.prog 12 #[.pointer (some ⟨b, 0, none⟩), .int .u64 off, .int .i64 n, .int .u64 v] w (WriteC w b false t) := by
  have HP := Lib.hid hp
  have HO := Lib.hid ho
  have HC := Lib.hid h
  clear hp ho h
  go_enter Try.func12, Try.ntmps12
  go_wp2_with fail
  refine (find_0 _ _ _ _ HP.out HO.out).mono ?_
  rintro e w2 ⟨rfl, hb⟩
  have HB2 := Lib.hid hb
  clear hb
  simp only [noP]
  go_wp2
  go_ret
  exact ⟨rfl, Only.of_below _ (HB2.out.alloc HB2.out.size _), HC.out.below (HB2.out.alloc HB2.out.size _)⟩
theorem write_nil (w : World) (off n v : Int) : Calls Try.prog 12 #[.pointer none, .int .u64 off, .int .i64 n, .int .u64 v] w fun e w' => e = .returned (.bool false) ∧ w = w' := by
  go_enter Try.func12, Try.ntmps12
  go_wp2
  go_ret
  exact ⟨rfl, rfl⟩

theorem read_1 (w : World) (t : Cl) (hok : t.ok) : Calls Try.prog 9 #[progV t, .int .u64 0, .int .i64 4] w (ReadC w (rdC t 1) true) := by
  have h := read_place w t hok 0 4 28 29 (fun _ => #[progV t]) (fun b => #[.pointer (some ⟨b, 0, none⟩)]) 0 (sI t.s) (sI_in _) (by decide) (fun w b hp => find_1 w b t hp) (fun _ => tells_soft t)
  rw [show U (fieldB (V (sI t.s)) 0 (8 * 4)) = rdC t 1 from (field_low (sI_in _)).trans (sI_low _)] at h
  exact h
theorem read_2 (w : World) (t : Cl) (hok : t.ok) : Calls Try.prog 9 #[progV t, .int .u64 16384, .int .i64 8] w (ReadC w (rdC t 2) true) := by
  have h := read_place w t hok 16384 8 31 32 (fun _ => #[timesV t]) (fun b => #[.pointer (some ⟨b, 1, none⟩)]) 0 t.c hok.1 (by decide) (fun w b hp => find_2 w b t hp) (fun _ => tells_alarm t)
  rw [show U (fieldB (V t.c) 0 (8 * 8)) = rdC t 2 from field_whole hok.1] at h
  exact h
theorem read_3 (w : World) (t : Cl) (hok : t.ok) : Calls Try.prog 9 #[progV t, .int .u64 16384, .int .i64 4] w (ReadC w (rdC t 3) true) := by
  have h := read_place w t hok 16384 4 31 32 (fun _ => #[timesV t]) (fun b => #[.pointer (some ⟨b, 1, none⟩)]) 0 t.c hok.1 (by decide) (fun w b hp => find_3 w b t hp) (fun _ => tells_alarm t)
  rw [show U (fieldB (V t.c) 0 (8 * 4)) = rdC t 3 from field_low hok.1] at h
  exact h
theorem read_4 (w : World) (t : Cl) (hok : t.ok) : Calls Try.prog 9 #[progV t, .int .u64 16388, .int .i64 4] w (ReadC w (rdC t 4) true) := by
  have h := read_place w t hok 16388 4 31 32 (fun _ => #[timesV t]) (fun b => #[.pointer (some ⟨b, 1, none⟩)]) 32 t.c hok.1 (by decide) (fun w b hp => find_4 w b t hp) (fun _ => tells_alarm t)
  rw [show U (fieldB (V t.c) 32 (8 * 4)) = rdC t 4 from field_high hok.1] at h
  exact h
theorem read_5 (w : World) (t : Cl) (hok : t.ok) : Calls Try.prog 9 #[progV t, .int .u64 49144, .int .i64 8] w (ReadC w (rdC t 5) true) := by
  have h := read_place w t hok 49144 8 15 25 (fun _ => #[timesV t]) (fun b => #[.pointer (some ⟨b, 1, none⟩)]) 0 t.n hok.2 (by decide) (fun w b hp => find_5 w b t hp) (fun _ => tells_time t)
  rw [show U (fieldB (V t.n) 0 (8 * 8)) = rdC t 5 from field_whole hok.2] at h
  exact h
theorem read_6 (w : World) (t : Cl) (hok : t.ok) : Calls Try.prog 9 #[progV t, .int .u64 49144, .int .i64 4] w (ReadC w (rdC t 6) true) := by
  have h := read_place w t hok 49144 4 15 25 (fun _ => #[timesV t]) (fun b => #[.pointer (some ⟨b, 1, none⟩)]) 0 t.n hok.2 (by decide) (fun w b hp => find_6 w b t hp) (fun _ => tells_time t)
  rw [show U (fieldB (V t.n) 0 (8 * 4)) = rdC t 6 from field_low hok.2] at h
  exact h
theorem read_7 (w : World) (t : Cl) (hok : t.ok) : Calls Try.prog 9 #[progV t, .int .u64 49148, .int .i64 4] w (ReadC w (rdC t 7) true) := by
  have h := read_place w t hok 49148 4 15 25 (fun _ => #[timesV t]) (fun b => #[.pointer (some ⟨b, 1, none⟩)]) 32 t.n hok.2 (by decide) (fun w b hp => find_7 w b t hp) (fun _ => tells_time t)
  rw [show U (fieldB (V t.n) 32 (8 * 4)) = rdC t 7 from field_high hok.2] at h
  exact h
theorem write_1 (w : World) (b : Nat) (t : Cl) (h : ProgC w b t) (v : Int) (hv : In64 v) : Calls Try.prog 12 #[.pointer (some ⟨b, 0, none⟩), .int .u64 0, .int .i64 4, .int .u64 v] w (WriteC w b true (wrC t v 1)) := by
  have k := write_place w b t h 0 4 v 28 29 #[progV t] #[.pointer (some ⟨b, 0, none⟩)] 0 (sI t.s) _ (sI_in _) hv (by decide) (fun w hp => find_1 w b t hp) (tells_soft t) (puts_soft b t)
  have e : (⟨bitB (V (U (putB (V (sI t.s)) 0 (8 * 4) (V v)))) 0, t.c, t.n⟩ : Cl) = wrC t v 1 := by
    have e1 := bit_put_low (x := sI t.s) (sI_in _) hv
    show (⟨bitB (V (U (putB (V (sI t.s)) 0 32 (V v)))) 0, t.c, t.n⟩ : Cl) = _
    rw [e1]; rfl
  rw [← e]
  exact k
theorem write_2 (w : World) (b : Nat) (t : Cl) (h : ProgC w b t) (v : Int) (hv : In64 v) : Calls Try.prog 12 #[.pointer (some ⟨b, 0, none⟩), .int .u64 16384, .int .i64 8, .int .u64 v] w (WriteC w b true (wrC t v 2)) := by
  have k := write_place w b t h 16384 8 v 31 32 #[timesV t] #[.pointer (some ⟨b, 1, none⟩)] 0 t.c _ h.2.1 hv (by decide) (fun w hp => find_2 w b t hp) (tells_alarm t) (puts_alarm b t)
  have e : (⟨t.s, U (putB (V t.c) 0 (8 * 8) (V v)), t.n⟩ : Cl) = wrC t v 2 := by
    have e1 := put_whole (x := t.c) hv
    show (⟨t.s, U (putB (V t.c) 0 64 (V v)), t.n⟩ : Cl) = _
    rw [e1]; rfl
  rw [← e]
  exact k
theorem write_3 (w : World) (b : Nat) (t : Cl) (h : ProgC w b t) (v : Int) (hv : In64 v) : Calls Try.prog 12 #[.pointer (some ⟨b, 0, none⟩), .int .u64 16384, .int .i64 4, .int .u64 v] w (WriteC w b true (wrC t v 3)) := by
  have k := write_place w b t h 16384 4 v 31 32 #[timesV t] #[.pointer (some ⟨b, 1, none⟩)] 0 t.c _ h.2.1 hv (by decide) (fun w hp => find_3 w b t hp) (tells_alarm t) (puts_alarm b t)
  have e : (⟨t.s, U (putB (V t.c) 0 (8 * 4) (V v)), t.n⟩ : Cl) = wrC t v 3 := by
    have e1 := put_low h.2.1 hv
    show (⟨t.s, U (putB (V t.c) 0 32 (V v)), t.n⟩ : Cl) = _
    rw [e1]; rfl
  rw [← e]
  exact k
theorem write_4 (w : World) (b : Nat) (t : Cl) (h : ProgC w b t) (v : Int) (hv : In64 v) : Calls Try.prog 12 #[.pointer (some ⟨b, 0, none⟩), .int .u64 16388, .int .i64 4, .int .u64 v] w (WriteC w b true (wrC t v 4)) := by
  have k := write_place w b t h 16388 4 v 31 32 #[timesV t] #[.pointer (some ⟨b, 1, none⟩)] 32 t.c _ h.2.1 hv (by decide) (fun w hp => find_4 w b t hp) (tells_alarm t) (puts_alarm b t)
  have e : (⟨t.s, U (putB (V t.c) 32 (8 * 4) (V v)), t.n⟩ : Cl) = wrC t v 4 := by
    have e1 := put_high h.2.1 hv
    show (⟨t.s, U (putB (V t.c) 32 32 (V v)), t.n⟩ : Cl) = _
    rw [e1]; rfl
  rw [← e]
  exact k
theorem write_5 (w : World) (b : Nat) (t : Cl) (h : ProgC w b t) (v : Int) (hv : In64 v) : Calls Try.prog 12 #[.pointer (some ⟨b, 0, none⟩), .int .u64 49144, .int .i64 8, .int .u64 v] w (WriteC w b true (wrC t v 5)) := by
  have k := write_place w b t h 49144 8 v 15 25 #[timesV t] #[.pointer (some ⟨b, 1, none⟩)] 0 t.n _ h.2.2 hv (by decide) (fun w hp => find_5 w b t hp) (tells_time t) (puts_time b t)
  have e : (⟨t.s, t.c, U (putB (V t.n) 0 (8 * 8) (V v))⟩ : Cl) = wrC t v 5 := by
    have e1 := put_whole (x := t.n) hv
    show (⟨t.s, t.c, U (putB (V t.n) 0 64 (V v))⟩ : Cl) = _
    rw [e1]; rfl
  rw [← e]
  exact k
theorem write_6 (w : World) (b : Nat) (t : Cl) (h : ProgC w b t) (v : Int) (hv : In64 v) : Calls Try.prog 12 #[.pointer (some ⟨b, 0, none⟩), .int .u64 49144, .int .i64 4, .int .u64 v] w (WriteC w b true (wrC t v 6)) := by
  have k := write_place w b t h 49144 4 v 15 25 #[timesV t] #[.pointer (some ⟨b, 1, none⟩)] 0 t.n _ h.2.2 hv (by decide) (fun w hp => find_6 w b t hp) (tells_time t) (puts_time b t)
  have e : (⟨t.s, t.c, U (putB (V t.n) 0 (8 * 4) (V v))⟩ : Cl) = wrC t v 6 := by
    have e1 := put_low h.2.2 hv
    show (⟨t.s, t.c, U (putB (V t.n) 0 32 (V v))⟩ : Cl) = _
    rw [e1]; rfl
  rw [← e]
  exact k
theorem write_7 (w : World) (b : Nat) (t : Cl) (h : ProgC w b t) (v : Int) (hv : In64 v) : Calls Try.prog 12 #[.pointer (some ⟨b, 0, none⟩), .int .u64 49148, .int .i64 4, .int .u64 v] w (WriteC w b true (wrC t v 7)) := by
  have k := write_place w b t h 49148 4 v 15 25 #[timesV t] #[.pointer (some ⟨b, 1, none⟩)] 32 t.n _ h.2.2 hv (by decide) (fun w hp => find_7 w b t hp) (tells_time t) (puts_time b t)
  have e : (⟨t.s, t.c, U (putB (V t.n) 32 (8 * 4) (V v))⟩ : Cl) = wrC t v 7 := by
    have e1 := put_high h.2.2 hv
    show (⟨t.s, t.c, U (putB (V t.n) 32 32 (V v))⟩ : Cl) = _
    rw [e1]; rfl
  rw [← e]
  exact k

theorem read_any (w : World) (t : Cl) (hok : t.ok) (off n : Int) (ho : In64 off) :
    Calls Try.prog 9 #[progV t, .int .u64 off, .int .i64 n] w (ReadC w (rdC t (kindC off n)) (okC off n)) := by
  unfold okC
  rcases kind_cases off n with ⟨rfl, rfl, hk⟩ | ⟨rfl, rfl, hk⟩ | ⟨rfl, rfl, hk⟩ | ⟨rfl, rfl, hk⟩ | ⟨rfl, rfl, hk⟩ | ⟨rfl, rfl, hk⟩ | ⟨rfl, rfl, hk⟩ | ⟨hk, h1, h2, h3⟩
  all_goals rw [hk]
  · exact read_1 w t hok
  · exact read_2 w t hok
  · exact read_3 w t hok
  · exact read_4 w t hok
  · exact read_5 w t hok
  · exact read_6 w t hok
  · exact read_7 w t hok
  · exact read_0 w t hok off n ⟨hk, h1, h2, h3⟩ ho
theorem write_any (w : World) (b : Nat) (t : Cl) (h : ProgC w b t) (off n v : Int) (ho : In64 off) (hv : In64 v) :
    Calls Try.prog 12 #[.pointer (some ⟨b, 0, none⟩), .int .u64 off, .int .i64 n, .int .u64 v] w (WriteC w b (okC off n) (wrC t v (kindC off n))) := by
  unfold okC
  rcases kind_cases off n with ⟨rfl, rfl, hk⟩ | ⟨rfl, rfl, hk⟩ | ⟨rfl, rfl, hk⟩ | ⟨rfl, rfl, hk⟩ | ⟨rfl, rfl, hk⟩ | ⟨rfl, rfl, hk⟩ | ⟨rfl, rfl, hk⟩ | ⟨hk, h1, h2, h3⟩
  all_goals rw [hk]
  · exact write_1 w b t h v hv
  · exact write_2 w b t h v hv
  · exact write_3 w b t h v hv
  · exact write_4 w b t h v hv
  · exact write_5 w b t h v hv
  · exact write_6 w b t h v hv
  · exact write_7 w b t h v hv
  · exact write_0 w b t h off n v ⟨hk, h1, h2, h3⟩ ho

theorem new_any (w : World) : Calls Try.prog 8 #[] w fun e w' => e = .returned (progV ⟨false, 18446744073709551615, 0⟩) ∧ Below w.heap.size w w' := by
  go_enter Try.func8, Try.ntmps8
  go_wp2
  exact bodyPost_ret (v := progV ⟨false, 18446744073709551615, 0⟩) (by simp [results, Try.results8, go_sem]; rfl) rfl ⟨rfl, (Below.refl _ _).alloc (Nat.le_refl _) _⟩
theorem tick_nil (w : World) (n : Int) : Calls Try.prog 13 #[.pointer none, .int .u64 n] w fun e w' => (∃ u, e = .returned u) ∧ w = w' := by
  go_enter Try.func13, Try.ntmps13
  go_wp2
  go_end0
  exact ⟨⟨_, rfl⟩, rfl⟩
set_option maxHeartbeats 1000000 in
theorem tick_any (w : World) (b : Nat) (t : Cl) (h : ProgC w b t) (n : Int) (hn : In64 n) :
    Calls Try.prog 13 #[.pointer (some ⟨b, 0, none⟩), .int .u64 n] w (SetEndC w b (tickC t n)) := by
  obtain ⟨hc0, hc1, hc2⟩ := h.cells
  have hbl := h.lt
  have H := Lib.hid h
  have HS : Hid (IntKind.u64.wrap (t.n + n) = (t.n + n) % 18446744073709551616) := Lib.hid (IntKind.wrap_u64 _)
  have HI : Hid (In64 (IntKind.u64.wrap (t.n + n))) := by
    refine Lib.hid ?_
    rw [wrap_eq]; exact U_in _
  clear h
  go_enter Try.func13, Try.ntmps13
  go_wp2_with fail
  have d1 : w.drew.cell? ⟨b, 1, none⟩ = some (.int .u64 t.c) := hc1
  have d2 : w.drew.cell? ⟨b, 2, none⟩ = some (.int .u64 t.n) := hc2
  go_region_with (first
      | (go_at_call 15; refine (time_any _ t).mono ?_; rintro e w4 ⟨rfl, hb⟩; have HB4 := Lib.hid (((Below.refl w.heap.size w).drew).trans hb); have HP4 : Hid (ProgC w4 b t) := Lib.hid (H.out.below HB4.out); clear hb)
      | (go_at_call 25; refine (setTime_any _ b t _ HP4.out HI.out).mono ?_; rintro e w5 ⟨hu, ho, hp⟩; obtain ⟨u, rfl⟩ := hu; have HE := Lib.hid ((Only.of_below (fun i => i = b) HB4.out).trans ho); have HP5 := Lib.hid hp; clear ho hp))
  go_wp2
  go_end0
  refine ⟨⟨_, rfl⟩, HE.out, ?_⟩
  have hh := HP5.out
  rw [HS.out] at hh
  exact hh

end Go.Proofs.Ytpmlcnhkfnmheaa
