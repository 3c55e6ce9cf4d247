/- Layer 6: the program's uart: Read; Read and Write whole. -/
import Derived.Test.YtcbjfkbmbjmnbaaDoorUg
namespace Go.Proofs.YtcbjfkbmbjmnbaaDoor
open Go.RowKit
set_option linter.unusedVariables false

theorem rdX_bd {t : US} (h : t.ok) (hb : Byt t.inn) (k : Nat) : 0 ≤ rdX t k ∧ rdX t k < 256 := by
  have e1 := h.ier
  have e2 := h.lcr
  have e3 := h.mcr
  have e4 := h.scr
  have e5 := h.dl
  have e6 := h.dm
  unfold rdX
  split
  · by_cases hn : 0 < t.inn.length
    · exact hb.get hn
    · have : t.inn.getD 0 0 = 0 := by simp [List.getD, show t.inn = [] from List.eq_nil_of_length_eq_zero (by omega)]
      omega
  · omega
  · rcases rsn_vals t with hr | hr | hr <;> (rw [hr]; split <;> omega)
  · omega
  · omega
  · split <;> split <;> omega
  · omega
  · omega
  · omega
  · omega
  · omega

set_option maxRecDepth 100000 in
set_option maxHeartbeats 4000000 in
theorem read_0 (w : World) (b : Nat) (F : Nat → Prop) (t : US) (vi vo : Value) (h : HP w b F t vi vo) (off n : Int) (ho : In64 off) (hk : plK t off n = 0) :
    Calls Tryd.prog 16 #[.pointer (some ⟨b, 0, none⟩), .int .u64 off, .int .i64 n] w (TellU w b F (.tuple #[.int .u64 (rdX t 0), .bool true]) (rdT t 0)) := by
  have HFIND := Lib.hid (find_at w b F t vi vo h off n ho 0 (by rw [hk]; rfl) (by decide))
  obtain ⟨c4, c5, c6, c7, c8, c9, c10, c11, c12, c13⟩ := h.pregs
  obtain ⟨x0, x1⟩ := rdX_bd h.ok h.ri.byt 0
  have H := Lib.hid h
  have HN : Hid (Calls Tryd.prog 31 #[.pointer (some ⟨b, 0, none⟩)] w fun e w' => e = .returned (.int .u8 (rdX t 0)) ∧ EndU cellsP 52 w b F (rdT t 0) w') := Lib.hid (next_any w b F t vi vo h)
  generalize rdX t 0 = X at *
  generalize rdT t 0 = T at *
  clear h hk ho
  go_enter Tryd.func16, Tryd.ntmps16
  go_wp2_with (first
    | (go_at_call 26; refine (HFIND.out).mono ?_; rintro e w' ⟨rfl, rfl⟩)
    | (go_at_call 31; refine (HN.out).mono ?_; rintro e w' ⟨rfl, hE⟩; have HE := Lib.hid hE; clear hE))
  go_ret2
  exact ⟨rfl, HE.out⟩

set_option maxRecDepth 100000 in
set_option maxHeartbeats 4000000 in
theorem read_1 (w : World) (b : Nat) (F : Nat → Prop) (t : US) (vi vo : Value) (h : HP w b F t vi vo) (off n : Int) (ho : In64 off) (hk : plK t off n = 1) :
    Calls Tryd.prog 16 #[.pointer (some ⟨b, 0, none⟩), .int .u64 off, .int .i64 n] w (TellU w b F (.tuple #[.int .u64 (rdX t 1), .bool true]) (rdT t 1)) := by
  have HFIND := Lib.hid (find_at w b F t vi vo h off n ho 1 (by rw [hk]; rfl) (by decide))
  obtain ⟨c4, c5, c6, c7, c8, c9, c10, c11, c12, c13⟩ := h.pregs
  obtain ⟨x0, x1⟩ := rdX_bd h.ok h.ri.byt 1
  have H := Lib.hid h
  change Calls _ _ _ _ (TellU w b F (.tuple #[.int .u64 t.ier, .bool true]) t)
  change 0 ≤ t.ier at x0
  change t.ier < 256 at x1
  generalize t.ier = X at *
  clear h hk ho
  go_enter Tryd.func16, Tryd.ntmps16
  go_wp2_with (first
    | (go_at_call 26; refine (HFIND.out).mono ?_; rintro e w' ⟨rfl, rfl⟩))
  go_ret2
  exact ⟨rfl, EndU.refl H.out⟩

set_option maxRecDepth 100000 in
set_option maxHeartbeats 4000000 in
theorem read_2 (w : World) (b : Nat) (F : Nat → Prop) (t : US) (vi vo : Value) (h : HP w b F t vi vo) (off n : Int) (ho : In64 off) (hk : plK t off n = 2) :
    Calls Tryd.prog 16 #[.pointer (some ⟨b, 0, none⟩), .int .u64 off, .int .i64 n] w (TellU w b F (.tuple #[.int .u64 (rdX t 2), .bool true]) (rdT t 2)) := by
  have HFIND := Lib.hid (find_at w b F t vi vo h off n ho 2 (by rw [hk]; rfl) (by decide))
  obtain ⟨c4, c5, c6, c7, c8, c9, c10, c11, c12, c13⟩ := h.pregs
  obtain ⟨x0, x1⟩ := rdX_bd h.ok h.ri.byt 2
  have H := Lib.hid h
  have HN : Hid (Calls Tryd.prog 32 #[.pointer (some ⟨b, 0, none⟩)] w fun e w' => e = .returned (.int .u8 (rdX t 2)) ∧ EndU cellsP 52 w b F (rdT t 2) w') := Lib.hid (tellReason_any w b F t vi vo h)
  generalize rdX t 2 = X at *
  generalize rdT t 2 = T at *
  clear h hk ho
  go_enter Tryd.func16, Tryd.ntmps16
  go_wp2_with (first
    | (go_at_call 26; refine (HFIND.out).mono ?_; rintro e w' ⟨rfl, rfl⟩)
    | (go_at_call 32; refine (HN.out).mono ?_; rintro e w' ⟨rfl, hE⟩; have HE := Lib.hid hE; clear hE))
  go_ret2
  exact ⟨rfl, HE.out⟩

set_option maxRecDepth 100000 in
set_option maxHeartbeats 4000000 in
theorem read_3 (w : World) (b : Nat) (F : Nat → Prop) (t : US) (vi vo : Value) (h : HP w b F t vi vo) (off n : Int) (ho : In64 off) (hk : plK t off n = 3) :
    Calls Tryd.prog 16 #[.pointer (some ⟨b, 0, none⟩), .int .u64 off, .int .i64 n] w (TellU w b F (.tuple #[.int .u64 (rdX t 3), .bool true]) (rdT t 3)) := by
  have HFIND := Lib.hid (find_at w b F t vi vo h off n ho 3 (by rw [hk]; rfl) (by decide))
  obtain ⟨c4, c5, c6, c7, c8, c9, c10, c11, c12, c13⟩ := h.pregs
  obtain ⟨x0, x1⟩ := rdX_bd h.ok h.ri.byt 3
  have H := Lib.hid h
  change Calls _ _ _ _ (TellU w b F (.tuple #[.int .u64 t.lcr, .bool true]) t)
  change 0 ≤ t.lcr at x0
  change t.lcr < 256 at x1
  generalize t.lcr = X at *
  clear h hk ho
  go_enter Tryd.func16, Tryd.ntmps16
  go_wp2_with (first
    | (go_at_call 26; refine (HFIND.out).mono ?_; rintro e w' ⟨rfl, rfl⟩))
  go_ret2
  exact ⟨rfl, EndU.refl H.out⟩

set_option maxRecDepth 100000 in
set_option maxHeartbeats 4000000 in
theorem read_4 (w : World) (b : Nat) (F : Nat → Prop) (t : US) (vi vo : Value) (h : HP w b F t vi vo) (off n : Int) (ho : In64 off) (hk : plK t off n = 4) :
    Calls Tryd.prog 16 #[.pointer (some ⟨b, 0, none⟩), .int .u64 off, .int .i64 n] w (TellU w b F (.tuple #[.int .u64 (rdX t 4), .bool true]) (rdT t 4)) := by
  have HFIND := Lib.hid (find_at w b F t vi vo h off n ho 4 (by rw [hk]; rfl) (by decide))
  obtain ⟨c4, c5, c6, c7, c8, c9, c10, c11, c12, c13⟩ := h.pregs
  obtain ⟨x0, x1⟩ := rdX_bd h.ok h.ri.byt 4
  have H := Lib.hid h
  change Calls _ _ _ _ (TellU w b F (.tuple #[.int .u64 t.mcr, .bool true]) t)
  change 0 ≤ t.mcr at x0
  change t.mcr < 256 at x1
  generalize t.mcr = X at *
  clear h hk ho
  go_enter Tryd.func16, Tryd.ntmps16
  go_wp2_with (first
    | (go_at_call 26; refine (HFIND.out).mono ?_; rintro e w' ⟨rfl, rfl⟩))
  go_ret2
  exact ⟨rfl, EndU.refl H.out⟩

set_option maxRecDepth 100000 in
set_option maxHeartbeats 4000000 in
theorem read_5 (w : World) (b : Nat) (F : Nat → Prop) (t : US) (vi vo : Value) (h : HP w b F t vi vo) (off n : Int) (ho : In64 off) (hk : plK t off n = 5) :
    Calls Tryd.prog 16 #[.pointer (some ⟨b, 0, none⟩), .int .u64 off, .int .i64 n] w (TellU w b F (.tuple #[.int .u64 (rdX t 5), .bool true]) (rdT t 5)) := by
  have HFIND := Lib.hid (find_at w b F t vi vo h off n ho 5 (by rw [hk]; rfl) (by decide))
  obtain ⟨c4, c5, c6, c7, c8, c9, c10, c11, c12, c13⟩ := h.pregs
  obtain ⟨x0, x1⟩ := rdX_bd h.ok h.ri.byt 5
  have H := Lib.hid h
  have HN : Hid (Calls Tryd.prog 33 #[.pointer (some ⟨b, 0, none⟩)] w fun e w' => e = .returned (.int .u8 (rdX t 5)) ∧ EndU cellsP 52 w b F (rdT t 5) w') := Lib.hid (tellStatus_any w b F t vi vo h)
  generalize rdX t 5 = X at *
  generalize rdT t 5 = T at *
  clear h hk ho
  go_enter Tryd.func16, Tryd.ntmps16
  go_wp2_with (first
    | (go_at_call 26; refine (HFIND.out).mono ?_; rintro e w' ⟨rfl, rfl⟩)
    | (go_at_call 33; refine (HN.out).mono ?_; rintro e w' ⟨rfl, hE⟩; have HE := Lib.hid hE; clear hE))
  go_ret2
  exact ⟨rfl, HE.out⟩

set_option maxRecDepth 100000 in
set_option maxHeartbeats 4000000 in
theorem read_6 (w : World) (b : Nat) (F : Nat → Prop) (t : US) (vi vo : Value) (h : HP w b F t vi vo) (off n : Int) (ho : In64 off) (hk : plK t off n = 6) :
    Calls Tryd.prog 16 #[.pointer (some ⟨b, 0, none⟩), .int .u64 off, .int .i64 n] w (TellU w b F (.tuple #[.int .u64 (rdX t 6), .bool true]) (rdT t 6)) := by
  have HFIND := Lib.hid (find_at w b F t vi vo h off n ho 6 (by rw [hk]; rfl) (by decide))
  obtain ⟨c4, c5, c6, c7, c8, c9, c10, c11, c12, c13⟩ := h.pregs
  obtain ⟨x0, x1⟩ := rdX_bd h.ok h.ri.byt 6
  have H := Lib.hid h
  change Calls _ _ _ _ (TellU w b F (.tuple #[.int .u64 176, .bool true]) t)
  clear h hk ho
  go_enter Tryd.func16, Tryd.ntmps16
  go_wp2_with (first
    | (go_at_call 26; refine (HFIND.out).mono ?_; rintro e w' ⟨rfl, rfl⟩))
  go_ret2
  exact ⟨rfl, EndU.refl H.out⟩

set_option maxRecDepth 100000 in
set_option maxHeartbeats 4000000 in
theorem read_7 (w : World) (b : Nat) (F : Nat → Prop) (t : US) (vi vo : Value) (h : HP w b F t vi vo) (off n : Int) (ho : In64 off) (hk : plK t off n = 7) :
    Calls Tryd.prog 16 #[.pointer (some ⟨b, 0, none⟩), .int .u64 off, .int .i64 n] w (TellU w b F (.tuple #[.int .u64 (rdX t 7), .bool true]) (rdT t 7)) := by
  have HFIND := Lib.hid (find_at w b F t vi vo h off n ho 7 (by rw [hk]; rfl) (by decide))
  obtain ⟨c4, c5, c6, c7, c8, c9, c10, c11, c12, c13⟩ := h.pregs
  obtain ⟨x0, x1⟩ := rdX_bd h.ok h.ri.byt 7
  have H := Lib.hid h
  change Calls _ _ _ _ (TellU w b F (.tuple #[.int .u64 t.scr, .bool true]) t)
  change 0 ≤ t.scr at x0
  change t.scr < 256 at x1
  generalize t.scr = X at *
  clear h hk ho
  go_enter Tryd.func16, Tryd.ntmps16
  go_wp2_with (first
    | (go_at_call 26; refine (HFIND.out).mono ?_; rintro e w' ⟨rfl, rfl⟩))
  go_ret2
  exact ⟨rfl, EndU.refl H.out⟩

set_option maxRecDepth 100000 in
set_option maxHeartbeats 4000000 in
theorem read_8 (w : World) (b : Nat) (F : Nat → Prop) (t : US) (vi vo : Value) (h : HP w b F t vi vo) (off n : Int) (ho : In64 off) (hk : plK t off n = 8) :
    Calls Tryd.prog 16 #[.pointer (some ⟨b, 0, none⟩), .int .u64 off, .int .i64 n] w (TellU w b F (.tuple #[.int .u64 (rdX t 8), .bool true]) (rdT t 8)) := by
  have HFIND := Lib.hid (find_at w b F t vi vo h off n ho 8 (by rw [hk]; rfl) (by decide))
  obtain ⟨c4, c5, c6, c7, c8, c9, c10, c11, c12, c13⟩ := h.pregs
  obtain ⟨x0, x1⟩ := rdX_bd h.ok h.ri.byt 8
  have H := Lib.hid h
  change Calls _ _ _ _ (TellU w b F (.tuple #[.int .u64 t.dl, .bool true]) t)
  change 0 ≤ t.dl at x0
  change t.dl < 256 at x1
  generalize t.dl = X at *
  clear h hk ho
  go_enter Tryd.func16, Tryd.ntmps16
  go_wp2_with (first
    | (go_at_call 26; refine (HFIND.out).mono ?_; rintro e w' ⟨rfl, rfl⟩))
  go_ret2
  exact ⟨rfl, EndU.refl H.out⟩

set_option maxRecDepth 100000 in
set_option maxHeartbeats 4000000 in
theorem read_9 (w : World) (b : Nat) (F : Nat → Prop) (t : US) (vi vo : Value) (h : HP w b F t vi vo) (off n : Int) (ho : In64 off) (hk : plK t off n = 9) :
    Calls Tryd.prog 16 #[.pointer (some ⟨b, 0, none⟩), .int .u64 off, .int .i64 n] w (TellU w b F (.tuple #[.int .u64 (rdX t 9), .bool true]) (rdT t 9)) := by
  have HFIND := Lib.hid (find_at w b F t vi vo h off n ho 9 (by rw [hk]; rfl) (by decide))
  obtain ⟨c4, c5, c6, c7, c8, c9, c10, c11, c12, c13⟩ := h.pregs
  obtain ⟨x0, x1⟩ := rdX_bd h.ok h.ri.byt 9
  have H := Lib.hid h
  change Calls _ _ _ _ (TellU w b F (.tuple #[.int .u64 t.dm, .bool true]) t)
  change 0 ≤ t.dm at x0
  change t.dm < 256 at x1
  generalize t.dm = X at *
  clear h hk ho
  go_enter Tryd.func16, Tryd.ntmps16
  go_wp2_with (first
    | (go_at_call 26; refine (HFIND.out).mono ?_; rintro e w' ⟨rfl, rfl⟩))
  go_ret2
  exact ⟨rfl, EndU.refl H.out⟩

theorem read_out (w : World) (b : Nat) (F : Nat → Prop) (t : US) (vi vo : Value) (h : HP w b F t vi vo) (off n : Int) (ho : In64 off) (hk : plK t off n = 10) :
    Calls Tryd.prog 16 #[.pointer (some ⟨b, 0, none⟩), .int .u64 off, .int .i64 n] w (TellU w b F (.tuple #[.int .u64 0, .bool false]) t) := by
  have HFIND := Lib.hid (find_out w b F t vi vo h off n ho hk)
  have H := Lib.hid h
  clear h hk ho
  go_enter Tryd.func16, Tryd.ntmps16
  go_wp2_with (go_at_call 26; refine (HFIND.out).mono ?_; rintro e w' ⟨rfl, rfl⟩)
  go_ret2
  exact ⟨rfl, EndU.refl H.out⟩
theorem write_out (w : World) (b : Nat) (F : Nat → Prop) (t : US) (vi vo : Value) (h : HP w b F t vi vo) (off n v : Int) (ho : In64 off) (hk : plK t off n = 10) :
    Calls Tryd.prog 12 #[.pointer (some ⟨b, 0, none⟩), .int .u64 off, .int .i64 n, .int .u64 v] w (TellU w b F (.bool false) t) := by
  have HFIND := Lib.hid (find_out w b F t vi vo h off n ho hk)
  have H := Lib.hid h
  clear h hk ho
  go_enter Tryd.func12, Tryd.ntmps12
  go_wp2_with (go_at_call 26; refine (HFIND.out).mono ?_; rintro e w' ⟨rfl, rfl⟩)
  go_ret
  exact ⟨rfl, EndU.refl H.out⟩
theorem read_nil (w : World) (off n : Int) : Calls Tryd.prog 16 #[.pointer none, .int .u64 off, .int .i64 n] w fun e w' => e = .returned (.tuple #[.int .u64 0, .bool false]) ∧ w = w' := by
  go_enter Tryd.func16, Tryd.ntmps16
  go_wp2_with (go_at_call 26; refine (find_nil _ _ _).mono ?_; rintro e w' ⟨rfl, rfl⟩)
  go_ret2
  exact ⟨rfl, rfl⟩
theorem write_nil (w : World) (off n v : Int) : Calls Tryd.prog 12 #[.pointer none, .int .u64 off, .int .i64 n, .int .u64 v] w fun e w' => e = .returned (.bool false) ∧ w = w' := by
  go_enter Tryd.func12, Tryd.ntmps12
  go_wp2_with (go_at_call 26; refine (find_nil _ _ _).mono ?_; rintro e w' ⟨rfl, rfl⟩)
  go_ret
  exact ⟨rfl, rfl⟩
theorem plK_le (t : US) (off n : Int) : plK t off n ≤ 10 := by
  unfold plK
  split
  · split <;> omega
  · omega
theorem ten {k : Nat} (h : k ≤ 10) : k = 0 ∨ k = 1 ∨ k = 2 ∨ k = 3 ∨ k = 4 ∨ k = 5 ∨ k = 6 ∨ k = 7 ∨ k = 8 ∨ k = 9 ∨ k = 10 := by omega
theorem read_any (w : World) (b : Nat) (F : Nat → Prop) (t : US) (h : UP w b F t) (off n : Int) (ho : In64 off) :
    Calls Tryd.prog 16 #[.pointer (some ⟨b, 0, none⟩), .int .u64 off, .int .i64 n] w (TellU w b F (.tuple #[.int .u64 (rdX t (plK t off n)), .bool (okK (plK t off n))]) (rdT t (plK t off n))) := by
  obtain ⟨vi, vo, h⟩ := h
  rcases ten (plK_le t off n) with hk | hk | hk | hk | hk | hk | hk | hk | hk | hk | hk
  · rw [hk]; exact read_0 w b F t vi vo h off n ho hk
  · rw [hk]; exact read_1 w b F t vi vo h off n ho hk
  · rw [hk]; exact read_2 w b F t vi vo h off n ho hk
  · rw [hk]; exact read_3 w b F t vi vo h off n ho hk
  · rw [hk]; exact read_4 w b F t vi vo h off n ho hk
  · rw [hk]; exact read_5 w b F t vi vo h off n ho hk
  · rw [hk]; exact read_6 w b F t vi vo h off n ho hk
  · rw [hk]; exact read_7 w b F t vi vo h off n ho hk
  · rw [hk]; exact read_8 w b F t vi vo h off n ho hk
  · rw [hk]; exact read_9 w b F t vi vo h off n ho hk
  · rw [hk]; exact read_out w b F t vi vo h off n ho hk
theorem write_any (w : World) (b : Nat) (F : Nat → Prop) (t : US) (h : UP w b F t) (htb : Tab w) (hnt : ¬ F 0) (off n v : Int) (ho : In64 off) (hv : In64 v) :
    Calls Tryd.prog 12 #[.pointer (some ⟨b, 0, none⟩), .int .u64 off, .int .i64 n, .int .u64 v] w (TellU w b F (.bool (okK (plK t off n))) (wrT t (v % 256) (plK t off n))) := by
  obtain ⟨vi, vo, h⟩ := h
  rcases ten (plK_le t off n) with hk | hk | hk | hk | hk | hk | hk | hk | hk | hk | hk
  · rw [hk]; exact write_0 w b F t vi vo h htb hnt off n v ho hv hk
  · rw [hk]; exact write_1 w b F t vi vo h htb hnt off n v ho hv hk
  · rw [hk]; exact write_2 w b F t vi vo h htb hnt off n v ho hv hk
  · rw [hk]; exact write_3 w b F t vi vo h htb hnt off n v ho hv hk
  · rw [hk]; exact write_4 w b F t vi vo h htb hnt off n v ho hv hk
  · rw [hk]; exact write_5 w b F t vi vo h htb hnt off n v ho hv hk
  · rw [hk]; exact write_6 w b F t vi vo h htb hnt off n v ho hv hk
  · rw [hk]; exact write_7 w b F t vi vo h htb hnt off n v ho hv hk
  · rw [hk]; exact write_8 w b F t vi vo h htb hnt off n v ho hv hk
  · rw [hk]; exact write_9 w b F t vi vo h htb hnt off n v ho hv hk
  · rw [hk]; exact write_out w b F t vi vo h off n v ho hk

end Go.Proofs.YtcbjfkbmbjmnbaaDoor
