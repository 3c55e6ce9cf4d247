/- Layer 4: find, walked place by place. -/
import Derived.Test.YtpmlcnhkfnmheaaClP
import Derived.Laws.EntriesVeiled
import Derived.Laws.CopyOwn
namespace Go.Proofs.Ytpmlcnhkfnmheaa
open Go.RowKit
set_option linter.unusedVariables false

/-- What find leaves: a place as a value. -/
def FindEnd (w : World) (v : Value) (r : Bool) (e : Ending) (w' : World) : Prop := e = .returned (.tuple #[v, .bool r]) ∧ Below w.heap.size w w'

/-- A cell of a block that was there, behind a making. -/
theorem cell_alloc {w : World} {b k : Nat} {v : Value} (h : w.cell? ⟨b, k, none⟩ = some v) (o : Obj) : (w.alloc o).cell? ⟨b, k, none⟩ = some v := by
  have hb : b < w.heap.size := by
    by_cases hb : b < w.heap.size
    · exact hb
    · have hn : w.heap[b]? = none := by simp; omega
      simp [World.cell?, hn] at h
  exact (((Below.refl w.heap.size w).alloc (Nat.le_refl _) o).cell (p := ⟨b, k, none⟩) hb).trans h
theorem isOfTime_is (a n : Int) (r : Bool) (w : World) (h : tmB a n = r) : Calls Try.prog 30 #[.int .u64 a, .int .i64 n] w fun e w' => e = .returned (.bool r) ∧ w = w' := by
  subst h; exact isOfTime_any a n w
/-- A place's cells. -/
def rowP (f m : Value) (lo : Int) : Array Value := #[f, m, .int .i64 lo]
theorem rowP_one (f m : Fn) (x y : Array Value) (lo : Int) : (rowP (.func f x #[]) (.func m y #[]) lo).all (·.oneCell') = true := by unfold rowP; simp [Value.oneCell']
/-- The places as values. -/
def softP (b : Nat) (t : Cl) : Value := .agg #[.func (.func 28) #[progV t] #[], .func (.func 29) #[.pointer (some ⟨b, 0, none⟩)] #[], .int .i64 0]
def alarmP (b : Nat) (t : Cl) (lo : Int) : Value := .agg #[.func (.func 31) #[timesV t] #[], .func (.func 32) #[.pointer (some ⟨b, 1, none⟩)] #[], .int .i64 lo]
def timeP (b : Nat) (t : Cl) (lo : Int) : Value := .agg #[.func (.func 15) #[timesV t] #[], .func (.func 25) #[.pointer (some ⟨b, 1, none⟩)] #[], .int .i64 lo]
def noP : Value := .agg #[Value.nilFunc, Value.nilFunc, .int .i64 0]

theorem find_1 (w : World) (b : Nat) (t : Cl) (h : ProgC w b t) :
    Calls Try.prog 22 #[.pointer (some ⟨b, 0, none⟩), .int .u64 0, .int .i64 4] w (FindEnd w (softP b t) true) := by
  obtain ⟨hc0, hc1, hc2⟩ := h.cells
  have a0 := fun o => cell_alloc hc0 o
  have a1 := fun o => cell_alloc hc1 o
  have a2 := fun o => cell_alloc hc2 o
  have hmf : ∀ (fn : Fn) (first cap : Array Value) (w : World), (Instr.makeFunc fn first cap).run Try.prog w = .ok (.func fn first cap) w := fun _ _ _ _ => rfl
  clear h
  go_enter Try.func22, Try.ntmps22
  go_wp2
  exact bodyPost_ret (v := .tuple #[softP b t, .bool true]) (by simp [results, Try.results22, go_sem]; rfl) rfl ⟨rfl, (Below.refl _ _).alloc (Nat.le_refl _) _⟩

theorem find_2 (w : World) (b : Nat) (t : Cl) (h : ProgC w b t) :
    Calls Try.prog 22 #[.pointer (some ⟨b, 0, none⟩), .int .u64 16384, .int .i64 8] w (FindEnd w (alarmP b t 0) true) := by
  obtain ⟨hc0, hc1, hc2⟩ := h.cells
  have a1 := fun o => cell_alloc hc1 o
  have a2 := fun o => cell_alloc hc2 o
  have hmf : ∀ (fn : Fn) (first cap : Array Value) (w : World), (Instr.makeFunc fn first cap).run Try.prog w = .ok (.func fn first cap) w := fun _ _ _ _ => rfl
  clear h
  go_enter Try.func22, Try.ntmps22
  go_wp2_with (go_at_call 30; refine (isOfTime_is _ _ true _ (by decide)).mono ?_; rintro e w' ⟨rfl, rfl⟩)
  have D : (w.alloc (.cells #[Value.nilFunc, Value.nilFunc, .int .i64 0] 47)).heap[w.heap.size]? = some (.cells #[Value.nilFunc, Value.nilFunc, .int .i64 0] 47 (0, 0)) := heap_alloc_new w _
  have HB := Lib.hid ((Below.refl w.heap.size w).alloc (Nat.le_refl _) (.cells #[Value.nilFunc, Value.nilFunc, .int .i64 0] 47))
  have b1 := a1 (.cells #[Value.nilFunc, Value.nilFunc, .int .i64 0] 47)
  have b2 := a2 (.cells #[Value.nilFunc, Value.nilFunc, .int .i64 0] 47)
  clear a1 a2 hc0 hc1 hc2
  generalize w.alloc (.cells #[Value.nilFunc, Value.nilFunc, .int .i64 0] 47) = w1 at *
  have HD := Lib.hid D
  clear D
  go_still_tail 13, (by kernel_rfl)
  still_call (firstBit_0 _)
  repeat still_step
  refine wpStill_nil ?_
  change wpList _ _ _ _ _ w1.drew
  refine wpList_store_row rfl 47 (.tmp 6) (.tmp 39) rfl w.heap.size (rowP (.func (.func 31) #[.agg #[.int .u64 t.c, .int .u64 t.n]] #[]) (.func (.func 32) #[.pointer (some ⟨b, 1, none⟩)] #[]) 0) rfl rfl 47 #[Value.nilFunc, Value.nilFunc, .int .i64 0] HD.out (by kernel_rfl) rfl (rowP_one _ _ _ _ _) ?_
  have c0 := cell_setRow_same w1.drew w.heap.size 0 _ (rowP (.func (.func 31) #[.agg #[.int .u64 t.c, .int .u64 t.n]] #[]) (.func (.func 32) #[.pointer (some ⟨b, 1, none⟩)] #[]) 0) _ _ HD.out
  have c1 := cell_setRow_same w1.drew w.heap.size 1 _ (rowP (.func (.func 31) #[.agg #[.int .u64 t.c, .int .u64 t.n]] #[]) (.func (.func 32) #[.pointer (some ⟨b, 1, none⟩)] #[]) 0) _ _ HD.out
  have c2 := cell_setRow_same w1.drew w.heap.size 2 _ (rowP (.func (.func 31) #[.agg #[.int .u64 t.c, .int .u64 t.n]] #[]) (.func (.func 32) #[.pointer (some ⟨b, 1, none⟩)] #[]) 0) _ _ HD.out
  have HB2 := Lib.hid (below_setRow (HB.out.trans ((Below.refl w.heap.size w1).drew)) (Nat.le_refl w.heap.size) (rowP (.func (.func 31) #[.agg #[.int .u64 t.c, .int .u64 t.n]] #[]) (.func (.func 32) #[.pointer (some ⟨b, 1, none⟩)] #[]) 0))
  generalize w1.drew.setRow w.heap.size (rowP (.func (.func 31) #[.agg #[.int .u64 t.c, .int .u64 t.n]] #[]) (.func (.func 32) #[.pointer (some ⟨b, 1, none⟩)] #[]) 0) = w2 at *
  simp only [rowP, List.getElem?_toArray, List.getElem?_cons_zero, List.getElem?_cons_succ] at c0 c1 c2
  go_wp2
  exact bodyPost_ret (v := .tuple #[alarmP b t 0, .bool true]) (by simp [results, Try.results22, go_sem, *]; rfl) rfl ⟨rfl, HB2.out⟩

theorem find_3 (w : World) (b : Nat) (t : Cl) (h : ProgC w b t) :
    Calls Try.prog 22 #[.pointer (some ⟨b, 0, none⟩), .int .u64 16384, .int .i64 4] w (FindEnd w (alarmP b t 0) true) := by
  obtain ⟨hc0, hc1, hc2⟩ := h.cells
  have a1 := fun o => cell_alloc hc1 o
  have a2 := fun o => cell_alloc hc2 o
  have hmf : ∀ (fn : Fn) (first cap : Array Value) (w : World), (Instr.makeFunc fn first cap).run Try.prog w = .ok (.func fn first cap) w := fun _ _ _ _ => rfl
  clear h
  go_enter Try.func22, Try.ntmps22
  go_wp2_with (go_at_call 30; refine (isOfTime_is _ _ true _ (by decide)).mono ?_; rintro e w' ⟨rfl, rfl⟩)
  have D : (w.alloc (.cells #[Value.nilFunc, Value.nilFunc, .int .i64 0] 47)).heap[w.heap.size]? = some (.cells #[Value.nilFunc, Value.nilFunc, .int .i64 0] 47 (0, 0)) := heap_alloc_new w _
  have HB := Lib.hid ((Below.refl w.heap.size w).alloc (Nat.le_refl _) (.cells #[Value.nilFunc, Value.nilFunc, .int .i64 0] 47))
  have b1 := a1 (.cells #[Value.nilFunc, Value.nilFunc, .int .i64 0] 47)
  have b2 := a2 (.cells #[Value.nilFunc, Value.nilFunc, .int .i64 0] 47)
  clear a1 a2 hc0 hc1 hc2
  generalize w.alloc (.cells #[Value.nilFunc, Value.nilFunc, .int .i64 0] 47) = w1 at *
  have HD := Lib.hid D
  clear D
  go_still_tail 13, (by kernel_rfl)
  still_call (firstBit_0 _)
  repeat still_step
  refine wpStill_nil ?_
  change wpList _ _ _ _ _ w1.drew
  refine wpList_store_row rfl 47 (.tmp 6) (.tmp 39) rfl w.heap.size (rowP (.func (.func 31) #[.agg #[.int .u64 t.c, .int .u64 t.n]] #[]) (.func (.func 32) #[.pointer (some ⟨b, 1, none⟩)] #[]) 0) rfl rfl 47 #[Value.nilFunc, Value.nilFunc, .int .i64 0] HD.out (by kernel_rfl) rfl (rowP_one _ _ _ _ _) ?_
  have c0 := cell_setRow_same w1.drew w.heap.size 0 _ (rowP (.func (.func 31) #[.agg #[.int .u64 t.c, .int .u64 t.n]] #[]) (.func (.func 32) #[.pointer (some ⟨b, 1, none⟩)] #[]) 0) _ _ HD.out
  have c1 := cell_setRow_same w1.drew w.heap.size 1 _ (rowP (.func (.func 31) #[.agg #[.int .u64 t.c, .int .u64 t.n]] #[]) (.func (.func 32) #[.pointer (some ⟨b, 1, none⟩)] #[]) 0) _ _ HD.out
  have c2 := cell_setRow_same w1.drew w.heap.size 2 _ (rowP (.func (.func 31) #[.agg #[.int .u64 t.c, .int .u64 t.n]] #[]) (.func (.func 32) #[.pointer (some ⟨b, 1, none⟩)] #[]) 0) _ _ HD.out
  have HB2 := Lib.hid (below_setRow (HB.out.trans ((Below.refl w.heap.size w1).drew)) (Nat.le_refl w.heap.size) (rowP (.func (.func 31) #[.agg #[.int .u64 t.c, .int .u64 t.n]] #[]) (.func (.func 32) #[.pointer (some ⟨b, 1, none⟩)] #[]) 0))
  generalize w1.drew.setRow w.heap.size (rowP (.func (.func 31) #[.agg #[.int .u64 t.c, .int .u64 t.n]] #[]) (.func (.func 32) #[.pointer (some ⟨b, 1, none⟩)] #[]) 0) = w2 at *
  simp only [rowP, List.getElem?_toArray, List.getElem?_cons_zero, List.getElem?_cons_succ] at c0 c1 c2
  go_wp2
  exact bodyPost_ret (v := .tuple #[alarmP b t 0, .bool true]) (by simp [results, Try.results22, go_sem, *]; rfl) rfl ⟨rfl, HB2.out⟩

theorem find_4 (w : World) (b : Nat) (t : Cl) (h : ProgC w b t) :
    Calls Try.prog 22 #[.pointer (some ⟨b, 0, none⟩), .int .u64 16388, .int .i64 4] w (FindEnd w (alarmP b t 32) true) := by
  obtain ⟨hc0, hc1, hc2⟩ := h.cells
  have a1 := fun o => cell_alloc hc1 o
  have a2 := fun o => cell_alloc hc2 o
  have hmf : ∀ (fn : Fn) (first cap : Array Value) (w : World), (Instr.makeFunc fn first cap).run Try.prog w = .ok (.func fn first cap) w := fun _ _ _ _ => rfl
  clear h
  go_enter Try.func22, Try.ntmps22
  go_wp2_with (go_at_call 30; refine (isOfTime_is _ _ true _ (by decide)).mono ?_; rintro e w' ⟨rfl, rfl⟩)
  have D : (w.alloc (.cells #[Value.nilFunc, Value.nilFunc, .int .i64 0] 47)).heap[w.heap.size]? = some (.cells #[Value.nilFunc, Value.nilFunc, .int .i64 0] 47 (0, 0)) := heap_alloc_new w _
  have HB := Lib.hid ((Below.refl w.heap.size w).alloc (Nat.le_refl _) (.cells #[Value.nilFunc, Value.nilFunc, .int .i64 0] 47))
  have b1 := a1 (.cells #[Value.nilFunc, Value.nilFunc, .int .i64 0] 47)
  have b2 := a2 (.cells #[Value.nilFunc, Value.nilFunc, .int .i64 0] 47)
  clear a1 a2 hc0 hc1 hc2
  generalize w.alloc (.cells #[Value.nilFunc, Value.nilFunc, .int .i64 0] 47) = w1 at *
  have HD := Lib.hid D
  clear D
  go_still_tail 13, (by kernel_rfl)
  still_call (firstBit_4 _)
  repeat still_step
  refine wpStill_nil ?_
  change wpList _ _ _ _ _ w1.drew
  refine wpList_store_row rfl 47 (.tmp 6) (.tmp 39) rfl w.heap.size (rowP (.func (.func 31) #[.agg #[.int .u64 t.c, .int .u64 t.n]] #[]) (.func (.func 32) #[.pointer (some ⟨b, 1, none⟩)] #[]) 32) rfl rfl 47 #[Value.nilFunc, Value.nilFunc, .int .i64 0] HD.out (by kernel_rfl) rfl (rowP_one _ _ _ _ _) ?_
  have c0 := cell_setRow_same w1.drew w.heap.size 0 _ (rowP (.func (.func 31) #[.agg #[.int .u64 t.c, .int .u64 t.n]] #[]) (.func (.func 32) #[.pointer (some ⟨b, 1, none⟩)] #[]) 32) _ _ HD.out
  have c1 := cell_setRow_same w1.drew w.heap.size 1 _ (rowP (.func (.func 31) #[.agg #[.int .u64 t.c, .int .u64 t.n]] #[]) (.func (.func 32) #[.pointer (some ⟨b, 1, none⟩)] #[]) 32) _ _ HD.out
  have c2 := cell_setRow_same w1.drew w.heap.size 2 _ (rowP (.func (.func 31) #[.agg #[.int .u64 t.c, .int .u64 t.n]] #[]) (.func (.func 32) #[.pointer (some ⟨b, 1, none⟩)] #[]) 32) _ _ HD.out
  have HB2 := Lib.hid (below_setRow (HB.out.trans ((Below.refl w.heap.size w1).drew)) (Nat.le_refl w.heap.size) (rowP (.func (.func 31) #[.agg #[.int .u64 t.c, .int .u64 t.n]] #[]) (.func (.func 32) #[.pointer (some ⟨b, 1, none⟩)] #[]) 32))
  generalize w1.drew.setRow w.heap.size (rowP (.func (.func 31) #[.agg #[.int .u64 t.c, .int .u64 t.n]] #[]) (.func (.func 32) #[.pointer (some ⟨b, 1, none⟩)] #[]) 32) = w2 at *
  simp only [rowP, List.getElem?_toArray, List.getElem?_cons_zero, List.getElem?_cons_succ] at c0 c1 c2
  go_wp2
  exact bodyPost_ret (v := .tuple #[alarmP b t 32, .bool true]) (by simp [results, Try.results22, go_sem, *]; rfl) rfl ⟨rfl, HB2.out⟩

theorem find_5 (w : World) (b : Nat) (t : Cl) (h : ProgC w b t) :
    Calls Try.prog 22 #[.pointer (some ⟨b, 0, none⟩), .int .u64 49144, .int .i64 8] w (FindEnd w (timeP b t 0) true) := by
  obtain ⟨hc0, hc1, hc2⟩ := h.cells
  have a1 := fun o => cell_alloc hc1 o
  have a2 := fun o => cell_alloc hc2 o
  have hmf : ∀ (fn : Fn) (first cap : Array Value) (w : World), (Instr.makeFunc fn first cap).run Try.prog w = .ok (.func fn first cap) w := fun _ _ _ _ => rfl
  clear h
  go_enter Try.func22, Try.ntmps22
  go_wp2_with fail
  refine (isOfTime_is _ _ false _ (by decide)).mono ?_
  rintro e w' ⟨rfl, rfl⟩
  go_wp2_with fail
  refine (isOfTime_is _ _ true _ (by decide)).mono ?_
  rintro e w' ⟨rfl, rfl⟩
  go_wp2_with fail
  have D : (w.alloc (.cells #[Value.nilFunc, Value.nilFunc, .int .i64 0] 47)).heap[w.heap.size]? = some (.cells #[Value.nilFunc, Value.nilFunc, .int .i64 0] 47 (0, 0)) := heap_alloc_new w _
  have HB := Lib.hid ((Below.refl w.heap.size w).alloc (Nat.le_refl _) (.cells #[Value.nilFunc, Value.nilFunc, .int .i64 0] 47))
  have b1 := a1 (.cells #[Value.nilFunc, Value.nilFunc, .int .i64 0] 47)
  have b2 := a2 (.cells #[Value.nilFunc, Value.nilFunc, .int .i64 0] 47)
  clear a1 a2 hc0 hc1 hc2
  generalize w.alloc (.cells #[Value.nilFunc, Value.nilFunc, .int .i64 0] 47) = w1 at *
  have HD := Lib.hid D
  clear D
  go_still_tail 13, (by kernel_rfl)
  still_call (firstBit_0 _)
  repeat still_step
  refine wpStill_nil ?_
  change wpList _ _ _ _ _ w1.drew
  refine wpList_store_row rfl 47 (.tmp 6) (.tmp 57) rfl w.heap.size (rowP (.func (.func 15) #[.agg #[.int .u64 t.c, .int .u64 t.n]] #[]) (.func (.func 25) #[.pointer (some ⟨b, 1, none⟩)] #[]) 0) rfl rfl 47 #[Value.nilFunc, Value.nilFunc, .int .i64 0] HD.out (by kernel_rfl) rfl (rowP_one _ _ _ _ _) ?_
  have c0 := cell_setRow_same w1.drew w.heap.size 0 _ (rowP (.func (.func 15) #[.agg #[.int .u64 t.c, .int .u64 t.n]] #[]) (.func (.func 25) #[.pointer (some ⟨b, 1, none⟩)] #[]) 0) _ _ HD.out
  have c1 := cell_setRow_same w1.drew w.heap.size 1 _ (rowP (.func (.func 15) #[.agg #[.int .u64 t.c, .int .u64 t.n]] #[]) (.func (.func 25) #[.pointer (some ⟨b, 1, none⟩)] #[]) 0) _ _ HD.out
  have c2 := cell_setRow_same w1.drew w.heap.size 2 _ (rowP (.func (.func 15) #[.agg #[.int .u64 t.c, .int .u64 t.n]] #[]) (.func (.func 25) #[.pointer (some ⟨b, 1, none⟩)] #[]) 0) _ _ HD.out
  have HB2 := Lib.hid (below_setRow (HB.out.trans ((Below.refl w.heap.size w1).drew)) (Nat.le_refl w.heap.size) (rowP (.func (.func 15) #[.agg #[.int .u64 t.c, .int .u64 t.n]] #[]) (.func (.func 25) #[.pointer (some ⟨b, 1, none⟩)] #[]) 0))
  generalize w1.drew.setRow w.heap.size (rowP (.func (.func 15) #[.agg #[.int .u64 t.c, .int .u64 t.n]] #[]) (.func (.func 25) #[.pointer (some ⟨b, 1, none⟩)] #[]) 0) = w2 at *
  simp only [rowP, List.getElem?_toArray, List.getElem?_cons_zero, List.getElem?_cons_succ] at c0 c1 c2
  go_wp2
  exact bodyPost_ret (v := .tuple #[timeP b t 0, .bool true]) (by simp [results, Try.results22, go_sem, *]; rfl) rfl ⟨rfl, HB2.out⟩

theorem find_6 (w : World) (b : Nat) (t : Cl) (h : ProgC w b t) :
    Calls Try.prog 22 #[.pointer (some ⟨b, 0, none⟩), .int .u64 49144, .int .i64 4] w (FindEnd w (timeP b t 0) true) := by
  obtain ⟨hc0, hc1, hc2⟩ := h.cells
  have a1 := fun o => cell_alloc hc1 o
  have a2 := fun o => cell_alloc hc2 o
  have hmf : ∀ (fn : Fn) (first cap : Array Value) (w : World), (Instr.makeFunc fn first cap).run Try.prog w = .ok (.func fn first cap) w := fun _ _ _ _ => rfl
  clear h
  go_enter Try.func22, Try.ntmps22
  go_wp2_with fail
  refine (isOfTime_is _ _ false _ (by decide)).mono ?_
  rintro e w' ⟨rfl, rfl⟩
  go_wp2_with fail
  refine (isOfTime_is _ _ true _ (by decide)).mono ?_
  rintro e w' ⟨rfl, rfl⟩
  go_wp2_with fail
  have D : (w.alloc (.cells #[Value.nilFunc, Value.nilFunc, .int .i64 0] 47)).heap[w.heap.size]? = some (.cells #[Value.nilFunc, Value.nilFunc, .int .i64 0] 47 (0, 0)) := heap_alloc_new w _
  have HB := Lib.hid ((Below.refl w.heap.size w).alloc (Nat.le_refl _) (.cells #[Value.nilFunc, Value.nilFunc, .int .i64 0] 47))
  have b1 := a1 (.cells #[Value.nilFunc, Value.nilFunc, .int .i64 0] 47)
  have b2 := a2 (.cells #[Value.nilFunc, Value.nilFunc, .int .i64 0] 47)
  clear a1 a2 hc0 hc1 hc2
  generalize w.alloc (.cells #[Value.nilFunc, Value.nilFunc, .int .i64 0] 47) = w1 at *
  have HD := Lib.hid D
  clear D
  go_still_tail 13, (by kernel_rfl)
  still_call (firstBit_0 _)
  repeat still_step
  refine wpStill_nil ?_
  change wpList _ _ _ _ _ w1.drew
  refine wpList_store_row rfl 47 (.tmp 6) (.tmp 57) rfl w.heap.size (rowP (.func (.func 15) #[.agg #[.int .u64 t.c, .int .u64 t.n]] #[]) (.func (.func 25) #[.pointer (some ⟨b, 1, none⟩)] #[]) 0) rfl rfl 47 #[Value.nilFunc, Value.nilFunc, .int .i64 0] HD.out (by kernel_rfl) rfl (rowP_one _ _ _ _ _) ?_
  have c0 := cell_setRow_same w1.drew w.heap.size 0 _ (rowP (.func (.func 15) #[.agg #[.int .u64 t.c, .int .u64 t.n]] #[]) (.func (.func 25) #[.pointer (some ⟨b, 1, none⟩)] #[]) 0) _ _ HD.out
  have c1 := cell_setRow_same w1.drew w.heap.size 1 _ (rowP (.func (.func 15) #[.agg #[.int .u64 t.c, .int .u64 t.n]] #[]) (.func (.func 25) #[.pointer (some ⟨b, 1, none⟩)] #[]) 0) _ _ HD.out
  have c2 := cell_setRow_same w1.drew w.heap.size 2 _ (rowP (.func (.func 15) #[.agg #[.int .u64 t.c, .int .u64 t.n]] #[]) (.func (.func 25) #[.pointer (some ⟨b, 1, none⟩)] #[]) 0) _ _ HD.out
  have HB2 := Lib.hid (below_setRow (HB.out.trans ((Below.refl w.heap.size w1).drew)) (Nat.le_refl w.heap.size) (rowP (.func (.func 15) #[.agg #[.int .u64 t.c, .int .u64 t.n]] #[]) (.func (.func 25) #[.pointer (some ⟨b, 1, none⟩)] #[]) 0))
  generalize w1.drew.setRow w.heap.size (rowP (.func (.func 15) #[.agg #[.int .u64 t.c, .int .u64 t.n]] #[]) (.func (.func 25) #[.pointer (some ⟨b, 1, none⟩)] #[]) 0) = w2 at *
  simp only [rowP, List.getElem?_toArray, List.getElem?_cons_zero, List.getElem?_cons_succ] at c0 c1 c2
  go_wp2
  exact bodyPost_ret (v := .tuple #[timeP b t 0, .bool true]) (by simp [results, Try.results22, go_sem, *]; rfl) rfl ⟨rfl, HB2.out⟩

theorem find_7 (w : World) (b : Nat) (t : Cl) (h : ProgC w b t) :
    Calls Try.prog 22 #[.pointer (some ⟨b, 0, none⟩), .int .u64 49148, .int .i64 4] w (FindEnd w (timeP b t 32) true) := by
  obtain ⟨hc0, hc1, hc2⟩ := h.cells
  have a1 := fun o => cell_alloc hc1 o
  have a2 := fun o => cell_alloc hc2 o
  have hmf : ∀ (fn : Fn) (first cap : Array Value) (w : World), (Instr.makeFunc fn first cap).run Try.prog w = .ok (.func fn first cap) w := fun _ _ _ _ => rfl
  clear h
  go_enter Try.func22, Try.ntmps22
  go_wp2_with fail
  refine (isOfTime_is _ _ false _ (by decide)).mono ?_
  rintro e w' ⟨rfl, rfl⟩
  go_wp2_with fail
  refine (isOfTime_is _ _ true _ (by decide)).mono ?_
  rintro e w' ⟨rfl, rfl⟩
  go_wp2_with fail
  have D : (w.alloc (.cells #[Value.nilFunc, Value.nilFunc, .int .i64 0] 47)).heap[w.heap.size]? = some (.cells #[Value.nilFunc, Value.nilFunc, .int .i64 0] 47 (0, 0)) := heap_alloc_new w _
  have HB := Lib.hid ((Below.refl w.heap.size w).alloc (Nat.le_refl _) (.cells #[Value.nilFunc, Value.nilFunc, .int .i64 0] 47))
  have b1 := a1 (.cells #[Value.nilFunc, Value.nilFunc, .int .i64 0] 47)
  have b2 := a2 (.cells #[Value.nilFunc, Value.nilFunc, .int .i64 0] 47)
  clear a1 a2 hc0 hc1 hc2
  generalize w.alloc (.cells #[Value.nilFunc, Value.nilFunc, .int .i64 0] 47) = w1 at *
  have HD := Lib.hid D
  clear D
  go_still_tail 13, (by kernel_rfl)
  still_call (firstBit_4 _)
  repeat still_step
  refine wpStill_nil ?_
  change wpList _ _ _ _ _ w1.drew
  refine wpList_store_row rfl 47 (.tmp 6) (.tmp 57) rfl w.heap.size (rowP (.func (.func 15) #[.agg #[.int .u64 t.c, .int .u64 t.n]] #[]) (.func (.func 25) #[.pointer (some ⟨b, 1, none⟩)] #[]) 32) rfl rfl 47 #[Value.nilFunc, Value.nilFunc, .int .i64 0] HD.out (by kernel_rfl) rfl (rowP_one _ _ _ _ _) ?_
  have c0 := cell_setRow_same w1.drew w.heap.size 0 _ (rowP (.func (.func 15) #[.agg #[.int .u64 t.c, .int .u64 t.n]] #[]) (.func (.func 25) #[.pointer (some ⟨b, 1, none⟩)] #[]) 32) _ _ HD.out
  have c1 := cell_setRow_same w1.drew w.heap.size 1 _ (rowP (.func (.func 15) #[.agg #[.int .u64 t.c, .int .u64 t.n]] #[]) (.func (.func 25) #[.pointer (some ⟨b, 1, none⟩)] #[]) 32) _ _ HD.out
  have c2 := cell_setRow_same w1.drew w.heap.size 2 _ (rowP (.func (.func 15) #[.agg #[.int .u64 t.c, .int .u64 t.n]] #[]) (.func (.func 25) #[.pointer (some ⟨b, 1, none⟩)] #[]) 32) _ _ HD.out
  have HB2 := Lib.hid (below_setRow (HB.out.trans ((Below.refl w.heap.size w1).drew)) (Nat.le_refl w.heap.size) (rowP (.func (.func 15) #[.agg #[.int .u64 t.c, .int .u64 t.n]] #[]) (.func (.func 25) #[.pointer (some ⟨b, 1, none⟩)] #[]) 32))
  generalize w1.drew.setRow w.heap.size (rowP (.func (.func 15) #[.agg #[.int .u64 t.c, .int .u64 t.n]] #[]) (.func (.func 25) #[.pointer (some ⟨b, 1, none⟩)] #[]) 32) = w2 at *
  simp only [rowP, List.getElem?_toArray, List.getElem?_cons_zero, List.getElem?_cons_succ] at c0 c1 c2
  go_wp2
  exact bodyPost_ret (v := .tuple #[timeP b t 32, .bool true]) (by simp [results, Try.results22, go_sem, *]; rfl) rfl ⟨rfl, HB2.out⟩

end Go.Proofs.Ytpmlcnhkfnmheaa
