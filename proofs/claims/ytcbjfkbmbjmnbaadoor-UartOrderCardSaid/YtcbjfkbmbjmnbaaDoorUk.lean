/- Layer 6: the program's uart: Same. -/
import Derived.Test.YtcbjfkbmbjmnbaaDoorUj
import Derived.Test.YtcbjfkbmbjmnbaaDoorEqG
namespace Go.Proofs.YtcbjfkbmbjmnbaaDoor
open Go.RowKit
set_option linter.unusedVariables false

theorem conv_row {w : World} {v : Value} {xs : List Int} (h : RowB w v xs) (hl : xs.length ≤ 70000) : (convert 28 9 v).run Tryd.prog w = .ok (.string (strOfNums xs)) w := by
  obtain ⟨a, c, rfl, _, _, h⟩ := h.reads hl
  rcases h with ⟨rfl, rfl, rfl⟩ | ⟨g, off, rfl, hlt, hc⟩
  · rw [run_convert_bytes_string w 28 9 5 none _ 0 Tryd.underlying28 Tryd.underlying5 Tryd.underlying9]
    simp [Conv.bytesToString]; rfl
  · exact run_convert_bytes_arg w 28 5 Tryd.underlying28 Tryd.underlying5 g off xs.length c xs rfl hc _ Tryd.underlying9
theorem strOf_inj {xs ys : List Int} (hx : Byt xs) (hy : Byt ys) (h : strOfNums xs = strOfNums ys) : xs = ys := by
  have h1 : xs.map (fun n => UInt8.ofNat n.toNat) = ys.map (fun n => UInt8.ofNat n.toNat) := by
    have := congrArg (fun s : ByteArray => s.data.toList) h
    simpa [strOfNums] using this
  have hl : xs.length = ys.length := by simpa using congrArg List.length h1
  apply List.ext_getElem hl
  intro i hi hj
  have h2 : UInt8.ofNat (xs[i]).toNat = UInt8.ofNat (ys[i]).toNat := by
    have := congrArg (fun l : List UInt8 => l[i]?) h1
    simpa [hi, hj] using this
  have a := hx xs[i] (List.getElem_mem hi)
  have b := hy ys[i] (List.getElem_mem hj)
  have h3 := congrArg UInt8.toNat h2
  simp [UInt8.toNat_ofNat'] at h3
  omega
/-- Strings of bytes are the same just where the bytes are. -/
theorem strEq {xs ys : List Int} (hx : Byt xs) (hy : Byt ys) : ((strOfNums xs).toList == (strOfNums ys).toList) = decide (xs = ys) := by
  rw [Bool.eq_iff_iff, beq_iff_eq, decide_eq_true_eq]
  constructor
  · intro h
    apply strOf_inj hx hy
    have h2 : (strOfNums xs).data.toList = (strOfNums ys).data.toList := by
      have e : ∀ s : ByteArray, s.toList = s.data.toList := fun s => by exact ByteArray.toList_eq s
      rwa [e, e] at h
    apply ByteArray.ext
    exact Array.ext' h2
  · rintro rfl; rfl
theorem equal_any (w : World) (v u : Value) (xs ys : List Int) (hv : RowB w v xs) (hu : RowB w u ys) (hx : xs.length ≤ 70000) (hy : ys.length ≤ 70000) :
    Calls Tryd.prog 34 #[v, u] w fun e w' => e = .returned (.bool (decide (xs = ys))) ∧ w = w' := by
  have h1 := conv_row hv hx
  have h2 := conv_row hu hy
  have HI := Lib.hid (strEq hv.byt hu.byt)
  clear hv hu hx hy
  go_enter Tryd.func34, Tryd.ntmps34
  go_wp2
  go_ret
  exact ⟨by rw [← HI.out]; rfl, rfl⟩

end Go.Proofs.YtcbjfkbmbjmnbaaDoor
