/- Joined: ShC AsS AsT AsT2 AsU AsV AsW AsX AsY AsZ AsLr AsLr2 LawAsmLis ATab -/
import Derived.Test.YtakdhdaoklcidaaGreatDoorKL3
import Derived.Test.YtakdhdaoklcidaaGreatDoorRows
import Derived.Shelf.Strings.Split
import Derived.Shelf.Strings.SlTrimAscii
import Derived.Maps.OwnSet
import Derived.StringKeys
import Derived.Laws.OwnMore
import Derived.Deep.QuietTactic
import Derived.BigQuiet
import Derived.ProofKit
import Derived.LaidMore
import Derived.OpenShut
import Derived.Stop.Joined
import Derived.MakeChecks
import Derived.Lib.LaidTab
import Derived.Stop.LaidErr
import Derived.Shelf.Vars
import Derived.HandedShaped
import Derived.Lay
namespace Go.Proofs.YtakdhdaoklcidaaGreatDoor
open Go.Shelf
set_option linter.unusedVariables false
set_option maxRecDepth 100000

def splitLays_ren : Go.Shelf.Ren := ⟨fun | 146 => 74 | 221 => 104 | 268 => 126 | 138 => 127 | 143 => 128 | 195 => 151 | 197 => 152 | 218 => 153 | 219 => 94 | 260 => 161 | 217 => 114 | 225 => 115 | 224 => 116 | 267 => 117 | 266 => 145 | 314 => 146 | n => n, fun | 9 => 9 | 31 => 100 | 3 => 3 | 4 => 4 | 0 => 0 | 105 => 199 | 21 => 21 | 5 => 5 | 46 => 75 | 119 => 208 | 139 => 211 | 138 => 210 | 146 => 192 | 51 => 43 | n => n, fun | 1 => 2 | 3 => 7 | 4 => 8 | n => n⟩
theorem splitLays : Go.Proofs.Lays.n146 Tryz.prog splitLays_ren where
  mixed := by kernel_rfl
  f138 := Tryz.func127.trans (congrArg some (by kernel_rfl))
  f143 := Tryz.func128.trans (congrArg some (by kernel_rfl))
  f146 := Tryz.func74.trans (congrArg some (by kernel_rfl))
  f195 := Tryz.func151.trans (congrArg some (by kernel_rfl))
  f197 := Tryz.func152.trans (congrArg some (by kernel_rfl))
  f217 := Tryz.func114.trans (congrArg some (by kernel_rfl))
  f218 := Tryz.func153.trans (congrArg some (by kernel_rfl))
  f219 := Tryz.func94.trans (congrArg some (by kernel_rfl))
  f221 := Tryz.func104.trans (congrArg some (by kernel_rfl))
  f224 := Tryz.func116.trans (congrArg some (by kernel_rfl))
  f225 := Tryz.func115.trans (congrArg some (by kernel_rfl))
  f260 := Tryz.func161.trans (congrArg some (by kernel_rfl))
  f266 := Tryz.func145.trans (congrArg some (by kernel_rfl))
  f267 := Tryz.func117.trans (congrArg some (by kernel_rfl))
  f268 := Tryz.func126.trans (congrArg some (by kernel_rfl))
  f314 := Tryz.func146.trans (congrArg some (by kernel_rfl))
  t0 := Tryz.underlying0
  a0 := Tryz.isAgg0
  z0 := Tryz.sizeOf0
  v0 := Tryz.zeroValue0
  t3 := Tryz.underlying3
  a3 := Tryz.isAgg3
  z3 := Tryz.sizeOf3
  v3 := Tryz.zeroValue3
  t4 := Tryz.underlying4
  a4 := Tryz.isAgg4
  z4 := Tryz.sizeOf4
  v4 := Tryz.zeroValue4
  t5 := Tryz.underlying5
  a5 := Tryz.isAgg5
  z5 := Tryz.sizeOf5
  v5 := Tryz.zeroValue5
  t9 := Tryz.underlying9
  a9 := Tryz.isAgg9
  z9 := Tryz.sizeOf9
  v9 := Tryz.zeroValue9
  t21 := Tryz.underlying21
  a21 := Tryz.isAgg21
  z21 := Tryz.sizeOf21
  v21 := Tryz.zeroValue21
  t31 := Tryz.underlying100
  a31 := Tryz.isAgg100
  z31 := Tryz.sizeOf100
  v31 := Tryz.zeroValue100
  t46 := Tryz.underlying75
  a46 := Tryz.isAgg75
  z46 := Tryz.sizeOf75
  v46 := Tryz.zeroValue75
  t51 := Tryz.underlying43
  a51 := Tryz.isAgg43
  z51 := Tryz.sizeOf43
  v51 := Tryz.zeroValue43
  t105 := Tryz.underlying199
  a105 := Tryz.isAgg199
  z105 := Tryz.sizeOf199
  v105 := Tryz.zeroValue199
  t119 := Tryz.underlying208
  a119 := Tryz.isAgg208
  z119 := Tryz.sizeOf208
  t138 := Tryz.underlying210
  a138 := Tryz.isAgg210
  z138 := Tryz.sizeOf210
  v138 := Tryz.zeroValue210
  t139 := Tryz.underlying211
  a139 := Tryz.isAgg211
  z139 := Tryz.sizeOf211
  v139 := Tryz.zeroValue211
  t146 := Tryz.underlying192
  a146 := Tryz.isAgg192
  z146 := Tryz.sizeOf192
  v146 := Tryz.zeroValue192
  g1 := by kernel_rfl
  g3 := by kernel_rfl
  g4 := by kernel_rfl

def trimLays_ren : Go.Shelf.Ren := ⟨fun | 160 => 105 | 232 => 130 | 231 => 129 | 227 => 131 | 234 => 133 | 233 => 132 | 236 => 135 | 235 => 134 | 228 => 154 | 271 => 156 | 151 => 155 | 197 => 152 | 120 => 163 | 152 => 162 | 260 => 161 | 137 => 164 | 119 => 165 | 224 => 116 | 225 => 115 | 217 => 114 | 266 => 145 | n => n, fun | 9 => 9 | 4 => 4 | 3 => 3 | 5 => 5 | 117 => 180 | 116 => 179 | 0 => 0 | 124 => 183 | 21 => 21 | 105 => 199 | 46 => 75 | 119 => 208 | 139 => 211 | 138 => 210 | n => n, fun | 3 => 7 | 4 => 8 | n => n⟩
theorem trimLays : Go.Proofs.Lays.n160 Tryz.prog trimLays_ren where
  mixed := by kernel_rfl
  f119 := Tryz.func165.trans (congrArg some (by kernel_rfl))
  f120 := Tryz.func163.trans (congrArg some (by kernel_rfl))
  f137 := Tryz.func164.trans (congrArg some (by kernel_rfl))
  f151 := Tryz.func155.trans (congrArg some (by kernel_rfl))
  f152 := Tryz.func162.trans (congrArg some (by kernel_rfl))
  f160 := Tryz.func105.trans (congrArg some (by kernel_rfl))
  f197 := Tryz.func152.trans (congrArg some (by kernel_rfl))
  f217 := Tryz.func114.trans (congrArg some (by kernel_rfl))
  f224 := Tryz.func116.trans (congrArg some (by kernel_rfl))
  f225 := Tryz.func115.trans (congrArg some (by kernel_rfl))
  f227 := Tryz.func131.trans (congrArg some (by kernel_rfl))
  f228 := Tryz.func154.trans (congrArg some (by kernel_rfl))
  f231 := Tryz.func129.trans (congrArg some (by kernel_rfl))
  f232 := Tryz.func130.trans (congrArg some (by kernel_rfl))
  f233 := Tryz.func132.trans (congrArg some (by kernel_rfl))
  f234 := Tryz.func133.trans (congrArg some (by kernel_rfl))
  f235 := Tryz.func134.trans (congrArg some (by kernel_rfl))
  f236 := Tryz.func135.trans (congrArg some (by kernel_rfl))
  f260 := Tryz.func161.trans (congrArg some (by kernel_rfl))
  f266 := Tryz.func145.trans (congrArg some (by kernel_rfl))
  f271 := Tryz.func156.trans (congrArg some (by kernel_rfl))
  t0 := Tryz.underlying0
  a0 := Tryz.isAgg0
  z0 := Tryz.sizeOf0
  v0 := Tryz.zeroValue0
  t3 := Tryz.underlying3
  a3 := Tryz.isAgg3
  z3 := Tryz.sizeOf3
  v3 := Tryz.zeroValue3
  t4 := Tryz.underlying4
  a4 := Tryz.isAgg4
  z4 := Tryz.sizeOf4
  v4 := Tryz.zeroValue4
  t5 := Tryz.underlying5
  a5 := Tryz.isAgg5
  z5 := Tryz.sizeOf5
  v5 := Tryz.zeroValue5
  t9 := Tryz.underlying9
  a9 := Tryz.isAgg9
  z9 := Tryz.sizeOf9
  v9 := Tryz.zeroValue9
  t21 := Tryz.underlying21
  a21 := Tryz.isAgg21
  z21 := Tryz.sizeOf21
  v21 := Tryz.zeroValue21
  t46 := Tryz.underlying75
  a46 := Tryz.isAgg75
  z46 := Tryz.sizeOf75
  v46 := Tryz.zeroValue75
  t105 := Tryz.underlying199
  a105 := Tryz.isAgg199
  z105 := Tryz.sizeOf199
  v105 := Tryz.zeroValue199
  t116 := Tryz.underlying179
  a116 := Tryz.isAgg179
  z116 := Tryz.sizeOf179
  t117 := Tryz.underlying180
  a117 := Tryz.isAgg180
  z117 := Tryz.sizeOf180
  v117 := Tryz.zeroValue180
  t119 := Tryz.underlying208
  a119 := Tryz.isAgg208
  z119 := Tryz.sizeOf208
  t124 := Tryz.underlying183
  a124 := Tryz.isAgg183
  z124 := Tryz.sizeOf183
  v124 := Tryz.zeroValue183
  t138 := Tryz.underlying210
  a138 := Tryz.isAgg210
  z138 := Tryz.sizeOf210
  v138 := Tryz.zeroValue210
  t139 := Tryz.underlying211
  a139 := Tryz.isAgg211
  z139 := Tryz.sizeOf211
  v139 := Tryz.zeroValue211
  g3 := by kernel_rfl
  g4 := by kernel_rfl

end Go.Proofs.YtakdhdaoklcidaaGreatDoor

namespace Go.Proofs.YtakdhdaoklcidaaGreatDoor
open Go.RowKit Go.Lib
set_option linter.unusedVariables false
set_option maxRecDepth 100000

theorem trimP (l : Bs) (w : World) (hs : l.length ≤ 1000000) : Calls Tryz.prog 105 #[str l, .string ⟨#[32, 9]⟩] w fun e w' => e = .returned (str (trimS l [32, 9])) ∧ Below w.heap.size w w' := by
  have h := Any.strings_Trim_laid trimLays (by kernel_rfl) ⟨l.toArray⟩ ⟨#[32, 9]⟩ w (by show l.toArray.size ≤ _; rw [List.size_toArray]; omega) (by decide) (ascii_of_all (by decide))
  exact h
/-- What a line says whose remark and blanks are gone. -/
def readS (s : Bs) : Option Stm :=
  if s = [] then some .none
  else if hasSuffix s [58] then (if nameOK (trimSuffix s [58]) then some (.label (trimSuffix s [58])) else none)
  else if (cut s [44, 32, 64]).2.2 then namingS (cut s [44, 32, 64]).1 (cut s [44, 32, 64]).2.1
  else (wordsS s).map .words
def coreS (line : Bs) : Bs := trimS (cut line [35]).1 [32, 9]
def lineS (line : Bs) : Option Stm := readS (coreS line)

theorem four_one {c0 c1 c2 c3 : Value} (o0 : c0.oneCell' = true) (o1 : c1.oneCell' = true) (o2 : c2.oneCell' = true) (o3 : c3.oneCell' = true) : (#[c0, c1, c2, c3] : Array Value).all (·.oneCell') = true := by
  simp [o0, o1, o2, o3]

theorem trimS_len (l c : Bs) : (trimS l c).length ≤ l.length := by
  unfold trimS trimLeftS trimRightS
  refine Nat.le_trans (List.dropWhile_sublist _).length_le ?_
  rw [List.length_reverse]
  refine Nat.le_trans (List.dropWhile_sublist _).length_le ?_
  rw [List.length_reverse]; exact Nat.le_refl _
set_option maxHeartbeats 4000000 in
theorem readL (l : Bs) (hl : l.length ≤ 100000) (w : World) (he : Env w) : Calls Tryz.prog 75 #[str l] w (NmEnd w (lineS l)) := by
  have hC1 : ∀ w, Env w → Calls Tryz.prog 34 #[str l, .string ⟨#[35]⟩] w fun e w' => e = .returned (.tuple #[str (cut l [35]).1, str (cut l [35]).2.1, .bool (cut l [35]).2.2]) ∧ Below w.heap.size w w' := fun w he => cutP l [35] w (by omega) he
  have hcl := (cut_len l [35]).1
  have hT : ∀ w, Calls Tryz.prog 105 #[str (cut l [35]).1, .string ⟨#[32, 9]⟩] w fun e w' => e = .returned (str (coreS l)) ∧ Below w.heap.size w w' := fun w => trimP _ w (by omega)
  have hsl : (coreS l).length ≤ 100000 := Nat.le_trans (trimS_len _ _) (by omega)
  have hlS : lineS l = readS (coreS l) := rfl
  rw [hlS]
  have HC1 := Lib.hid hC1; have HT := Lib.hid hT; have HE := Lib.hid he
  clear hC1 hT he hcl hlS hl
  generalize (cut l [35]).1 = k1 at *
  generalize (cut l [35]).2.1 = k2 at *
  generalize (cut l [35]).2.2 = k3 at *
  generalize coreS l = s at *
  have hSU : ∀ w, Calls Tryz.prog 69 #[str s, .string ⟨#[58]⟩] w fun e w' => e = .returned (.tuple #[str (trimSuffix s [58]), .bool (hasSuffix s [58])]) ∧ w = w' := fun w => sufP s [58] w (by omega)
  have hC2 : ∀ w, Env w → Calls Tryz.prog 34 #[str s, .string ⟨#[44, 32, 64]⟩] w fun e w' => e = .returned (.tuple #[str (cut s [44, 32, 64]).1, str (cut s [44, 32, 64]).2.1, .bool (cut s [44, 32, 64]).2.2]) ∧ Below w.heap.size w w' := fun w he => cutP s [44, 32, 64] w (by omega) he
  have hcl2 := (cut_len s [44, 32, 64]).1
  have hNM := fun w he => readNaming_any (cut s [44, 32, 64]).1 (cut s [44, 32, 64]).2.1 (by omega) w he
  have hWD := fun w he => readWords_any s hsl w he
  have hIN := fun w => isNameP (trimSuffix s [58]) w
  have hS : readS s = if s = [] then some .none
  else if hasSuffix s [58] then (if nameOK (trimSuffix s [58]) then some (.label (trimSuffix s [58])) else none)
  else if (cut s [44, 32, 64]).2.2 then namingS (cut s [44, 32, 64]).1 (cut s [44, 32, 64]).2.1
  else (wordsS s).map .words := rfl
  have HSU := Lib.hid hSU; have HC2 := Lib.hid hC2; have HNM := Lib.hid hNM; have HWD := Lib.hid hWD; have HIN := Lib.hid hIN; have HS := Lib.hid hS
  clear hSU hC2 hcl2 hNM hWD hIN hS hsl
  generalize readS s = o at *
  generalize trimSuffix s [58] = nm at *
  generalize hasSuffix s [58] = q1 at *
  generalize namingS (cut s [44, 32, 64]).1 (cut s [44, 32, 64]).2.1 = on at *
  generalize (cut s [44, 32, 64]).1 = a1 at *
  generalize (cut s [44, 32, 64]).2.1 = a2 at *
  generalize (cut s [44, 32, 64]).2.2 = q2 at *
  generalize wordsS s = ow at *
  go_enter Tryz.func75, Tryz.ntmps75
  go_wp2_with (fail)
  (with_reducible refine (HC1.out _ (HE.out.below ((Below.refl _ _).alloc (Nat.le_refl _) _))).mono ?_)
  rintro e w1 ⟨rfl, hb1⟩
  have HR : Hid (w1.heap[w.heap.size]? = some (.cells #[.string ⟨#[]⟩, .slice none 0 0, .string ⟨#[]⟩, .nilFunc] 129 (0, 0))) := Lib.hid ((hb1.block _ (by simp)).trans (heap_alloc_new _ _))
  have HB1 := Lib.hid (((Below.refl _ _).alloc (Nat.le_refl _) (.cells #[.string ⟨#[]⟩, .slice none 0 0, .string ⟨#[]⟩, .nilFunc] 129)).trans (hb1.mono (by simp)))
  have HZ1 : Hid (w.heap.size < w1.heap.size) := Lib.hid (by have := hb1.size; simp at this; omega)
  clear hb1
  go_wp2_with (fail)
  (with_reducible refine (HT.out _).mono ?_)
  rintro e w2 ⟨rfl, hb2⟩
  have HR : Hid (w2.heap[w.heap.size]? = some (.cells #[.string ⟨#[]⟩, .slice none 0 0, .string ⟨#[]⟩, .nilFunc] 129 (0, 0))) := Lib.hid ((hb2.block _ HZ1.out).trans HR.out)
  have HB2 := Lib.hid (HB1.out.trans (hb2.mono HB1.out.size))
  have HZ2 : Hid (w.heap.size < w2.heap.size) := Lib.hid (by have := hb2.size; have := HZ1.out; omega)
  clear hb2
  by_cases hs : s = []
  · have hO : o = some .none := by have := HS.out; rw [if_pos hs] at this; exact this
    subst hO
    subst hs
    clear HS HSU HC2 HNM HWD HIN HT HC1
    go_wp2_with (refine wpList_store_row rfl _ _ _ rfl w.heap.size _ rfl rfl 129 _ HR.out size_stm rfl (by simp [Value.oneCell']) ?_)
    exact bodyPost_ret (v := .tuple #[.agg #[.string ⟨#[]⟩, .slice none 0 0, .string ⟨#[]⟩, .nilFunc], .bool true]) (results_cell_tmp (show Tryz.f75.results = #[.cell 2 129, .tmp 3] by kernel_rfl) _ _ w.heap.size 129 _ _ _ rfl (setRow_heap _ _ _ _ _ _ HR.out) Tryz.underlying129 rfl size_stm) rfl ⟨(fun s h => by cases h; exact ⟨_, rfl, _, _, _, _, rfl, rfl, rfl, rfl, rfl⟩), (fun h => by cases h), below_setRow HB2.out (Nat.le_refl _) _⟩
  · have hO : o = if q1 then (if nameOK nm then some (.label nm) else none) else if q2 then on else ow.map .words := by have := HS.out; rw [if_neg hs] at this; exact this
    have HO := Lib.hid hO
    have hsq : (s == []) = false := beq_eq_false_iff_ne.2 hs
    clear hO HS hs HT HC1
    go_wp2_with (fail)
    (with_reducible refine (HSU.out _).mono ?_)
    rintro e wu ⟨rfl, rfl⟩
    cases q1 with
    | true =>
      have hO : o = if nameOK nm then some (.label nm) else none := HO.out
      have HO2 := Lib.hid hO
      clear hO HO
      generalize nameOK nm = nq at *
      go_wp2_with (fail)
      (with_reducible refine (HIN.out _).mono ?_)
      rintro e w3 ⟨rfl, hb3⟩
      have HR : Hid (w3.heap[w.heap.size]? = some (.cells #[.string ⟨#[]⟩, .slice none 0 0, .string ⟨#[]⟩, .nilFunc] 129 (0, 0))) := Lib.hid ((hb3.block _ HZ2.out).trans HR.out)
      have HB3 := Lib.hid (HB2.out.trans (hb3.mono HB2.out.size))
      have HZ3 : Hid (w.heap.size < w3.heap.size) := Lib.hid (by have := hb3.size; have := HZ2.out; omega)
      clear hb3
      go_wp2_with (refine wpList_store_row rfl _ _ _ rfl w.heap.size _ rfl rfl 129 _ HR.out size_stm rfl (by simp [Value.oneCell']) ?_)
      cases nq with
      | true =>
        have hO : o = some (.label nm) := HO2.out
        subst hO
        exact bodyPost_ret (v := .tuple #[.agg #[str nm, .slice none 0 0, .string ⟨#[]⟩, .nilFunc], .bool true]) (results_cell_tmp (show Tryz.f75.results = #[.cell 2 129, .tmp 3] by kernel_rfl) _ _ w.heap.size 129 _ _ _ rfl (setRow_heap _ _ _ _ _ _ HR.out) Tryz.underlying129 rfl size_stm) rfl ⟨(fun s h => by cases h; exact ⟨_, rfl, _, _, _, _, rfl, rfl, rfl, rfl, rfl⟩), (fun h => by cases h), below_setRow HB3.out (Nat.le_refl _) _⟩
      | false =>
        have hO : o = none := HO2.out
        subst hO
        exact bodyPost_ret (v := .tuple #[.agg #[str nm, .slice none 0 0, .string ⟨#[]⟩, .nilFunc], .bool false]) (results_cell_tmp (show Tryz.f75.results = #[.cell 2 129, .tmp 3] by kernel_rfl) _ _ w.heap.size 129 _ _ _ rfl (setRow_heap _ _ _ _ _ _ HR.out) Tryz.underlying129 rfl size_stm) rfl ⟨(fun s h => by cases h), fun _ => ⟨_, rfl, _, _, _, _, rfl, rfl, rfl, rfl, rfl⟩, below_setRow HB3.out (Nat.le_refl _) _⟩
    | false =>
      have hO : o = if q2 then on else ow.map .words := HO.out
      have HO2 := Lib.hid hO
      clear hO HO
      go_wp2_with (fail)
      (with_reducible refine (HC2.out _ (HE.out.below HB2.out)).mono ?_)
      rintro e w3 ⟨rfl, hb3⟩
      have HR : Hid (w3.heap[w.heap.size]? = some (.cells #[.string ⟨#[]⟩, .slice none 0 0, .string ⟨#[]⟩, .nilFunc] 129 (0, 0))) := Lib.hid ((hb3.block _ HZ2.out).trans HR.out)
      have HB3 := Lib.hid (HB2.out.trans (hb3.mono HB2.out.size))
      have HZ3 : Hid (w.heap.size < w3.heap.size) := Lib.hid (by have := hb3.size; have := HZ2.out; omega)
      clear hb3
      cases q2 with
      | true =>
        have hO : o = on := HO2.out
        subst hO
        clear HO2
        go_wp2_with (fail)
        (with_reducible refine (HNM.out _ (HE.out.below HB3.out)).mono ?_)
        rintro e w4 ⟨hy, hno, hb4⟩
        have HSZ3 := Lib.hid HB3.out.size
        have HR : Hid (w4.heap[w.heap.size]? = some (.cells #[.string ⟨#[]⟩, .slice none 0 0, .string ⟨#[]⟩, .nilFunc] 129 (0, 0))) := Lib.hid ((hb4.block _ HZ3.out).trans HR.out)
        have HB4 := Lib.hid (HB3.out.trans (hb4.mono HB3.out.size))
        have HZ4 : Hid (w.heap.size < w4.heap.size) := Lib.hid (by have := hb4.size; have := HZ3.out; omega)
        clear hb4
        cases o with
        | none =>
          obtain ⟨v, rfl, c0, c1, c2, c3, rfl, o0, o1, o2, o3⟩ := hno rfl
          clear hy hno
          go_wp2_with (refine wpList_store_row rfl _ _ _ rfl w.heap.size _ rfl rfl 129 _ HR.out size_stm rfl (four_one o0 o1 o2 o3) ?_)
          exact bodyPost_ret (v := .tuple #[.agg #[c0, c1, c2, c3], .bool false]) (results_cell_tmp (show Tryz.f75.results = #[.cell 2 129, .tmp 3] by kernel_rfl) _ _ w.heap.size 129 _ _ _ rfl (setRow_heap _ _ _ _ _ _ HR.out) Tryz.underlying129 rfl size_stm) rfl ⟨(fun s h => by cases h), fun _ => ⟨_, rfl, _, _, _, _, rfl, o0, o1, o2, o3⟩, below_setRow HB4.out (Nat.le_refl _) _⟩
        | some st =>
          obtain ⟨v, rfl, c0, c1, c2, c3, rfl, hst⟩ := hy st rfl
          obtain ⟨o0, o1, o2, o3⟩ := stmV_four hst
          have HST := Lib.hid hst
          clear hy hno hst
          go_wp2_with (refine wpList_store_row rfl _ _ _ rfl w.heap.size _ rfl rfl 129 _ HR.out size_stm rfl (four_one o0 o1 o2 o3) ?_)
          have hst2 := stmV_base (stmV_row HST.out (Nat.lt_of_lt_of_le HZ3.out (Nat.le_refl _)) (setRow_only w4 w.heap.size #[c0, c1, c2, c3]) (fun k h1 _ h2 => by have := HZ3.out; omega)) HSZ3.out
          exact bodyPost_ret (v := .tuple #[.agg #[c0, c1, c2, c3], .bool true]) (results_cell_tmp (show Tryz.f75.results = #[.cell 2 129, .tmp 3] by kernel_rfl) _ _ w.heap.size 129 _ _ _ rfl (setRow_heap _ _ _ _ _ _ HR.out) Tryz.underlying129 rfl size_stm) rfl ⟨(fun s h => by cases h; exact ⟨_, rfl, _, _, _, _, rfl, hst2⟩), (fun h => by cases h), below_setRow HB4.out (Nat.le_refl _) _⟩
      | false =>
        have hO : o = ow.map .words := HO2.out
        subst hO
        clear HO2
        go_wp2_with (fail)
        (with_reducible refine (HWD.out _ (HE.out.below HB3.out)).mono ?_)
        rintro e w4 hy
        cases ow with
        | none =>
          obtain ⟨rfl, hb4⟩ := hy
          have HR : Hid (w4.heap[w.heap.size]? = some (.cells #[.string ⟨#[]⟩, .slice none 0 0, .string ⟨#[]⟩, .nilFunc] 129 (0, 0))) := Lib.hid ((hb4.block _ HZ3.out).trans HR.out)
          have HB4 := Lib.hid (HB3.out.trans (hb4.mono HB3.out.size))
          have HZ4 : Hid (w.heap.size < w4.heap.size) := Lib.hid (by have := hb4.size; have := HZ3.out; omega)
          clear hb4
          go_wp2_with (refine wpList_store_row rfl _ _ _ rfl w.heap.size _ rfl rfl 129 _ HR.out size_stm rfl (by simp [Value.oneCell']) ?_)
          exact bodyPost_ret (v := .tuple #[.agg #[.string ⟨#[]⟩, .slice none 0 0, .string ⟨#[]⟩, .nilFunc], .bool false]) (results_cell_tmp (show Tryz.f75.results = #[.cell 2 129, .tmp 3] by kernel_rfl) _ _ w.heap.size 129 _ _ _ rfl (setRow_heap _ _ _ _ _ _ HR.out) Tryz.underlying129 rfl size_stm) rfl ⟨(fun s h => by cases h), fun _ => ⟨_, rfl, _, _, _, _, rfl, rfl, rfl, rfl, rfl⟩, below_setRow HB4.out (Nat.le_refl _) _⟩
        | some ws =>
          obtain ⟨v, rfl, how, hb4⟩ := hy
          obtain ⟨A, C, rfl⟩ := ownW_slice how
          have HOW := Lib.hid how
          have HSZ3 := Lib.hid HB3.out.size
          clear how
          have HR : Hid (w4.heap[w.heap.size]? = some (.cells #[.string ⟨#[]⟩, .slice none 0 0, .string ⟨#[]⟩, .nilFunc] 129 (0, 0))) := Lib.hid ((hb4.block _ HZ3.out).trans HR.out)
          have HB4 := Lib.hid (HB3.out.trans (hb4.mono HB3.out.size))
          have HZ4 : Hid (w.heap.size < w4.heap.size) := Lib.hid (by have := hb4.size; have := HZ3.out; omega)
          clear hb4
          go_wp2_with (refine wpList_store_row rfl _ _ _ rfl w.heap.size _ rfl rfl 129 _ HR.out size_stm rfl (by simp [Value.oneCell']) ?_)
          have hst : StmV w4 w3.heap.size (.words ws) (str []) (.slice A ws.length C) (str []) .nilFunc := ⟨rfl, HOW.out, rfl, rfl⟩
          have hst2 := stmV_base (stmV_row hst HZ3.out (setRow_only w4 w.heap.size #[.string ⟨#[]⟩, .slice A ws.length C, .string ⟨#[]⟩, .nilFunc]) (fun k h1 _ h2 => by have := HZ3.out; omega)) HSZ3.out
          exact bodyPost_ret (v := .tuple #[.agg #[.string ⟨#[]⟩, .slice A ws.length C, .string ⟨#[]⟩, .nilFunc], .bool true]) (results_cell_tmp (show Tryz.f75.results = #[.cell 2 129, .tmp 3] by kernel_rfl) _ _ w.heap.size 129 _ _ _ rfl (setRow_heap _ _ _ _ _ _ HR.out) Tryz.underlying129 rfl size_stm) rfl ⟨(fun s h => by cases h; exact ⟨_, rfl, _, _, _, _, rfl, hst2⟩), (fun h => by cases h), below_setRow HB4.out (Nat.le_refl _) _⟩

end Go.Proofs.YtakdhdaoklcidaaGreatDoor

namespace Go.Proofs.YtakdhdaoklcidaaGreatDoor
open Go.RowKit Go.Lib
set_option linter.unusedVariables false
set_option maxRecDepth 100000

/-- A text's lines. -/
def linesT (l : Bs) : List Bs := Lib.split l [10]
theorem splitK_len : ∀ (k : Nat) (l : Bs), (splitK [10] 0 k l).length ≤ k + 1 ∧ ∀ x ∈ splitK [10] 0 k l, x.length ≤ l.length
  | 0, l => ⟨by simp [splitK], fun x hx => by simp [splitK] at hx; rw [hx]; exact Nat.le_refl _⟩
  | k + 1, l => by
    unfold splitK
    split
    · exact ⟨by simp, fun x hx => by rw [List.mem_singleton.1 hx]; exact Nat.le_refl _⟩
    · have := splitK_len k (l.drop ((index l [10]).toNat + [10].length))
      refine ⟨by simp; exact this.1, fun x hx => ?_⟩
      rcases List.mem_cons.1 hx with h | h
      · rw [h]; simp; omega
      · have := this.2 x h; simp at this; omega
theorem splitP (l : Bs) (w : World) (hs : l.length ≤ 1000000) (he : Env w) : Calls Tryz.prog 74 #[str l, .string ⟨#[10]⟩] w fun e w' => e = .returned (.slice (some ⟨w.heap.size, 0, none⟩) (linesT l).length (linesT l).length) ∧ w' = w.alloc (.cells ((linesT l).map str).toArray 9) := by
  obtain ⟨m, hm⟩ := he.mlen
  have h := Any.strings_Split splitLays (by kernel_rfl) ⟨l.toArray⟩ ⟨#[10]⟩ m w (by show l.toArray.size < _; rw [List.size_toArray]; omega) hm (by decide)
  have e1 : (splitB ⟨#[10]⟩ 0 (countB ⟨l.toArray⟩ ⟨#[10]⟩) ⟨l.toArray⟩).map (·.data.toList) = linesT l := splitB_data _ _ _ _
  have e2 : (splitB ⟨#[10]⟩ 0 (countB ⟨l.toArray⟩ ⟨#[10]⟩) ⟨l.toArray⟩).map Value.string = (linesT l).map str := by
    rw [← e1, List.map_map]
    refine List.map_congr_left fun s _ => ?_
    show Value.string s = str s.data.toList
    rw [show str s.data.toList = Value.string ⟨s.data.toList.toArray⟩ from rfl, mk_data]
  have e3 : countB ⟨l.toArray⟩ ⟨#[10]⟩ + 1 = (linesT l).length := by
    rw [← e1, List.length_map]
    exact (splitB_all ⟨#[10]⟩ (by decide) 0 _ _ rfl).symm
  rw [e2, e3] at h
  exact h

/-- Four cells of a line. -/
abbrev Q4 := Value × Value × Value × Value
def q4C (q : Q4) : List Value := [q.1, q.2.1, q.2.2.1, q.2.2.2]
def q4Cs (l : List Q4) : List Value := l.flatMap q4C
theorem q4Cs_app (a b : List Q4) : q4Cs (a ++ b) = q4Cs a ++ q4Cs b := by unfold q4Cs; exact List.flatMap_append
theorem info_stmP : (Tryz.prog.info? 129).map (fun i => (i.zero, i.size, i.bytes)) = some (some (.agg #[.string ⟨#[]⟩, .slice none 0 0, .string ⟨#[]⟩, .nilFunc]), 4, 64) := by kernel_rfl
abbrev OwnS (w : World) (B : Nat) (v : Value) (qs : List Q4) : Prop := w.ownsRow B 129 4 v qs.length (q4Cs qs)
theorem ownS_slice {w : World} {B : Nat} {v : Value} {l : List Q4} (h : OwnS w B v l) : ∃ A C, v = .slice A l.length C := own_slice' h
theorem ownS_keep {w w' : World} {B : Nat} {v : Value} {l : List Q4} (h : OwnS w B v l) {S : Nat → Prop} (o : Only S w w') (hS : ∀ g, v.ownBlock = some g → ¬ S g) : OwnS w' B v l := by
  refine ⟨h.1, ?_⟩
  rcases h.2 with hn | ⟨g, cap, cur, rfl, hb, hg, rest⟩
  · exact .inl hn
  · exact .inr ⟨g, cap, cur, rfl, hb, o.keeps (hS g rfl) hg, rest⟩
theorem ownS_lt {w : World} {B : Nat} {v : Value} {l : List Q4} (h : OwnS w B v l) : ∀ g, v.ownBlock = some g → B ≤ g ∧ g < w.heap.size ∧ ∃ cs fr, w.heap[g]? = some (.cells cs 129 fr) := by
  intro g hg
  rcases h.2 with ⟨rfl, _⟩ | ⟨g', cap, cur, rfl, hb, hc, _⟩
  · simp [Value.ownBlock] at hg
  · simp [Value.ownBlock] at hg
    subst hg
    exact ⟨hb, (Array.getElem?_eq_some_iff.1 hc).1, _, _, hc⟩
theorem ownS_below {w w' : World} {B : Nat} {v : Value} {l : List Q4} (h : OwnS w B v l) (hb : Below w.heap.size w w') : OwnS w' B v l :=
  ownS_keep (S := fun k => w.heap.size ≤ k) h (Only.of_below _ hb) (fun g hg hs => by have := (ownS_lt h g hg).2.1; omega)
/-- What a line says stands while only blocks of lines' rows turn. -/
theorem stmV_typed {w w' : World} {B : Nat} {s : Stm} {c0 c1 c2 c3 : Value} (h : StmV w B s c0 c1 c2 c3) {S : Nat → Prop} (o : Only S w w') (hS : ∀ k, S k → ∃ cs fr, w.heap[k]? = some (.cells cs 129 fr)) : StmV w' B s c0 c1 c2 c3 := by
  have no : ∀ k cs t fr, w.heap[k]? = some (.cells cs t fr) → t ≠ 129 → ¬ S k := fun k cs t fr h1 h2 h3 => by
    obtain ⟨cs', fr', h4⟩ := hS k h3
    rw [h1] at h4
    injection h4 with h4
    injection h4 with _ h5
    exact h2 h5
  have nw : ∀ v ws, OwnW w B v ws → OwnW w' B v ws := fun v ws h1 => ownW_keep h1 o (fun k hk => by
    rcases h1.2 with ⟨rfl, _⟩ | ⟨g', cap, cur, rfl, hb, hc, _⟩
    · simp [Value.ownBlock] at hk
    · simp [Value.ownBlock] at hk
      subst hk
      exact no _ _ _ _ hc (by decide))
  cases s with
  | none => exact h
  | label l => exact h
  | words ws => exact ⟨h.1, nw _ _ h.2.1, h.2.2⟩
  | la rd l =>
    obtain ⟨h0, ⟨ws, hl, h1⟩, h2, b, h3, h4, h5⟩ := h
    exact ⟨h0, ⟨ws, hl, nw _ _ h1⟩, h2, b, h3, h4, o.keeps (no _ _ _ _ h5 (by decide)) h5⟩
  | jump i l =>
    obtain ⟨h0, ⟨ws, hl, h1⟩, h2, b, h3, h4, m, h5⟩ := h
    exact ⟨h0, ⟨ws, hl, nw _ _ h1⟩, h2, b, h3, h4, m, o.keeps (no _ _ _ _ h5 (by decide)) h5⟩
theorem stmV_below {w w' : World} {B : Nat} {s : Stm} {c0 c1 c2 c3 : Value} (h : StmV w B s c0 c1 c2 c3) (hb : Below w.heap.size w w') : StmV w' B s c0 c1 c2 c3 :=
  stmV_typed (S := fun _ => False) h ⟨hb.os, hb.tape, hb.output, hb.size, fun k hk _ => hb.block k hk⟩ (fun k hk => hk.elim)
/-- A row of lines' meanings. -/
structure StmRow (w : World) (B : Nat) (v : Value) (ss : List Stm) (qs : List Q4) : Prop where
  own : OwnS w B v qs
  len : qs.length = ss.length
  at' : ∀ k (hk : k < ss.length) (hq : k < qs.length), StmV w B ss[k] qs[k].1 qs[k].2.1 qs[k].2.2.1 qs[k].2.2.2
theorem stmRow_nil (w : World) (B : Nat) : StmRow w B (.slice none 0 0) [] [] := ⟨⟨rfl, .inl ⟨rfl, rfl⟩⟩, rfl, fun k hk => by simp at hk⟩
theorem stmRow_below {w w' : World} {B : Nat} {v : Value} {ss : List Stm} {qs : List Q4} (h : StmRow w B v ss qs) (hb : Below w.heap.size w w') : StmRow w' B v ss qs :=
  ⟨ownS_below h.own hb, h.len, fun k hk hq => stmV_below (h.at' k hk hq) hb⟩
/-- One line more. -/
theorem stmRow_push (w : World) (B : Nat) (v : Value) (ss : List Stm) (qs : List Q4) (n : Nat) (hn : qs.length = n) (h : StmRow w B v ss qs) (hl : n ≤ 1000000) (hB : B ≤ w.heap.size) (s : Stm) (q : Q4) (hs : StmV w B s q.1 q.2.1 q.2.2.1 q.2.2.2) (ty : TypeId) :
    ∃ A C w', (Builtin.append_ #[76, 76] ty #[v, .slice (some ⟨w.heap.size, 0, none⟩) 1 1]).run Tryz.prog (w.alloc (.cells #[q.1, q.2.1, q.2.2.1, q.2.2.2] 129)) = .ok (.slice A (n + 1) C) w' ∧ StmRow w' B (.slice A (n + 1) C) (ss ++ [s]) (qs ++ [q]) ∧ (∀ B0 w0, Below B0 w0 w → B0 ≤ B → B0 ≤ w.heap.size → Below B0 w0 w') := by
  obtain ⟨i0, hi, hz0, hz1, hz2⟩ := info_parts info_stmP
  have ha : Below w.heap.size w (w.alloc (.cells #[q.1, q.2.1, q.2.2.1, q.2.2.2] 129)) := (Below.refl _ _).alloc (Nat.le_refl _) _
  have h2 := stmRow_below h ha
  have hs2 := stmV_below hs ha
  have hc := heap_alloc_new w (.cells #[q.1, q.2.1, q.2.2.1, q.2.2.2] 129)
  have hBa := Nat.le_trans hB ha.size
  have hold := ha.size
  generalize w.alloc (.cells #[q.1, q.2.1, q.2.2.1, q.2.2.2] 129) = wa at *
  have hone := stmV_four hs
  have hn1 : ∀ j u, (q4C q)[j]? = some u → wa.cell? ((⟨w.heap.size, 0, none⟩ : Addr).add j) = some u := by
    intro j u hj
    rw [Lib.add_plain, Nat.zero_add, Lib.cell_of_heap hc]
    simpa [q4C] using hj
  have h1 : ∀ u ∈ q4C q, u.oneCell' = true := by
    intro u hu
    simp [q4C] at hu
    rcases hu with rfl | rfl | rfl | rfl
    · exact hone.1
    · exact hone.2.1
    · exact hone.2.2.1
    · exact hone.2.2.2
  obtain ⟨v', w', hr, ho, hg, _, h5⟩ := run_append_own_at (P := Tryz.prog) wa B 76 ty 129 i0 _ 4 64 Tryz.underlying76 hi hz0 hz1 hz2 rfl (by decide) v qs.length _ h2.own ⟨w.heap.size, 0, none⟩ 1 1 (q4C q) rfl hn1 h1 (by unfold maxLen; omega) (by omega) hBa
  have ho' : OwnS w' B v' (qs ++ [q]) := by
    unfold OwnS
    rw [q4Cs_app, List.length_append]
    simpa [q4Cs] using ho
  have hon : Only (fun k => v.ownBlock = some k) wa w' := (Only.refl _ wa).grown hg (fun k hk => .inl hk)
  have hty : ∀ k, v.ownBlock = some k → ∃ cs fr, wa.heap[k]? = some (.cells cs 129 fr) := fun k hk => (ownS_lt h2.own k hk).2.2
  obtain ⟨A, C, rfl⟩ := ownS_slice ho'
  have e : (qs ++ [q]).length = n + 1 := by simp [hn]
  rw [e] at hr ho'
  refine ⟨A, C, w', hr, ⟨ho', by simp [h.len], fun k hk hq => ?_⟩, fun B0 w0 hb h1 h2' => ?_⟩
  · by_cases c : k < ss.length
    · have c2 : k < qs.length := by rw [h.len]; exact c
      rw [List.getElem_append_left c, List.getElem_append_left c2]
      exact stmV_typed (h2.at' k c c2) hon hty
    · have hk2 : k = ss.length := by simp at hk; omega
      subst hk2
      have hq2 : ss.length = qs.length := h.len.symm
      have e1 : (ss ++ [s])[ss.length] = s := by simp
      have e2 : ∀ (i : Nat) (hi : i < (qs ++ [q]).length), i = qs.length → (qs ++ [q])[i] = q := fun i hi hh => by subst hh; simp
      rw [e1, e2 _ hq hq2]
      exact stmV_typed hs2 hon hty
  · have hbw := hb
    have hb3 : Below B0 w0 wa := hb.trans (ha.mono h2')
    exact Below.thenOnly hb3 hon (fun k hk => Nat.le_trans h1 (ownS_lt h2.own k hk).1) (Nat.le_trans h2' hold)

end Go.Proofs.YtakdhdaoklcidaaGreatDoor

namespace Go.Proofs.YtakdhdaoklcidaaGreatDoor
open Go.RowKit Go.Lib
set_option linter.unusedVariables false
set_option maxRecDepth 100000

def RaEnd (w : World) (ls : List Bs) (e : Ending) (w' : World) : Prop :=
  (∃ k, k < ls.length ∧ (∀ i, i < k → ∃ s, lineS (ls.getD i []) = some s) ∧ lineS (ls.getD k []) = none ∧ e = .returned (.tuple #[.slice none 0 0, .int .i64 ((k : Int) + 1)]) ∧ Below w.heap.size w w') ∨
  ((∀ i, i < ls.length → ∃ s, lineS (ls.getD i []) = some s) ∧ ∃ v qs, e = .returned (.tuple #[v, .int .i64 0]) ∧ StmRow w' w.heap.size v (ls.filterMap lineS) qs ∧ Below w.heap.size w w')
theorem stmRow_base {w : World} {B B' : Nat} {v : Value} {ss : List Stm} {qs : List Q4} (h : StmRow w B v ss qs) (hB : B' ≤ B) : StmRow w B' v ss qs := by
  refine ⟨⟨h.own.1, ?_⟩, h.len, fun k hk hq => stmV_base (h.at' k hk hq) hB⟩
  rcases h.own.2 with hn | ⟨g, cap, cur, rfl, hb, rest⟩
  · exact .inl hn
  · exact .inr ⟨g, cap, cur, rfl, by omega, rest⟩

set_option maxHeartbeats 4000000 in
theorem readAll_any (l : Bs) (hl : l.length ≤ 70000) (w : World) (he : Env w) : Calls Tryz.prog 43 #[str l] w (RaEnd w (linesT l)) := by
  have HSP := Lib.hid (splitP l w (by omega) he)
  have hlen : ∀ x ∈ linesT l, x.length ≤ l.length := (splitK_len _ l).2
  have HLN := Lib.hid hlen
  have HE := Lib.hid he
  have hnl : (linesT l).length ≤ 1000000 := by
    have h1 := (splitK_len (Lib.count l [10]) l).1
    have h2 : Lib.count l [10] ≤ l.length := by rw [Lib.count_one]; exact List.count_le_length
    have h3 : (linesT l).length = (splitK [10] 0 (Lib.count l [10]) l).length := rfl
    omega
  clear he hlen
  generalize linesT l = ls at *
  go_enter Tryz.func43, Tryz.ntmps43
  go_wp2_with (fail)
  (with_reducible refine HSP.out.mono ?_)
  rintro e w1 ⟨rfl, hw1⟩
  have HCL : Hid (∀ j, j < ls.length → w1.cell? ⟨w.heap.size, j, none⟩ = some (str (ls.getD j []))) := Lib.hid fun j hj => by
    rw [hw1, Lib.cell_of_heap (heap_alloc_new w _)]
    simp [List.getD_eq_getElem?_getD, List.getElem?_eq_getElem hj]
  have HB1 : Hid (Below w.heap.size w w1) := Lib.hid (by rw [hw1]; exact (Below.refl _ _).alloc (Nat.le_refl _) _)
  clear hw1 HSP
  go_wp2
  go_loopw [2, 11] (fun v k wr => ∃ (j : Nat) (qs : List Q4), j ≤ ls.length ∧ k = .int .i64 j ∧ (∀ i, i < j → ∃ s, lineS (ls.getD i []) = some s) ∧ StmRow wr w1.heap.size v ((ls.take j).filterMap lineS) qs ∧ ((ls.take j).filterMap lineS).length = j ∧ Below w1.heap.size w1 wr) (fun _ k _ => ls.length - (RowKit.intOf k).toNat)
  case atStart => exact ⟨0, [], Nat.zero_le _, rfl, fun i hi => by omega, stmRow_nil _ _, rfl, Below.refl _ _⟩
  case round =>
    obtain ⟨j, qs, hj, rfl, hall, hrow, hsl, hb⟩ := hrel
    obtain ⟨A, C, rfl⟩ := ownS_slice hrow.own
    have hqn : qs.length = j := by rw [hrow.len, hsl]
    rw [hqn]
    have HALL := Lib.hid hall
    have HROW := Lib.hid hrow
    have HB := Lib.hid hb
    have HQN := Lib.hid hqn
    have HSL := Lib.hid hsl
    clear hall hqn hsl
    by_cases hlt : j < ls.length
    · have hx := HCL.out j hlt
      have hxw := cell_stays HB.out hx
      have hmem : ls.getD j [] ∈ ls := by rw [List.getD_eq_getElem?_getD, List.getElem?_eq_getElem hlt]; exact List.getElem_mem hlt
      have hll := HLN.out _ hmem
      have htk : ls.take (j + 1) = ls.take j ++ [ls.getD j []] := by rw [List.take_succ_eq_append_getElem hlt, List.getD_eq_getElem?_getD, List.getElem?_eq_getElem hlt]; rfl
      have HTK := Lib.hid htk
      have HRD := Lib.hid (fun w he => readL (ls.getD j []) (by omega) w he)
      have HSZ := Lib.hid hb.size
      have HEW := Lib.hid ((HE.out.below HB1.out).below HB.out)
      clear hx hmem hll htk hb hrow
      generalize hlj : ls.getD j [] = lj at *
      have HLJ := Lib.hid hlj
      clear hlj
      go_wp2_with (fail)
      (with_reducible refine (HRD.out _ HEW.out).mono ?_)
      rintro e w2 ⟨hy, hno, hb2⟩
      have HB2 := Lib.hid (HB.out.trans (hb2.mono HB.out.size))
      have HROW2 := Lib.hid (stmRow_below HROW.out hb2)
      clear hxw
      cases hls : lineS lj with
      | none =>
        obtain ⟨v, rfl, c0, c1, c2, c3, rfl, o0, o1, o2, o3⟩ := hno hls
        have HLS := Lib.hid hls
        clear hy hno hb2 hls
        go_wp2_with (refine wpList_store_row rfl _ _ _ rfl w2.heap.size _ rfl rfl 129 _ (heap_alloc_new w2 _) size_stm rfl (four_one o0 o1 o2 o3) ?_)
        go_ret2
        exact Or.inl ⟨j, hlt, HALL.out, by rw [HLJ.out]; exact HLS.out, rfl, HB1.out.trans ((below_setRow (HB2.out.alloc HB2.out.size _) HB2.out.size _).mono HB1.out.size)⟩
      | some st =>
        obtain ⟨v, rfl, c0, c1, c2, c3, rfl, hst⟩ := hy st hls
        obtain ⟨o0, o1, o2, o3⟩ := stmV_four hst
        have HST := Lib.hid (stmV_base hst HSZ.out)
        have HLS := Lib.hid hls
        have HB2S := Lib.hid hb2.size
        clear hy hno hls hst hb2
        go_wp2_with (first
          | (refine wpList_store_row rfl _ _ _ rfl w2.heap.size _ rfl rfl 129 _ (heap_alloc_new w2 _) size_stm rfl (four_one o0 o1 o2 o3) ?_; refine Hid.out ?_))
        have hbww : Below w2.heap.size w2 ((w2.alloc (.cells #[.string ⟨#[]⟩, .slice none 0 0, .string ⟨#[]⟩, .nilFunc] 129)).setRow w2.heap.size #[c0, c1, c2, c3]) := below_setRow ((Below.refl _ _).alloc (Nat.le_refl _) _) (Nat.le_refl _) _
        have hcw : ((w2.alloc (.cells #[.string ⟨#[]⟩, .slice none 0 0, .string ⟨#[]⟩, .nilFunc] 129)).setRow w2.heap.size #[c0, c1, c2, c3]).heap[w2.heap.size]? = some (.cells #[c0, c1, c2, c3] 129 (0, 0)) := setRow_heap _ _ _ _ _ _ (heap_alloc_new w2 _)
        generalize (w2.alloc (.cells #[.string ⟨#[]⟩, .slice none 0 0, .string ⟨#[]⟩, .nilFunc] 129)).setRow w2.heap.size #[c0, c1, c2, c3] = ww at *
        have HROW3 := stmRow_below HROW2.out hbww
        have HST3 := stmV_below HST.out hbww
        have HB3 := HB2.out.trans (hbww.mono HB2.out.size)
        have HCW := Lib.hid hcw
        obtain ⟨A4, C4, w4, hr4, hrow4, hb4⟩ := stmRow_push ww w1.heap.size _ _ qs j HQN.out HROW3 (by omega) HB3.size st (c0, c1, c2, c3) HST3 76
        rw [HQN.out] at hr4
        have HRUN := Lib.hid hr4
        have HROW4 := Lib.hid hrow4
        have HB4 := Lib.hid (hb4 w1.heap.size w1 HB3 (Nat.le_refl _) HB3.size)
        have HALL4 : Hid (∀ i, i < j + 1 → ∃ s, lineS (ls.getD i []) = some s) := Lib.hid fun i hi => by
          by_cases c : i < j
          · exact HALL.out i c
          · obtain rfl : i = j := by omega
            exact ⟨st, by rw [HLJ.out]; exact HLS.out⟩
        have HFM : Hid ((ls.take (j + 1)).filterMap lineS = (ls.take j).filterMap lineS ++ [st]) := Lib.hid (by
          rw [HTK.out, List.filterMap_append]
          simp [HLS.out])
        clear hbww hcw HROW3 HST3 HB3 hr4 hrow4 hb4 HROW2 HST HB2 HB2S
        refine Lib.hid ?_
        go_wp2_with (first
          | (refine wpList_load_row rfl _ _ rfl w2.heap.size rfl 129 _ _ _ HCW.out Tryz.underlying129 rfl size_stm ?_)
          | (at_builtin; refine wpList_append_run rfl _ _ _ rfl (.slice A j C) (.slice (some ⟨ww.heap.size, 0, none⟩) 1 1) (.slice A4 (j + 1) C4) w4 rfl rfl HRUN.out ?_))
        go_roundw
        case rel => exact ⟨j + 1, qs ++ [(c0, c1, c2, c3)], by omega, by go_num, HALL4.out, by rw [HFM.out]; exact HROW4.out, by rw [HFM.out, List.length_append, HSL.out]; rfl, HB4.out⟩
        case measure => simp [RowKit.intOf]; omega
    · obtain rfl : j = ls.length := by omega
      rw [List.take_length] at HROW
      clear HCL
      go_wp2
      go_ret2
      exact Or.inr ⟨HALL.out, _, qs, rfl, by have := stmRow_base HROW.out HB1.out.size; rw [HQN.out] at *; exact this, HB1.out.trans (HB.out.mono HB1.out.size)⟩

end Go.Proofs.YtakdhdaoklcidaaGreatDoor

namespace Go.Proofs.YtakdhdaoklcidaaGreatDoor
open Go.RowKit Go.Lib Go.Maps Go.WideMaps
set_option linter.unusedVariables false
set_option maxRecDepth 100000

/-- Block mb is a map from labels to addresses, of at most n entries. -/
def LabMap (w : World) (mb n : Nat) (f : Bs → Option Int) : Prop :=
  ∃ D : DataW Unit, w.ownsMap Tryz.prog 9 (plainElem Tryz.prog 36) mb n D ∧ (∀ l, Maps.has D (.string l) = (f l).isSome) ∧ (∀ l, D.atKey (.string l) (.lit (.int .u64 0)) = .lit (.int .u64 ((f l).getD 0)))
theorem labKeyed : Keyed Tryz.prog 9 := string_keyed Tryz.underlying9
theorem labKey (l : Bs) (hl : l.length ≤ 1000000) : keyOf Tryz.prog 9 (str l) = some (.string l) := by
  have h := Go.WideMaps.keyOf_string_mk (P := Tryz.prog) (k := 9) Tryz.underlying9 (s := ⟨l.toArray⟩) (by show l.toArray.size ≤ _; rw [List.size_toArray]; unfold maxLen; omega)
  exact h
theorem LabMap.made (w : World) : LabMap (w.alloc (.map #[] 0)) w.heap.size 0 fun _ => none :=
  ⟨_, World.ownsMap_made w Tryz.prog _ _, fun l => rfl, fun l => rfl⟩
theorem LabMap.lt {w : World} {mb n : Nat} {f : Bs → Option Int} (h : LabMap w mb n f) : mb < w.heap.size := by obtain ⟨D, h1, _⟩ := h; exact h1.lt
theorem LabMap.keeps {w w' : World} {mb n : Nat} {f : Bs → Option Int} {S : Nat → Prop} (h : LabMap w mb n f) (o : Only S w w') (hs : ¬ S mb) : LabMap w' mb n f := by
  obtain ⟨D, h1, h2⟩ := h
  have hlt := h1.lt
  obtain ⟨es, clock, hb, r⟩ := h1
  exact ⟨D, ⟨es, clock, (o.block mb hlt hs).trans hb, r⟩, h2⟩
theorem LabMap.below {w w' : World} {mb n : Nat} {f : Bs → Option Int} (h : LabMap w mb n f) (hb : Below w.heap.size w w') : LabMap w' mb n f :=
  h.keeps (S := fun k => w.heap.size ≤ k) (Only.of_below _ hb) (by have := h.lt; omega)
theorem LabMap.look {w : World} {mb n : Nat} {f : Bs → Option Int} (h : LabMap w mb n f) (l : Bs) (hl : l.length ≤ 1000000) :
    (Instr.lookup 79 (.map (some mb)) (str l) true).run Tryz.prog w = .ok (.tuple #[.int .u64 ((f l).getD 0), .bool (f l).isSome]) w := by
  obtain ⟨D, h1, h2, h3⟩ := h
  obtain ⟨v, ps, hr, hv⟩ := h1.look_ok labKeyed Tryz.underlying79 (Tryz.zeroValue36 w) (plainElem_int (H := Unit) Tryz.underlying36 (a := 0) (by decide)) (labKey l hl)
  obtain ⟨a, rfl, ha, _⟩ := plainElem_int_inv Tryz.underlying36 hv
  have e := congrArg Prod.fst ha
  simp only [] at e
  rw [h3 l] at e
  injection e with e
  injection e with _ e
  rw [hr, h2 l, ← e]
theorem LabMap.put {w : World} {mb n : Nat} {f : Bs → Option Int} (h : LabMap w mb n f) (hn : n ≤ 1000000) (l : Bs) (hl : l.length ≤ 1000000) (a : Int) (ha : 0 ≤ a ∧ a < 18446744073709551616) :
    ∃ w', (Instr.mapUpdate 79 (.map (some mb)) (str l) (.int .u64 a)).run Tryz.prog w = .ok () w' ∧ LabMap w' mb (n + 1) (fun x => if x = l then some a else f x) ∧ Only (fun k => k = mb) w w' := by
  obtain ⟨D, h1, h2, h3⟩ := h
  have hw : (Lit.int .u64 a).wf = true := by simp [Lit.wf, IntKind.min, IntKind.max, IntKind.signed, IntKind.bits]; omega
  obtain ⟨w', hr, ho, hg⟩ := h1.store labKeyed Tryz.underlying79 (by unfold maxLen; omega) (labKey l hl) (plainElem_int (H := Unit) Tryz.underlying36 hw)
  have g := hg.grown
  refine ⟨w', hr, ⟨_, ho, fun x => ?_, fun x => ?_⟩, ⟨g.os, g.tape, g.output, g.size, fun i hi hn => g.block i hi (by intro e; cases e; exact hn rfl)⟩⟩
  · by_cases e : x = l
    · subst e
      show _ = (if x = x then some a else f x).isSome
      rw [if_pos rfl, Maps.has_put_same h1.isMap (labKeyed.key (labKey x hl))]; rfl
    · show _ = (if x = l then some a else f x).isSome
      rw [if_neg e, Maps.has_put_other (by intro h; injection h with h; exact e h)]; exact h2 x
  · by_cases e : x = l
    · subst e
      show _ = DataW.lit (.int .u64 ((if x = x then some a else f x).getD 0))
      rw [if_pos rfl]; exact Maps.atKey_put_same h1.isMap (labKeyed.key (labKey x hl)) _ _
    · show _ = DataW.lit (.int .u64 ((if x = l then some a else f x).getD 0))
      rw [if_neg e, Maps.atKey_put_other (by intro h; injection h with h; exact e h)]; exact h3 x

/-- The label that a line is; how many words it has. -/
def labOf : Stm → Bs
  | .label l => l
  | _ => []
def sizeS : Stm → Nat
  | .none => 0
  | .label _ => 0
  | .words ws => ws.length
  | .la _ _ => 2
  | .jump _ _ => 1
/-- Where the k-th line's words stand. -/
def atK (ss : List Stm) (base : Int) : Nat → Int
  | 0 => base
  | k + 1 => (atK ss base k + 4 * ((sizeS (ss.getD k .none) : Nat) : Int)) % 18446744073709551616
/-- The labels of the first k lines. -/
def labF (ss : List Stm) (base : Int) : Nat → Bs → Option Int
  | 0 => fun _ => none
  | k + 1 => fun l => if labOf (ss.getD k .none) ≠ [] ∧ l = labOf (ss.getD k .none) then some (atK ss base k) else labF ss base k l
/-- Whether the k-th line is a label that stands in a line ahead. -/
def dupAt (ss : List Stm) (base : Int) (k : Nat) : Bool := !(labOf (ss.getD k .none)).isEmpty && (labF ss base k (labOf (ss.getD k .none))).isSome
theorem atK_in (ss : List Stm) (base : Int) (h : 0 ≤ base ∧ base < 18446744073709551616) (k : Nat) : 0 ≤ atK ss base k ∧ atK ss base k < 18446744073709551616 := by
  cases k with
  | zero => exact h
  | succ k => unfold atK; omega
theorem stm_c0 {w : World} {B : Nat} {s : Stm} {c0 c1 c2 c3 : Value} (h : StmV w B s c0 c1 c2 c3) : c0 = str (labOf s) ∧ ∃ A C, c1 = .slice A (sizeS s) C := by
  cases s with
  | none => exact ⟨h.1, _, _, h.2.1⟩
  | label l => exact ⟨h.1, _, _, h.2.1⟩
  | words ws => obtain ⟨A, C, hv⟩ := ownW_slice h.2.1; exact ⟨h.1, _, _, hv⟩
  | la rd l => obtain ⟨h0, ⟨ws, hl, h1⟩, _⟩ := h; obtain ⟨A, C, hv⟩ := ownW_slice h1; exact ⟨h0, A, C, by rw [hv, hl]; rfl⟩
  | jump i l => obtain ⟨h0, ⟨ws, hl, h1⟩, _⟩ := h; obtain ⟨A, C, hv⟩ := ownW_slice h1; exact ⟨h0, A, C, by rw [hv, hl]; rfl⟩
/-- The cells of a row of lines. -/
theorem q4Cs_at : ∀ (l : List Q4) (k j : Nat) (hk : k < l.length), j < 4 → (q4Cs l)[k * 4 + j]? = some ((q4C l[k]).getD j undef)
  | [], k, j, hk, hj => by simp at hk
  | q :: l, 0, j, hk, hj => by
    have e : q4Cs (q :: l) = q4C q ++ q4Cs l := by simp [q4Cs]
    rw [e, Nat.zero_mul, Nat.zero_add, List.getElem?_append_left (by simpa [q4C] using hj)]
    simp only [List.getElem_cons_zero]
    rw [List.getD_eq_getElem?_getD, List.getElem?_eq_getElem (by simpa [q4C] using hj)]; rfl
  | q :: l, k + 1, j, hk, hj => by
    have e : q4Cs (q :: l) = q4C q ++ q4Cs l := by simp [q4Cs]
    have h4 : (q4C q).length = 4 := rfl
    rw [e, List.getElem?_append_right (by rw [h4]; omega), h4, show (k + 1) * 4 + j - 4 = k * 4 + j by omega]
    simp only [List.getElem_cons_succ]
    exact q4Cs_at l k j (by simpa using hk) hj
def SAt (w : World) (g : Nat) (qs : List Q4) : Prop := ∀ k (hk : k < qs.length), w.cell? ⟨g, k * 4, none⟩ = some qs[k].1 ∧ w.cell? ⟨g, k * 4 + 1, none⟩ = some qs[k].2.1 ∧ w.cell? ⟨g, k * 4 + 2, none⟩ = some qs[k].2.2.1 ∧ w.cell? ⟨g, k * 4 + 3, none⟩ = some qs[k].2.2.2
theorem sAt_own {w : World} {B : Nat} {v : Value} {l : List Q4} (h : OwnS w B v l) (hl : l ≠ []) : ∃ g C, v = .slice (some ⟨g, 0, none⟩) l.length C ∧ SAt w g l ∧ g < w.heap.size := by
  rcases h.2 with ⟨rfl, h0⟩ | ⟨g, cap, cur, rfl, hb, hc, hn, _, hcs, ht⟩
  · exact absurd (List.eq_nil_of_length_eq_zero h0) hl
  · refine ⟨g, cap, rfl, fun k hk => ?_, (Array.getElem?_eq_some_iff.1 hc).1⟩
    have at1 : ∀ j, j < 4 → w.cell? ⟨g, k * 4 + j, none⟩ = some ((q4C l[k]).getD j undef) := fun j hj => by
      rw [Lib.cell_of_heap hc]
      have h1 := q4Cs_at l k j hk hj
      rw [← ht, List.getElem?_take, if_pos (by omega)] at h1
      simpa using h1
    exact ⟨at1 0 (by decide), at1 1 (by decide), at1 2 (by decide), at1 3 (by decide)⟩
theorem sAt_below {w w' : World} {g : Nat} {l : List Q4} (h : SAt w g l) (hb : Below w.heap.size w w') : SAt w' g l := fun k hk =>
  ⟨cell_stays hb (h k hk).1, cell_stays hb (h k hk).2.1, cell_stays hb (h k hk).2.2.1, cell_stays hb (h k hk).2.2.2⟩

end Go.Proofs.YtakdhdaoklcidaaGreatDoor

namespace Go.Proofs.YtakdhdaoklcidaaGreatDoor
open Go.RowKit Go.Lib Go.Maps Go.WideMaps
set_option linter.unusedVariables false
set_option maxRecDepth 100000

def PlEnd (w : World) (ss : List Stm) (base : Int) (e : Ending) (w' : World) : Prop :=
  (∃ k, k < ss.length ∧ (∀ i, i < k → dupAt ss base i = false) ∧ dupAt ss base k = true ∧ e = .returned (.tuple #[.map none, .int .i64 ((k : Int) + 1)]) ∧ Below w.heap.size w w') ∨
  ((∀ i, i < ss.length → dupAt ss base i = false) ∧ ∃ mb n, e = .returned (.tuple #[.map (some mb), .int .i64 0]) ∧ w.heap.size ≤ mb ∧ LabMap w' mb n (labF ss base ss.length) ∧ Below w.heap.size w w')
theorem dup_no {ss : List Stm} {base : Int} {k : Nat} {f : Bs → Option Int} {l : Bs} (hf : labF ss base k = f) (hl : labOf (ss.getD k .none) = l) (h : l = [] ∨ f l = none) : dupAt ss base k = false := by
  unfold dupAt
  rw [hf, hl]
  rcases h with h | h
  · simp [h]
  · simp [h]
theorem dup_yes {ss : List Stm} {base : Int} {k : Nat} {f : Bs → Option Int} {l : Bs} {a : Int} (hf : labF ss base k = f) (hl : labOf (ss.getD k .none) = l) (h0 : l ≠ []) (h : f l = some a) : dupAt ss base k = true := by
  unfold dupAt
  rw [hf, hl]
  cases l with
  | nil => exact absurd rfl h0
  | cons a l => simp [h]
theorem labF_no {ss : List Stm} {base : Int} {k : Nat} (hl : labOf (ss.getD k .none) = []) : labF ss base (k + 1) = labF ss base k := by
  funext l
  show (if labOf (ss.getD k .none) ≠ [] ∧ l = labOf (ss.getD k .none) then some (atK ss base k) else labF ss base k l) = _
  rw [if_neg (fun h => h.1 hl)]
theorem labF_yes {ss : List Stm} {base : Int} {k : Nat} {l : Bs} (hl : labOf (ss.getD k .none) = l) (h0 : l ≠ []) : labF ss base (k + 1) = fun x => if x = l then some (atK ss base k) else labF ss base k x := by
  funext x
  show (if labOf (ss.getD k .none) ≠ [] ∧ x = labOf (ss.getD k .none) then some (atK ss base k) else labF ss base k x) = _
  rw [hl]
  by_cases c : x = l
  · rw [if_pos ⟨h0, c⟩, if_pos c]
  · rw [if_neg (fun h => c h.2), if_neg c]
/-- What place asks of the lines' cells. -/
structure QAt (ss : List Stm) (qs : List Q4) : Prop where
  len : qs.length = ss.length
  at' : ∀ k (hk : k < ss.length), ∃ A C c2 c3, qs[k]? = some (str (labOf (ss.getD k .none)), .slice A (sizeS (ss.getD k .none)) C, c2, c3) ∧ c2.oneCell' = true ∧ c3.oneCell' = true
  size : ∀ k, sizeS (ss.getD k .none) ≤ 100
  lab : ∀ k, (labOf (ss.getD k .none)).length ≤ 1000000

set_option maxHeartbeats 4000000 in
theorem place_any (ss : List Stm) (qs : List Q4) (hQ : QAt ss qs) (base : Int) (hbase : 0 ≤ base ∧ base < 18446744073709551616) (hn : ss.length ≤ 900000) (w : World) (g C : Nat) (hS : SAt w g qs) (hg : g < w.heap.size) :
    Calls Tryz.prog 44 #[.slice (some ⟨g, 0, none⟩) ss.length C, .int .u64 base] w (PlEnd w ss base) := by
  have HQ := Lib.hid hQ
  have HS := Lib.hid hS
  have HMD := Lib.hid (LabMap.made w)
  have hmm : ∀ w, (Instr.makeMap 79 none).run Tryz.prog w = .ok (.map (some w.heap.size)) (w.alloc (.map #[] 0)) := fun w => rfl
  have HAI := Lib.hid (fun k => atK_in ss base hbase k)
  clear hQ hS
  go_enter Tryz.func44, Tryz.ntmps44
  go_wp2

  have HB0 : Hid (Below w.heap.size w (w.alloc (.map #[] 0))) := Lib.hid ((Below.refl _ _).alloc (Nat.le_refl _) _)
  have HSZ0 : Hid (w.heap.size < (w.alloc (.map #[] 0)).heap.size) := Lib.hid (by rw [World.size_alloc]; omega)
  generalize w.alloc (.map #[] 0) = w1 at *
  go_loopw [4, 6, 15] (fun m4 v k wr => ∃ (j n : Nat), j ≤ ss.length ∧ n ≤ j ∧ m4 = .map (some w.heap.size) ∧ k = .int .i64 j ∧ v = .int .u64 (atK ss base j) ∧ (∀ i, i < j → dupAt ss base i = false) ∧ LabMap wr w.heap.size n (labF ss base j) ∧ Below w.heap.size w wr ∧ w.heap.size < wr.heap.size) (fun _ _ k _ => ss.length - (RowKit.intOf k).toNat)
  case atStart => exact ⟨0, 0, Nat.zero_le _, Nat.le_refl _, rfl, rfl, rfl, fun i hi => by omega, HMD.out, HB0.out, HSZ0.out⟩
  case round =>
    obtain ⟨j, n, hj, hnj, rfl, rfl, rfl, hdup, hmap, hbw, hsz⟩ := hrel
    have HDUP := Lib.hid hdup
    have HMAP := Lib.hid hmap
    have HBW := Lib.hid hbw
    have HSZ := Lib.hid hsz
    clear hdup hmap hbw
    by_cases hlt : j < ss.length
    · obtain ⟨A, C2, c2, c3, hq, o2, o3⟩ := HQ.out.at' j hlt
      have hsj := HQ.out.size j
      have hlj := HQ.out.lab j
      have hai := HAI.out j
      have hat : atK ss base (j + 1) = (atK ss base j + 4 * ((sizeS (ss.getD j .none) : Nat) : Int)) % 18446744073709551616 := rfl
      have hjq : j < qs.length := by rw [HQ.out.len]; exact hlt
      rw [List.getElem?_eq_getElem hjq] at hq
      injection hq with hq
      have h4 := HS.out j hjq
      rw [hq] at h4
      obtain ⟨x0, x1, x2, x3⟩ := h4
      have y0 := (HBW.out.cell (p := ⟨g, j * 4, none⟩) hg).trans x0
      have y1 := (HBW.out.cell (p := ⟨g, j * 4 + 1, none⟩) hg).trans x1
      have y2 := (HBW.out.cell (p := ⟨g, j * 4 + 2, none⟩) hg).trans x2
      have y3 := (HBW.out.cell (p := ⟨g, j * 4 + 3, none⟩) hg).trans x3
      clear x0 x1 x2 x3 hq
      generalize hll : labOf (ss.getD j .none) = l at *
      generalize sizeS (ss.getD j .none) = sz at *
      have HAT := Lib.hid hat
      have HLL := Lib.hid hll
      generalize hf : labF ss base j = f at *
      have HF := Lib.hid hf
      generalize hatj : atK ss base j = a at *
      have HATJ := Lib.hid hatj
      clear hat hll hf hatj
      go_wp2_with (first
        | (refine wpList_store_row rfl _ _ _ rfl wr.heap.size _ rfl rfl 129 _ (heap_alloc_new wr _) size_stm rfl (four_one rfl rfl o2 o3) ?_; refine Hid.out ?_))
      have hbww : Below w.heap.size w ((wr.alloc (.cells #[.string ⟨#[]⟩, .slice none 0 0, .string ⟨#[]⟩, .nilFunc] 129)).setRow wr.heap.size #[str l, .slice A sz C2, c2, c3]) := below_setRow (HBW.out.alloc HBW.out.size _) HBW.out.size _
      have hcw : ((wr.alloc (.cells #[.string ⟨#[]⟩, .slice none 0 0, .string ⟨#[]⟩, .nilFunc] 129)).setRow wr.heap.size #[str l, .slice A sz C2, c2, c3]).heap[wr.heap.size]? = some (.cells #[str l, .slice A sz C2, c2, c3] 129 (0, 0)) := setRow_heap _ _ _ _ _ _ (heap_alloc_new wr _)
      have hmw : LabMap ((wr.alloc (.cells #[.string ⟨#[]⟩, .slice none 0 0, .string ⟨#[]⟩, .nilFunc] 129)).setRow wr.heap.size #[str l, .slice A sz C2, c2, c3]) w.heap.size n f := HMAP.out.below (below_setRow ((Below.refl _ _).alloc (Nat.le_refl _) _) (Nat.le_refl _) _)
      have hrz : wr.heap.size < ((wr.alloc (.cells #[.string ⟨#[]⟩, .slice none 0 0, .string ⟨#[]⟩, .nilFunc] 129)).setRow wr.heap.size #[str l, .slice A sz C2, c2, c3]).heap.size := (Array.getElem?_eq_some_iff.1 hcw).1
      clear y0 y1 y2 y3
      generalize (wr.alloc (.cells #[.string ⟨#[]⟩, .slice none 0 0, .string ⟨#[]⟩, .nilFunc] 129)).setRow wr.heap.size #[str l, .slice A sz C2, c2, c3] = ww at *
      have hz0 : ww.cell? ⟨wr.heap.size, 0, none⟩ = some (str l) := by rw [Lib.cell_of_heap hcw]; rfl
      have hz1 : ww.cell? ⟨wr.heap.size, 1, none⟩ = some (.slice A sz C2) := by rw [Lib.cell_of_heap hcw]; rfl
      have HBWW := Lib.hid hbww
      have HMW := Lib.hid hmw
      have hlk := hmw.look l hlj
      have hnx : ∀ (_ : Unit), dupAt ss base j = false → ∀ i, i < j + 1 → dupAt ss base i = false := fun _ hd i hi => by
        by_cases c : i < j
        · exact HDUP.out i c
        · obtain rfl : i = j := by omega
          exact hd
      by_cases hl0 : l = []
      · subst hl0
        clear hlk hcw hbww hmw
        refine Lib.hid ?_
        go_wp2
        case roundEnd => exact ⟨⟨j + 1, n, by omega, by omega, rfl, rfl, congrArg (Value.int .u64) (by rw [HAT.out]; rfl), hnx () (dup_no HF.out HLL.out (.inl rfl)), by rw [labF_no HLL.out, HF.out]; exact HMW.out, HBWW.out, by have := HSZ.out; omega⟩, by simp [RowKit.intOf]; omega⟩
      · have hne : (!l.isEmpty) = true := by cases l with | nil => exact absurd rfl hl0 | cons _ _ => rfl
        cases hfl : f l with
        | some a' =>
          rw [hfl] at hlk
          have HFL := Lib.hid hfl
          clear hcw hbww hmw hfl
          refine Lib.hid ?_
          go_wp2
          go_ret2
          exact Or.inl ⟨j, hlt, HDUP.out, dup_yes HF.out HLL.out hl0 HFL.out, rfl, HBWW.out⟩
        | none =>
          rw [hfl] at hlk
          obtain ⟨w5, hput, hm5, ho5⟩ := hmw.put (by omega) l hlj a ⟨hai.1, hai.2⟩
          have hz1' : w5.cell? ⟨wr.heap.size, 1, none⟩ = some (.slice A sz C2) := by rw [Lib.cell_of_heap (ho5.keeps (by show ¬ wr.heap.size = w.heap.size; have := HSZ.out; omega) hcw)]; rfl
          have HM5 := Lib.hid hm5
          have HB5 : Hid (Below w.heap.size w w5) := Lib.hid (Below.thenOnly HBWW.out ho5 (fun k hk => by rw [hk]; exact Nat.le_refl _) (by have := HSZ.out; omega))
          have HZ5 : Hid (w.heap.size < w5.heap.size) := Lib.hid (by have := ho5.size; have := HSZ.out; omega)
          have HFL := Lib.hid hfl
          have HL0 := Lib.hid hl0
          clear hcw hbww hmw hfl hm5 ho5
          refine Lib.hid ?_
          go_wp2
          case roundEnd => exact ⟨⟨j + 1, n + 1, by omega, by omega, rfl, rfl, congrArg (Value.int .u64) (by rw [HAT.out]; rfl), hnx () (dup_no HF.out HLL.out (.inr HFL.out)), by rw [labF_yes HLL.out HL0.out, HATJ.out, HF.out]; exact HM5.out, HB5.out, HZ5.out⟩, by simp [RowKit.intOf]; omega⟩
    · obtain rfl : j = ss.length := by omega
      go_wp2
      go_ret2
      exact Or.inr ⟨HDUP.out, _, _, rfl, Nat.le_refl _, HMAP.out, HBW.out⟩

end Go.Proofs.YtakdhdaoklcidaaGreatDoor

namespace Go.Proofs.YtakdhdaoklcidaaGreatDoor
open Go.RowKit Go.Lib Go.Maps Go.WideMaps
set_option linter.unusedVariables false
set_option maxRecDepth 100000

theorem pourV (w : World) (B B' : Nat) (v vm : Value) (l m : List Int) (n k : Nat) (hn : l.length = n) (hk : m.length = k) (h : OwnW w B v l) (hm : OwnW w B' vm m) (hl : n + k ≤ 1000000) (hB : B ≤ w.heap.size) (ty : TypeId) :
    ∃ A C w', (Builtin.append_ #[37, 37] ty #[v, vm]).run Tryz.prog w = .ok (.slice A (n + k) C) w' ∧ OwnW w' B (.slice A (n + k) C) (l ++ m) ∧ Only (fun k => v.ownBlock = some k) w w' := by
  obtain ⟨i0, hi, hz0, hz1, hz2⟩ := info_parts info_u32
  rcases hm.2 with ⟨rfl, h0⟩ | ⟨g, cap, cur, rfl, hb, hg, hn1, hn2, hn3, ht⟩
  · have hm0 := List.eq_nil_of_length_eq_zero h0
    subst hm0
    subst hn
    subst hk
    have hr := run_append_owned_none (P := Tryz.prog) (w := w) B 37 ty 43 i0 1 Tryz.underlying37 hi v l.length _ h
    obtain ⟨A, C, rfl⟩ := ownW_slice h
    exact ⟨A, C, w, hr, by simpa using h, Only.refl _ _⟩
  · subst hn
    subst hk
    obtain ⟨v', w', hr, ho, hon, _⟩ := run_pourW w B v l m l.length rfl h (by omega) hB g 0 cap (fun j hj => by
      rw [Nat.zero_add, Lib.cell_of_heap hg]
      have e : (wordCs m)[j]? = some (.int .u32 (m.getD j 0)) := by simp [wordCs, List.getElem?_eq_getElem hj, List.getD_eq_getElem?_getD]
      rw [← ht, List.getElem?_take, if_pos (by omega)] at e
      simpa using e) ty
    obtain ⟨A, C, rfl⟩ := ownW_slice ho
    rw [List.length_append] at hr ho
    exact ⟨A, C, w', hr, by simpa using ho, hon⟩

/-- From w on only jumps' numbers turned, in blocks from B on. -/
structure Turn (B : Nat) (w wr : World) : Prop where
  only : Only (fun k => B ≤ k ∧ ∃ i, HoldsI w k i) w wr
  holds : ∀ k i, HoldsI w k i → HoldsI wr k i
theorem holdsI_lt {w : World} {k : Nat} {i : Ins} (h : HoldsI w k i) : k < w.heap.size := by obtain ⟨m, h⟩ := h; exact (Array.getElem?_eq_some_iff.1 h).1
theorem Turn.refl (B : Nat) (w : World) : Turn B w w := ⟨Only.refl _ _, fun _ _ h => h⟩
theorem Turn.bel {B : Nat} {w wr : World} (h : Turn B w wr) (hB : B ≤ w.heap.size) : Below B w wr := h.only.below (fun k hk => hk.1) hB
theorem Turn.below {B : Nat} {w wr w2 : World} (h : Turn B w wr) (hb : Below w.heap.size wr w2) : Turn B w w2 := by
  refine ⟨h.only.step (T := fun k => w.heap.size ≤ k) ⟨hb.os, hb.tape, hb.output, hb.size, fun k hk hs => hb.block k (by omega)⟩ (fun k hk => .inr hk), fun k i hi => ?_⟩
  obtain ⟨m, hm⟩ := h.holds k i hi
  exact ⟨m, (hb.block k (holdsI_lt hi)).trans hm⟩
theorem Turn.set {B : Nat} {w wr : World} (h : Turn B w wr) (p : Addr) (hp : w.heap.size ≤ p.block) (u : Value) : Turn B w (wr.setCell p u) :=
  h.below (((Only.refl (fun k => k = p.block) wr).setCell (.inl rfl) u).below (fun k hk => by rw [hk]; exact hp) h.only.size)
theorem insC_inj {i j : Ins} (h : insC i = insC j) : i = j := by
  obtain ⟨a, b, c, d, e, f, g, k⟩ := i
  obtain ⟨a', b', c', d', e', f', g', k'⟩ := j
  simp only [insC, List.cons.injEq, Value.int.injEq, Value.bool.injEq, true_and, and_true] at h
  obtain ⟨rfl, rfl, rfl, rfl, rfl, rfl, rfl, rfl⟩ := h
  rfl
theorem holdsI_same {w w2 : World} {b : Nat} {i j : Ins} (h : HoldsI w b i) (h2 : HoldsI w2 b i) (k : HoldsI w b j) : HoldsI w2 b j := by
  obtain ⟨m, hm⟩ := h
  obtain ⟨n, hn⟩ := k
  obtain ⟨p, hp⟩ := h2
  rw [hm] at hn
  injection hn with hn
  injection hn with hn _ _
  have e := insC_inj (congrArg Array.toList hn)
  refine ⟨p, ?_⟩
  have e2 : withImm i p = withImm j p := by
    have := congrArg (fun x => withImm x p) e
    exact this
  rw [hp, e2]
theorem Turn.jump {B : Nat} {w wr w2 : World} {b : Nat} {i : Ins} (h : Turn B w wr) (hb : B ≤ b) (hi : HoldsI w b i) (h2 : HoldsI w2 b i) (o : Only (fun k => k = b) wr w2) : Turn B w w2 := by
  refine ⟨h.only.step o (fun k hk => .inl ⟨by rw [hk]; exact hb, i, by rw [hk]; exact hi⟩), fun k j hj => ?_⟩
  by_cases c : k = b
  · subst c; exact holdsI_same hi h2 hj
  · obtain ⟨m, hm⟩ := h.holds k j hj
    exact ⟨m, o.keeps c hm⟩
theorem Turn.cells {B0 : Nat} {w wr : World} (h : Turn B0 w wr) {g : Nat} {cs : Array Value} {t : TypeId} {fr : Nat × Nat} (hg : w.heap[g]? = some (.cells cs t fr)) (ht : t ≠ 23) : wr.heap[g]? = some (.cells cs t fr) :=
  h.only.keeps (fun ⟨_, i, m, hm⟩ => by rw [hg] at hm; injection hm with hm; injection hm with _ e _; exact ht e) hg
theorem Turn.map {B0 : Nat} {w wr : World} (h : Turn B0 w wr) {mb n : Nat} {f : Bs → Option Int} (hm : LabMap w mb n f) : LabMap wr mb n f :=
  hm.keeps h.only (fun ⟨_, i, m, hi⟩ => by obtain ⟨D, ⟨es, clock, hb, _⟩, _⟩ := hm; rw [hb] at hi; injection hi with hi; cases hi)
theorem Turn.words {B0 : Nat} {w wr : World} (h : Turn B0 w wr) {B : Nat} {v : Value} {ws : List Int} (hw : OwnW w B v ws) : OwnW wr B v ws :=
  ownW_keep hw h.only (fun g hg ⟨_, i, m, hm⟩ => by
    rcases hw.2 with ⟨rfl, _⟩ | ⟨g', cap, cur, rfl, hb, hc, _⟩
    · simp [Value.ownBlock] at hg
    · simp [Value.ownBlock] at hg
      subst hg
      rw [hc] at hm
      injection hm with hm
      injection hm with _ e _
      exact absurd e (by decide))
theorem Turn.stm {B0 : Nat} {w wr : World} (h : Turn B0 w wr) {B : Nat} {s : Stm} {c0 c1 c2 c3 : Value} (hs : StmV w B s c0 c1 c2 c3) : StmV wr B s c0 c1 c2 c3 := by
  cases s with
  | none => exact hs
  | label l => exact hs
  | words ws => exact ⟨hs.1, h.words hs.2.1, hs.2.2⟩
  | la rd l => obtain ⟨h0, ⟨ws, hl, h1⟩, h2, b, h3, h4, h5⟩ := hs; exact ⟨h0, ⟨ws, hl, h.words h1⟩, h2, b, h3, h4, h.cells h5 (by decide)⟩
  | jump i l => obtain ⟨h0, ⟨ws, hl, h1⟩, h2, b, h3, h4, h5⟩ := hs; exact ⟨h0, ⟨ws, hl, h.words h1⟩, h2, b, h3, h4, h.holds _ _ h5⟩

/-- How far a label is. -/
def farZ (a at' : Int) : Int := wrap64 (IntKind.u64.wrap (a - at'))
def jumpW (i : Ins) (far : Int) : Option (List Int) := if rightB (withImm i far) then some [encW (withImm i far)] else none
/-- What comes of a label that a line names. -/
def aimS (o : Option Int) (g : Int → Option (List Int)) (at' : Int) : Int × List Int :=
  match o with
  | none => (101, [])
  | some a => match g (farZ a at') with
    | none => (102, [])
    | some ws => (0, ws)
theorem aimS_none (g : Int → Option (List Int)) (at' : Int) : aimS none g at' = (101, []) := rfl
theorem aimS_far {g : Int → Option (List Int)} {at' a : Int} (h : g (farZ a at') = none) : aimS (some a) g at' = (102, []) := by unfold aimS; simp only [h]
theorem aimS_ok {g : Int → Option (List Int)} {at' a : Int} {ws : List Int} (h : g (farZ a at') = some ws) : aimS (some a) g at' = (0, ws) := by unfold aimS; simp only [h]
theorem aimS_len {o : Option Int} {g : Int → Option (List Int)} {at' : Int} {n : Nat} (hg : ∀ x ws, g x = some ws → ws.length = n) (h : (aimS o g at').1 = 0) : (aimS o g at').2.length = n := by
  cases o with
  | none => rw [aimS_none] at h; exact absurd h (by decide)
  | some a =>
    cases hw : g (farZ a at') with
    | none => rw [aimS_far hw] at h; exact absurd h (by decide)
    | some ws => rw [aimS_ok hw]; exact hg _ _ hw
theorem laW_len (rd x : Int) (ws : List Int) (h : laW rd x = some ws) : ws.length = 2 := by
  unfold laW at h
  split at h
  · cases h
  · split at h
    · injection h with h; subst h; simp [laL]
    · cases h
theorem jumpW_len (i : Ins) (x : Int) (ws : List Int) (h : jumpW i x = some ws) : ws.length = 1 := by
  unfold jumpW at h
  split at h
  · injection h with h; subst h; rfl
  · cases h
/-- A line's fault, or its words. -/
def linkS (f : Bs → Option Int) (at' : Int) : Stm → Int × List Int
  | .none => (0, [])
  | .label _ => (0, [])
  | .words ws => (0, ws)
  | .la rd l => aimS (f l) (laW rd) at'
  | .jump i l => aimS (f l) (jumpW i) at'
def lkAt (ss : List Stm) (f : Bs → Option Int) (base : Int) (k : Nat) : Int × List Int := linkS f (atK ss base k) (ss.getD k .none)
/-- The words of the first k lines. -/
def outW (ss : List Stm) (f : Bs → Option Int) (base : Int) : Nat → List Int
  | 0 => []
  | k + 1 => outW ss f base k ++ (lkAt ss f base k).2
def LkEnd (B : Nat) (w : World) (ss : List Stm) (f : Bs → Option Int) (base : Int) (e : Ending) (w' : World) : Prop :=
  (∃ k, k < ss.length ∧ (∀ i, i < k → (lkAt ss f base i).1 = 0) ∧ (lkAt ss f base k).1 ≠ 0 ∧ e = .returned (.tuple #[.slice none 0 0, .int .i64 ((k : Int) + 1), .int .i64 (lkAt ss f base k).1]) ∧ Turn B w w') ∨
  ((∀ i, i < ss.length → (lkAt ss f base i).1 = 0) ∧ ∃ v, e = .returned (.tuple #[v, .int .i64 0, .int .i64 0]) ∧ OwnW w' w.heap.size v (outW ss f base ss.length) ∧ Turn B w w')
theorem link_len {f : Bs → Option Int} {a : Int} {s : Stm} (h : (linkS f a s).1 = 0) : (linkS f a s).2.length = sizeS s := by
  cases s with
  | none => rfl
  | label l => rfl
  | words ws => rfl
  | la rd l => exact aimS_len (laW_len rd) h
  | jump i l => exact aimS_len (jumpW_len i) h

theorem out_len {ss : List Stm} {f : Bs → Option Int} {base : Int} (hs : ∀ k, sizeS (ss.getD k .none) ≤ 100) : ∀ k, (∀ i, i < k → (lkAt ss f base i).1 = 0) → (outW ss f base k).length ≤ 100 * k
  | 0, _ => Nat.le_refl _
  | k + 1, h => by
    have h1 := out_len hs k (fun i hi => h i (by omega))
    have h2 : (lkAt ss f base k).2.length = _ := link_len (h k (by omega))
    have h3 := hs k
    show (outW ss f base k ++ (lkAt ss f base k).2).length ≤ _
    rw [List.length_append, h2]
    omega
/-- Lines that name no label, and those that do. -/
theorem stmV_kinds {w : World} {B : Nat} {s : Stm} {c0 c1 c2 c3 : Value} (h : StmV w B s c0 c1 c2 c3) : (c3 = .nilFunc ∧ ∃ ws, OwnW w B c1 ws ∧ (∀ f a, linkS f a s = (0, ws))) ∨ (∃ rd l, s = .la rd l) ∨ (∃ i l, s = .jump i l) := by
  cases s with
  | none => obtain ⟨rfl, rfl, rfl, rfl⟩ := h; exact .inl ⟨rfl, [], ownW_nil _ _, fun _ _ => rfl⟩
  | label l => obtain ⟨rfl, rfl, rfl, rfl⟩ := h; exact .inl ⟨rfl, [], ownW_nil _ _, fun _ _ => rfl⟩
  | words ws => obtain ⟨rfl, h1, rfl, rfl⟩ := h; exact .inl ⟨rfl, ws, h1, fun _ _ => rfl⟩
  | la rd l => exact .inr (.inl ⟨rd, l, rfl⟩)
  | jump i l => exact .inr (.inr ⟨i, l, rfl⟩)
/-- The label that a line names. -/
def namOf : Stm → Bs
  | .la _ l => l
  | .jump _ l => l
  | _ => []
theorem la_any (rd far : Int) (b : Nat) (w : World) (he : Env w) (hc : w.cell? ⟨b, 0, none⟩ = some (.int .i64 rd)) : Calls Tryz.prog 157 #[.int .i64 far, .pointer (some ⟨b, 0, none⟩)] w (AimEnd w (laW rd far)) := by
  by_cases h : far < -2147483648 ∨ 2147481599 < far
  · have := la_out rd far b h w
    rw [show laW rd far = none by unfold laW; rw [if_pos h]]; exact this
  · exact la_in rd far b (by omega) (by omega) w he hc

end Go.Proofs.YtakdhdaoklcidaaGreatDoor

namespace Go.Proofs.YtakdhdaoklcidaaGreatDoor
open Go.RowKit Go.Lib Go.Maps Go.WideMaps
set_option linter.unusedVariables false
set_option maxRecDepth 100000

theorem lk_push {ss : List Stm} {f : Bs → Option Int} {base : Int} {j : Nat} (h : ∀ i, i < j → (lkAt ss f base i).1 = 0) (hj : (lkAt ss f base j).1 = 0) : ∀ i, i < j + 1 → (lkAt ss f base i).1 = 0 := fun i hi => by
  by_cases c : i < j
  · exact h i c
  · obtain rfl : i = j := by omega
    exact hj
theorem out_push {ss : List Stm} {f : Bs → Option Int} {base : Int} {j : Nat} {ws : List Int} (h : lkAt ss f base j = (0, ws)) : outW ss f base (j + 1) = outW ss f base j ++ ws := by
  show outW ss f base j ++ (lkAt ss f base j).2 = _
  rw [h]
theorem at_push {ss : List Stm} {f : Bs → Option Int} {base : Int} {j k : Nat} {ws : List Int} (h : lkAt ss f base j = (0, ws)) (hk : ws.length = k) : atK ss base (j + 1) = (atK ss base j + 4 * (k : Int)) % 18446744073709551616 := by
  have h1 : (lkAt ss f base j).2.length = sizeS (ss.getD j .none) := link_len (by show (lkAt ss f base j).1 = 0; rw [h])
  rw [h] at h1
  show (atK ss base j + 4 * ((sizeS (ss.getD j .none) : Nat) : Int)) % 18446744073709551616 = _
  rw [← h1, hk]

theorem neq_nilF (w : World) : (binOp .neq 127 .nilFunc .nilFunc).run Tryz.prog w = .ok (.bool false) w := by
  first | rfl | kernel_rfl | simp [binOp]
theorem neq_fun (c : Fn) (a b : Array Value) (w : World) : (binOp .neq 127 (.func c a b) .nilFunc).run Tryz.prog w = .ok (.bool true) w := by
  first | rfl | kernel_rfl | simp [binOp]

set_option maxHeartbeats 4000000 in
theorem link_any (ss : List Stm) (qs : List Q4) (f : Bs → Option Int) (base : Int) (hn : ss.length ≤ 9000) (w : World) (B : Nat) (hB : B ≤ w.heap.size) (hsz : ∀ k, sizeS (ss.getD k .none) ≤ 100) (hnm : ∀ k, (namOf (ss.getD k .none)).length ≤ 1000000)
    (hlen : qs.length = ss.length) (g C mb n : Nat) (cs : Array Value) (fr : Nat × Nat) (hg : w.heap[g]? = some (.cells cs 129 fr)) (hS : SAt w g qs) (hst : ∀ k, k < ss.length → ∃ c0 c1 c2 c3, qs[k]? = some (c0, c1, c2, c3) ∧ StmV w B (ss.getD k .none) c0 c1 c2 c3) (hmap : LabMap w mb n f) (hE : ∀ w', Below B w w' → Env w') :
    Calls Tryz.prog 45 #[.slice (some ⟨g, 0, none⟩) ss.length C, .map (some mb), .int .u64 base] w (LkEnd B w ss f base) := by
  have HS := Lib.hid hS
  have HST := Lib.hid hst
  have HMP := Lib.hid hmap
  have HE := Lib.hid hE
  have HSI := Lib.hid hsz
  have HNM := Lib.hid hnm
  have HG := Lib.hid hg
  have hgl := (Array.getElem?_eq_some_iff.1 hg).1
  clear hS hst hmap hE hsz hnm hg
  go_enter Tryz.func45, Tryz.ntmps45
  go_wp2
  go_loopw [6, 9, 17] (fun v a k wr => ∃ (j : Nat), j ≤ ss.length ∧ k = .int .i64 j ∧ a = .int .u64 (atK ss base j) ∧ (∀ i, i < j → (lkAt ss f base i).1 = 0) ∧ OwnW wr w.heap.size v (outW ss f base j) ∧ Turn B w wr) (fun _ _ k _ => ss.length - (RowKit.intOf k).toNat)
  case atStart => exact ⟨0, Nat.zero_le _, rfl, rfl, fun i hi => by omega, ownW_nil _ _, Turn.refl _ _⟩
  case round =>
    obtain ⟨j, hj, rfl, rfl, hpre, how, htn⟩ := hrel
    have hol := out_len HSI.out j hpre
    obtain ⟨A, C2, rfl⟩ := ownW_slice how
    have HPRE := Lib.hid hpre
    clear hpre
    by_cases hlt : j < ss.length
    · obtain ⟨c0, c1, c2, c3, hq, hst0⟩ := HST.out j hlt
      obtain ⟨o0, o1, o2, o3⟩ := stmV_four hst0
      have hjq : j < qs.length := by rw [hlen]; exact hlt
      rw [List.getElem?_eq_getElem hjq] at hq
      injection hq with hq
      have h4 := HS.out j hjq
      rw [hq] at h4
      obtain ⟨x0, x1, x2, x3⟩ := h4
      have hgr := htn.cells HG.out (by decide)
      have cl : ∀ k v, w.cell? ⟨g, k, none⟩ = some v → wr.cell? ⟨g, k, none⟩ = some v := fun k v h => by
        rw [Lib.cell_of_heap HG.out] at h
        rw [Lib.cell_of_heap hgr]; exact h
      have y0 := cl _ _ x0
      have y1 := cl _ _ x1
      have y2 := cl _ _ x2
      have y3 := cl _ _ x3
      clear x0 x1 x2 x3 hq cl hgr
      have HAP := Lib.hid (fun ws k => at_push (ss := ss) (f := f) (base := base) (j := j) (k := k) (ws := ws))
      have HOP := Lib.hid (fun ws => out_push (ss := ss) (f := f) (base := base) (j := j) (ws := ws))
      have HLK : Hid (lkAt ss f base j = linkS f (atK ss base j) (ss.getD j .none)) := Lib.hid rfl
      have hnmj := HNM.out j
      have hszj := HSI.out j
      generalize outW ss f base j = out at *
      generalize hno : out.length = no at *
      generalize hsj : ss.getD j .none = s at *
      have HNO := Lib.hid hno
      have HTN := Lib.hid htn
      have HST0 := Lib.hid hst0
      have HOW := Lib.hid how
      clear hno hsj htn hst0 how
      generalize atK ss base j = a at *
      go_wp2_with (first
        | (refine wpList_store_row rfl _ _ _ rfl wr.heap.size _ rfl rfl 129 _ (heap_alloc_new wr _) size_stm rfl (four_one o0 o1 o2 o3) ?_; refine Hid.out ?_))
      have hwz : w.heap.size ≤ wr.heap.size := HTN.out.only.size
      have hbl : Below wr.heap.size wr ((wr.alloc (.cells #[.string ⟨#[]⟩, .slice none 0 0, .string ⟨#[]⟩, .nilFunc] 129)).setRow wr.heap.size #[c0, c1, c2, c3]) := below_setRow ((Below.refl _ _).alloc (Nat.le_refl _) _) (Nat.le_refl _) _
      have hcw : ((wr.alloc (.cells #[.string ⟨#[]⟩, .slice none 0 0, .string ⟨#[]⟩, .nilFunc] 129)).setRow wr.heap.size #[c0, c1, c2, c3]).heap[wr.heap.size]? = some (.cells #[c0, c1, c2, c3] 129 (0, 0)) := setRow_heap _ _ _ _ _ _ (heap_alloc_new wr _)
      have hrz : wr.heap.size < ((wr.alloc (.cells #[.string ⟨#[]⟩, .slice none 0 0, .string ⟨#[]⟩, .nilFunc] 129)).setRow wr.heap.size #[c0, c1, c2, c3]).heap.size := (Array.getElem?_eq_some_iff.1 hcw).1
      clear y0 y1 y2 y3
      generalize (wr.alloc (.cells #[.string ⟨#[]⟩, .slice none 0 0, .string ⟨#[]⟩, .nilFunc] 129)).setRow wr.heap.size #[c0, c1, c2, c3] = ww at *
      have how2 := ownW_below HOW.out hbl
      have htw : Turn B w ww := HTN.out.below (hbl.mono hwz)
      have z0 : ww.cell? ⟨wr.heap.size, 0, none⟩ = some c0 := by rw [Lib.cell_of_heap hcw]; rfl
      have z1 : ww.cell? ⟨wr.heap.size, 1, none⟩ = some c1 := by rw [Lib.cell_of_heap hcw]; rfl
      have z2 : ww.cell? ⟨wr.heap.size, 2, none⟩ = some c2 := by rw [Lib.cell_of_heap hcw]; rfl
      have z3 : ww.cell? ⟨wr.heap.size, 3, none⟩ = some c3 := by rw [Lib.cell_of_heap hcw]; rfl
      have hst2 := htw.stm HST0.out
      have hob : (Value.slice A no C2).ownBlock ≠ some wr.heap.size := fun e => by have := (ownW_lt HOW.out _ e).2; omega
      have HOB := Lib.hid hob
      have HTW := Lib.hid htw
      have HCW := Lib.hid hcw
      have HOW2 := Lib.hid how2
      clear HOW HTN hbl hcw htw how2 hob
      rcases stmV_kinds hst2 with ⟨rfl, ws, hw, hlk⟩ | ⟨rd, l, rfl⟩ | ⟨i, l, rfl⟩
      · have hkl : lkAt ss f base j = (0, ws) := HLK.out.trans (hlk _ _)
        obtain ⟨A1, C1, rfl⟩ := ownW_slice hw
        generalize hk1 : ws.length = k1 at *
        have hk1b : k1 ≤ 100 := by
          have h1 := link_len (f := f) (a := a) (s := s) (by rw [hlk])
          rw [hlk] at h1
          have h2 : ws.length = sizeS s := h1
          omega
        obtain ⟨A4, C4, w4, hr4, ho4, hon4⟩ := pourV ww w.heap.size B _ _ out ws no k1 HNO.out hk1 HOW2.out hw (by omega) (by omega) 37
        have z1' : w4.cell? ⟨wr.heap.size, 1, none⟩ = some (.slice A1 k1 C1) := by rw [Lib.cell_of_heap (hon4.keeps HOB.out HCW.out)]; rfl
        have HO4 := Lib.hid ho4
        have hnf := neq_nilF ww
        have HB4 : Hid (Turn B w w4) := Lib.hid (HTW.out.below (hon4.below (fun k hk => (ownW_lt HOW2.out k hk).1) (by omega)))
        have HKL := Lib.hid hkl
        clear hkl hlk hw hst2 ho4 hon4
        refine Lib.hid ?_
        go_wp2_with (at_builtin; refine wpList_append_run rfl _ _ _ rfl (.slice A no C2) (.slice A1 k1 C1) (.slice A4 (no + k1) C4) w4 rfl rfl hr4 ?_)
        case roundEnd => exact ⟨⟨j + 1, by omega, rfl, congrArg (Value.int .u64) (by rw [HAP.out _ _ HKL.out hk1]; rfl), lk_push HPRE.out (by rw [HKL.out]), by rw [HOP.out _ HKL.out]; exact HO4.out, HB4.out⟩, by simp [RowKit.intOf]; omega⟩
      · obtain ⟨rfl, ⟨ws0, hl0, hw0⟩, rfl, b, rfl, hBb, hcb⟩ := hst2
        obtain ⟨A1, C1, rfl⟩ := ownW_slice hw0
        have hlk := (HTW.out.map HMP.out).look l hnmj
        have hnf := neq_fun (.func 157) #[] #[.pointer (some ⟨b, 0, none⟩)] ww
        have HCB := Lib.hid hcb
        have HBB := Lib.hid hBb
        clear hw0 hl0 hBb hcb
        cases hfl : f l with
        | none =>
          rw [hfl] at hlk
          have HKL : Hid (lkAt ss f base j = (101, [])) := Lib.hid (by rw [HLK.out]; show aimS (f l) _ _ = _; rw [hfl]; rfl)
          clear hfl
          refine Lib.hid ?_
          go_wp2
          go_ret3
          exact Or.inl ⟨j, hlt, HPRE.out, by rw [HKL.out]; decide, by rw [HKL.out]; rfl, HTW.out⟩
        | some a' =>
          rw [hfl] at hlk
          have HKL0 : Hid (lkAt ss f base j = aimS (some a') (laW rd) a) := Lib.hid (by rw [HLK.out]; show aimS (f l) _ _ = _; rw [hfl])
          clear hfl
          have hc0 : ww.cell? ⟨b, 0, none⟩ = some (.int .i64 rd) := by rw [Lib.cell_of_heap HCB.out]; rfl
          have hli : Calls Tryz.prog 157 #[.int .i64 (wrap64 (IntKind.u64.wrap (a' - a))), .pointer (some ⟨b, 0, none⟩)] ww (AimEnd ww (laW rd (wrap64 (IntKind.u64.wrap (a' - a))))) := la_any rd _ b ww (HE.out _ (HTW.out.bel hB)) hc0
          have HLI := Lib.hid hli
          clear hli hc0
          refine Lib.hid ?_
          go_wp2_with (fail)
          (with_reducible refine HLI.out.mono ?_)
          rintro e w3 h3
          have hZ := z3
          clear z0 z1 z2 z3 hlk hnf hZ
          cases hw : laW rd (wrap64 (IntKind.u64.wrap (a' - a))) with
          | none =>
            rw [hw] at h3
            obtain ⟨rfl, hb3⟩ := h3
            have HKL : Hid (lkAt ss f base j = (102, [])) := Lib.hid (HKL0.out.trans (aimS_far hw))
            have HT3 : Hid (Turn B w w3) := Lib.hid (HTW.out.below (hb3.mono (by omega)))
            have HC3 := Lib.hid ((hb3.block _ hrz).trans HCW.out)
            clear hw hb3
            have f1 : w3.frozen? ⟨wr.heap.size, 1, none⟩ = false := Lib.frozen_of_heap HC3.out 1
            have z1 : w3.cell? ⟨wr.heap.size, 1, none⟩ = some (.slice A1 ws0.length C1) := by rw [Lib.cell_of_heap HC3.out]; rfl
            have z3 : w3.cell? ⟨wr.heap.size, 3, none⟩ = some (.func (.func 157) #[] #[.pointer (some ⟨b, 0, none⟩)]) := by rw [Lib.cell_of_heap HC3.out]; rfl
            go_wp2
            go_ret3
            exact Or.inl ⟨j, hlt, HPRE.out, by rw [HKL.out]; decide, by rw [HKL.out]; rfl, HT3.out.set _ hwz _⟩
          | some ws =>
            rw [hw] at h3
            obtain ⟨v2, rfl, ho2, hb3⟩ := h3
            have HKL : Hid (lkAt ss f base j = (0, ws)) := Lib.hid (HKL0.out.trans (aimS_ok hw))
            have hk2 := laW_len _ _ _ hw
            have HT3 : Hid (Turn B w w3) := Lib.hid (HTW.out.below (hb3.mono (by omega)))
            have HC3 := Lib.hid ((hb3.block _ hrz).trans HCW.out)
            have how3 := ownW_below HOW2.out hb3
            have hz3 := hb3.size
            clear hw hb3
            obtain ⟨A2, C3, rfl⟩ := ownW_slice ho2
            generalize hwl : ws.length = k2 at *
            have hk2b : k2 ≤ 100 := by omega
            clear hk2
            have f1 : w3.frozen? ⟨wr.heap.size, 1, none⟩ = false := Lib.frozen_of_heap HC3.out 1
            have z1 : w3.cell? ⟨wr.heap.size, 1, none⟩ = some (.slice A1 ws0.length C1) := by rw [Lib.cell_of_heap HC3.out]; rfl
            have hset : Only (fun k => k = wr.heap.size) w3 (w3.setCell ⟨wr.heap.size, 1, none⟩ (.slice A2 k2 C3)) := (Only.refl (fun k => k = wr.heap.size) w3).setCell (p := ⟨wr.heap.size, 1, none⟩) (.inl rfl) _
            have h4 := hset.size
            obtain ⟨A4, C4, w5, hr5, ho5, hon5⟩ := pourV (w3.setCell ⟨wr.heap.size, 1, none⟩ (.slice A2 k2 C3)) w.heap.size ww.heap.size (.slice A no C2) (.slice A2 k2 C3) out ws no k2 HNO.out hwl (ownW_keep how3 hset (fun k hk h => HOB.out (by rw [hk, h]))) (ownW_keep ho2 hset (fun k hk h => by have := (ownW_lt ho2 k hk).1; omega)) (by omega) (by have := HT3.out.only.size; omega) 37
            have hrow4 := setCell_row HC3.out 1 (.slice A2 k2 C3)
            have z1b : (w3.setCell ⟨wr.heap.size, 1, none⟩ (.slice A2 k2 C3)).cell? ⟨wr.heap.size, 1, none⟩ = some (.slice A2 k2 C3) := by rw [Lib.cell_of_heap hrow4]; rfl
            have z1' : w5.cell? ⟨wr.heap.size, 1, none⟩ = some (.slice A2 k2 C3) := by rw [Lib.cell_of_heap (hon5.keeps HOB.out hrow4)]; rfl
            have HO5 := Lib.hid ho5
            have HB5 : Hid (Turn B w w5) := Lib.hid ((HT3.out.set ⟨wr.heap.size, 1, none⟩ hwz (.slice A2 k2 C3)).below (hon5.below (fun k hk => by have := (ownW_lt how3 k hk).1; omega) (by have := HT3.out.only.size; omega)))
            have HWL := Lib.hid hwl
            clear ho2 how3 hset hrow4 ho5 hon5 hwl
            go_wp2_with (at_builtin; refine wpList_append_run rfl _ _ _ rfl (.slice A no C2) (.slice A2 k2 C3) (.slice A4 (no + k2) C4) w5 rfl rfl hr5 ?_)
            case roundEnd => exact ⟨⟨j + 1, by omega, rfl, congrArg (Value.int .u64) (by rw [HAP.out _ _ HKL.out HWL.out]; rfl), lk_push HPRE.out (by rw [HKL.out]), by rw [HOP.out _ HKL.out]; exact HO5.out, HB5.out⟩, by simp [RowKit.intOf]; omega⟩
      · obtain ⟨rfl, ⟨ws0, hl0, hw0⟩, rfl, b, rfl, hBb, hcb⟩ := hst2
        obtain ⟨A1, C1, rfl⟩ := ownW_slice hw0
        have hlk := (HTW.out.map HMP.out).look l hnmj
        have hnf := neq_fun (.func 159) #[] #[.pointer (some ⟨b, 0, none⟩)] ww
        have HCB := Lib.hid hcb
        have HBB := Lib.hid hBb
        clear hw0 hl0 hBb hcb
        cases hfl : f l with
        | none =>
          rw [hfl] at hlk
          have HKL : Hid (lkAt ss f base j = (101, [])) := Lib.hid (by rw [HLK.out]; show aimS (f l) _ _ = _; rw [hfl]; rfl)
          clear hfl
          refine Lib.hid ?_
          go_wp2
          go_ret3
          exact Or.inl ⟨j, hlt, HPRE.out, by rw [HKL.out]; decide, by rw [HKL.out]; rfl, HTW.out⟩
        | some a' =>
          rw [hfl] at hlk
          have HKL0 : Hid (lkAt ss f base j = aimS (some a') (jumpW i) a) := Lib.hid (by rw [HLK.out]; show aimS (f l) _ _ = _; rw [hfl])
          clear hfl
          have hI0 : HoldsI w b i := by
            obtain ⟨_, _, _, b', he', _, hI'⟩ := HST0.out
            injection he' with _ _ he'
            have he2 : b = b' := by simpa using he'
            rw [he2]; exact hI'
          have hbw := holdsI_lt hI0
          have HI0 := Lib.hid hI0
          have hli : Calls Tryz.prog 159 #[.int .i64 (wrap64 (IntKind.u64.wrap (a' - a))), .pointer (some ⟨b, 0, none⟩)] ww (JumpEnd ww b i (wrap64 (IntKind.u64.wrap (a' - a)))) := jump_any i _ b ww (fun w' o => HE.out _ ((HTW.out.bel hB).trans (o.below (fun k hk => by rw [hk]; exact HBB.out) (Nat.le_trans hB HTW.out.only.size)))) HCB.out
          have HLI := Lib.hid hli
          clear hli hI0
          refine Lib.hid ?_
          go_wp2_with (fail)
          (with_reducible refine HLI.out.mono ?_)
          rintro e w3 ⟨hy, hno, hI3, ho3⟩
          clear z0 z1 z2 z3 hlk hnf
          have HT3 : Hid (Turn B w w3) := Lib.hid (HTW.out.jump HBB.out HI0.out hI3 ho3)
          have HC3 := Lib.hid (ho3.keeps (g := wr.heap.size) (by show ¬ wr.heap.size = b; omega) HCW.out)
          cases hw : rightB (withImm i (wrap64 (IntKind.u64.wrap (a' - a)))) with
          | false =>
            obtain rfl := hno hw
            have HKL : Hid (lkAt ss f base j = (102, [])) := Lib.hid (HKL0.out.trans (aimS_far (by show jumpW i (wrap64 (IntKind.u64.wrap (a' - a))) = none; unfold jumpW; rw [hw]; rfl)))
            clear hw hy hno hI3 ho3
            have f1 : w3.frozen? ⟨wr.heap.size, 1, none⟩ = false := Lib.frozen_of_heap HC3.out 1
            have z1 : w3.cell? ⟨wr.heap.size, 1, none⟩ = some (.slice A1 ws0.length C1) := by rw [Lib.cell_of_heap HC3.out]; rfl
            have z3 : w3.cell? ⟨wr.heap.size, 3, none⟩ = some (.func (.func 159) #[] #[.pointer (some ⟨b, 0, none⟩)]) := by rw [Lib.cell_of_heap HC3.out]; rfl
            go_wp2
            go_ret3
            exact Or.inl ⟨j, hlt, HPRE.out, by rw [HKL.out]; decide, by rw [HKL.out]; rfl, HT3.out.set _ hwz _⟩
          | true =>
            obtain ⟨v2, rfl, ho2⟩ := hy hw
            have HKL1 : Hid (lkAt ss f base j = (0, [encW (withImm i (wrap64 (IntKind.u64.wrap (a' - a))))])) := Lib.hid (HKL0.out.trans (aimS_ok (by show jumpW i (wrap64 (IntKind.u64.wrap (a' - a))) = some _; unfold jumpW; rw [hw]; rfl)))
            have hk2 : [encW (withImm i (wrap64 (IntKind.u64.wrap (a' - a))))].length = 1 := rfl
            have how3 := ownW_keep HOW2.out ho3 (fun g hg hk => by have := (ownW_lt HOW2.out g hg).1; omega)
            have hz3 := ho3.size
            clear hw hy hno hI3 ho3
            generalize [encW (withImm i (wrap64 (IntKind.u64.wrap (a' - a))))] = ws at *
            have HKL := Lib.hid HKL1.out
            obtain ⟨A2, C3, rfl⟩ := ownW_slice ho2
            generalize hwl : ws.length = k2 at *
            have hk2b : k2 ≤ 100 := by omega
            clear hk2
            have f1 : w3.frozen? ⟨wr.heap.size, 1, none⟩ = false := Lib.frozen_of_heap HC3.out 1
            have z1 : w3.cell? ⟨wr.heap.size, 1, none⟩ = some (.slice A1 ws0.length C1) := by rw [Lib.cell_of_heap HC3.out]; rfl
            have hset : Only (fun k => k = wr.heap.size) w3 (w3.setCell ⟨wr.heap.size, 1, none⟩ (.slice A2 k2 C3)) := (Only.refl (fun k => k = wr.heap.size) w3).setCell (p := ⟨wr.heap.size, 1, none⟩) (.inl rfl) _
            have h4 := hset.size
            obtain ⟨A4, C4, w5, hr5, ho5, hon5⟩ := pourV (w3.setCell ⟨wr.heap.size, 1, none⟩ (.slice A2 k2 C3)) w.heap.size ww.heap.size (.slice A no C2) (.slice A2 k2 C3) out ws no k2 HNO.out hwl (ownW_keep how3 hset (fun k hk h => HOB.out (by rw [hk, h]))) (ownW_keep ho2 hset (fun k hk h => by have := (ownW_lt ho2 k hk).1; omega)) (by omega) (by have := HT3.out.only.size; omega) 37
            have hrow4 := setCell_row HC3.out 1 (.slice A2 k2 C3)
            have z1b : (w3.setCell ⟨wr.heap.size, 1, none⟩ (.slice A2 k2 C3)).cell? ⟨wr.heap.size, 1, none⟩ = some (.slice A2 k2 C3) := by rw [Lib.cell_of_heap hrow4]; rfl
            have z1' : w5.cell? ⟨wr.heap.size, 1, none⟩ = some (.slice A2 k2 C3) := by rw [Lib.cell_of_heap (hon5.keeps HOB.out hrow4)]; rfl
            have HO5 := Lib.hid ho5
            have HB5 : Hid (Turn B w w5) := Lib.hid ((HT3.out.set ⟨wr.heap.size, 1, none⟩ hwz (.slice A2 k2 C3)).below (hon5.below (fun k hk => by have := (ownW_lt how3 k hk).1; omega) (by have := HT3.out.only.size; omega)))
            have HWL := Lib.hid hwl
            clear ho2 how3 hset hrow4 ho5 hon5 hwl
            go_wp2_with (at_builtin; refine wpList_append_run rfl _ _ _ rfl (.slice A no C2) (.slice A2 k2 C3) (.slice A4 (no + k2) C4) w5 rfl rfl hr5 ?_)
            case roundEnd => exact ⟨⟨j + 1, by omega, rfl, congrArg (Value.int .u64) (by rw [HAP.out _ _ HKL.out HWL.out]; rfl), lk_push HPRE.out (by rw [HKL.out]), by rw [HOP.out _ HKL.out]; exact HO5.out, HB5.out⟩, by simp [RowKit.intOf]; omega⟩
    · obtain rfl : j = ss.length := by omega
      go_wp2
      go_ret3
      exact Or.inr ⟨HPRE.out, _, rfl, how, htn⟩

end Go.Proofs.YtakdhdaoklcidaaGreatDoor

namespace Go.Proofs.YtakdhdaoklcidaaGreatDoor
open Go.RowKit Go.Lib Go.Maps Go.WideMaps
set_option linter.unusedVariables false
set_option maxRecDepth 100000

theorem name_le {l : Bs} (h : nameOK l = true) : l.length ≤ 32 := by
  unfold nameOK at h
  simp only [Bool.and_eq_true, decide_eq_true_eq] at h
  exact h.1.1.2
/-- What a line says is short. -/
theorem line_bound {x : Bs} {s : Stm} (h : lineS x = some s) : sizeS s ≤ 100 ∧ (labOf s).length ≤ 32 ∧ (namOf s).length ≤ 32 := by
  unfold lineS at h
  generalize coreS x = y at h
  unfold readS at h
  split at h
  · injection h with h; subst h; exact ⟨Nat.le_of_ble_eq_true rfl, Nat.le_of_ble_eq_true rfl, Nat.le_of_ble_eq_true rfl⟩
  · split at h
    · split at h
      · rename_i hn
        injection h with h; subst h; exact ⟨Nat.le_of_ble_eq_true rfl, name_le hn, Nat.le_of_ble_eq_true rfl⟩
      · cases h
    · split at h
      · unfold namingS at h
        split at h
        · rename_i hn
          split at h
          · split at h
            · injection h with h; subst h; exact ⟨Nat.le_of_ble_eq_true rfl, Nat.le_of_ble_eq_true rfl, name_le hn⟩
            · cases h
          · split at h
            · split at h
              · injection h with h; subst h; exact ⟨Nat.le_of_ble_eq_true rfl, Nat.le_of_ble_eq_true rfl, name_le hn⟩
              · cases h
            · cases h
        · cases h
      · cases hw : wordsS y with
        | none => rw [hw] at h; cases h
        | some ws =>
          rw [hw] at h
          injection h with h; subst h
          refine ⟨?_, Nat.le_of_ble_eq_true rfl, Nat.le_of_ble_eq_true rfl⟩
          show ws.length ≤ 100
          unfold wordsS wordsG at hw
          split at hw
          · split at hw
            · split at hw
              · split at hw
                · injection hw with hw; subst hw
                  rw [List.length_map]
                  have := liF_len (regP (cut (cut y [32]).2.1 sepC).1) 4 (numP (cut (cut (cut y [32]).2.1 sepC).2.1 sepC).1)
                  omega
                · cases hw
              · cases hw
            · cases hw
          · split at hw
            · split at hw
              · split at hw
                · injection hw with hw; subst hw; exact Nat.le_of_ble_eq_true rfl
                · cases hw
              · cases hw
            · split at hw
              · split at hw
                · injection hw with hw; subst hw; show 1 ≤ 100; decide
                · cases hw
              · cases hw
/-- The first number below n that has it. -/
def firstN (p : Nat → Bool) (n : Nat) : Option Nat := (List.range n).find? p
theorem firstN_some {p : Nat → Bool} {n k : Nat} (hk : k < n) (h : p k = true) (h0 : ∀ i, i < k → p i = false) : firstN p n = some k := by
  unfold firstN
  rw [List.find?_range_eq_some]
  exact ⟨h, List.mem_range.2 hk, fun j hj => by rw [h0 j hj]; rfl⟩
theorem firstN_none {p : Nat → Bool} {n : Nat} (h0 : ∀ i, i < n → p i = false) : firstN p n = none := by
  unfold firstN
  rw [List.find?_range_eq_none]
  intro i hi
  rw [h0 i hi]; rfl
/-- What Assemble tells: the words, the line and the fault. -/
def asmL (ss : List Stm) (base : Int) : List Int × Int × Int :=
  match firstN (dupAt ss base) ss.length with
  | some k => ([], (k : Int) + 1, 101)
  | none => match firstN (fun k => (lkAt ss (labF ss base ss.length) base k).1 != 0) ss.length with
    | some k => ([], (k : Int) + 1, (lkAt ss (labF ss base ss.length) base k).1)
    | none => (outW ss (labF ss base ss.length) base ss.length, 0, 0)
def asmT (ls : List Bs) (base : Int) : List Int × Int × Int :=
  match firstN (fun k => (lineS (ls.getD k [])).isNone) ls.length with
  | some k => ([], (k : Int) + 1, 100)
  | none => asmL (ls.filterMap lineS) base
def asmF (l : Bs) (base : Int) : List Int × Int × Int := if base % 4 = 0 then asmT (linesT l) base else ([], 0, 1)
def AsEnd (w : World) (r : List Int × Int × Int) (e : Ending) (w' : World) : Prop :=
  ∃ v, e = .returned (.tuple #[v, .int .i64 r.2.1, .int .i64 r.2.2]) ∧ OwnW w' w.heap.size v r.1 ∧ Below w.heap.size w w'
theorem lines_ne (l : Bs) : linesT l ≠ [] := by
  show splitK [10] 0 (Lib.count l [10]) l ≠ []
  cases Lib.count l [10] with
  | zero => simp [splitK]
  | succ k => unfold splitK; split <;> simp
theorem filterMap_get (ls : List Bs) (h : ∀ i, i < ls.length → ∃ s, lineS (ls.getD i []) = some s) : (ls.filterMap lineS).length = ls.length ∧ ∀ i, i < ls.length → lineS (ls.getD i []) = some ((ls.filterMap lineS).getD i .none) := by
  induction ls with
  | nil => exact ⟨rfl, fun i hi => by simp at hi⟩
  | cons x ls ih =>
    obtain ⟨s, hs⟩ := h 0 (by simp)
    have hs' : lineS x = some s := hs
    obtain ⟨h1, h2⟩ := ih (fun i hi => by have := h (i + 1) (by simp; omega); simpa using this)
    rw [List.filterMap_cons_some hs']
    refine ⟨by simp [h1], fun i hi => ?_⟩
    cases i with
    | zero => simpa using hs'
    | succ i => simpa using h2 i (by simpa using hi)
theorem asm_bad {ls : List Bs} {base : Int} {k : Nat} (hk : k < ls.length) (h0 : ∀ i, i < k → ∃ s, lineS (ls.getD i []) = some s) (h : lineS (ls.getD k []) = none) : asmT ls base = ([], (k : Int) + 1, 100) := by
  unfold asmT
  rw [firstN_some hk (by rw [h]; rfl) (fun i hi => by obtain ⟨s, hs⟩ := h0 i hi; rw [hs]; rfl)]
theorem asm_good {ls : List Bs} {base : Int} (h0 : ∀ i, i < ls.length → ∃ s, lineS (ls.getD i []) = some s) : asmT ls base = asmL (ls.filterMap lineS) base := by
  unfold asmT
  rw [firstN_none (fun i hi => by obtain ⟨s, hs⟩ := h0 i hi; rw [hs]; rfl)]
theorem asm_dup {ss : List Stm} {base : Int} {k : Nat} (hk : k < ss.length) (h0 : ∀ i, i < k → dupAt ss base i = false) (h : dupAt ss base k = true) : asmL ss base = ([], (k : Int) + 1, 101) := by
  unfold asmL
  rw [firstN_some hk h h0]
theorem asm_far {ss : List Stm} {base : Int} {k : Nat} (hd : ∀ i, i < ss.length → dupAt ss base i = false) (hk : k < ss.length) (h0 : ∀ i, i < k → (lkAt ss (labF ss base ss.length) base i).1 = 0) (h : (lkAt ss (labF ss base ss.length) base k).1 ≠ 0) : asmL ss base = ([], (k : Int) + 1, (lkAt ss (labF ss base ss.length) base k).1) := by
  unfold asmL
  rw [firstN_none hd]
  simp only []
  rw [firstN_some hk (by simpa using h) (fun i hi => by simpa using h0 i hi)]
theorem asm_all {ss : List Stm} {base : Int} (hd : ∀ i, i < ss.length → dupAt ss base i = false) (h0 : ∀ i, i < ss.length → (lkAt ss (labF ss base ss.length) base i).1 = 0) : asmL ss base = (outW ss (labF ss base ss.length) base ss.length, 0, 0) := by
  unfold asmL
  rw [firstN_none hd]
  simp only []
  rw [firstN_none (fun i hi => by simpa using h0 i hi)]

set_option maxHeartbeats 4000000 in
theorem assemble_any (l : Bs) (hl : l.length ≤ 8000) (base : Int) (hbase : 0 ≤ base ∧ base < 18446744073709551616) (w : World) (he : Env w) : Calls Tryz.prog 18 #[str l, .int .u64 base] w (AsEnd w (asmF l base)) := by
  have HRA := Lib.hid (readAll_any l (by omega) w he)
  have hnl : (linesT l).length ≤ l.length + 1 := by
    have h1 := (splitK_len (Lib.count l [10]) l).1
    have h2 : Lib.count l [10] ≤ l.length := by rw [Lib.count_one]; exact List.count_le_length
    have h3 : (linesT l).length = (splitK [10] 0 (Lib.count l [10]) l).length := rfl
    omega
  have hne := lines_ne l
  have HE := Lib.hid he
  by_cases hb4 : base % 4 = 0
  · have hR : asmF l base = asmT (linesT l) base := by unfold asmF; rw [if_pos hb4]
    rw [hR]
    generalize linesT l = ls at *
    clear hR he
    go_enter Tryz.func18, Tryz.ntmps18
    go_wp2_with (fail)
    (with_reducible refine HRA.out.mono ?_)
    rintro e w1 h1
    rcases h1 with ⟨k, hk, hall, hbad, rfl, hb1⟩ | ⟨hall, v, qs, rfl, hrow, hb1⟩
    · have HB1 := Lib.hid hb1
      have hk0 : decide ((k : Int) + 1 = 0) = false := decide_eq_false (by omega)
      have HR := Lib.hid (asm_bad (base := base) hk hall hbad)
      clear hall hbad hb1
      go_wp2_with (fail)
      go_ret3
      exact ⟨_, by rw [HR.out]; rfl, by rw [HR.out]; exact ownW_nil _ _, HB1.out⟩
    · obtain ⟨hsl, hsg⟩ := filterMap_get ls hall
      have HR := Lib.hid (asm_good (base := base) hall)
      have hbd : ∀ k, sizeS ((ls.filterMap lineS).getD k .none) ≤ 100 ∧ (labOf ((ls.filterMap lineS).getD k .none)).length ≤ 32 ∧ (namOf ((ls.filterMap lineS).getD k .none)).length ≤ 32 := fun k => by
        by_cases c : k < ls.length
        · exact line_bound (hsg k c)
        · rw [List.getD_eq_getElem?_getD, List.getElem?_eq_none (by omega)]; exact ⟨Nat.zero_le _, Nat.zero_le _, Nat.zero_le _⟩
      have hsne : ls.filterMap lineS ≠ [] := fun h => hne (List.eq_nil_of_length_eq_zero (by rw [← hsl, h]; rfl))
      generalize ls.filterMap lineS = ss at *
      have hqn : qs.length = ss.length := hrow.len
      have hqne : qs ≠ [] := fun h => hsne (List.eq_nil_of_length_eq_zero (by rw [← hqn, h]; rfl))
      obtain ⟨g, C, rfl, hSA, hgl⟩ := sAt_own hrow.own hqne
      obtain ⟨_, _, cs, fr, hg⟩ := ownS_lt hrow.own g rfl
      rw [hqn]
      have hst : ∀ k, k < ss.length → ∃ c0 c1 c2 c3, qs[k]? = some (c0, c1, c2, c3) ∧ StmV w1 w.heap.size (ss.getD k .none) c0 c1 c2 c3 := fun k hk => by
        have hq : k < qs.length := by omega
        have h := hrow.at' k hk hq
        refine ⟨qs[k].1, qs[k].2.1, qs[k].2.2.1, qs[k].2.2.2, List.getElem?_eq_getElem hq, ?_⟩
        rw [List.getD_eq_getElem?_getD, List.getElem?_eq_getElem hk]; exact h
      have hQA : QAt ss qs := ⟨hqn, fun k hk => by
        obtain ⟨c0, c1, c2, c3, h1, h2⟩ := hst k hk
        obtain ⟨rfl, A, C', rfl⟩ := stm_c0 h2
        have h3 := stmV_four h2
        exact ⟨A, C', c2, c3, h1, h3.2.2.1, h3.2.2.2⟩, fun k => (hbd k).1, fun k => Nat.le_trans (hbd k).2.1 (by decide)⟩
      have HPL := Lib.hid (place_any ss qs hQA base hbase (by omega) w1 g C hSA hgl)
      have HB1 := Lib.hid hb1
      have HST := Lib.hid hst
      have HBD := Lib.hid hbd
      have HG := Lib.hid hg
      have HSA := Lib.hid hSA
      have hss : ss.length ≤ 9000 := by omega
      clear hall hsl hsg hbd hrow hSA hg hst hQA hb1 hqne hsne
      go_wp2_with (fail)
      (with_reducible refine HPL.out.mono ?_)
      rintro e w2 h2
      rcases h2 with ⟨k, hk, hnd, hd, rfl, hb2⟩ | ⟨hnd, mb, n, rfl, hmb, hmap, hb2⟩
      · have HB2 := Lib.hid (HB1.out.trans (hb2.mono HB1.out.size))
        have hk0 : decide ((k : Int) + 1 = 0) = false := decide_eq_false (by omega)
        have HR2 := Lib.hid (HR.out.trans (asm_dup hk hnd hd))
        clear hnd hd hb2
        go_wp2_with (fail)
        go_ret3
        exact ⟨_, by rw [HR2.out]; rfl, by rw [HR2.out]; exact ownW_nil _ _, HB2.out⟩
      · have HB2 := Lib.hid (HB1.out.trans (hb2.mono HB1.out.size))
        have HND := Lib.hid hnd
        have hlk := link_any ss qs (labF ss base ss.length) base hss w2 w.heap.size HB2.out.size (fun k => (HBD.out k).1) (fun k => Nat.le_trans (HBD.out k).2.2 (by decide)) hqn g C mb n cs fr ((hb2.block _ hgl).trans HG.out) (sAt_below HSA.out hb2) (fun k hk => by
          obtain ⟨c0, c1, c2, c3, h1, h2⟩ := HST.out k hk
          exact ⟨c0, c1, c2, c3, h1, stmV_below h2 hb2⟩) hmap (fun w' hb' => HE.out.below (HB2.out.trans hb'))
        have HLK := Lib.hid hlk
        clear hnd hb2 hmap hlk
        go_wp2_with (fail)
        (with_reducible refine HLK.out.mono ?_)
        rintro e w3 h3
        rcases h3 with ⟨k, hk, h0, hf, rfl, ht⟩ | ⟨h0, v, rfl, how, ht⟩
        · have HR2 := Lib.hid (HR.out.trans (asm_far HND.out hk h0 hf))
          have HB3 := Lib.hid (HB2.out.trans (ht.bel HB2.out.size))
          clear h0 hf ht
          generalize (lkAt ss (labF ss base ss.length) base k).1 = er at *
          go_wp2_with (fail)
          go_ret3
          exact ⟨_, by rw [HR2.out]; rfl, by rw [HR2.out]; exact ownW_nil _ _, HB3.out⟩
        · have HR2 := Lib.hid (HR.out.trans (asm_all HND.out h0))
          have HB3 := Lib.hid (HB2.out.trans (ht.bel HB2.out.size))
          have HOW := Lib.hid (ownW_base how HB2.out.size)
          clear h0 ht how
          go_wp2_with (fail)
          go_ret3
          exact ⟨_, by rw [HR2.out]; rfl, by rw [HR2.out]; exact HOW.out, HB3.out⟩
  · have hR : asmF l base = ([], 0, 1) := by unfold asmF; rw [if_neg hb4]
    rw [hR]
    clear HRA hR he hnl hne
    go_enter Tryz.func18, Tryz.ntmps18
    go_wp2_with (fail)
    go_ret3
    exact ⟨_, rfl, ownW_nil _ _, Below.refl _ _⟩

end Go.Proofs.YtakdhdaoklcidaaGreatDoor

namespace Go.Proofs.YtakdhdaoklcidaaGreatDoor
open Go.RowKit Go.Lib
set_option linter.unusedVariables false
set_option maxRecDepth 100000

def wakeT : Bs := [97, 58, 10, 98, 101, 113, 32, 120, 48, 44, 32, 120, 48, 44, 32, 64, 97, 10, 106, 97, 108, 32, 120, 48, 44, 32, 64, 98, 10, 98, 58]
def wakeI : Ins := ⟨22, 1, 2, 0, -5, 0, false, false⟩
theorem wakeI_right : rightB wakeI = true := by decide +kernel
theorem wakeI_text : printT wakeI = [97, 100, 100, 105, 32, 120, 49, 44, 32, 120, 50, 44, 32, 45, 53] := by decide +kernel
theorem wakeT_is : asmF wakeT 0 = ([99, 4194415], 0, 0) := by decide +kernel

set_option maxHeartbeats 1000000 in
theorem wakes10 (w : World) (he : Env w) : Calls Tryz.prog 12 #[] w fun e w' => e = .returned (.bool true) ∧ Below w.heap.size w w' := by
  have hP : ∀ w, Env w → Calls Tryz.prog 10 #[.agg #[.int .i64 22, .int .i64 1, .int .i64 2, .int .i64 0, .int .i64 (-5), .int .i64 0, .bool false, .bool false]] w fun e w' => e = .returned (.tuple #[.string ⟨#[97, 100, 100, 105, 32, 120, 49, 44, 32, 120, 50, 44, 32, 45, 53]⟩, .int .i64 0]) ∧ Below w.heap.size w w' := fun w he => by
    have h := print_yes wakeI wakeI_right w he
    rw [wakeI_text] at h; exact h
  have hA : ∀ w, Env w → Calls Tryz.prog 18 #[.string ⟨#[97, 58, 10, 98, 101, 113, 32, 120, 48, 44, 32, 120, 48, 44, 32, 64, 97, 10, 106, 97, 108, 32, 120, 48, 44, 32, 64, 98, 10, 98, 58]⟩, .int .u64 0] w (AsEnd w ([99, 4194415], 0, 0)) := fun w he => by
    have h := assemble_any wakeT (by decide) 0 (by decide) w he
    rw [wakeT_is] at h; exact h
  have HP := Lib.hid hP
  have HA := Lib.hid hA
  have HE := Lib.hid he
  clear hP hA he
  go_enter Tryz.func12, Tryz.ntmps12
  go_wp2_with (fail)
  (with_reducible refine (HP.out _ HE.out).mono ?_)
  rintro e w1 ⟨rfl, hb1⟩
  have HB1 := Lib.hid hb1
  clear hb1
  go_wp2_with (fail)
  (with_reducible refine (HA.out _ (HE.out.below HB1.out)).mono ?_)
  rintro e w2 ⟨v, rfl, how, hb2⟩
  have HB2 := Lib.hid (HB1.out.trans (hb2.mono HB1.out.size))
  rcases how.2 with ⟨_, h0⟩ | ⟨g, cap, cur, rfl, hb, hg, hn1, hn2, hn3, ht⟩
  · cases h0
  · have hc : ∀ j u, (wordCs [99, 4194415])[j]? = some u → w2.cell? ⟨g, j, none⟩ = some u := fun j u h => by
      rw [Lib.cell_of_heap hg, ← h, ← ht, List.getElem?_take]
      have hj := (List.getElem?_eq_some_iff.1 h).1
      rw [if_pos (by simpa [wordCs] using hj)]; simp
    have c0 := hc 0 _ rfl
    have c1 := hc 1 _ rfl
    clear hc ht hg how hb2
    go_wp2
    go_ret
    exact ⟨rfl, HB2.out⟩

end Go.Proofs.YtakdhdaoklcidaaGreatDoor

namespace Go.Proofs.YtakdhdaoklcidaaGreatDoor
open Go.RowKit Go.Lib
set_option linter.unusedVariables false
set_option maxRecDepth 100000

theorem and_one64 {y : Int} : bits .and .i64 y 1 = y % 2 := by
  show IntKind.i64.wrap ((BitVec.ofInt 64 y &&& 1#64).toNat : Int) = _
  have h : (BitVec.ofInt 64 y &&& 1#64).toNat = (y % 2).toNat := by
    rw [BitVec.toNat_and, show (1#64).toNat = 1 from rfl, Nat.and_one_is_mod, BitVec.toNat_ofInt]; omega
  rw [h]
  simp [IntKind.wrap, IntKind.bits, IntKind.signed]; omega
theorem and_4095 {n : Int} : bits .and .i64 n 4095 = n % 4096 := by
  show IntKind.i64.wrap ((BitVec.ofInt 64 n &&& BitVec.ofInt 64 4095).toNat : Int) = _
  have e : (BitVec.ofInt 64 n &&& BitVec.ofInt 64 4095).toNat = (BitVec.ofInt 64 n).toNat % 4096 := by
    rw [BitVec.toNat_and]
    show (BitVec.ofInt 64 n).toNat &&& (2 ^ 12 - 1) = _
    rw [Nat.and_two_pow_sub_one_eq_mod]
  rw [e, BitVec.toNat_ofInt]
  have hk : ((((n % (2 ^ 64 : Nat)).toNat % 4096 : Nat) : Int)) = n % 4096 := by
    have h1 : ((n % (2 ^ 64 : Nat)).toNat : Int) = n % (2 ^ 64 : Nat) := Int.toNat_of_nonneg (Int.emod_nonneg _ (by decide))
    omega
  rw [hk]
  unfold IntKind.wrap
  simp [IntKind.signed, IntKind.bits]
  omega
theorem refLow_any (n : Int) (w : World) : Calls Tryz.prog 42 #[.int .i64 n] w fun e w' => e = .returned (.int .i64 (lowZ n)) ∧ w = w' := by
  have ha := @and_4095 n
  by_cases c : 2048 ≤ n % 4096
  · have e : lowZ n = n % 4096 - 4096 := by unfold lowZ; omega
    rw [e]
    have h0 : 0 ≤ n % 4096 ∧ n % 4096 < 4096 := by omega
    generalize n % 4096 = x at *
    obtain ⟨x0, x1⟩ := h0
    clear e
    go_enter Tryz.func42, Tryz.ntmps42
    go_wp2
    go_ret
    exact ⟨by go_num, rfl⟩
  · have e : lowZ n = n % 4096 := by unfold lowZ; omega
    rw [e]
    have h0 : 0 ≤ n % 4096 ∧ n % 4096 < 4096 := by omega
    generalize n % 4096 = x at *
    obtain ⟨x0, x1⟩ := h0
    clear e
    go_enter Tryz.func42, Tryz.ntmps42
    go_wp2
    go_ret
    exact ⟨rfl, rfl⟩

theorem pourI (w : World) (B B' : Nat) (v vm : Value) (l m : List Ins) (n k : Nat) (hn : l.length = n) (hk : m.length = k) (h : OwnI w B v l) (hm : OwnI w B' vm m) (hl : n + k ≤ 70000) (hB : B ≤ w.heap.size) (ty : TypeId) :
    ∃ A C w', (Builtin.append_ #[33, 33] ty #[v, vm]).run Tryz.prog w = .ok (.slice A (n + k) C) w' ∧ OwnI w' B (.slice A (n + k) C) (l ++ m) ∧ Only (fun k => v.ownBlock = some k) w w' := by
  obtain ⟨i0, hi, hz0, hz1, hz2⟩ := info_parts info_insP
  rcases hm.2 with ⟨rfl, h0⟩ | ⟨g, cap, cur, rfl, hb, hg, hn1, hn2, hn3, ht⟩
  · have hm0 := List.eq_nil_of_length_eq_zero h0
    subst hm0
    subst hn
    subst hk
    have hr := run_append_owned_none (P := Tryz.prog) (w := w) B 33 ty 23 i0 8 Tryz.underlying33 hi v l.length _ h
    obtain ⟨A, C, rfl⟩ := ownI_slice h
    exact ⟨A, C, w, hr, by simpa using h, Only.refl _ _⟩
  · subst hn
    subst hk
    have hl8 : (insCs m).length = m.length * 8 := by
      unfold insCs
      induction m with
      | nil => rfl
      | cons a m ih =>
        rw [List.flatMap_cons, List.length_append]
        have e : (insC a).length = 8 := rfl
        have e2 : (List.flatMap insC m).length = m.length * 8 := by
          clear ih ht hn1 hn3 hm hl
          induction m with
          | nil => rfl
          | cons b m ih2 => rw [List.flatMap_cons, List.length_append, ih2, List.length_cons]; show 8 + _ = _; omega
        rw [e, e2, List.length_cons]; omega
    have hnn : ∀ j u, (insCs m)[j]? = some u → w.cell? ((⟨g, 0, none⟩ : Addr).add j) = some u := by
      intro j u hj
      rw [Lib.add_plain, Nat.zero_add, Lib.cell_of_heap hg]
      rw [← ht, List.getElem?_take] at hj
      split at hj
      · simpa using hj
      · cases hj
    have h1 : ∀ u ∈ insCs m, u.oneCell' = true := by
      intro u hu
      obtain ⟨i, _, hu⟩ := List.mem_flatMap.1 hu
      unfold insC at hu; simp at hu; rcases hu with rfl | rfl | rfl | rfl | rfl | rfl | rfl | rfl <;> rfl
    obtain ⟨v', w', hr, h2, h3, _, h5⟩ := run_append_own_at (P := Tryz.prog) w B 33 ty 23 i0 _ 8 56 Tryz.underlying33 hi hz0 hz1 hz2 rfl (by decide) v l.length _ h ⟨g, 0, none⟩ m.length cap (insCs m) hl8 hnn h1 (by unfold maxLen; omega) (by omega) hB
    have ho : OwnI w' B v' (l ++ m) := by
      unfold OwnI
      rw [insCs_app, List.length_append]
      simpa using h2
    obtain ⟨A, C, rfl⟩ := ownI_slice ho
    rw [List.length_append] at hr ho
    exact ⟨A, C, w', hr, by simpa using ho, (Only.refl _ w).grown h3 (fun k hk => .inl hk)⟩

theorem ownI_nil (w : World) (B : Nat) : OwnI w B (.slice none 0 0) [] := ⟨rfl, .inl ⟨rfl, rfl⟩⟩

set_option maxHeartbeats 1000000 in
theorem rli_none (rd n : Int) (hr : ¬ (0 ≤ rd ∧ rd ≤ 31)) (w : World) : Calls Tryz.prog 17 #[.int .i64 rd, .int .i64 n] w fun e w' => e = .returned (.slice none 0 0) ∧ w = w' := by
  by_cases h : rd < 0
  · clear hr
    go_enter Tryz.func17, Tryz.ntmps17
    go_wp2
    go_ret
    exact ⟨rfl, rfl⟩
  · have h2 : 31 < rd := by omega
    clear hr
    go_enter Tryz.func17, Tryz.ntmps17
    go_wp2
    go_ret
    exact ⟨rfl, rfl⟩
theorem rli_small (rd n : Int) (hr : 0 ≤ rd ∧ rd ≤ 31) (h : -2048 ≤ n ∧ n ≤ 2047) (w : World) : Calls Tryz.prog 17 #[.int .i64 rd, .int .i64 n] w (LiEnd w [addI rd 0 n]) := by
  obtain ⟨A, C, w', hr0, ho, hb⟩ := push_new w w (.slice none 0 0) [] (addI rd 0 n) 0 rfl (ownI_nil _ _) (by simp) (Below.refl _ _) 33
  obtain ⟨r0, r1⟩ := hr
  obtain ⟨n0, n1⟩ := h
  have hd1 : ¬ rd < 0 := by omega
  have hd2 : ¬ 31 < rd := by omega
  have HR := Lib.hid hr0; have HO := Lib.hid ho; have HB := Lib.hid hb
  clear hr0 ho hb
  go_enter Tryz.func17, Tryz.ntmps17
  go_wp2_with (at_builtin; refine wpList_append_run rfl _ _ _ rfl (.slice none 0 0) (.slice (some ⟨w.heap.size, 0, none⟩) 1 1) (.slice A (0 + 1) C) w' rfl rfl HR.out ?_)
  go_ret
  exact ⟨_, rfl, HO.out, HB.out⟩

end Go.Proofs.YtakdhdaoklcidaaGreatDoor

namespace Go.Proofs.YtakdhdaoklcidaaGreatDoor
open Go.RowKit Go.Lib
set_option linter.unusedVariables false
set_option maxRecDepth 100000

set_option maxHeartbeats 2000000 in
theorem rli_mid0 (rd n : Int) (hr : 0 ≤ rd ∧ rd ≤ 31) (h : ¬ (-2048 ≤ n ∧ n ≤ 2047)) (h2 : -2147483648 ≤ n ∧ n ≤ 2147483647) (hl : lowZ n = 0) (w : World) : Calls Tryz.prog 17 #[.int .i64 rd, .int .i64 n] w (LiEnd w [luiI rd n]) := by
  have HL := Lib.hid (fun w => refLow_any n w)
  rw [hl] at HL
  obtain ⟨r0, r1⟩ := hr
  obtain ⟨n0, n1⟩ := h2
  have hd1 : ¬ rd < 0 := by omega
  have hd2 : ¬ 31 < rd := by omega
  have hor : n < -2048 ∨ 2047 < n := by omega
  have hn2 : n < 2147483648 := by omega
  have hm : (n == 2147483648) = false := beq_eq_false_iff_ne.2 (by omega)
  clear h hl
  obtain ⟨A, C, w1, hr1, ho1, hb1⟩ := push_new w w (.slice none 0 0) [] (luiI rd n) 0 rfl (ownI_nil _ _) (by simp) (Below.refl _ _) 33
  have HR1 := Lib.hid hr1; have HO1 := Lib.hid ho1; have HB1 := Lib.hid hb1
  clear hr1 ho1 hb1
  rcases hor with hor | hor
  all_goals
    go_enter Tryz.func17, Tryz.ntmps17
    go_wp2_with (fail)
    (with_reducible refine (HL.out _).mono ?_)
    rintro e wu ⟨rfl, rfl⟩
    go_wp2_with (at_builtin; refine wpList_append_run rfl _ _ _ rfl (.slice none 0 0) (.slice (some ⟨w.heap.size, 0, none⟩) 1 1) (.slice A (0 + 1) C) w1 rfl rfl HR1.out ?_)
    go_ret
    exact ⟨_, rfl, HO1.out, HB1.out⟩
set_option maxHeartbeats 2000000 in
theorem rli_mid1 (rd n lo M : Int) (hr : 0 ≤ rd ∧ rd ≤ 31) (hor : n < -2048 ∨ 2047 < n) (h2 : -2147483648 ≤ n ∧ n ≤ 2147483647) (hl : lowZ n = lo) (hl0 : ¬ lo = 0) (m : Int) (hm : wrap64 (n - lo) = m) (hs : (m = 2147483648 ∧ M = -2147483648) ∨ ((m == 2147483648) = false ∧ M = m)) (w : World) : Calls Tryz.prog 17 #[.int .i64 rd, .int .i64 n] w (LiEnd w [luiI rd M, addiwI rd rd lo]) := by
  have HL := Lib.hid (fun w => refLow_any n w)
  rw [hl] at HL
  obtain ⟨r0, r1⟩ := hr
  obtain ⟨n0, n1⟩ := h2
  have hd1 : ¬ rd < 0 := by omega
  have hd2 : ¬ 31 < rd := by omega
  have hn2 : n < 2147483648 := by omega
  have hq : (lo != 0) = true := by simpa using hl0
  clear hl
  obtain ⟨A, C, w1, hr1, ho1, hb1⟩ := push_new w w (.slice none 0 0) [] (luiI rd M) 0 rfl (ownI_nil _ _) (by simp) (Below.refl _ _) 33
  obtain ⟨A2, C2, w2, hr2, ho2, hb2⟩ := push_new w w1 _ _ (addiwI rd rd lo) (0 + 1) rfl ho1 (by simp) hb1 33
  have HR1 := Lib.hid hr1; have HR2 := Lib.hid hr2; have HO2 := Lib.hid ho2; have HB2 := Lib.hid hb2
  clear hr1 ho1 hb1 hr2 ho2 hb2
  rcases hs with ⟨rfl, rfl⟩ | ⟨hmb, rfl⟩ <;> rcases hor with hor | hor
  all_goals
    go_enter Tryz.func17, Tryz.ntmps17
    go_wp2_with (fail)
    (with_reducible refine (HL.out _).mono ?_)
    rintro e wu ⟨rfl, rfl⟩
    go_wp2_with (at_builtin; first
      | (refine wpList_append_run rfl _ _ _ rfl (.slice none 0 0) (.slice (some ⟨w.heap.size, 0, none⟩) 1 1) (.slice A (0 + 1) C) w1 rfl rfl HR1.out ?_)
      | (refine wpList_append_run rfl _ _ _ rfl (.slice A (0 + 1) C) (.slice (some ⟨w1.heap.size, 0, none⟩) 1 1) (.slice A2 (0 + 1 + 1) C2) w2 rfl rfl HR2.out ?_))
    go_ret
    exact ⟨_, rfl, HO2.out, HB2.out⟩
theorem rli_mid (rd n : Int) (hr : 0 ≤ rd ∧ rd ≤ 31) (h : ¬ (-2048 ≤ n ∧ n ≤ 2047)) (h2 : -2147483648 ≤ n ∧ n ≤ 2147483647) (w : World) : Calls Tryz.prog 17 #[.int .i64 rd, .int .i64 n] w (LiEnd w (luiI rd (s32 (n - lowZ n)) :: moreI (addiwI rd rd (lowZ n)))) := by
  obtain ⟨lo0, lo1⟩ := lowZ_bd n
  by_cases hl : lowZ n = 0
  · have e : luiI rd (s32 (n - lowZ n)) :: moreI (addiwI rd rd (lowZ n)) = [luiI rd n] := by
      rw [hl, Int.sub_zero, show s32 n = n by unfold s32 RowKit.wrap32; omega]; rfl
    rw [e]; exact rli_mid0 rd n hr h h2 hl w
  · have e : luiI rd (s32 (n - lowZ n)) :: moreI (addiwI rd rd (lowZ n)) = [luiI rd (s32 (n - lowZ n)), addiwI rd rd (lowZ n)] := by
      unfold moreI; rw [if_neg (show ¬ (addiwI rd rd (lowZ n)).imm = 0 from hl)]
    rw [e]
    refine rli_mid1 rd n _ _ hr (by omega) h2 rfl hl _ rfl ?_ w
    have hlm := lowZ_mod n
    have hs0 : (wrap64 (n - lowZ n) = 2147483648 ∧ s32 (n - lowZ n) = -2147483648) ∨ (¬ wrap64 (n - lowZ n) = 2147483648 ∧ s32 (n - lowZ n) = wrap64 (n - lowZ n)) := by unfold s32 RowKit.wrap32 wrap64; omega
    rcases hs0 with h | h
    · exact .inl h
    · exact .inr ⟨beq_eq_false_iff_ne.2 h.1, h.2⟩

theorem shift_at {m : Int} {z : Nat} {q : Int} (hz : m = 2 ^ z * (2 * q + 1)) (j : Nat) (hj : j ≤ z) : m / 2 ^ j = 2 ^ (z - j) * (2 * q + 1) := by
  have e : (2 : Int) ^ z = 2 ^ j * 2 ^ (z - j) := by rw [← Int.pow_add, show j + (z - j) = z by omega]
  have hp := two_pow_pos j
  rw [hz, e, Int.mul_assoc]
  exact Int.mul_ediv_cancel_left _ (by omega)
theorem shift_even {m : Int} {z : Nat} {q : Int} (hz : m = 2 ^ z * (2 * q + 1)) (j : Nat) (hj : j < z) : (m / 2 ^ j) % 2 = 0 := by
  rw [shift_at hz j (by omega), show z - j = (z - j - 1) + 1 by omega, Int.pow_succ, Int.mul_assoc, Int.mul_comm, Int.mul_assoc]
  exact Int.mul_emod_right _ _
theorem shift_odd {m : Int} {z : Nat} {q : Int} (hz : m = 2 ^ z * (2 * q + 1)) : (m / 2 ^ z) % 2 = 1 := by
  rw [shift_at hz z (Nat.le_refl _), Nat.sub_self]; omega
theorem shift_next (m : Int) (j : Nat) : m / 2 ^ j / 2 = m / 2 ^ (j + 1) := by
  have hp := two_pow_pos j
  rw [Int.pow_succ, Int.ediv_ediv_of_nonneg (by omega)]

set_option maxHeartbeats 4000000 in
theorem rli_big (rd n : Int) (L : List Ins) (hL : L.length ≤ 1000) (hr : 0 ≤ rd ∧ rd ≤ 31) (h : ¬ (-2048 ≤ n ∧ n ≤ 2047)) (h2 : ¬ (-2147483648 ≤ n ∧ n ≤ 2147483647)) (n0 : -9223372036854775808 ≤ n) (n1 : n ≤ 9223372036854775807)
    (hih : ∀ w, Calls Tryz.prog 17 #[.int .i64 rd, .int .i64 (nextL n)] w (LiEnd w L)) (w : World) :
    Calls Tryz.prog 17 #[.int .i64 rd, .int .i64 n] w (LiEnd w (L ++ (slliI rd (ctzI (wrap64 (n - lowZ n))) :: moreI (addI rd rd (lowZ n))))) := by
  have HL := Lib.hid (fun w => refLow_any n w)
  have hne := high_ne h n0 n1
  have hwi := wrap64_in (n - lowZ n)
  obtain ⟨hcz, q, hzq⟩ := ctzI_spec _ hne.1 hwi.1 hwi.2
  obtain ⟨lo0, lo1⟩ := lowZ_bd n
  obtain ⟨r0, r1⟩ := hr
  have hd1 : ¬ rd < 0 := by omega
  have hd2 : ¬ 31 < rd := by omega
  have hnx : nextL n = wrap64 (n - lowZ n) / 2 ^ ctzI (wrap64 (n - lowZ n)) := rfl
  rw [hnx] at hih
  have HIH := Lib.hid hih
  have HZQ := Lib.hid hzq
  clear h hih hne hnx hzq
  generalize hlw : lowZ n = lo at *
  clear hlw
  generalize hm : wrap64 (n - lo) = m at *
  have HWI := Lib.hid hwi
  generalize ctzI m = z at *
  clear hwi
  have hor : n < -2147483648 ∨ 2147483647 < n := by omega
  have hlo2 : (lo = 0 ∧ (lo != 0) = false) ∨ (¬ lo = 0 ∧ (lo != 0) = true) := by by_cases c : lo = 0 <;> simp [c]
  have HMN : Hid (lo = 0 → n = m) := Lib.hid (fun h => by rw [← hm, h, Int.sub_zero]; exact (wrap64_id n0 (by omega)).symm)
  clear h2
  rcases hor with hor | hor <;> rcases hlo2 with ⟨hl, hq⟩ | ⟨hl, hq⟩
  all_goals
    go_enter Tryz.func17, Tryz.ntmps17
    go_wp2_with (fail)
    (with_reducible refine (HL.out _).mono ?_)
    rintro e wu ⟨rfl, rfl⟩
    go_wp2
    go_loopw [7, 8] (fun x k wr => ∃ (j : Nat), j ≤ z ∧ x = .int .i64 (m / 2 ^ j) ∧ k = .int .i64 j ∧ wr = w) (fun _ k _ => z - (RowKit.intOf k).toNat)
    case atStart => exact ⟨0, Nat.zero_le _, by first | (simp; done) | (simp; exact HMN.out hl), rfl, rfl⟩
    case round =>
      obtain ⟨j, hj, rfl, rfl, rfl⟩ := hrel
      by_cases hlt : j < z
      · have ha : bits .and .i64 (m / 2 ^ j) 1 = 0 := by rw [and_one64]; exact shift_even HZQ.out j hlt
        have hnx := shift_next m j
        have HNX := Lib.hid hnx
        clear hnx
        generalize m / 2 ^ j = x at *
        go_wp2
        case roundEnd => exact ⟨⟨j + 1, by omega, by rw [HNX.out], rfl, trivial⟩, by simp [RowKit.intOf]; omega⟩
      · obtain rfl : j = z := by omega
        have ha : bits .and .i64 (m / 2 ^ j) 1 = 1 := by rw [and_one64]; exact shift_odd HZQ.out
        generalize m / 2 ^ j = x at *
        go_wp2_with (fail)
        (with_reducible refine (HIH.out _).mono ?_)
        rintro e w2 ⟨v, rfl, ho2, hb2⟩
        obtain ⟨A0, C0, rfl⟩ := ownI_slice ho2
        obtain ⟨A1, C1, w3, hr3, ho3, hon3⟩ := pourI w2 wr.heap.size wr.heap.size (.slice none 0 0) (.slice A0 L.length C0) [] L 0 L.length rfl rfl (ownI_nil _ _) ho2 (by omega) hb2.size 33
        rw [Nat.zero_add] at hr3 ho3
        have hb3 : Below wr.heap.size wr w3 := Below.thenOnly hb2 hon3 (fun k hk => by simp [Value.ownBlock] at hk) hb2.size
        obtain ⟨A2, C2, w4, hr4, ho4, hb4⟩ := push_new wr w3 _ _ (slliI rd j) L.length (by simp) ho3 (by simp; omega) hb3 33
        obtain ⟨A3, C3, w5, hr5, ho5, hb5⟩ := push_new wr w4 _ _ (addI rd rd lo) (L.length + 1) (by simp) ho4 (by simp; omega) hb4 33
        have HR3 := Lib.hid hr3; have HR4 := Lib.hid hr4; have HR5 := Lib.hid hr5; have HO4 := Lib.hid ho4; have HB4 := Lib.hid hb4; have HO5 := Lib.hid ho5; have HB5 := Lib.hid hb5
        clear ho2 hb2 hr3 ho3 hon3 hb3 hr4 ho4 hb4 hr5 ho5 hb5
        go_wp2_with (at_builtin; first
          | (refine wpList_append_run rfl _ _ _ rfl (.slice none 0 0) (.slice A0 L.length C0) (.slice A1 L.length C1) w3 rfl rfl HR3.out ?_)
          | (refine wpList_append_run rfl _ _ _ rfl (.slice A1 L.length C1) (.slice (some ⟨w3.heap.size, 0, none⟩) 1 1) (.slice A2 (L.length + 1) C2) w4 rfl rfl HR4.out ?_)
          | (refine wpList_append_run rfl _ _ _ rfl (.slice A2 (L.length + 1) C2) (.slice (some ⟨w4.heap.size, 0, none⟩) 1 1) (.slice A3 (L.length + 1 + 1) C3) w5 rfl rfl HR5.out ?_))
        go_ret
        first
        | exact ⟨_, rfl, by simpa [moreI, addI, hl] using HO4.out, HB4.out⟩
        | exact ⟨_, rfl, by simpa [moreI, addI, hl] using HO5.out, HB5.out⟩

theorem rli_gen (rd : Int) (hr : 0 ≤ rd ∧ rd ≤ 31) : ∀ f n, 1 ≤ f → f ≤ 4 → -9223372036854775808 ≤ n → n ≤ 9223372036854775807 → (-bF f ≤ n ∧ n < bF f) → ∀ w, Calls Tryz.prog 17 #[.int .i64 rd, .int .i64 n] w (LiEnd w (liF rd f n)) := by
  intro f
  induction f with
  | zero => intro n h; omega
  | succ f ih =>
    intro n h1 h4 n0 n1 hb w
    unfold liF
    by_cases c1 : -2048 ≤ n ∧ n ≤ 2047
    · rw [if_pos c1]; exact rli_small rd n hr c1 w
    · rw [if_neg c1]
      by_cases c2 : -2147483648 ≤ n ∧ n ≤ 2147483647
      · rw [if_pos c2]; exact rli_mid rd n hr c1 c2 w
      · rw [if_neg c2]
        have hf : 1 ≤ f := by
          rcases Nat.eq_zero_or_pos f with h | h
          · subst h; rw [bF1] at hb; omega
          · exact h
        have hx := next_in hf c1 n0 n1 hb
        exact rli_big rd n _ (by have := liF_len rd f (nextL n); omega) hr c1 c2 n0 n1 (ih (nextL n) hf (by omega) hx.2.2.1 hx.2.2.2 ⟨hx.1, hx.2.1⟩) w
theorem refLi_any (rd n : Int) (hr : 0 ≤ rd ∧ rd ≤ 31) (n0 : -9223372036854775808 ≤ n) (n1 : n ≤ 9223372036854775807) (w : World) : Calls Tryz.prog 17 #[.int .i64 rd, .int .i64 n] w (LiEnd w (liF rd 4 n)) :=
  rli_gen rd hr 4 n (by decide) (by decide) n0 n1 (by rw [bF4]; omega) w

end Go.Proofs.YtakdhdaoklcidaaGreatDoor

namespace Go.Proofs.YtakdhdaoklcidaaGreatDoor
open Go.RowKit Go.Lib
set_option linter.unusedVariables false
set_option maxRecDepth 100000

theorem eqI_same (i : Ins) (w : World) : (Op.equalIn 10000 23 (.agg #[.int .i64 i.op, .int .i64 i.rd, .int .i64 i.a, .int .i64 i.b, .int .i64 i.imm, .int .i64 i.csr, .bool i.aq, .bool i.rl]) (.agg #[.int .i64 i.op, .int .i64 i.rd, .int .i64 i.a, .int .i64 i.b, .int .i64 i.imm, .int .i64 i.csr, .bool i.aq, .bool i.rl])).run Tryz.prog w = .ok true w := by
  simp [go_sem]
theorem neqI_same (i : Ins) (w : World) : (binOp .neq 23 (.agg #[.int .i64 i.op, .int .i64 i.rd, .int .i64 i.a, .int .i64 i.b, .int .i64 i.imm, .int .i64 i.csr, .bool i.aq, .bool i.rl]) (.agg #[.int .i64 i.op, .int .i64 i.rd, .int .i64 i.a, .int .i64 i.b, .int .i64 i.imm, .int .i64 i.csr, .bool i.aq, .bool i.rl])).run Tryz.prog w = .ok (.bool false) w := by
  rw [run_neq_struct, eqI_same]; rfl
theorem sameI_nil (w : World) : Calls Tryz.prog 15 #[.slice none 0 0, .slice none 0 0] w fun e w' => e = .returned (.bool true) ∧ w = w' := by
  go_enter Tryz.func15, Tryz.ntmps15
  go_wp2
  go_loopw [5] (fun i wr => i = .int .i64 0 ∧ wr = w) (fun _ _ => 0)
  case atStart => exact ⟨rfl, rfl⟩
  case round =>
    obtain ⟨rfl, rfl⟩ := hrel
    go_wp2
    go_ret
    exact ⟨rfl, rfl⟩

set_option maxHeartbeats 4000000 in
theorem sameI_any (L : List Ins) (hn : L.length ≤ 1000) (w : World) (g g' c c' : Nat) (h1 : InsAt w g L) (h2 : InsAt w g' L) :
    Calls Tryz.prog 15 #[.slice (some ⟨g, 0, none⟩) L.length c, .slice (some ⟨g', 0, none⟩) L.length c'] w fun e w' => e = .returned (.bool true) ∧ Below w.heap.size w w' := by
  have H1 := Lib.hid h1
  have H2 := Lib.hid h2
  clear h1 h2
  go_enter Tryz.func15, Tryz.ntmps15
  go_wp2
  go_loopw [5] (fun i wr => ∃ (j : Nat), j ≤ L.length ∧ i = .int .i64 j ∧ Below w.heap.size w wr) (fun k _ => L.length - (RowKit.intOf k).toNat)
  case atStart => exact ⟨0, Nat.zero_le _, rfl, Below.refl _ _⟩
  case round =>
    obtain ⟨j, hj, rfl, hb⟩ := hrel
    have HB := Lib.hid hb
    by_cases hlt : j < L.length
    · have hj2 : (j : Int) < L.length := by omega
      have hj3 : (0 : Int) ≤ (j : Int) := by omega
      have a := insAt_below H1.out hb
      have b := insAt_below H2.out hb
      have ca : ∀ m v, m < 8 → (insC (L.getD j insZ)).getD m undef = v → wr.cell? ⟨g, j * 8 + m, none⟩ = some v := fun m v hm hv => by rw [a j hlt m hm, hv]
      have cb : ∀ m v, m < 8 → (insC (L.getD j insZ)).getD m undef = v → wr.cell? ⟨g', j * 8 + m, none⟩ = some v := fun m v hm hv => by rw [b j hlt m hm, hv]
      have hneq := neqI_same (L.getD j insZ)
      clear a b hb
      generalize L.getD j insZ = k at *
      obtain ⟨op, rd, a, b, imm, csr, aq, rl⟩ := k
      have c0 : wr.cell? ⟨g, j * 8, none⟩ = some (.int .i64 op) := ca 0 _ (by decide) rfl
      have c1 := ca 1 (.int .i64 rd) (by decide) rfl
      have c2 := ca 2 (.int .i64 a) (by decide) rfl
      have c3 := ca 3 (.int .i64 b) (by decide) rfl
      have c4 := ca 4 (.int .i64 imm) (by decide) rfl
      have c5 := ca 5 (.int .i64 csr) (by decide) rfl
      have c6 := ca 6 (.bool aq) (by decide) rfl
      have c7 := ca 7 (.bool rl) (by decide) rfl
      have d0 : wr.cell? ⟨g', j * 8, none⟩ = some (.int .i64 op) := cb 0 _ (by decide) rfl
      have d1 := cb 1 (.int .i64 rd) (by decide) rfl
      have d2 := cb 2 (.int .i64 a) (by decide) rfl
      have d3 := cb 3 (.int .i64 b) (by decide) rfl
      have d4 := cb 4 (.int .i64 imm) (by decide) rfl
      have d5 := cb 5 (.int .i64 csr) (by decide) rfl
      have d6 := cb 6 (.bool aq) (by decide) rfl
      have d7 := cb 7 (.bool rl) (by decide) rfl
      clear ca cb
      go_wp2_with fail
      go_quiet (fail)
      go_wp2
      case roundEnd => exact ⟨⟨j + 1, by omega, by go_num, below_drewN HB.out _⟩, by simp [RowKit.intOf]; omega⟩
    · obtain rfl : j = L.length := by omega
      go_wp2
      go_ret
      exact ⟨rfl, HB.out⟩

theorem asmLis_walk (rd n : Int) (w : World) (w0 : In63 rd) (w1 : In63 n) (he : Env w) :
    Calls Tryz.prog 5 #[.int .i64 rd, .int .i64 n] w fun e w' => e = .returned (.bool true) ∧ Below w.heap.size w w' := by
  have HE := Lib.hid he
  by_cases hr : 0 ≤ rd ∧ rd ≤ 31
  · have n0 : -9223372036854775808 ≤ n := by obtain ⟨a, b⟩ := w1; omega
    have n1 : n ≤ 9223372036854775807 := by obtain ⟨a, b⟩ := w1; omega
    have hl := liF_len rd 4 n
    have hne := liF_ne rd n
    have HA := Lib.hid (fun w he => li_any rd n hr n0 n1 w he)
    have HB := Lib.hid (fun w => refLi_any rd n hr n0 n1 w)
    clear he n0 n1 hr w0 w1
    generalize liF rd 4 n = L at *
    go_enter Tryz.func5, Tryz.ntmps5
    go_wp2_with (fail)
    (with_reducible refine (HA.out _ HE.out).mono ?_)
    rintro e wa ⟨v, rfl, ho, hb⟩
    obtain ⟨g, C, rfl, hat⟩ := insAt_own ho hne
    go_wp2_with (fail)
    (with_reducible refine (HB.out _).mono ?_)
    rintro e wb ⟨v, rfl, ho2, hb2⟩
    obtain ⟨g', C', rfl, hat2⟩ := insAt_own ho2 hne
    have HS := Lib.hid (sameI_any L (by omega) wb g g' C C' (insAt_below hat hb2) hat2)
    have HBB := Lib.hid (hb.trans (hb2.mono hb.size))
    clear ho ho2 hat hat2 hb hb2
    go_wp2_with (first
      | (go_at_call 15; (with_reducible refine HS.out.mono ?_); rintro e w5 ⟨rfl, hb5⟩; have HB5 := Lib.hid (HBB.out.trans (hb5.mono HBB.out.size)); clear hb5)
      | (go_at_call 12; (with_reducible refine (wakes10 _ (HE.out.below HB5.out)).mono ?_); rintro e w6 ⟨rfl, hb6⟩; have HB6 := Lib.hid (HB5.out.trans (hb6.mono HB5.out.size)); clear hb6))
    go_ret
    exact ⟨rfl, HB6.out⟩
  · have HA := Lib.hid (fun w => li_none rd n hr w)
    have HB := Lib.hid (fun w => rli_none rd n hr w)
    clear he hr w0 w1
    go_enter Tryz.func5, Tryz.ntmps5
    go_wp2_with (first
      | (go_at_call 16; (with_reducible refine (HA.out _).mono ?_); rintro e w1 ⟨rfl, rfl⟩)
      | (go_at_call 17; (with_reducible refine (HB.out _).mono ?_); rintro e w1 ⟨rfl, rfl⟩)
      | (go_at_call 15; (with_reducible refine (sameI_nil _).mono ?_); rintro e w5 ⟨rfl, rfl⟩)
      | (go_at_call 12; (with_reducible refine (wakes10 _ HE.out).mono ?_); rintro e w6 ⟨rfl, hb6⟩; have HB6 := Lib.hid hb6; clear hb6))
    go_ret
    exact ⟨rfl, HB6.out⟩

end Go.Proofs.YtakdhdaoklcidaaGreatDoor

namespace Go.Proofs.YtakdhdaoklcidaaGreatDoor
open Go.ChangeShapes Go.WideShapes Go.ChangeAt Go.RowKit
set_option linter.unusedVariables false
set_option maxRecDepth 100000

/-- The listed variables. -/
abbrev laidT : List (String × DataW Unit) := Rows.asmPrintsRow.laid
theorem gForms : Tryz.prog.globalNamed "mezzanine/decode.forms" = some 0 := by kernel_rfl
theorem tForms : (Tryz.prog.globals[0]?).map (·.type) = some 97 := by kernel_rfl
theorem start_met (os : Os) (args : Array Value) : laidMetH Tryz.prog laidT ((World.laidAll Tryz.prog os laidT).forCall (fun _ _ => 0) ⟨#[], args, []⟩).memory := by
  rw [MakeChecks.laidMetH_plain _ _ _ (by kernel_rfl)]
  exact laidMet_laidAll _ (by kernel_rfl) (by kernel_rfl)
section
variable {H : Type} {enc : TypeId × Value → H} {w : World} {base : Nat} {spare : Nat → Bool} {held : Bool}
theorem form_cells {n : Nat} {cs : List Value} {x : DataW H × List MemPlace} {m i : Int} {p q r s u : Bool}
    (h : DataW.trod enc Tryz.prog w base spare held n 96 cs = some x) (hx : x.1 = .agg [.lit (.int .u32 m), .lit (.bool p), .lit (.bool q), .lit (.bool r), .lit (.int .i64 i), .lit (.bool s), .lit (.bool u)]) :
    cs = [.int .u32 m, .bool p, .bool q, .bool r, .int .i64 i, .bool s, .bool u] := by
  obtain ⟨xs, m, _, rfl, hl, hlen, hf⟩ := DataW.trod_struct Tryz.underlying96 h
  have hC : Tryz.prog.cellsOf 96 = 7 := by kernel_rfl
  rw [hC] at hl
  match cs, hl with
  | [v0, v1, v2, v3, v4, v5, v6], _ =>
    have t0 := hf 0 _ rfl
    have t1 := hf 1 _ rfl
    have t2 := hf 2 _ rfl
    have t3 := hf 3 _ rfl
    have t4 := hf 4 _ rfl
    have t5 := hf 5 _ rfl
    have t6 := hf 6 _ rfl
    match xs, hlen with
    | [x0, x1, x2, x3, x4, x5, x6], _ =>
      obtain ⟨n0, e0, y0, _⟩ := DataW.trod_int Tryz.underlying43 (show DataW.trod enc Tryz.prog w base spare held m 43 [v0] = some x0 from t0)
      obtain ⟨n1, e1, y1⟩ := DataW.trod_bool Tryz.underlying4 (show DataW.trod enc Tryz.prog w base spare held m 4 [v1] = some x1 from t1)
      obtain ⟨n2, e2, y2⟩ := DataW.trod_bool Tryz.underlying4 (show DataW.trod enc Tryz.prog w base spare held m 4 [v2] = some x2 from t2)
      obtain ⟨n3, e3, y3⟩ := DataW.trod_bool Tryz.underlying4 (show DataW.trod enc Tryz.prog w base spare held m 4 [v3] = some x3 from t3)
      obtain ⟨n4, e4, y4, _⟩ := DataW.trod_int Tryz.underlying3 (show DataW.trod enc Tryz.prog w base spare held m 3 [v4] = some x4 from t4)
      obtain ⟨n5, e5, y5⟩ := DataW.trod_bool Tryz.underlying4 (show DataW.trod enc Tryz.prog w base spare held m 4 [v5] = some x5 from t5)
      obtain ⟨n6, e6, y6⟩ := DataW.trod_bool Tryz.underlying4 (show DataW.trod enc Tryz.prog w base spare held m 4 [v6] = some x6 from t6)
      simp only [List.cons.injEq, and_true] at e0 e1 e2 e3 e4 e5 e6
      subst e0 e1 e2 e3 e4 e5 e6 y0 y1 y2 y3 y4 y5 y6
      simp at hx
      obtain ⟨rfl, rfl, rfl, rfl, rfl, rfl, rfl⟩ := hx
      rfl
end
theorem list105 {l r0 r1 r2 r3 r4 r5 r6 r7 r8 r9 r10 r11 r12 r13 r14 : List Value} (hl : l.length = 105) (h0 : (l.drop 0).take 7 = r0) (h1 : (l.drop 7).take 7 = r1) (h2 : (l.drop 14).take 7 = r2) (h3 : (l.drop 21).take 7 = r3) (h4 : (l.drop 28).take 7 = r4) (h5 : (l.drop 35).take 7 = r5) (h6 : (l.drop 42).take 7 = r6) (h7 : (l.drop 49).take 7 = r7) (h8 : (l.drop 56).take 7 = r8) (h9 : (l.drop 63).take 7 = r9) (h10 : (l.drop 70).take 7 = r10) (h11 : (l.drop 77).take 7 = r11) (h12 : (l.drop 84).take 7 = r12) (h13 : (l.drop 91).take 7 = r13) (h14 : (l.drop 98).take 7 = r14) : l = r0 ++ (r1 ++ (r2 ++ (r3 ++ (r4 ++ (r5 ++ (r6 ++ (r7 ++ (r8 ++ (r9 ++ (r10 ++ (r11 ++ (r12 ++ (r13 ++ (r14 ++ [])))))))))))))) := by
  have s : ∀ n, l.drop n = (l.drop n).take 7 ++ l.drop (n + 7) := fun n => by rw [← List.drop_drop, List.take_append_drop]
  have z : l.drop 105 = [] := List.drop_eq_nil_of_le (by omega)
  subst h0 h1 h2 h3 h4 h5 h6 h7 h8 h9 h10 h11 h12 h13 h14
  have e0 : l = l.drop 0 := rfl
  have s0 := s 0
  have s7 := s 7
  have s14 := s 14
  have s21 := s 21
  have s28 := s 28
  have s35 := s 35
  have s42 := s 42
  have s49 := s 49
  have s56 := s 56
  have s63 := s 63
  have s70 := s 70
  have s77 := s 77
  have s84 := s 84
  have s91 := s 91
  have s98 := s 98
  rw [s98, z] at s91
  rw [s91] at s84
  rw [s84] at s77
  rw [s77] at s70
  rw [s70] at s63
  rw [s63] at s56
  rw [s56] at s49
  rw [s49] at s42
  rw [s42] at s35
  rw [s35] at s28
  rw [s28] at s21
  rw [s21] at s14
  rw [s14] at s7
  rw [s7] at s0
  exact s0
/-- What the condition gives. -/
theorem tab_of_forms {W : World} {r : List (String × DataW Unit)} (h : laidMet Tryz.prog (("mezzanine/decode.forms", Rows.laid_mezzanine_decode_forms) :: r) W) : Tab W := by
  obtain ⟨ps, ⟨g0, t0, cs0, f0, p0, q0, hg0, ht0, hv0, hd0, _⟩, _, _⟩ := h
  obtain rfl := Option.some.inj (gForms.symm.trans hg0)
  obtain rfl := Option.some.inj (tForms.symm.trans ht0)
  obtain ⟨xs, m, _, hx, hl, hn, hel⟩ := DataW.trod_array Tryz.underlying97 hd0
  have c68 : Tryz.prog.cellsOf 96 = 7 := by kernel_rfl
  have c69 : Tryz.prog.cellsOf 97 = 105 := by kernel_rfl
  rw [c69] at hl
  rw [c68] at hel
  simp only [Prod.mk.injEq] at hx
  match xs, hn with
  | [x0, x1, x2, x3, x4, x5, x6, x7, x8, x9, x10, x11, x12, x13, x14], _ =>
    have hx1 := hx.1
    unfold Rows.laid_mezzanine_decode_forms at hx1
    simp only [List.map_cons, List.map_nil, DataW.agg.injEq, List.cons.injEq] at hx1
    obtain ⟨e0, e1, e2, e3, e4, e5, e6, e7, e8, e9, e10, e11, e12, e13, e14, _⟩ := hx1
    have k0 := form_cells (hel 0 (by decide)) e0.symm
    have k1 := form_cells (hel 1 (by decide)) e1.symm
    have k2 := form_cells (hel 2 (by decide)) e2.symm
    have k3 := form_cells (hel 3 (by decide)) e3.symm
    have k4 := form_cells (hel 4 (by decide)) e4.symm
    have k5 := form_cells (hel 5 (by decide)) e5.symm
    have k6 := form_cells (hel 6 (by decide)) e6.symm
    have k7 := form_cells (hel 7 (by decide)) e7.symm
    have k8 := form_cells (hel 8 (by decide)) e8.symm
    have k9 := form_cells (hel 9 (by decide)) e9.symm
    have k10 := form_cells (hel 10 (by decide)) e10.symm
    have k11 := form_cells (hel 11 (by decide)) e11.symm
    have k12 := form_cells (hel 12 (by decide)) e12.symm
    have k13 := form_cells (hel 13 (by decide)) e13.symm
    have k14 := form_cells (hel 14 (by decide)) e14.symm
    have hcs := list105 hl k0 k1 k2 k3 k4 k5 k6 k7 k8 k9 k10 k11 k12 k13 k14
    simp only [World.var?, gForms, Option.bind_some] at hv0
    split at hv0
    · rename_i c t fr hb
      have hc := Option.some.inj hv0
      have hq : cs0 = formsQ := Array.ext' (by rw [hcs]; rfl)
      exact ⟨t, fr, by rw [hb, hc, hq]⟩
    · cases hv0

theorem returnsInHanded_and_shaped {H : Type} {enc : TypeId × Value → H} {a : Assume} {C : Checked} {os : Os} {f : FuncId} {fn : Func} {s : ChangeSpec} {conds : List PathCond} {apart fresh handsOn again : Bool} {X : World → Array Value → Prop}
    (hX : ∀ (w w' : World) (args : Array Value), w.heap = w'.heap → X w args → X w' args)
    (own : ownKnob C.prog.godebug = none) (started : os.Started) (noInit : C.prog.inits.idxOf? f = none) (hfn : C.prog.funcs[f]? = some fn)
    (witness : ∃ (w : World) (tape : Tape) (i : Input), w.os = os ∧ (w.forCall tape i).Shaped C.prog ∧ i.vars = [] ∧ Input.okWide C.prog (w.forCall tape i) .any w.heap.size f i ∧
      ((s.pre enc C.prog fn conds apart (w.forCall tape i).memory i.args ∧ X (w.forCall tape i).memory i.args) ∧ sizedMet enc C.prog fn (OpenSpec.ofChange s) apart (w.forCall tape i).memory i.args) ∧ a.holds C.prog (lone (Frame.enter C.prog f i.args .normal) [] (w.forCall tape i)))
    (contract : ∀ (W : World) (base : Nat) (args : Array Value) (ds gs : List (DataW H)) (before : List MemPlace),
      (∀ (j : Nat) t v, fn.params[j]? = some t → args[j]? = some v → Value.okWide C.prog W .any base t v) →
      DataW.Whole enc C.prog fn.params.toList s.vars apart W args.toList ds gs before → X W args → W.ShapedOpen C.prog →
      Calls C.prog f args W fun e W' => ∃ v, e = .returned v ∧ s.post enc C.prog fn apart fresh handsOn again W args v W') :
    ReturnsInHanded a C os f .any (fun w args => (s.pre enc C.prog fn conds apart w args ∧ X w args) ∧ sizedMet enc C.prog fn (OpenSpec.ofChange s) apart w args) (s.post enc C.prog fn apart fresh handsOn again) := by
  refine returnsInHanded_of_calls own started noInit witness ?_
  intro w tape i _ hsh _ hok hpre hholds
  obtain ⟨_, _, _, fn', hfn', _, _, _, _, hval⟩ := hok
  have e : fn' = fn := Option.some.inj (hfn'.symm.trans hfn)
  subst e
  obtain ⟨⟨⟨ds, gs, before, hw, hc⟩, hx⟩, hz⟩ := hpre
  have hw' := DataW.Whole.of_heap (w' := w.forCall tape i) (by rfl) hw
  refine (contract (w.forCall tape i) w.heap.size i.args ds gs before hval hw' (hX _ _ _ (by rfl) hx) hsh).mono fun e W' ⟨v, he, hp⟩ => ?_
  subst he
  exact ChangeSpec.post_blind hp
theorem mlen_of_shaped {w : World} (h : w.ShapedOpen Tryz.prog) : ∃ m, w.cell? ⟨2, 0, none⟩ = some (.int .i64 m) :=
  cell_of_shapedOpen_int (g := 2) (t := 3) (zero := #[.int .i64 0]) h (of_decide_eq_true (by kernel_rfl)) (by kernel_rfl) rfl (by kernel_rfl) (by kernel_rfl) Tryz.underlying3
def bruTab : List Int := [0, 1, 56, 2, 57, 49, 28, 3, 61, 58, 42, 50, 38, 29, 17, 4, 62, 47, 59, 36, 45, 43, 51, 22, 53, 39, 33, 30, 24, 18, 12, 5, 63, 55, 48, 27, 60, 41, 37, 16, 46, 35, 44, 21, 52, 32, 23, 11, 54, 26, 40, 15, 34, 20, 31, 10, 25, 14, 19, 9, 13, 8, 7, 6]
theorem bru_same : ∀ j, j < 64 → bruTab.getD j 0 = (([0, 1, 56, 2, 57, 49, 28, 3, 61, 58, 42, 50, 38, 29, 17, 4, 62, 47, 59, 36, 45, 43, 51, 22, 53, 39, 33, 30, 24, 18, 12, 5, 63, 55, 48, 27, 60, 41, 37, 16, 46, 35, 44, 21, 52, 32, 23, 11, 54, 26, 40, 15, 34, 20, 31, 10, 25, 14, 19, 9, 13, 8, 7, 6] : List Nat).getD j 0 : Nat) := by decide
theorem gBru : Tryz.prog.globalNamed "math/bits.deBruijn64tab" = some 1 := by kernel_rfl
theorem gSyn : Tryz.prog.globalNamed "strconv.ErrSyntax" = some 4 := by kernel_rfl
theorem gRan : Tryz.prog.globalNamed "strconv.ErrRange" = some 5 := by kernel_rfl
theorem iface_of_laid {n nm : String} {d : DataW Unit} {r : List (String × DataW Unit)} {W : World} {g : Nat} {ti : TypeId} {ms : Array (String × TypeId)} (h : laidMet Tryz.prog ((n, .iface nm d) :: r) W)
    (hg : Tryz.prog.globalNamed n = some g) (ht : (Tryz.prog.globals[g]?).map (·.type) = some ti) (hi : Tryz.prog.underlying ti = some (.interface ms)) : ∃ tp p, W.cell? ⟨g, 0, none⟩ = some (.iface tp p) := by
  obtain ⟨ps, ⟨g0, t0, cs0, f0, p0, q0, hg0, ht0, hv0, hd0, _, e0⟩, _, hrows⟩ := h
  obtain rfl := Option.some.inj (hg.symm.trans hg0)
  obtain rfl := Option.some.inj (ht.symm.trans ht0)
  obtain ⟨f1, u, v, e, _, _⟩ := iface_of_trod hi hd0
  have hc := World.var?_cell hg hv0 0
  obtain ⟨l⟩ := cs0
  have e' : l = [.iface u v] := e
  subst e'
  exact ⟨u, v, by simpa using hc⟩
/-- What the condition and the world's shape give. -/
theorem env_of_laid {W : World} (h : laidMetH Tryz.prog laidT W) (hs : W.ShapedOpen Tryz.prog) : Env W := by
  rw [MakeChecks.laidMetH_plain _ _ _ (by kernel_rfl)] at h
  have h1 := h.tail
  have h2 := h1.tail
  have h3 := h2.tail
  have h4 := h3.tail
  have h5 := h4.tail
  have h6 := h5.tail
  have hb : Lib.TabIs Tryz.prog W "math/bits.deBruijn64tab" .u8 bruTab := Lib.tabIs_of_head (n := 64) gBru (t := 125) (e := 5) (by kernel_rfl) Tryz.underlying125 Tryz.underlying5 (by kernel_rfl) (by kernel_rfl) h1
  exact ⟨tab_of_forms h6, Lib.tabIs_of_head (n := 20) gPow (t := 189) (e := 36) (by kernel_rfl) Tryz.underlying189 Tryz.underlying36 (by kernel_rfl) (by kernel_rfl) h2,
    fun j hj => ⟨_, by rw [hb.cell gBru j (by simpa [bruTab] using hj), bru_same j hj], rfl⟩,
    iface_of_laid h5 gSyn (by kernel_rfl) Tryz.underlying105, iface_of_laid h4 gRan (by kernel_rfl) Tryz.underlying105, mlen_of_shaped hs⟩

end Go.Proofs.YtakdhdaoklcidaaGreatDoor
