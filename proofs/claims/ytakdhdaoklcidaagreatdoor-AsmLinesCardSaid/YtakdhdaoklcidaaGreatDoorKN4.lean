/- Joined: AsP AsQ AsR ShC AsS AsT AsT2 AsU AsV AsW AsX AsY AsZ AsLn AsLo AsActs AsLa LawAsmLines -/
import Derived.Test.YtakdhdaoklcidaaGreatDoorKN3
import Derived.Test.YtakdhdaoklcidaaGreatDoorRows
import Derived.Shelf.Strings.Split
import Derived.Shelf.Strings.SlTrimAscii
import Derived.Maps.OwnSet
import Derived.StringKeys
import Derived.Laws.OwnMore
import Derived.Laws.BytesArg
import Derived.Deep.Slices
import Derived.Deep.Fields
import Derived.ChangeSame
import Derived.WalkKit
import Derived.ProofKit
import Derived.Below
import Derived.Laws.Tables
import Derived.Laws.IdiomStrings
import Derived.Deep.QuietTactic
import Derived.BigQuiet
namespace Go.Proofs.YtakdhdaoklcidaaGreatDoor
open Go.RowKit Go.Lib
set_option linter.unusedVariables false
set_option maxRecDepth 100000

set_option maxHeartbeats 1000000 in
theorem aimOfJump_any (head : Bs) (hl : head.length ≤ 100000) (w : World) (he : Env w) : Calls Tryz.prog 138 #[str head] w (JaEnd w (jumpB head) (jumpI head)) := by
  have hN : Calls Tryz.prog 29 #[.int .i64 0] w fun e w' => e = .returned (str [48]) ∧ Below w.heap.size w w' := by
    have h := numberText_any 0 (by decide) (by decide) w he
    rw [show itoa 0 = [48] by decide +kernel] at h; exact h
  have hP : ∀ w, Env w → Calls Tryz.prog 13 #[.string (((⟨head.toArray⟩ : ByteArray) ++ ⟨#[44, 32]⟩) ++ ⟨[48].toArray⟩)] w fun e w' => e = .returned (.tuple #[insV (jumpI head), .int .i64 (parseE (head ++ [44, 32, 48]))]) ∧ Below w.heap.size w w' := fun w he => by
    have h := parseP (head ++ [44, 32, 48]) (by simp; omega) w he
    have e : (((⟨head.toArray⟩ : ByteArray) ++ ⟨#[44, 32]⟩) ++ ⟨[48].toArray⟩) = ⟨(head ++ [44, 32, 48]).toArray⟩ := by
      have e1 := str_cat head [44, 32]
      have e2 := str_cat (head ++ [44, 32]) [48]
      injection e1 with e1
      injection e2 with e2
      rw [show (⟨#[44, 32]⟩ : ByteArray) = ⟨[44, 32].toArray⟩ from rfl, e1, e2]
      simp
    rw [e]; exact h
  have hq : jumpB head = (parseB (head ++ [44, 32, 48]) && jumpsZ (jumpI head).op) := rfl
  have hee : parseE (head ++ [44, 32, 48]) = if parseB (head ++ [44, 32, 48]) then 0 else 100 := rfl
  rw [hee] at hP
  rw [hq]
  clear hq hee
  have HN := Lib.hid hN
  have HE := Lib.hid he
  clear hN he
  generalize parseB (head ++ [44, 32, 48]) = pb at *
  generalize jumpI head = I at *
  cases pb with
  | false =>
    have hP2 : ∀ w, Env w → Calls Tryz.prog 13 #[.string (((⟨head.toArray⟩ : ByteArray) ++ ⟨#[44, 32]⟩) ++ ⟨[48].toArray⟩)] w fun e w' => e = .returned (.tuple #[insV I, .int .i64 100]) ∧ Below w.heap.size w w' := hP
    have HP := Lib.hid hP2
    clear hP hP2
    obtain ⟨op, rd, a, b, imm, csr, aq, rl⟩ := I
    go_enter Tryz.func138, Tryz.ntmps138
    go_wp2_with (fail)
    (with_reducible refine HN.out.mono ?_)
    rintro e w1 ⟨rfl, hb1⟩
    have HB1 := Lib.hid hb1
    clear hb1
    go_wp2_with (fail)
    (with_reducible refine (HP.out _ (HE.out.below HB1.out)).mono ?_)
    rintro e w2 ⟨rfl, hb2⟩
    have HB2 := Lib.hid (HB1.out.trans (hb2.mono HB1.out.size))
    clear hb2
    go_wp2
    go_ret2
    exact ⟨(fun h => by cases h), fun _ => rfl, HB2.out.alloc HB2.out.size _⟩
  | true =>
    have hP2 : ∀ w, Env w → Calls Tryz.prog 13 #[.string (((⟨head.toArray⟩ : ByteArray) ++ ⟨#[44, 32]⟩) ++ ⟨[48].toArray⟩)] w fun e w' => e = .returned (.tuple #[insV I, .int .i64 0]) ∧ Below w.heap.size w w' := hP
    have HP := Lib.hid hP2
    clear hP hP2
    rw [Bool.true_and]
    obtain ⟨op, rd, a, b, imm, csr, aq, rl⟩ := I
    have hj : ∀ w, Calls Tryz.prog 158 #[.int .i64 op] w fun e w' => e = .returned (.bool (jumpsZ op)) ∧ w = w' := fun w => by
      cases h : jumpsZ op
      · exact jumps_no op h w
      · exact jumps_yes op h w
    have HJ := Lib.hid hj
    clear hj
    show Calls _ _ _ _ (JaEnd w (jumpsZ op) _)
    generalize jumpsZ op = jz at *
    go_enter Tryz.func138, Tryz.ntmps138
    go_wp2_with (fail)
    (with_reducible refine HN.out.mono ?_)
    rintro e w1 ⟨rfl, hb1⟩
    have HB1 := Lib.hid hb1
    clear hb1
    go_wp2_with (fail)
    (with_reducible refine (HP.out _ (HE.out.below HB1.out)).mono ?_)
    rintro e w2 ⟨rfl, hb2⟩
    have HB2 := Lib.hid (HB1.out.trans (hb2.mono HB1.out.size))
    clear hb2
    cases jz
    · go_wp2_with (fail)
      (with_reducible refine (HJ.out _).mono ?_)
      rintro e wu ⟨rfl, rfl⟩
      go_wp2
      go_ret2
      exact ⟨(fun h => by cases h), fun _ => rfl, HB2.out.alloc HB2.out.size _⟩
    · go_wp2_with (fail)
      (with_reducible refine (HJ.out _).mono ?_)
      rintro e wu ⟨rfl, rfl⟩
      go_wp2
      go_ret2
      exact ⟨fun _ => ⟨w2.heap.size, rfl, HB2.out.size, imm, heap_alloc_new _ _⟩, (fun h => by cases h), HB2.out.alloc HB2.out.size _⟩

/-- What a line says. -/
inductive Stm
  | none
  | label (l : Bs)
  | words (ws : List Int)
  | la (rd : Int) (l : Bs)
  | jump (i : Ins) (l : Bs)
/-- What a line says that names a label. -/
def namingS (head name : Bs) : Option Stm :=
  if nameOK name then
    if laB head then (if (laL (laRd head) 0).all rightB then some (.la (laRd head) name) else none)
    else if jumpB head then (if rightB (withImm (jumpI head) 0) then some (.jump (jumpI head) name) else none)
    else none
  else none
/-- Words stand somewhere from block B on. -/
def WordsAt (w : World) (B : Nat) (v : Value) (ws : List Int) : Prop := OwnW w B v ws
/-- How a line stands in four cells. -/
def StmV (w : World) (B : Nat) (s : Stm) (c0 c1 c2 c3 : Value) : Prop :=
  match s with
  | .none => c0 = str [] ∧ c1 = .slice none 0 0 ∧ c2 = str [] ∧ c3 = .nilFunc
  | .label l => c0 = str l ∧ c1 = .slice none 0 0 ∧ c2 = str [] ∧ c3 = .nilFunc
  | .words ws => c0 = str [] ∧ OwnW w B c1 ws ∧ c2 = str [] ∧ c3 = .nilFunc
  | .la rd l => c0 = str [] ∧ (∃ ws, ws.length = 2 ∧ OwnW w B c1 ws) ∧ c2 = str l ∧ ∃ b, c3 = .func (.func 157) #[] #[.pointer (some ⟨b, 0, none⟩)] ∧ B ≤ b ∧ w.heap[b]? = some (.cells #[.int .i64 rd] 3 (0, 0))
  | .jump i l => c0 = str [] ∧ (∃ ws, ws.length = 1 ∧ OwnW w B c1 ws) ∧ c2 = str l ∧ ∃ b, c3 = .func (.func 159) #[] #[.pointer (some ⟨b, 0, none⟩)] ∧ B ≤ b ∧ HoldsI w b i
def StmVal (w : World) (B : Nat) (s : Stm) (v : Value) : Prop := ∃ c0 c1 c2 c3, v = .agg #[c0, c1, c2, c3] ∧ StmV w B s c0 c1 c2 c3
/-- Four cells, whatever they hold. -/
def Four (v : Value) : Prop := ∃ c0 c1 c2 c3, v = .agg #[c0, c1, c2, c3] ∧ c0.oneCell' = true ∧ c1.oneCell' = true ∧ c2.oneCell' = true ∧ c3.oneCell' = true
def NmEnd (w : World) (o : Option Stm) (e : Ending) (w' : World) : Prop :=
  (∀ s, o = some s → ∃ v, e = .returned (.tuple #[v, .bool true]) ∧ StmVal w' w.heap.size s v) ∧ (o = none → ∃ v, e = .returned (.tuple #[v, .bool false]) ∧ Four v) ∧ Below w.heap.size w w'
theorem stmV_four {w : World} {B : Nat} {s : Stm} {c0 c1 c2 c3 : Value} (h : StmV w B s c0 c1 c2 c3) : c0.oneCell' = true ∧ c1.oneCell' = true ∧ c2.oneCell' = true ∧ c3.oneCell' = true := by
  cases s with
  | none => obtain ⟨rfl, rfl, rfl, rfl⟩ := h; exact ⟨rfl, rfl, rfl, rfl⟩
  | label l => obtain ⟨rfl, rfl, rfl, rfl⟩ := h; exact ⟨rfl, rfl, rfl, rfl⟩
  | words ws =>
    obtain ⟨rfl, h1, rfl, rfl⟩ := h
    obtain ⟨A, C, rfl⟩ := ownW_slice h1
    exact ⟨rfl, rfl, rfl, rfl⟩
  | la rd l =>
    obtain ⟨rfl, ⟨ws, _, h1⟩, rfl, b, rfl, _⟩ := h
    obtain ⟨A, C, rfl⟩ := ownW_slice h1
    exact ⟨rfl, rfl, rfl, rfl⟩
  | jump i l =>
    obtain ⟨rfl, ⟨ws, _, h1⟩, rfl, b, rfl, _⟩ := h
    obtain ⟨A, C, rfl⟩ := ownW_slice h1
    exact ⟨rfl, rfl, rfl, rfl⟩

end Go.Proofs.YtakdhdaoklcidaaGreatDoor

namespace Go.Proofs.YtakdhdaoklcidaaGreatDoor
open Go.RowKit Go.Lib
set_option linter.unusedVariables false
set_option maxRecDepth 100000

theorem size_stm : (Tryz.prog.info? 129).map (·.size) = some 4 := by kernel_rfl
theorem laW_0 (rd : Int) : laW rd 0 = if (laL rd 0).all rightB then some ((laL rd 0).map encW) else none := by unfold laW; rw [if_neg (by decide)]
theorem stmV_row {w w' : World} {B g : Nat} {s : Stm} {c0 c1 c2 c3 : Value} (h : StmV w B s c0 c1 c2 c3) (hg : g < B) {S : Nat → Prop} (o : Only S w w') (hS : ∀ k, B ≤ k → k < w.heap.size → ¬ S k) : StmV w' B s c0 c1 c2 c3 := by
  cases s with
  | none => exact h
  | label l => exact h
  | words ws => exact ⟨h.1, ownW_keep h.2.1 o (fun k hk => hS k (ownW_lt h.2.1 k hk).1 (ownW_lt h.2.1 k hk).2), h.2.2⟩
  | la rd l =>
    obtain ⟨h0, ⟨ws, hl, h1⟩, h2, b, h3, h4, h5⟩ := h
    exact ⟨h0, ⟨ws, hl, ownW_keep h1 o (fun k hk => hS k (ownW_lt h1 k hk).1 (ownW_lt h1 k hk).2)⟩, h2, b, h3, h4, o.keeps (hS b h4 (Array.getElem?_eq_some_iff.1 h5).1) h5⟩
  | jump i l =>
    obtain ⟨h0, ⟨ws, hl, h1⟩, h2, b, h3, h4, m, h5⟩ := h
    exact ⟨h0, ⟨ws, hl, ownW_keep h1 o (fun k hk => hS k (ownW_lt h1 k hk).1 (ownW_lt h1 k hk).2)⟩, h2, b, h3, h4, m, o.keeps (hS b h4 (Array.getElem?_eq_some_iff.1 h5).1) h5⟩
theorem stmV_base {w : World} {B B' : Nat} {s : Stm} {c0 c1 c2 c3 : Value} (h : StmV w B s c0 c1 c2 c3) (hB : B' ≤ B) : StmV w B' s c0 c1 c2 c3 := by
  cases s with
  | none => exact h
  | label l => exact h
  | words ws => exact ⟨h.1, ownW_base h.2.1 hB, h.2.2⟩
  | la rd l =>
    obtain ⟨h0, ⟨ws, hl, h1⟩, h2, b, h3, h4, h5⟩ := h
    exact ⟨h0, ⟨ws, hl, ownW_base h1 hB⟩, h2, b, h3, by omega, h5⟩
  | jump i l =>
    obtain ⟨h0, ⟨ws, hl, h1⟩, h2, b, h3, h4, m, h5⟩ := h
    exact ⟨h0, ⟨ws, hl, ownW_base h1 hB⟩, h2, b, h3, by omega, m, h5⟩
theorem setRow_only (w : World) (g : Nat) (cs : Array Value) : Only (fun k => k = g) w (w.setRow g cs) := (Only.refl (fun k => k = g) w).setRow (.inl rfl) cs

set_option maxHeartbeats 4000000 in
theorem readNaming_any (head name : Bs) (hl : head.length ≤ 100000) (w : World) (he : Env w) : Calls Tryz.prog 107 #[str head, str name] w (NmEnd w (namingS head name)) := by
  have HNM := Lib.hid (fun w => isNameP name w)
  have HLA := Lib.hid (fun w he => aimOfLa_any head (by omega) w he)
  have HJA := Lib.hid (fun w he => aimOfJump_any head (by omega) w he)
  have hS : namingS head name = if nameOK name then
    if laB head then (if (laL (laRd head) 0).all rightB then some (.la (laRd head) name) else none)
    else if jumpB head then (if rightB (withImm (jumpI head) 0) then some (.jump (jumpI head) name) else none)
    else none
  else none := rfl
  have HS := Lib.hid hS
  have HE := Lib.hid he
  clear hS he hl
  generalize namingS head name = o at *
  generalize nameOK name = q1 at *
  generalize laB head = q2 at *
  generalize jumpB head = q3 at *
  generalize laRd head = rd at *
  generalize jumpI head = I at *
  go_enter Tryz.func107, Tryz.ntmps107
  go_wp2_with (fail)
  (with_reducible refine (HNM.out _).mono ?_)
  rintro e w1 ⟨rfl, hb1⟩
  have HR : Hid (w1.heap[w.heap.size]? = some (.cells #[.string ⟨#[]⟩, .slice none 0 0, .string ⟨#[]⟩, .nilFunc] 129 (0, 0))) := Lib.hid ((hb1.block _ (by simp)).trans (heap_alloc_new _ _))
  have HB1 := Lib.hid (((Below.refl _ _).alloc (Nat.le_refl _) (.cells #[.string ⟨#[]⟩, .slice none 0 0, .string ⟨#[]⟩, .nilFunc] 129)).trans (hb1.mono (by simp)))
  have HZ1 : Hid (w.heap.size < w1.heap.size) := Lib.hid (by have := hb1.size; simp at this; omega)
  clear hb1
  cases q1 with
  | false =>
    have hO : o = none := HS.out
    subst hO
    go_wp2_with (refine wpList_store_row rfl _ _ _ rfl w.heap.size _ rfl rfl 129 _ HR.out size_stm rfl (by simp [Value.oneCell']) ?_)
    exact bodyPost_ret (v := .tuple #[.agg #[.string ⟨#[]⟩, .slice none 0 0, .string ⟨#[]⟩, .nilFunc], .bool false]) (results_cell_tmp (show Tryz.f107.results = #[.cell 4 129, .tmp 5] by kernel_rfl) _ _ w.heap.size 129 _ _ _ rfl (setRow_heap _ _ _ _ _ _ HR.out) Tryz.underlying129 rfl size_stm) rfl ⟨(fun s h => by cases h), fun _ => ⟨_, rfl, _, _, _, _, rfl, rfl, rfl, rfl, rfl⟩, below_setRow HB1.out (Nat.le_refl _) _⟩
  | true =>
    go_wp2_with (fail)
    (with_reducible refine (HLA.out _ (HE.out.below HB1.out)).mono ?_)
    rintro e w2 ⟨hy, hno, hb2⟩
    have HR2 : Hid (w2.heap[w.heap.size]? = some (.cells #[.string ⟨#[]⟩, .slice none 0 0, .string ⟨#[]⟩, .nilFunc] 129 (0, 0))) := Lib.hid ((hb2.block _ HZ1.out).trans HR.out)
    have HB2 := Lib.hid (HB1.out.trans (hb2.mono HB1.out.size))
    have HZ2 : Hid (w.heap.size < w2.heap.size) := Lib.hid (by have := hb2.size; have := HZ1.out; omega)
    clear hb2
    cases q2 with
    | true =>
      obtain ⟨b, rfl, hbb, hcb⟩ := hy rfl
      have HCB := Lib.hid hcb
      have HBB : Hid (w.heap.size < b) := Lib.hid (by have := HZ1.out; omega)
      have hc0 : w2.cell? ⟨b, 0, none⟩ = some (.int .i64 rd) := by rw [Lib.cell_of_heap hcb]; rfl
      have HLI := Lib.hid (la_in rd 0 b (by decide) (by decide) w2 (HE.out.below HB2.out) hc0)
      clear hy hno hbb hcb hc0
      go_wp2_with (fail)
      (with_reducible refine HLI.out.mono ?_)
      rintro e w3 h3
      rw [laW_0] at h3
      have hO : o = if (laL rd 0).all rightB then some (.la rd name) else none := HS.out
      clear HS HLI
      have hL2 : ((laL rd 0).map encW).length = 2 := rfl
      generalize (laL rd 0).map encW = ws at *
      cases hall : (laL rd 0).all rightB with
      | true =>
        rw [hall, if_pos rfl] at hO h3
        subst hO
        obtain ⟨v, rfl, how, hb3⟩ := h3
        obtain ⟨A, C, rfl⟩ := ownW_slice how
        have how2 : OwnW w3 w2.heap.size (.slice A 2 C) ws := by have := how; rw [show Value.slice A ws.length C = Value.slice A 2 C by rw [hL2]] at this; exact this
        rw [hL2]
        have HOW := Lib.hid how2
        have HL2 := Lib.hid hL2
        clear how2
        have HR : Hid (w3.heap[w.heap.size]? = some (.cells #[.string ⟨#[]⟩, .slice none 0 0, .string ⟨#[]⟩, .nilFunc] 129 (0, 0))) := Lib.hid ((hb3.block _ HZ2.out).trans HR2.out)
        have HB3 := Lib.hid (HB2.out.trans (hb3.mono HB2.out.size))
        have HCB3 := Lib.hid ((hb3.block _ (Array.getElem?_eq_some_iff.1 HCB.out).1).trans HCB.out)
        clear how hb3 hall hL2
        go_wp2_with (refine wpList_store_row rfl _ _ _ rfl w.heap.size _ rfl rfl 129 _ HR.out size_stm rfl (by simp [Value.oneCell']) ?_)
        have hst : StmV w3 (w.heap.size + 1) (.la rd name) (str []) (.slice A 2 C) (str name) (.func (.func 157) #[] #[.pointer (some ⟨b, 0, none⟩)]) := ⟨rfl, ⟨ws, HL2.out, ownW_base HOW.out (by have := HZ2.out; omega)⟩, rfl, b, rfl, HBB.out, HCB3.out⟩
        have hst2 := stmV_base (stmV_row hst (Nat.lt_succ_self _) (setRow_only w3 w.heap.size #[.string ⟨#[]⟩, .slice A 2 C, str name, .func (.func 157) #[] #[.pointer (some ⟨b, 0, none⟩)]]) (fun k h1 _ h2 => by omega)) (Nat.le_succ _)
        exact bodyPost_ret (v := .tuple #[.agg #[.string ⟨#[]⟩, .slice A 2 C, str name, .func (.func 157) #[] #[.pointer (some ⟨b, 0, none⟩)]], .bool true]) (results_cell_tmp (show Tryz.f107.results = #[.cell 4 129, .tmp 5] by kernel_rfl) _ _ w.heap.size 129 _ _ _ rfl (setRow_heap _ _ _ _ _ _ HR.out) Tryz.underlying129 rfl size_stm) rfl ⟨(fun s h => by cases h; exact ⟨_, rfl, _, _, _, _, rfl, hst2⟩), (fun h => by cases h), below_setRow HB3.out (Nat.le_refl _) _⟩
      | false =>
        rw [hall, if_neg (by decide)] at hO h3
        subst hO
        obtain ⟨rfl, hb3⟩ := h3
        have HR : Hid (w3.heap[w.heap.size]? = some (.cells #[.string ⟨#[]⟩, .slice none 0 0, .string ⟨#[]⟩, .nilFunc] 129 (0, 0))) := Lib.hid ((hb3.block _ HZ2.out).trans HR2.out)
        have HB3 := Lib.hid (HB2.out.trans (hb3.mono HB2.out.size))
        clear hb3 hall
        go_wp2_with (refine wpList_store_row rfl _ _ _ rfl w.heap.size _ rfl rfl 129 _ HR.out size_stm rfl (by simp [Value.oneCell']) ?_)
        exact bodyPost_ret (v := .tuple #[.agg #[.string ⟨#[]⟩, .slice none 0 0, str name, .func (.func 157) #[] #[.pointer (some ⟨b, 0, none⟩)]], .bool false]) (results_cell_tmp (show Tryz.f107.results = #[.cell 4 129, .tmp 5] by kernel_rfl) _ _ w.heap.size 129 _ _ _ rfl (setRow_heap _ _ _ _ _ _ HR.out) Tryz.underlying129 rfl size_stm) rfl ⟨(fun s h => by cases h), fun _ => ⟨_, rfl, _, _, _, _, rfl, rfl, rfl, rfl, rfl⟩, below_setRow HB3.out (Nat.le_refl _) _⟩
    | false =>
      obtain rfl := hno rfl
      clear hy hno
      go_wp2_with (fail)
      (with_reducible refine (HJA.out _ (HE.out.below HB2.out)).mono ?_)
      rintro e w3 ⟨hy, hno, hb3⟩
      have HR3 : Hid (w3.heap[w.heap.size]? = some (.cells #[.string ⟨#[]⟩, .slice none 0 0, .string ⟨#[]⟩, .nilFunc] 129 (0, 0))) := Lib.hid ((hb3.block _ HZ2.out).trans HR2.out)
      have HB3 := Lib.hid (HB2.out.trans (hb3.mono HB2.out.size))
      have HZ3 : Hid (w.heap.size < w3.heap.size) := Lib.hid (by have := hb3.size; have := HZ2.out; omega)
      clear hb3
      cases q3 with
      | false =>
        obtain rfl := hno rfl
        have hO : o = none := HS.out
        subst hO
        have HR : Hid (w3.heap[w.heap.size]? = some (.cells #[.string ⟨#[]⟩, .slice none 0 0, .string ⟨#[]⟩, .nilFunc] 129 (0, 0))) := HR3
        clear hy hno
        go_wp2_with (refine wpList_store_row rfl _ _ _ rfl w.heap.size _ rfl rfl 129 _ HR.out size_stm rfl (by simp [Value.oneCell']) ?_)
        exact bodyPost_ret (v := .tuple #[.agg #[.string ⟨#[]⟩, .slice none 0 0, .string ⟨#[]⟩, .nilFunc], .bool false]) (results_cell_tmp (show Tryz.f107.results = #[.cell 4 129, .tmp 5] by kernel_rfl) _ _ w.heap.size 129 _ _ _ rfl (setRow_heap _ _ _ _ _ _ HR.out) Tryz.underlying129 rfl size_stm) rfl ⟨(fun s h => by cases h), fun _ => ⟨_, rfl, _, _, _, _, rfl, rfl, rfl, rfl, rfl⟩, below_setRow HB3.out (Nat.le_refl _) _⟩
      | true =>
        obtain ⟨b, rfl, hbb, hcb⟩ := hy rfl
        have HBB : Hid (w.heap.size < b) := Lib.hid (by have := HZ2.out; omega)
        have HJM := Lib.hid (jump_any I 0 b w3 (fun w' ho => HE.out.below (Below.thenOnly HB3.out ho (by intro k hk; have := HBB.out; omega) HB3.out.size)) hcb)
        clear hy hno hbb hcb
        go_wp2_with (fail)
        (with_reducible refine HJM.out.mono ?_)
        rintro e w4 ⟨h4, h4n, hI, ho4⟩
        have hO : o = if rightB (withImm I 0) then some (.jump I name) else none := HS.out
        have HR : Hid (w4.heap[w.heap.size]? = some (.cells #[.string ⟨#[]⟩, .slice none 0 0, .string ⟨#[]⟩, .nilFunc] 129 (0, 0))) := Lib.hid (ho4.keeps (by have := HBB.out; omega) HR3.out)
        have HB4 : Hid (Below w.heap.size w w4) := Lib.hid (Below.thenOnly HB3.out ho4 (by intro k hk; have := HBB.out; omega) HB3.out.size)
        have HI := Lib.hid hI
        clear HS HJM ho4 hI
        cases hall : rightB (withImm I 0) with
        | true =>
          rw [hall, if_pos rfl] at hO
          subst hO
          obtain ⟨v, rfl, how⟩ := h4 hall
          generalize encW (withImm I 0) = W at *
          obtain ⟨A, C, rfl⟩ := ownW_slice how
          have HOW := Lib.hid how
          clear h4 h4n how hall
          go_wp2_with (refine wpList_store_row rfl _ _ _ rfl w.heap.size _ rfl rfl 129 _ HR.out size_stm rfl (by simp [Value.oneCell']) ?_)
          have hst : StmV w4 (w.heap.size + 1) (.jump I name) (str []) (.slice A 1 C) (str name) (.func (.func 159) #[] #[.pointer (some ⟨b, 0, none⟩)]) := ⟨rfl, ⟨[W], rfl, ownW_base HOW.out (by have := HZ3.out; omega)⟩, rfl, b, rfl, HBB.out, HI.out⟩
          have hst2 := stmV_base (stmV_row hst (Nat.lt_succ_self _) (setRow_only w4 w.heap.size #[.string ⟨#[]⟩, .slice A 1 C, str name, .func (.func 159) #[] #[.pointer (some ⟨b, 0, none⟩)]]) (fun k h1 _ h2 => by omega)) (Nat.le_succ _)
          exact bodyPost_ret (v := .tuple #[.agg #[.string ⟨#[]⟩, .slice A 1 C, str name, .func (.func 159) #[] #[.pointer (some ⟨b, 0, none⟩)]], .bool true]) (results_cell_tmp (show Tryz.f107.results = #[.cell 4 129, .tmp 5] by kernel_rfl) _ _ w.heap.size 129 _ _ _ rfl (setRow_heap _ _ _ _ _ _ HR.out) Tryz.underlying129 rfl size_stm) rfl ⟨(fun s h => by cases h; exact ⟨_, rfl, _, _, _, _, rfl, hst2⟩), (fun h => by cases h), below_setRow HB4.out (Nat.le_refl _) _⟩
        | false =>
          rw [hall, if_neg (by decide)] at hO
          subst hO
          obtain rfl := h4n hall
          clear h4 h4n hall
          go_wp2_with (refine wpList_store_row rfl _ _ _ rfl w.heap.size _ rfl rfl 129 _ HR.out size_stm rfl (by simp [Value.oneCell']) ?_)
          exact bodyPost_ret (v := .tuple #[.agg #[.string ⟨#[]⟩, .slice none 0 0, str name, .func (.func 159) #[] #[.pointer (some ⟨b, 0, none⟩)]], .bool false]) (results_cell_tmp (show Tryz.f107.results = #[.cell 4 129, .tmp 5] by kernel_rfl) _ _ w.heap.size 129 _ _ _ rfl (setRow_heap _ _ _ _ _ _ HR.out) Tryz.underlying129 rfl size_stm) rfl ⟨(fun s h => by cases h), fun _ => ⟨_, rfl, _, _, _, _, rfl, rfl, rfl, rfl, rfl⟩, below_setRow HB4.out (Nat.le_refl _) _⟩

end Go.Proofs.YtakdhdaoklcidaaGreatDoor

namespace Go.Proofs.YtakdhdaoklcidaaGreatDoor
open Go.RowKit Go.Lib
set_option linter.unusedVariables false
set_option maxRecDepth 100000

def liT : Bs := [108, 105]
def wordT : Bs := [46, 119, 111, 114, 100]
/-- The words of a line that hangs on no label, by its first word and what stands behind. -/
def wordsG (line n0 r0 : Bs) : Option (List Int) :=
  if n0 = liT then
    (if 0 ≤ regP (cut r0 sepC).1 ∧ regP (cut r0 sepC).1 ≤ 31 then
      (if lineT liT [xr (regP (cut r0 sepC).1), itoa (numP (cut (cut r0 sepC).2.1 sepC).1)] = line then
        (if (liF (regP (cut r0 sepC).1) 4 (numP (cut (cut r0 sepC).2.1 sepC).1)).all rightB then some ((liF (regP (cut r0 sepC).1) 4 (numP (cut (cut r0 sepC).2.1 sepC).1)).map encW) else none)
      else none)
    else none)
  else if n0 = wordT then
    (if 0 ≤ numP (cut r0 sepC).1 ∧ numP (cut r0 sepC).1 ≤ 4294967295 then
      (if lineT wordT [itoa (numP (cut r0 sepC).1)] = line then some [numP (cut r0 sepC).1] else none)
    else none)
  else if parseB line then (if rightB (parseI line) then some [encW (parseI line)] else none) else none
def wordsS (line : Bs) : Option (List Int) := wordsG line (cut line [32]).1 (cut line [32]).2.1

theorem liF_ne (rd n : Int) : liF rd 4 n ≠ [] := by
  unfold liF
  split
  · simp
  · split <;> simp
theorem insAt_own {w : World} {B : Nat} {v : Value} {l : List Ins} (h : OwnI w B v l) (hl : l ≠ []) : ∃ g C, v = .slice (some ⟨g, 0, none⟩) l.length C ∧ InsAt w g l := by
  rcases h.2 with ⟨rfl, h0⟩ | ⟨g, cap, cur, rfl, hb, hc, hn, _, hcs, ht⟩
  · exact absurd (List.eq_nil_of_length_eq_zero h0) hl
  · refine ⟨g, cap, rfl, fun k hk j hj => ?_⟩
    rw [Lib.cell_of_heap hc]
    have h1 := insCs_at l k j hk hj
    rw [← ht, List.getElem?_take, if_pos (by omega)] at h1
    simpa using h1

/-- What stands behind the first two steps: what is left to read. -/
structure RS (w wx : World) (bl bn : Nat) (rest : Bs) : Prop where
  left : BoxS wx bl rest
  next : wx.heap[bn]? = some (.cells #[nextV bl] 108 (0, 0))
  len : rest.length ≤ 1000000
  bel : Below w.heap.size w wx
  low : w.heap.size ≤ bl ∧ bl < bn
section
variable {w wx : World} {bl bn : Nat} {rest : Bs}
theorem RS.env (h : RS w wx bl bn rest) (he : Env w) : ∀ w', Only (fun k => k = bl) wx w' → Env w' := fun w' ho => by
  have hl := h.low
  exact he.below (Below.thenOnly h.bel ho (by intro k hk; omega) h.bel.size)
theorem RS.step (h : RS w wx bl bn rest) {w' : World} {r : Bs} (hr : r.length ≤ 1000000) (hb : BoxS w' bl r) (ho : Only (fun k => k = bl) wx w') : RS w w' bl bn r := by
  have hl := h.low
  exact ⟨hb, ho.keeps (by omega) h.next, hr, Below.thenOnly h.bel ho (by intro k hk; omega) h.bel.size, hl⟩
theorem RS.reg (h : RS w wx bl bn rest) (he : Env w) : Calls Tryz.prog 64 #[.pointer (some ⟨bn, 0, none⟩)] wx fun e w' => e = .returned (.int .i64 (regP (cut rest sepC).1)) ∧ RS w w' bl bn (cut rest sepC).2.1 := by
  refine (reg_any bn bl rest wx (h.env he) h.len (by rw [Lib.cell_of_heap h.next]; rfl) h.left).mono ?_
  rintro e w' ⟨rfl, h1, h2⟩
  exact ⟨rfl, h.step (Nat.le_trans (cut_len rest sepC).2 h.len) h1 h2⟩
theorem RS.num (h : RS w wx bl bn rest) (he : Env w) : Calls Tryz.prog 67 #[.pointer (some ⟨bn, 0, none⟩)] wx fun e w' => e = .returned (.int .i64 (numP (cut rest sepC).1)) ∧ RS w w' bl bn (cut rest sepC).2.1 := by
  refine (num_any bn bl rest wx (h.env he) h.len (by rw [Lib.cell_of_heap h.next]; rfl) h.left).mono ?_
  rintro e w' ⟨rfl, h1, h2⟩
  exact ⟨rfl, h.step (Nat.le_trans (cut_len rest sepC).2 h.len) h1 h2⟩
end

theorem aimEnd_yes {w : World} {o : Option (List Int)} {ws : List Int} (h : o = some ws) {e : Ending} {w' : World} (hx : EncEnd w ws e w') : AimEnd w o e w' := by subst h; exact hx
theorem aimEnd_no {w : World} {o : Option (List Int)} (h : o = none) {e : Ending} {w' : World} (hx : EncNo w e w') : AimEnd w o e w' := by subst h; exact hx

set_option maxHeartbeats 4000000 in
theorem readWords_li (l : Bs) (c1 : (cut l [32]).1 = liT) (hl : l.length ≤ 100000) (w : World) (he : Env w) : Calls Tryz.prog 108 #[str l] w (AimEnd w (wordsS l)) := by
  have K1 := Lib.hid c1
  clear c1
  have hCUT : ∀ w, Env w → Calls Tryz.prog 34 #[str l, .string ⟨#[32]⟩] w fun e w' => e = .returned (.tuple #[str (cut l [32]).1, str (cut l [32]).2.1, .bool (cut l [32]).2.2]) ∧ Below w.heap.size w w' := fun w he => cutP l [32] w (by omega) he
  have hcl := cut_len l [32]
  have hR0 : (cut l [32]).2.1.length ≤ 1000000 := by omega
  have hRD := fun w => reader_any (cut l [32]).2.1 w
  have hS : wordsS l = wordsG l (cut l [32]).1 (cut l [32]).2.1 := rfl
  have i1 := numP_in (trimPrefix (cut (cut l [32]).2.1 sepC).1 [120])
  have i1' : -9223372036854775808 ≤ regP (cut (cut l [32]).2.1 sepC).1 ∧ regP (cut (cut l [32]).2.1 sepC).1 ≤ 9223372036854775807 := i1
  have i2 := numP_in (cut (cut (cut l [32]).2.1 sepC).2.1 sepC).1
  have i3 := numP_in (cut (cut l [32]).2.1 sepC).1
  have hPA := fun w he => parseP l (by omega) w he
  have hee : parseE l = if parseB l then 0 else 100 := rfl
  have HS := Lib.hid hS
  have HCUT := Lib.hid hCUT
  have HRD := Lib.hid hRD
  have HE := Lib.hid he
  have HR0 := Lib.hid hR0
  have HPA := Lib.hid hPA
  have HEE := Lib.hid hee
  have HI1 := Lib.hid i1'; have HI2 := Lib.hid i2; have HI3 := Lib.hid i3
  clear hCUT hRD he hcl hR0 hS i1 i1' i2 i3 hPA hee hl
  generalize wordsS l = o at *
  generalize (cut l [32]).2.1 = r0 at *
  generalize (cut l [32]).2.2 = qq at *
  generalize (cut l [32]).1 = n0 at *
  go_enter Tryz.func108, Tryz.ntmps108
  go_wp2_with (fail)
  (with_reducible refine (HCUT.out _ HE.out).mono ?_)
  rintro e w1 ⟨rfl, hb1⟩
  have HB1 := Lib.hid hb1
  clear hb1
  go_wp2_with (fail)
  (with_reducible refine (HRD.out _).mono ?_)
  rintro e w2 ⟨rfl, h1, h2, h3, h4⟩
  have HRS : Hid (RS w w2 w1.heap.size (w1.heap.size + 1) r0) := Lib.hid ⟨h1, h2, HR0.out, HB1.out.trans (h4.mono HB1.out.size), HB1.out.size, Nat.lt_succ_self _⟩
  clear h1 h2 h3 h4
  generalize w1.heap.size + 1 = bn at *
  generalize w1.heap.size = bl at *
  clear HB1 HCUT HRD HR0
  have c1 := K1.out
  have hO : o = wordsG l n0 r0 := HS.out
  unfold wordsG at hO
  rw [if_pos c1] at hO
  have HO := Lib.hid hO
  subst c1
  clear hO HS HPA HEE HI3
  go_wp2_with (fail)
  (with_reducible refine (HRS.out.reg HE.out).mono ?_)
  rintro e w3 ⟨rfl, h3⟩
  have HR3 := Lib.hid h3
  clear h3
  go_wp2_with (fail)
  (with_reducible refine (HR3.out.num HE.out).mono ?_)
  rintro e w4 ⟨rfl, h4⟩
  have HB4 := Lib.hid h4.bel
  clear h4 HRS HR3
  generalize regP (cut r0 sepC).1 = rd at *
  generalize numP (cut (cut r0 sepC).2.1 sepC).1 = n at *
  by_cases hr : 0 ≤ rd ∧ rd ≤ 31
  · have hO := HO.out
    rw [if_pos hr] at hO
    have HLI := Lib.hid (li_any rd n hr HI2.out.1 HI2.out.2 w4 (HE.out.below HB4.out))
    have HO2 := Lib.hid hO
    have HNE := Lib.hid (liF_ne rd n)
    have hll := liF_len rd 4 n
    obtain ⟨hr0, hr1⟩ := hr
    clear hO HO
    generalize liF rd 4 n = L at *
    go_wp2_with (fail)
    (with_reducible refine HLI.out.mono ?_)
    rintro e w5 ⟨v, rfl, how, hb5⟩
    have hne := HNE.out
    obtain ⟨g, C, rfl, hat⟩ := insAt_own how hne
    have HAT := Lib.hid hat
    have HB5 := Lib.hid (HB4.out.trans (hb5.mono HB4.out.size))
    have hlz : ((L.length : Int) == 0) = false := by
      have : L.length ≠ 0 := fun h => hne (List.eq_nil_of_length_eq_zero h)
      simp; omega
    have hlz2 : 0 < L.length := by
      have : L.length ≠ 0 := fun h => hne (List.eq_nil_of_length_eq_zero h)
      omega
    clear how hat hb5 hne HLI
    have HT := Lib.hid (fun w he => registerText_any rd (by omega) (by omega) w he)
    have HN := Lib.hid (fun w he => numberText_any n HI2.out.1 HI2.out.2 w he)
    have HWR := Lib.hid (fun w g cap hc hc2 => write2 liT (xr rd) (itoa n) (by decide) (by have := itoa_length_le rd (by omega) (by omega); simp only [xr, List.length_cons]; omega) (by have := itoa_length_le n HI2.out.1 HI2.out.2; omega) (by simp [xr]) (itoa_ne n) w g cap hc hc2)
    generalize lineT liT [xr rd, itoa n] = tx at *
    generalize xr rd = xo at *
    generalize itoa n = no at *
    go_wp2_with (fail)
    (with_reducible refine (HT.out _ (HE.out.below HB5.out)).mono ?_)
    rintro e w6 ⟨rfl, hb6⟩
    have HB6 := Lib.hid (HB5.out.trans (hb6.mono HB5.out.size))
    have HAT6 := Lib.hid (insAt_below HAT.out hb6)
    clear hb6 HAT
    go_wp2_with (fail)
    (with_reducible refine (HN.out _ (HE.out.below HB6.out)).mono ?_)
    rintro e w7 ⟨rfl, hb7⟩
    have HB7 := Lib.hid (HB6.out.trans (hb7.mono HB6.out.size))
    have HAT7 := Lib.hid (insAt_below HAT6.out hb7)
    have HC0 : Hid ((w7.alloc (.cells #[str xo, str no] 9)).cell? ⟨w7.heap.size, 0, none⟩ = some (str xo)) := Lib.hid (by rw [World.cell?_alloc_at _ _ _ _ (by simp)]; rfl)
    have HC1 : Hid ((w7.alloc (.cells #[str xo, str no] 9)).cell? ⟨w7.heap.size, 1, none⟩ = some (str no)) := Lib.hid (by rw [World.cell?_alloc_at _ _ _ _ (by simp)]; rfl)
    clear hb7 HAT6
    go_wp2_with (fail)
    (with_reducible refine (HWR.out _ _ _ HC0.out HC1.out).mono ?_)
    rintro e w8 ⟨rfl, hb8⟩
    have HB8 := Lib.hid ((HB7.out.alloc HB7.out.size (.cells #[str xo, str no] 9)).trans (hb8.mono (by have := HB7.out.size; simp; omega)))
    have HAT8 := Lib.hid (insAt_below (insAt_below HAT7.out ((Below.refl _ _).alloc (Nat.le_refl _) (.cells #[str xo, str no] 9))) hb8)
    clear hb8 HAT7 HC0 HC1
    by_cases hp : tx = l
    · have hO := HO2.out
      rw [if_pos hp] at hO
      have HO := Lib.hid hO
      subst hp
      have HEN := Lib.hid (encode_gen L g C w8 (HE.out.below HB8.out) (by omega) HAT8.out)
      clear hO HO2 HWR
      go_wp2_with (fail)
      (with_reducible refine HEN.out.mono ?_)
      rintro e w9 hq
      cases hall : L.all rightB with
      | true =>
        have h9 := hq.1 hall
        have HR : Hid (o = some (L.map encW)) := Lib.hid (by rw [HO.out, hall]; rfl)
        clear hq HEN
        generalize L.map encW = ws at *
        obtain ⟨v, rfl, ho, hb⟩ := h9
        obtain ⟨A, C9, rfl⟩ := ownW_slice ho
        have HOW := Lib.hid ho
        have HB := Lib.hid hb
        clear ho hb hall HO
        go_wp2
        go_ret2
        exact aimEnd_yes HR.out ((fun e (h : EncEnd _ ws e w9) => encEnd_mono h HB8.out) _ ⟨_, rfl, HOW.out, HB.out⟩)
      | false =>
        have h9 := hq.2 hall
        have HR : Hid (o = none) := Lib.hid (by rw [HO.out, hall]; rfl)
        obtain ⟨rfl, hb⟩ := h9
        have HB := Lib.hid hb
        clear hq HEN hb hall HO
        go_wp2
        go_ret2
        exact aimEnd_no HR.out ⟨rfl, HB8.out.trans (HB.out.mono HB8.out.size)⟩
    · have hO := HO2.out
      rw [if_neg hp] at hO
      have HO := Lib.hid hO
      have hpq : (tx == l) = false := beq_eq_false_iff_ne.2 hp
      clear hO HO2 HWR hp
      go_wp2
      go_ret2
      exact aimEnd_no HO.out ⟨rfl, HB8.out⟩
  · have hO := HO.out
    rw [if_neg hr] at hO
    have HO2 := Lib.hid hO
    have HLI := Lib.hid (li_none rd n hr w4)
    clear hO HO hr
    go_wp2_with (fail)
    (with_reducible refine HLI.out.mono ?_)
    rintro e w5 ⟨rfl, rfl⟩
    go_wp2
    go_ret2
    exact aimEnd_no HO2.out ⟨rfl, HB4.out⟩

set_option maxHeartbeats 4000000 in
theorem readWords_word (l : Bs) (c1 : ¬ (cut l [32]).1 = liT) (c2 : (cut l [32]).1 = wordT) (hl : l.length ≤ 100000) (w : World) (he : Env w) : Calls Tryz.prog 108 #[str l] w (AimEnd w (wordsS l)) := by
  have K1 := Lib.hid c1
  have K2 := Lib.hid c2
  clear c1 c2
  have hCUT : ∀ w, Env w → Calls Tryz.prog 34 #[str l, .string ⟨#[32]⟩] w fun e w' => e = .returned (.tuple #[str (cut l [32]).1, str (cut l [32]).2.1, .bool (cut l [32]).2.2]) ∧ Below w.heap.size w w' := fun w he => cutP l [32] w (by omega) he
  have hcl := cut_len l [32]
  have hR0 : (cut l [32]).2.1.length ≤ 1000000 := by omega
  have hRD := fun w => reader_any (cut l [32]).2.1 w
  have hS : wordsS l = wordsG l (cut l [32]).1 (cut l [32]).2.1 := rfl
  have i1 := numP_in (trimPrefix (cut (cut l [32]).2.1 sepC).1 [120])
  have i1' : -9223372036854775808 ≤ regP (cut (cut l [32]).2.1 sepC).1 ∧ regP (cut (cut l [32]).2.1 sepC).1 ≤ 9223372036854775807 := i1
  have i2 := numP_in (cut (cut (cut l [32]).2.1 sepC).2.1 sepC).1
  have i3 := numP_in (cut (cut l [32]).2.1 sepC).1
  have hPA := fun w he => parseP l (by omega) w he
  have hee : parseE l = if parseB l then 0 else 100 := rfl
  have HS := Lib.hid hS
  have HCUT := Lib.hid hCUT
  have HRD := Lib.hid hRD
  have HE := Lib.hid he
  have HR0 := Lib.hid hR0
  have HPA := Lib.hid hPA
  have HEE := Lib.hid hee
  have HI1 := Lib.hid i1'; have HI2 := Lib.hid i2; have HI3 := Lib.hid i3
  clear hCUT hRD he hcl hR0 hS i1 i1' i2 i3 hPA hee hl
  generalize wordsS l = o at *
  generalize (cut l [32]).2.1 = r0 at *
  generalize (cut l [32]).2.2 = qq at *
  generalize (cut l [32]).1 = n0 at *
  go_enter Tryz.func108, Tryz.ntmps108
  go_wp2_with (fail)
  (with_reducible refine (HCUT.out _ HE.out).mono ?_)
  rintro e w1 ⟨rfl, hb1⟩
  have HB1 := Lib.hid hb1
  clear hb1
  go_wp2_with (fail)
  (with_reducible refine (HRD.out _).mono ?_)
  rintro e w2 ⟨rfl, h1, h2, h3, h4⟩
  have HRS : Hid (RS w w2 w1.heap.size (w1.heap.size + 1) r0) := Lib.hid ⟨h1, h2, HR0.out, HB1.out.trans (h4.mono HB1.out.size), HB1.out.size, Nat.lt_succ_self _⟩
  clear h1 h2 h3 h4
  generalize w1.heap.size + 1 = bn at *
  generalize w1.heap.size = bl at *
  clear HB1 HCUT HRD HR0
  have c1 := K1.out
  have hO : o = wordsG l n0 r0 := HS.out
  unfold wordsG at hO
  rw [if_neg c1] at hO
  have HO := Lib.hid hO
  have hc1 : (n0 == [108, 105]) = false := beq_eq_false_iff_ne.2 c1
  clear hO HS c1
  have c2 := K2.out
  have hO := HO.out
  rw [if_pos c2] at hO
  have HO2 := Lib.hid hO
  subst c2
  clear hO HO hc1 HPA HEE HI1 HI2
  go_wp2_with (fail)
  (with_reducible refine (HRS.out.num HE.out).mono ?_)
  rintro e w3 ⟨rfl, h3⟩
  have HB3 := Lib.hid h3.bel
  clear h3 HRS
  generalize numP (cut r0 sepC).1 = n at *
  by_cases hr : 0 ≤ n ∧ n ≤ 4294967295
  · have hO := HO2.out
    rw [if_pos hr] at hO
    have HO3 := Lib.hid hO
    have HN := Lib.hid (fun w he => numberText_any n HI3.out.1 HI3.out.2 w he)
    have HWR := Lib.hid (fun w g cap hc => write1 wordT (itoa n) (by decide) (by have := itoa_length_le n HI3.out.1 HI3.out.2; omega) (itoa_ne n) w g cap hc)
    clear hO HO2
    generalize lineT wordT [itoa n] = tx at *
    generalize itoa n = no at *
    obtain ⟨hr0, hr1⟩ := hr
    go_wp2_with (fail)
    (with_reducible refine (HN.out _ (HE.out.below HB3.out)).mono ?_)
    rintro e w4 ⟨rfl, hb4⟩
    have HB4 := Lib.hid (HB3.out.trans (hb4.mono HB3.out.size))
    have HC0 : Hid ((w4.alloc (.cells #[str no] 9)).cell? ⟨w4.heap.size, 0, none⟩ = some (str no)) := Lib.hid (by rw [World.cell?_alloc_at _ _ _ _ (by simp)]; rfl)
    clear hb4
    go_wp2_with (fail)
    (with_reducible refine (HWR.out _ _ _ HC0.out).mono ?_)
    rintro e w5 ⟨rfl, hb5⟩
    have HB5 := Lib.hid ((HB4.out.alloc HB4.out.size (.cells #[str no] 9)).trans (hb5.mono (by have := HB4.out.size; simp; omega)))
    clear hb5 HC0
    by_cases hp : tx = l
    · have hO := HO3.out
      rw [if_pos hp] at hO
      have HO := Lib.hid hO
      subst hp
      clear hO HO3 HWR
      go_wp2
      go_ret2
      exact aimEnd_yes HO.out ⟨_, rfl, ⟨rfl, .inr ⟨w5.heap.size, 1, _, rfl, HB5.out.size, heap_alloc_new _ _, Nat.le_refl _, by decide, rfl, rfl⟩⟩, HB5.out.alloc HB5.out.size _⟩
    · have hO := HO3.out
      rw [if_neg hp] at hO
      have HO := Lib.hid hO
      have hpq : (tx == l) = false := beq_eq_false_iff_ne.2 hp
      clear hO HO3 HWR hp
      go_wp2
      go_ret2
      exact aimEnd_no HO.out ⟨rfl, HB5.out⟩
  · have hO := HO2.out
    rw [if_neg hr] at hO
    have HO := Lib.hid hO
    have hor : n < 0 ∨ (¬ n < 0 ∧ 4294967295 < n) := by omega
    clear hO HO2 hr
    rcases hor with h | ⟨h, h'⟩
    · go_wp2
      go_ret2
      exact aimEnd_no HO.out ⟨rfl, HB3.out⟩
    · go_wp2
      go_ret2
      exact aimEnd_no HO.out ⟨rfl, HB3.out⟩

set_option maxHeartbeats 4000000 in
theorem readWords_parse (l : Bs) (c1 : ¬ (cut l [32]).1 = liT) (c2 : ¬ (cut l [32]).1 = wordT) (hl : l.length ≤ 100000) (w : World) (he : Env w) : Calls Tryz.prog 108 #[str l] w (AimEnd w (wordsS l)) := by
  have K1 := Lib.hid c1
  have K2 := Lib.hid c2
  clear c1 c2
  have hCUT : ∀ w, Env w → Calls Tryz.prog 34 #[str l, .string ⟨#[32]⟩] w fun e w' => e = .returned (.tuple #[str (cut l [32]).1, str (cut l [32]).2.1, .bool (cut l [32]).2.2]) ∧ Below w.heap.size w w' := fun w he => cutP l [32] w (by omega) he
  have hcl := cut_len l [32]
  have hR0 : (cut l [32]).2.1.length ≤ 1000000 := by omega
  have hRD := fun w => reader_any (cut l [32]).2.1 w
  have hS : wordsS l = wordsG l (cut l [32]).1 (cut l [32]).2.1 := rfl
  have i1 := numP_in (trimPrefix (cut (cut l [32]).2.1 sepC).1 [120])
  have i1' : -9223372036854775808 ≤ regP (cut (cut l [32]).2.1 sepC).1 ∧ regP (cut (cut l [32]).2.1 sepC).1 ≤ 9223372036854775807 := i1
  have i2 := numP_in (cut (cut (cut l [32]).2.1 sepC).2.1 sepC).1
  have i3 := numP_in (cut (cut l [32]).2.1 sepC).1
  have hPA := fun w he => parseP l (by omega) w he
  have hee : parseE l = if parseB l then 0 else 100 := rfl
  have HS := Lib.hid hS
  have HCUT := Lib.hid hCUT
  have HRD := Lib.hid hRD
  have HE := Lib.hid he
  have HR0 := Lib.hid hR0
  have HPA := Lib.hid hPA
  have HEE := Lib.hid hee
  have HI1 := Lib.hid i1'; have HI2 := Lib.hid i2; have HI3 := Lib.hid i3
  clear hCUT hRD he hcl hR0 hS i1 i1' i2 i3 hPA hee hl
  generalize wordsS l = o at *
  generalize (cut l [32]).2.1 = r0 at *
  generalize (cut l [32]).2.2 = qq at *
  generalize (cut l [32]).1 = n0 at *
  go_enter Tryz.func108, Tryz.ntmps108
  go_wp2_with (fail)
  (with_reducible refine (HCUT.out _ HE.out).mono ?_)
  rintro e w1 ⟨rfl, hb1⟩
  have HB1 := Lib.hid hb1
  clear hb1
  go_wp2_with (fail)
  (with_reducible refine (HRD.out _).mono ?_)
  rintro e w2 ⟨rfl, h1, h2, h3, h4⟩
  have HRS : Hid (RS w w2 w1.heap.size (w1.heap.size + 1) r0) := Lib.hid ⟨h1, h2, HR0.out, HB1.out.trans (h4.mono HB1.out.size), HB1.out.size, Nat.lt_succ_self _⟩
  clear h1 h2 h3 h4
  generalize w1.heap.size + 1 = bn at *
  generalize w1.heap.size = bl at *
  clear HB1 HCUT HRD HR0
  have c1 := K1.out
  have hO : o = wordsG l n0 r0 := HS.out
  unfold wordsG at hO
  rw [if_neg c1] at hO
  have HO := Lib.hid hO
  have hc1 : (n0 == [108, 105]) = false := beq_eq_false_iff_ne.2 c1
  clear hO HS c1
  have c2 := K2.out
  have hO := HO.out
  rw [if_neg c2] at hO
  have HO2 := Lib.hid hO
  have hc2 : (n0 == [46, 119, 111, 114, 100]) = false := beq_eq_false_iff_ne.2 c2
  have HB2 := Lib.hid HRS.out.bel
  clear hO HO c2 HRS HI1 HI2 HI3
  have hP : ∀ w, Env w → Calls Tryz.prog 13 #[str l] w fun e w' => e = .returned (.tuple #[insV (parseI l), .int .i64 (if parseB l then 0 else 100)]) ∧ Below w.heap.size w w' := fun w he => by
    have h := HPA.out w he
    rw [HEE.out] at h; exact h
  clear HPA HEE
  cases hb : parseB l with
  | false =>
    rw [hb] at hP HO2
    have hP2 : ∀ w, Env w → Calls Tryz.prog 13 #[str l] w fun e w' => e = .returned (.tuple #[insV (parseI l), .int .i64 100]) ∧ Below w.heap.size w w' := hP
    have HP := Lib.hid hP2
    have HO : Hid (o = none) := Lib.hid HO2.out
    clear hP hP2 HO2 hb
    generalize parseI l = I at *
    obtain ⟨op, rd, a, b, imm, csr, aq, rl⟩ := I
    go_wp2_with (fail)
    (with_reducible refine (HP.out _ (HE.out.below HB2.out)).mono ?_)
    rintro e w3 ⟨rfl, hb3⟩
    have HB3 := Lib.hid (HB2.out.trans (hb3.mono HB2.out.size))
    clear hb3
    go_wp2
    go_ret2
    exact aimEnd_no HO.out ⟨rfl, HB3.out.alloc HB3.out.size _⟩
  | true =>
    rw [hb] at hP HO2
    have hP2 : ∀ w, Env w → Calls Tryz.prog 13 #[str l] w fun e w' => e = .returned (.tuple #[insV (parseI l), .int .i64 0]) ∧ Below w.heap.size w w' := hP
    have HP := Lib.hid hP2
    have hEN : ∀ w g cap, Env w → InsAt w g [parseI l] → Calls Tryz.prog 139 #[.slice (some ⟨g, 0, none⟩) 1 cap] w (EncQ w [parseI l]) := fun w g cap he hi => encode_gen [parseI l] g cap w he (by simp) hi
    have HEN := Lib.hid hEN
    have HO : Hid (o = if rightB (parseI l) then some [encW (parseI l)] else none) := Lib.hid HO2.out
    clear hP hP2 HO2 hb hEN
    generalize parseI l = I at *
    obtain ⟨op, rd, a, b, imm, csr, aq, rl⟩ := I
    go_wp2_with (fail)
    (with_reducible refine (HP.out _ (HE.out.below HB2.out)).mono ?_)
    rintro e w3 ⟨rfl, hb3⟩
    have HB3 := Lib.hid (HB2.out.trans (hb3.mono HB2.out.size))
    clear hb3
    go_wp2_with (fail)
    have hb4 : Below w.heap.size w ((w3.alloc (.cells #[.int .i64 op, .int .i64 rd, .int .i64 a, .int .i64 b, .int .i64 imm, .int .i64 csr, .bool aq, .bool rl] 23)).alloc (.cells #[.int .i64 op, .int .i64 rd, .int .i64 a, .int .i64 b, .int .i64 imm, .int .i64 csr, .bool aq, .bool rl] 23)) := (HB3.out.alloc HB3.out.size _).alloc (by have := HB3.out.size; simp; omega) _
    have hrow : InsAt ((w3.alloc (.cells #[.int .i64 op, .int .i64 rd, .int .i64 a, .int .i64 b, .int .i64 imm, .int .i64 csr, .bool aq, .bool rl] 23)).alloc (.cells #[.int .i64 op, .int .i64 rd, .int .i64 a, .int .i64 b, .int .i64 imm, .int .i64 csr, .bool aq, .bool rl] 23)) (w3.heap.size + 1) [⟨op, rd, a, b, imm, csr, aq, rl⟩] := by
      have := heap_alloc_new (w3.alloc (.cells #[.int .i64 op, .int .i64 rd, .int .i64 a, .int .i64 b, .int .i64 imm, .int .i64 csr, .bool aq, .bool rl] 23)) (.cells #[.int .i64 op, .int .i64 rd, .int .i64 a, .int .i64 b, .int .i64 imm, .int .i64 csr, .bool aq, .bool rl] 23)
      rw [World.size_alloc] at this
      exact insAt_row (l := [⟨op, rd, a, b, imm, csr, aq, rl⟩]) this
    (with_reducible refine (HEN.out _ _ _ (HE.out.below hb4) hrow).mono ?_)
    rintro e w5 hq
    have HB4 := Lib.hid hb4
    clear hb4 hrow
    cases hall : rightB ⟨op, rd, a, b, imm, csr, aq, rl⟩ with
    | true =>
      have h9 := hq.1 (by simp [hall])
      have HR : Hid (o = some [encW ⟨op, rd, a, b, imm, csr, aq, rl⟩]) := Lib.hid (by rw [HO.out, hall]; rfl)
      clear hq HEN hall HO
      have h9' : EncEnd _ [encW ⟨op, rd, a, b, imm, csr, aq, rl⟩] e w5 := h9
      clear h9
      generalize [encW ⟨op, rd, a, b, imm, csr, aq, rl⟩] = ws at *
      obtain ⟨v, rfl, ho, hb⟩ := h9'
      obtain ⟨A, C9, rfl⟩ := ownW_slice ho
      have HOW := Lib.hid ho
      have HB := Lib.hid hb
      clear ho hb
      go_wp2
      go_ret2
      exact aimEnd_yes HR.out ((fun e (h : EncEnd _ ws e w5) => encEnd_mono h HB4.out) _ ⟨_, rfl, HOW.out, HB.out⟩)
    | false =>
      have h9 := hq.2 (by simp [hall])
      have HR : Hid (o = none) := Lib.hid (by rw [HO.out, hall]; rfl)
      obtain ⟨rfl, hb⟩ := h9
      have HB := Lib.hid hb
      clear hq HEN hb hall HO
      go_wp2
      go_ret2
      exact aimEnd_no HR.out ⟨rfl, HB4.out.trans (HB.out.mono HB4.out.size)⟩


theorem readWords_any (l : Bs) (hl : l.length ≤ 100000) (w : World) (he : Env w) : Calls Tryz.prog 108 #[str l] w (AimEnd w (wordsS l)) := by
  by_cases c1 : (cut l [32]).1 = liT
  · exact readWords_li l c1 hl w he
  · by_cases c2 : (cut l [32]).1 = wordT
    · exact readWords_word l c1 c2 hl w he
    · exact readWords_parse l c1 c2 hl w he

end Go.Proofs.YtakdhdaoklcidaaGreatDoor

namespace Go.Proofs.YtakdhdaoklcidaaGreatDoor
open Go.Shelf
set_option linter.unusedVariables false
set_option maxRecDepth 100000

def splitLays_ren : Go.Shelf.Ren := ⟨fun | 146 => 74 | 221 => 104 | 268 => 126 | 138 => 127 | 143 => 128 | 195 => 151 | 197 => 152 | 218 => 153 | 219 => 94 | 260 => 161 | 217 => 114 | 225 => 115 | 224 => 116 | 267 => 117 | 266 => 145 | 314 => 146 | n => n, fun | 9 => 9 | 31 => 100 | 3 => 3 | 4 => 4 | 0 => 0 | 105 => 199 | 21 => 21 | 5 => 5 | 46 => 75 | 119 => 208 | 139 => 211 | 138 => 210 | 146 => 192 | 51 => 43 | n => n, fun | 1 => 2 | 3 => 7 | 4 => 8 | n => n⟩
theorem splitLays : Go.Proofs.Lays.n146 Tryz.prog splitLays_ren where
  mixed := by kernel_rfl
  f138 := Tryz.func127.trans (congrArg some (by kernel_rfl))
  f143 := Tryz.func128.trans (congrArg some (by kernel_rfl))
  f146 := Tryz.func74.trans (congrArg some (by kernel_rfl))
  f195 := Tryz.func151.trans (congrArg some (by kernel_rfl))
  f197 := Tryz.func152.trans (congrArg some (by kernel_rfl))
  f217 := Tryz.func114.trans (congrArg some (by kernel_rfl))
  f218 := Tryz.func153.trans (congrArg some (by kernel_rfl))
  f219 := Tryz.func94.trans (congrArg some (by kernel_rfl))
  f221 := Tryz.func104.trans (congrArg some (by kernel_rfl))
  f224 := Tryz.func116.trans (congrArg some (by kernel_rfl))
  f225 := Tryz.func115.trans (congrArg some (by kernel_rfl))
  f260 := Tryz.func161.trans (congrArg some (by kernel_rfl))
  f266 := Tryz.func145.trans (congrArg some (by kernel_rfl))
  f267 := Tryz.func117.trans (congrArg some (by kernel_rfl))
  f268 := Tryz.func126.trans (congrArg some (by kernel_rfl))
  f314 := Tryz.func146.trans (congrArg some (by kernel_rfl))
  t0 := Tryz.underlying0
  a0 := Tryz.isAgg0
  z0 := Tryz.sizeOf0
  v0 := Tryz.zeroValue0
  t3 := Tryz.underlying3
  a3 := Tryz.isAgg3
  z3 := Tryz.sizeOf3
  v3 := Tryz.zeroValue3
  t4 := Tryz.underlying4
  a4 := Tryz.isAgg4
  z4 := Tryz.sizeOf4
  v4 := Tryz.zeroValue4
  t5 := Tryz.underlying5
  a5 := Tryz.isAgg5
  z5 := Tryz.sizeOf5
  v5 := Tryz.zeroValue5
  t9 := Tryz.underlying9
  a9 := Tryz.isAgg9
  z9 := Tryz.sizeOf9
  v9 := Tryz.zeroValue9
  t21 := Tryz.underlying21
  a21 := Tryz.isAgg21
  z21 := Tryz.sizeOf21
  v21 := Tryz.zeroValue21
  t31 := Tryz.underlying100
  a31 := Tryz.isAgg100
  z31 := Tryz.sizeOf100
  v31 := Tryz.zeroValue100
  t46 := Tryz.underlying75
  a46 := Tryz.isAgg75
  z46 := Tryz.sizeOf75
  v46 := Tryz.zeroValue75
  t51 := Tryz.underlying43
  a51 := Tryz.isAgg43
  z51 := Tryz.sizeOf43
  v51 := Tryz.zeroValue43
  t105 := Tryz.underlying199
  a105 := Tryz.isAgg199
  z105 := Tryz.sizeOf199
  v105 := Tryz.zeroValue199
  t119 := Tryz.underlying208
  a119 := Tryz.isAgg208
  z119 := Tryz.sizeOf208
  t138 := Tryz.underlying210
  a138 := Tryz.isAgg210
  z138 := Tryz.sizeOf210
  v138 := Tryz.zeroValue210
  t139 := Tryz.underlying211
  a139 := Tryz.isAgg211
  z139 := Tryz.sizeOf211
  v139 := Tryz.zeroValue211
  t146 := Tryz.underlying192
  a146 := Tryz.isAgg192
  z146 := Tryz.sizeOf192
  v146 := Tryz.zeroValue192
  g1 := by kernel_rfl
  g3 := by kernel_rfl
  g4 := by kernel_rfl

def trimLays_ren : Go.Shelf.Ren := ⟨fun | 160 => 105 | 232 => 130 | 231 => 129 | 227 => 131 | 234 => 133 | 233 => 132 | 236 => 135 | 235 => 134 | 228 => 154 | 271 => 156 | 151 => 155 | 197 => 152 | 120 => 163 | 152 => 162 | 260 => 161 | 137 => 164 | 119 => 165 | 224 => 116 | 225 => 115 | 217 => 114 | 266 => 145 | n => n, fun | 9 => 9 | 4 => 4 | 3 => 3 | 5 => 5 | 117 => 180 | 116 => 179 | 0 => 0 | 124 => 183 | 21 => 21 | 105 => 199 | 46 => 75 | 119 => 208 | 139 => 211 | 138 => 210 | n => n, fun | 3 => 7 | 4 => 8 | n => n⟩
theorem trimLays : Go.Proofs.Lays.n160 Tryz.prog trimLays_ren where
  mixed := by kernel_rfl
  f119 := Tryz.func165.trans (congrArg some (by kernel_rfl))
  f120 := Tryz.func163.trans (congrArg some (by kernel_rfl))
  f137 := Tryz.func164.trans (congrArg some (by kernel_rfl))
  f151 := Tryz.func155.trans (congrArg some (by kernel_rfl))
  f152 := Tryz.func162.trans (congrArg some (by kernel_rfl))
  f160 := Tryz.func105.trans (congrArg some (by kernel_rfl))
  f197 := Tryz.func152.trans (congrArg some (by kernel_rfl))
  f217 := Tryz.func114.trans (congrArg some (by kernel_rfl))
  f224 := Tryz.func116.trans (congrArg some (by kernel_rfl))
  f225 := Tryz.func115.trans (congrArg some (by kernel_rfl))
  f227 := Tryz.func131.trans (congrArg some (by kernel_rfl))
  f228 := Tryz.func154.trans (congrArg some (by kernel_rfl))
  f231 := Tryz.func129.trans (congrArg some (by kernel_rfl))
  f232 := Tryz.func130.trans (congrArg some (by kernel_rfl))
  f233 := Tryz.func132.trans (congrArg some (by kernel_rfl))
  f234 := Tryz.func133.trans (congrArg some (by kernel_rfl))
  f235 := Tryz.func134.trans (congrArg some (by kernel_rfl))
  f236 := Tryz.func135.trans (congrArg some (by kernel_rfl))
  f260 := Tryz.func161.trans (congrArg some (by kernel_rfl))
  f266 := Tryz.func145.trans (congrArg some (by kernel_rfl))
  f271 := Tryz.func156.trans (congrArg some (by kernel_rfl))
  t0 := Tryz.underlying0
  a0 := Tryz.isAgg0
  z0 := Tryz.sizeOf0
  v0 := Tryz.zeroValue0
  t3 := Tryz.underlying3
  a3 := Tryz.isAgg3
  z3 := Tryz.sizeOf3
  v3 := Tryz.zeroValue3
  t4 := Tryz.underlying4
  a4 := Tryz.isAgg4
  z4 := Tryz.sizeOf4
  v4 := Tryz.zeroValue4
  t5 := Tryz.underlying5
  a5 := Tryz.isAgg5
  z5 := Tryz.sizeOf5
  v5 := Tryz.zeroValue5
  t9 := Tryz.underlying9
  a9 := Tryz.isAgg9
  z9 := Tryz.sizeOf9
  v9 := Tryz.zeroValue9
  t21 := Tryz.underlying21
  a21 := Tryz.isAgg21
  z21 := Tryz.sizeOf21
  v21 := Tryz.zeroValue21
  t46 := Tryz.underlying75
  a46 := Tryz.isAgg75
  z46 := Tryz.sizeOf75
  v46 := Tryz.zeroValue75
  t105 := Tryz.underlying199
  a105 := Tryz.isAgg199
  z105 := Tryz.sizeOf199
  v105 := Tryz.zeroValue199
  t116 := Tryz.underlying179
  a116 := Tryz.isAgg179
  z116 := Tryz.sizeOf179
  t117 := Tryz.underlying180
  a117 := Tryz.isAgg180
  z117 := Tryz.sizeOf180
  v117 := Tryz.zeroValue180
  t119 := Tryz.underlying208
  a119 := Tryz.isAgg208
  z119 := Tryz.sizeOf208
  t124 := Tryz.underlying183
  a124 := Tryz.isAgg183
  z124 := Tryz.sizeOf183
  v124 := Tryz.zeroValue183
  t138 := Tryz.underlying210
  a138 := Tryz.isAgg210
  z138 := Tryz.sizeOf210
  v138 := Tryz.zeroValue210
  t139 := Tryz.underlying211
  a139 := Tryz.isAgg211
  z139 := Tryz.sizeOf211
  v139 := Tryz.zeroValue211
  g3 := by kernel_rfl
  g4 := by kernel_rfl

end Go.Proofs.YtakdhdaoklcidaaGreatDoor

namespace Go.Proofs.YtakdhdaoklcidaaGreatDoor
open Go.RowKit Go.Lib
set_option linter.unusedVariables false
set_option maxRecDepth 100000

theorem trimP (l : Bs) (w : World) (hs : l.length ≤ 1000000) : Calls Tryz.prog 105 #[str l, .string ⟨#[32, 9]⟩] w fun e w' => e = .returned (str (trimS l [32, 9])) ∧ Below w.heap.size w w' := by
  have h := Any.strings_Trim_laid trimLays (by kernel_rfl) ⟨l.toArray⟩ ⟨#[32, 9]⟩ w (by show l.toArray.size ≤ _; rw [List.size_toArray]; omega) (by decide) (ascii_of_all (by decide))
  exact h
/-- What a line says whose remark and blanks are gone. -/
def readS (s : Bs) : Option Stm :=
  if s = [] then some .none
  else if hasSuffix s [58] then (if nameOK (trimSuffix s [58]) then some (.label (trimSuffix s [58])) else none)
  else if (cut s [44, 32, 64]).2.2 then namingS (cut s [44, 32, 64]).1 (cut s [44, 32, 64]).2.1
  else (wordsS s).map .words
def coreS (line : Bs) : Bs := trimS (cut line [35]).1 [32, 9]
def lineS (line : Bs) : Option Stm := readS (coreS line)

theorem four_one {c0 c1 c2 c3 : Value} (o0 : c0.oneCell' = true) (o1 : c1.oneCell' = true) (o2 : c2.oneCell' = true) (o3 : c3.oneCell' = true) : (#[c0, c1, c2, c3] : Array Value).all (·.oneCell') = true := by
  simp [o0, o1, o2, o3]

theorem trimS_len (l c : Bs) : (trimS l c).length ≤ l.length := by
  unfold trimS trimLeftS trimRightS
  refine Nat.le_trans (List.dropWhile_sublist _).length_le ?_
  rw [List.length_reverse]
  refine Nat.le_trans (List.dropWhile_sublist _).length_le ?_
  rw [List.length_reverse]; exact Nat.le_refl _
set_option maxHeartbeats 4000000 in
theorem readL (l : Bs) (hl : l.length ≤ 100000) (w : World) (he : Env w) : Calls Tryz.prog 75 #[str l] w (NmEnd w (lineS l)) := by
  have hC1 : ∀ w, Env w → Calls Tryz.prog 34 #[str l, .string ⟨#[35]⟩] w fun e w' => e = .returned (.tuple #[str (cut l [35]).1, str (cut l [35]).2.1, .bool (cut l [35]).2.2]) ∧ Below w.heap.size w w' := fun w he => cutP l [35] w (by omega) he
  have hcl := (cut_len l [35]).1
  have hT : ∀ w, Calls Tryz.prog 105 #[str (cut l [35]).1, .string ⟨#[32, 9]⟩] w fun e w' => e = .returned (str (coreS l)) ∧ Below w.heap.size w w' := fun w => trimP _ w (by omega)
  have hsl : (coreS l).length ≤ 100000 := Nat.le_trans (trimS_len _ _) (by omega)
  have hlS : lineS l = readS (coreS l) := rfl
  rw [hlS]
  have HC1 := Lib.hid hC1; have HT := Lib.hid hT; have HE := Lib.hid he
  clear hC1 hT he hcl hlS hl
  generalize (cut l [35]).1 = k1 at *
  generalize (cut l [35]).2.1 = k2 at *
  generalize (cut l [35]).2.2 = k3 at *
  generalize coreS l = s at *
  have hSU : ∀ w, Calls Tryz.prog 69 #[str s, .string ⟨#[58]⟩] w fun e w' => e = .returned (.tuple #[str (trimSuffix s [58]), .bool (hasSuffix s [58])]) ∧ w = w' := fun w => sufP s [58] w (by omega)
  have hC2 : ∀ w, Env w → Calls Tryz.prog 34 #[str s, .string ⟨#[44, 32, 64]⟩] w fun e w' => e = .returned (.tuple #[str (cut s [44, 32, 64]).1, str (cut s [44, 32, 64]).2.1, .bool (cut s [44, 32, 64]).2.2]) ∧ Below w.heap.size w w' := fun w he => cutP s [44, 32, 64] w (by omega) he
  have hcl2 := (cut_len s [44, 32, 64]).1
  have hNM := fun w he => readNaming_any (cut s [44, 32, 64]).1 (cut s [44, 32, 64]).2.1 (by omega) w he
  have hWD := fun w he => readWords_any s hsl w he
  have hIN := fun w => isNameP (trimSuffix s [58]) w
  have hS : readS s = if s = [] then some .none
  else if hasSuffix s [58] then (if nameOK (trimSuffix s [58]) then some (.label (trimSuffix s [58])) else none)
  else if (cut s [44, 32, 64]).2.2 then namingS (cut s [44, 32, 64]).1 (cut s [44, 32, 64]).2.1
  else (wordsS s).map .words := rfl
  have HSU := Lib.hid hSU; have HC2 := Lib.hid hC2; have HNM := Lib.hid hNM; have HWD := Lib.hid hWD; have HIN := Lib.hid hIN; have HS := Lib.hid hS
  clear hSU hC2 hcl2 hNM hWD hIN hS hsl
  generalize readS s = o at *
  generalize trimSuffix s [58] = nm at *
  generalize hasSuffix s [58] = q1 at *
  generalize namingS (cut s [44, 32, 64]).1 (cut s [44, 32, 64]).2.1 = on at *
  generalize (cut s [44, 32, 64]).1 = a1 at *
  generalize (cut s [44, 32, 64]).2.1 = a2 at *
  generalize (cut s [44, 32, 64]).2.2 = q2 at *
  generalize wordsS s = ow at *
  go_enter Tryz.func75, Tryz.ntmps75
  go_wp2_with (fail)
  (with_reducible refine (HC1.out _ (HE.out.below ((Below.refl _ _).alloc (Nat.le_refl _) _))).mono ?_)
  rintro e w1 ⟨rfl, hb1⟩
  have HR : Hid (w1.heap[w.heap.size]? = some (.cells #[.string ⟨#[]⟩, .slice none 0 0, .string ⟨#[]⟩, .nilFunc] 129 (0, 0))) := Lib.hid ((hb1.block _ (by simp)).trans (heap_alloc_new _ _))
  have HB1 := Lib.hid (((Below.refl _ _).alloc (Nat.le_refl _) (.cells #[.string ⟨#[]⟩, .slice none 0 0, .string ⟨#[]⟩, .nilFunc] 129)).trans (hb1.mono (by simp)))
  have HZ1 : Hid (w.heap.size < w1.heap.size) := Lib.hid (by have := hb1.size; simp at this; omega)
  clear hb1
  go_wp2_with (fail)
  (with_reducible refine (HT.out _).mono ?_)
  rintro e w2 ⟨rfl, hb2⟩
  have HR : Hid (w2.heap[w.heap.size]? = some (.cells #[.string ⟨#[]⟩, .slice none 0 0, .string ⟨#[]⟩, .nilFunc] 129 (0, 0))) := Lib.hid ((hb2.block _ HZ1.out).trans HR.out)
  have HB2 := Lib.hid (HB1.out.trans (hb2.mono HB1.out.size))
  have HZ2 : Hid (w.heap.size < w2.heap.size) := Lib.hid (by have := hb2.size; have := HZ1.out; omega)
  clear hb2
  by_cases hs : s = []
  · have hO : o = some .none := by have := HS.out; rw [if_pos hs] at this; exact this
    subst hO
    subst hs
    clear HS HSU HC2 HNM HWD HIN HT HC1
    go_wp2_with (refine wpList_store_row rfl _ _ _ rfl w.heap.size _ rfl rfl 129 _ HR.out size_stm rfl (by simp [Value.oneCell']) ?_)
    exact bodyPost_ret (v := .tuple #[.agg #[.string ⟨#[]⟩, .slice none 0 0, .string ⟨#[]⟩, .nilFunc], .bool true]) (results_cell_tmp (show Tryz.f75.results = #[.cell 2 129, .tmp 3] by kernel_rfl) _ _ w.heap.size 129 _ _ _ rfl (setRow_heap _ _ _ _ _ _ HR.out) Tryz.underlying129 rfl size_stm) rfl ⟨(fun s h => by cases h; exact ⟨_, rfl, _, _, _, _, rfl, rfl, rfl, rfl, rfl⟩), (fun h => by cases h), below_setRow HB2.out (Nat.le_refl _) _⟩
  · have hO : o = if q1 then (if nameOK nm then some (.label nm) else none) else if q2 then on else ow.map .words := by have := HS.out; rw [if_neg hs] at this; exact this
    have HO := Lib.hid hO
    have hsq : (s == []) = false := beq_eq_false_iff_ne.2 hs
    clear hO HS hs HT HC1
    go_wp2_with (fail)
    (with_reducible refine (HSU.out _).mono ?_)
    rintro e wu ⟨rfl, rfl⟩
    cases q1 with
    | true =>
      have hO : o = if nameOK nm then some (.label nm) else none := HO.out
      have HO2 := Lib.hid hO
      clear hO HO
      generalize nameOK nm = nq at *
      go_wp2_with (fail)
      (with_reducible refine (HIN.out _).mono ?_)
      rintro e w3 ⟨rfl, hb3⟩
      have HR : Hid (w3.heap[w.heap.size]? = some (.cells #[.string ⟨#[]⟩, .slice none 0 0, .string ⟨#[]⟩, .nilFunc] 129 (0, 0))) := Lib.hid ((hb3.block _ HZ2.out).trans HR.out)
      have HB3 := Lib.hid (HB2.out.trans (hb3.mono HB2.out.size))
      have HZ3 : Hid (w.heap.size < w3.heap.size) := Lib.hid (by have := hb3.size; have := HZ2.out; omega)
      clear hb3
      go_wp2_with (refine wpList_store_row rfl _ _ _ rfl w.heap.size _ rfl rfl 129 _ HR.out size_stm rfl (by simp [Value.oneCell']) ?_)
      cases nq with
      | true =>
        have hO : o = some (.label nm) := HO2.out
        subst hO
        exact bodyPost_ret (v := .tuple #[.agg #[str nm, .slice none 0 0, .string ⟨#[]⟩, .nilFunc], .bool true]) (results_cell_tmp (show Tryz.f75.results = #[.cell 2 129, .tmp 3] by kernel_rfl) _ _ w.heap.size 129 _ _ _ rfl (setRow_heap _ _ _ _ _ _ HR.out) Tryz.underlying129 rfl size_stm) rfl ⟨(fun s h => by cases h; exact ⟨_, rfl, _, _, _, _, rfl, rfl, rfl, rfl, rfl⟩), (fun h => by cases h), below_setRow HB3.out (Nat.le_refl _) _⟩
      | false =>
        have hO : o = none := HO2.out
        subst hO
        exact bodyPost_ret (v := .tuple #[.agg #[str nm, .slice none 0 0, .string ⟨#[]⟩, .nilFunc], .bool false]) (results_cell_tmp (show Tryz.f75.results = #[.cell 2 129, .tmp 3] by kernel_rfl) _ _ w.heap.size 129 _ _ _ rfl (setRow_heap _ _ _ _ _ _ HR.out) Tryz.underlying129 rfl size_stm) rfl ⟨(fun s h => by cases h), fun _ => ⟨_, rfl, _, _, _, _, rfl, rfl, rfl, rfl, rfl⟩, below_setRow HB3.out (Nat.le_refl _) _⟩
    | false =>
      have hO : o = if q2 then on else ow.map .words := HO.out
      have HO2 := Lib.hid hO
      clear hO HO
      go_wp2_with (fail)
      (with_reducible refine (HC2.out _ (HE.out.below HB2.out)).mono ?_)
      rintro e w3 ⟨rfl, hb3⟩
      have HR : Hid (w3.heap[w.heap.size]? = some (.cells #[.string ⟨#[]⟩, .slice none 0 0, .string ⟨#[]⟩, .nilFunc] 129 (0, 0))) := Lib.hid ((hb3.block _ HZ2.out).trans HR.out)
      have HB3 := Lib.hid (HB2.out.trans (hb3.mono HB2.out.size))
      have HZ3 : Hid (w.heap.size < w3.heap.size) := Lib.hid (by have := hb3.size; have := HZ2.out; omega)
      clear hb3
      cases q2 with
      | true =>
        have hO : o = on := HO2.out
        subst hO
        clear HO2
        go_wp2_with (fail)
        (with_reducible refine (HNM.out _ (HE.out.below HB3.out)).mono ?_)
        rintro e w4 ⟨hy, hno, hb4⟩
        have HSZ3 := Lib.hid HB3.out.size
        have HR : Hid (w4.heap[w.heap.size]? = some (.cells #[.string ⟨#[]⟩, .slice none 0 0, .string ⟨#[]⟩, .nilFunc] 129 (0, 0))) := Lib.hid ((hb4.block _ HZ3.out).trans HR.out)
        have HB4 := Lib.hid (HB3.out.trans (hb4.mono HB3.out.size))
        have HZ4 : Hid (w.heap.size < w4.heap.size) := Lib.hid (by have := hb4.size; have := HZ3.out; omega)
        clear hb4
        cases o with
        | none =>
          obtain ⟨v, rfl, c0, c1, c2, c3, rfl, o0, o1, o2, o3⟩ := hno rfl
          clear hy hno
          go_wp2_with (refine wpList_store_row rfl _ _ _ rfl w.heap.size _ rfl rfl 129 _ HR.out size_stm rfl (four_one o0 o1 o2 o3) ?_)
          exact bodyPost_ret (v := .tuple #[.agg #[c0, c1, c2, c3], .bool false]) (results_cell_tmp (show Tryz.f75.results = #[.cell 2 129, .tmp 3] by kernel_rfl) _ _ w.heap.size 129 _ _ _ rfl (setRow_heap _ _ _ _ _ _ HR.out) Tryz.underlying129 rfl size_stm) rfl ⟨(fun s h => by cases h), fun _ => ⟨_, rfl, _, _, _, _, rfl, o0, o1, o2, o3⟩, below_setRow HB4.out (Nat.le_refl _) _⟩
        | some st =>
          obtain ⟨v, rfl, c0, c1, c2, c3, rfl, hst⟩ := hy st rfl
          obtain ⟨o0, o1, o2, o3⟩ := stmV_four hst
          have HST := Lib.hid hst
          clear hy hno hst
          go_wp2_with (refine wpList_store_row rfl _ _ _ rfl w.heap.size _ rfl rfl 129 _ HR.out size_stm rfl (four_one o0 o1 o2 o3) ?_)
          have hst2 := stmV_base (stmV_row HST.out (Nat.lt_of_lt_of_le HZ3.out (Nat.le_refl _)) (setRow_only w4 w.heap.size #[c0, c1, c2, c3]) (fun k h1 _ h2 => by have := HZ3.out; omega)) HSZ3.out
          exact bodyPost_ret (v := .tuple #[.agg #[c0, c1, c2, c3], .bool true]) (results_cell_tmp (show Tryz.f75.results = #[.cell 2 129, .tmp 3] by kernel_rfl) _ _ w.heap.size 129 _ _ _ rfl (setRow_heap _ _ _ _ _ _ HR.out) Tryz.underlying129 rfl size_stm) rfl ⟨(fun s h => by cases h; exact ⟨_, rfl, _, _, _, _, rfl, hst2⟩), (fun h => by cases h), below_setRow HB4.out (Nat.le_refl _) _⟩
      | false =>
        have hO : o = ow.map .words := HO2.out
        subst hO
        clear HO2
        go_wp2_with (fail)
        (with_reducible refine (HWD.out _ (HE.out.below HB3.out)).mono ?_)
        rintro e w4 hy
        cases ow with
        | none =>
          obtain ⟨rfl, hb4⟩ := hy
          have HR : Hid (w4.heap[w.heap.size]? = some (.cells #[.string ⟨#[]⟩, .slice none 0 0, .string ⟨#[]⟩, .nilFunc] 129 (0, 0))) := Lib.hid ((hb4.block _ HZ3.out).trans HR.out)
          have HB4 := Lib.hid (HB3.out.trans (hb4.mono HB3.out.size))
          have HZ4 : Hid (w.heap.size < w4.heap.size) := Lib.hid (by have := hb4.size; have := HZ3.out; omega)
          clear hb4
          go_wp2_with (refine wpList_store_row rfl _ _ _ rfl w.heap.size _ rfl rfl 129 _ HR.out size_stm rfl (by simp [Value.oneCell']) ?_)
          exact bodyPost_ret (v := .tuple #[.agg #[.string ⟨#[]⟩, .slice none 0 0, .string ⟨#[]⟩, .nilFunc], .bool false]) (results_cell_tmp (show Tryz.f75.results = #[.cell 2 129, .tmp 3] by kernel_rfl) _ _ w.heap.size 129 _ _ _ rfl (setRow_heap _ _ _ _ _ _ HR.out) Tryz.underlying129 rfl size_stm) rfl ⟨(fun s h => by cases h), fun _ => ⟨_, rfl, _, _, _, _, rfl, rfl, rfl, rfl, rfl⟩, below_setRow HB4.out (Nat.le_refl _) _⟩
        | some ws =>
          obtain ⟨v, rfl, how, hb4⟩ := hy
          obtain ⟨A, C, rfl⟩ := ownW_slice how
          have HOW := Lib.hid how
          have HSZ3 := Lib.hid HB3.out.size
          clear how
          have HR : Hid (w4.heap[w.heap.size]? = some (.cells #[.string ⟨#[]⟩, .slice none 0 0, .string ⟨#[]⟩, .nilFunc] 129 (0, 0))) := Lib.hid ((hb4.block _ HZ3.out).trans HR.out)
          have HB4 := Lib.hid (HB3.out.trans (hb4.mono HB3.out.size))
          have HZ4 : Hid (w.heap.size < w4.heap.size) := Lib.hid (by have := hb4.size; have := HZ3.out; omega)
          clear hb4
          go_wp2_with (refine wpList_store_row rfl _ _ _ rfl w.heap.size _ rfl rfl 129 _ HR.out size_stm rfl (by simp [Value.oneCell']) ?_)
          have hst : StmV w4 w3.heap.size (.words ws) (str []) (.slice A ws.length C) (str []) .nilFunc := ⟨rfl, HOW.out, rfl, rfl⟩
          have hst2 := stmV_base (stmV_row hst HZ3.out (setRow_only w4 w.heap.size #[.string ⟨#[]⟩, .slice A ws.length C, .string ⟨#[]⟩, .nilFunc]) (fun k h1 _ h2 => by have := HZ3.out; omega)) HSZ3.out
          exact bodyPost_ret (v := .tuple #[.agg #[.string ⟨#[]⟩, .slice A ws.length C, .string ⟨#[]⟩, .nilFunc], .bool true]) (results_cell_tmp (show Tryz.f75.results = #[.cell 2 129, .tmp 3] by kernel_rfl) _ _ w.heap.size 129 _ _ _ rfl (setRow_heap _ _ _ _ _ _ HR.out) Tryz.underlying129 rfl size_stm) rfl ⟨(fun s h => by cases h; exact ⟨_, rfl, _, _, _, _, rfl, hst2⟩), (fun h => by cases h), below_setRow HB4.out (Nat.le_refl _) _⟩

end Go.Proofs.YtakdhdaoklcidaaGreatDoor

namespace Go.Proofs.YtakdhdaoklcidaaGreatDoor
open Go.RowKit Go.Lib
set_option linter.unusedVariables false
set_option maxRecDepth 100000

/-- A text's lines. -/
def linesT (l : Bs) : List Bs := Lib.split l [10]
theorem splitK_len : ∀ (k : Nat) (l : Bs), (splitK [10] 0 k l).length ≤ k + 1 ∧ ∀ x ∈ splitK [10] 0 k l, x.length ≤ l.length
  | 0, l => ⟨by simp [splitK], fun x hx => by simp [splitK] at hx; rw [hx]; exact Nat.le_refl _⟩
  | k + 1, l => by
    unfold splitK
    split
    · exact ⟨by simp, fun x hx => by rw [List.mem_singleton.1 hx]; exact Nat.le_refl _⟩
    · have := splitK_len k (l.drop ((index l [10]).toNat + [10].length))
      refine ⟨by simp; exact this.1, fun x hx => ?_⟩
      rcases List.mem_cons.1 hx with h | h
      · rw [h]; simp; omega
      · have := this.2 x h; simp at this; omega
theorem splitP (l : Bs) (w : World) (hs : l.length ≤ 1000000) (he : Env w) : Calls Tryz.prog 74 #[str l, .string ⟨#[10]⟩] w fun e w' => e = .returned (.slice (some ⟨w.heap.size, 0, none⟩) (linesT l).length (linesT l).length) ∧ w' = w.alloc (.cells ((linesT l).map str).toArray 9) := by
  obtain ⟨m, hm⟩ := he.mlen
  have h := Any.strings_Split splitLays (by kernel_rfl) ⟨l.toArray⟩ ⟨#[10]⟩ m w (by show l.toArray.size < _; rw [List.size_toArray]; omega) hm (by decide)
  have e1 : (splitB ⟨#[10]⟩ 0 (countB ⟨l.toArray⟩ ⟨#[10]⟩) ⟨l.toArray⟩).map (·.data.toList) = linesT l := splitB_data _ _ _ _
  have e2 : (splitB ⟨#[10]⟩ 0 (countB ⟨l.toArray⟩ ⟨#[10]⟩) ⟨l.toArray⟩).map Value.string = (linesT l).map str := by
    rw [← e1, List.map_map]
    refine List.map_congr_left fun s _ => ?_
    show Value.string s = str s.data.toList
    rw [show str s.data.toList = Value.string ⟨s.data.toList.toArray⟩ from rfl, mk_data]
  have e3 : countB ⟨l.toArray⟩ ⟨#[10]⟩ + 1 = (linesT l).length := by
    rw [← e1, List.length_map]
    exact (splitB_all ⟨#[10]⟩ (by decide) 0 _ _ rfl).symm
  rw [e2, e3] at h
  exact h

/-- Four cells of a line. -/
abbrev Q4 := Value × Value × Value × Value
def q4C (q : Q4) : List Value := [q.1, q.2.1, q.2.2.1, q.2.2.2]
def q4Cs (l : List Q4) : List Value := l.flatMap q4C
theorem q4Cs_app (a b : List Q4) : q4Cs (a ++ b) = q4Cs a ++ q4Cs b := by unfold q4Cs; exact List.flatMap_append
theorem info_stmP : (Tryz.prog.info? 129).map (fun i => (i.zero, i.size, i.bytes)) = some (some (.agg #[.string ⟨#[]⟩, .slice none 0 0, .string ⟨#[]⟩, .nilFunc]), 4, 64) := by kernel_rfl
abbrev OwnS (w : World) (B : Nat) (v : Value) (qs : List Q4) : Prop := w.ownsRow B 129 4 v qs.length (q4Cs qs)
theorem ownS_slice {w : World} {B : Nat} {v : Value} {l : List Q4} (h : OwnS w B v l) : ∃ A C, v = .slice A l.length C := own_slice' h
theorem ownS_keep {w w' : World} {B : Nat} {v : Value} {l : List Q4} (h : OwnS w B v l) {S : Nat → Prop} (o : Only S w w') (hS : ∀ g, v.ownBlock = some g → ¬ S g) : OwnS w' B v l := by
  refine ⟨h.1, ?_⟩
  rcases h.2 with hn | ⟨g, cap, cur, rfl, hb, hg, rest⟩
  · exact .inl hn
  · exact .inr ⟨g, cap, cur, rfl, hb, o.keeps (hS g rfl) hg, rest⟩
theorem ownS_lt {w : World} {B : Nat} {v : Value} {l : List Q4} (h : OwnS w B v l) : ∀ g, v.ownBlock = some g → B ≤ g ∧ g < w.heap.size ∧ ∃ cs fr, w.heap[g]? = some (.cells cs 129 fr) := by
  intro g hg
  rcases h.2 with ⟨rfl, _⟩ | ⟨g', cap, cur, rfl, hb, hc, _⟩
  · simp [Value.ownBlock] at hg
  · simp [Value.ownBlock] at hg
    subst hg
    exact ⟨hb, (Array.getElem?_eq_some_iff.1 hc).1, _, _, hc⟩
theorem ownS_below {w w' : World} {B : Nat} {v : Value} {l : List Q4} (h : OwnS w B v l) (hb : Below w.heap.size w w') : OwnS w' B v l :=
  ownS_keep (S := fun k => w.heap.size ≤ k) h (Only.of_below _ hb) (fun g hg hs => by have := (ownS_lt h g hg).2.1; omega)
/-- What a line says stands while only blocks of lines' rows turn. -/
theorem stmV_typed {w w' : World} {B : Nat} {s : Stm} {c0 c1 c2 c3 : Value} (h : StmV w B s c0 c1 c2 c3) {S : Nat → Prop} (o : Only S w w') (hS : ∀ k, S k → ∃ cs fr, w.heap[k]? = some (.cells cs 129 fr)) : StmV w' B s c0 c1 c2 c3 := by
  have no : ∀ k cs t fr, w.heap[k]? = some (.cells cs t fr) → t ≠ 129 → ¬ S k := fun k cs t fr h1 h2 h3 => by
    obtain ⟨cs', fr', h4⟩ := hS k h3
    rw [h1] at h4
    injection h4 with h4
    injection h4 with _ h5
    exact h2 h5
  have nw : ∀ v ws, OwnW w B v ws → OwnW w' B v ws := fun v ws h1 => ownW_keep h1 o (fun k hk => by
    rcases h1.2 with ⟨rfl, _⟩ | ⟨g', cap, cur, rfl, hb, hc, _⟩
    · simp [Value.ownBlock] at hk
    · simp [Value.ownBlock] at hk
      subst hk
      exact no _ _ _ _ hc (by decide))
  cases s with
  | none => exact h
  | label l => exact h
  | words ws => exact ⟨h.1, nw _ _ h.2.1, h.2.2⟩
  | la rd l =>
    obtain ⟨h0, ⟨ws, hl, h1⟩, h2, b, h3, h4, h5⟩ := h
    exact ⟨h0, ⟨ws, hl, nw _ _ h1⟩, h2, b, h3, h4, o.keeps (no _ _ _ _ h5 (by decide)) h5⟩
  | jump i l =>
    obtain ⟨h0, ⟨ws, hl, h1⟩, h2, b, h3, h4, m, h5⟩ := h
    exact ⟨h0, ⟨ws, hl, nw _ _ h1⟩, h2, b, h3, h4, m, o.keeps (no _ _ _ _ h5 (by decide)) h5⟩
theorem stmV_below {w w' : World} {B : Nat} {s : Stm} {c0 c1 c2 c3 : Value} (h : StmV w B s c0 c1 c2 c3) (hb : Below w.heap.size w w') : StmV w' B s c0 c1 c2 c3 :=
  stmV_typed (S := fun _ => False) h ⟨hb.os, hb.tape, hb.output, hb.size, fun k hk _ => hb.block k hk⟩ (fun k hk => hk.elim)
/-- A row of lines' meanings. -/
structure StmRow (w : World) (B : Nat) (v : Value) (ss : List Stm) (qs : List Q4) : Prop where
  own : OwnS w B v qs
  len : qs.length = ss.length
  at' : ∀ k (hk : k < ss.length) (hq : k < qs.length), StmV w B ss[k] qs[k].1 qs[k].2.1 qs[k].2.2.1 qs[k].2.2.2
theorem stmRow_nil (w : World) (B : Nat) : StmRow w B (.slice none 0 0) [] [] := ⟨⟨rfl, .inl ⟨rfl, rfl⟩⟩, rfl, fun k hk => by simp at hk⟩
theorem stmRow_below {w w' : World} {B : Nat} {v : Value} {ss : List Stm} {qs : List Q4} (h : StmRow w B v ss qs) (hb : Below w.heap.size w w') : StmRow w' B v ss qs :=
  ⟨ownS_below h.own hb, h.len, fun k hk hq => stmV_below (h.at' k hk hq) hb⟩
/-- One line more. -/
theorem stmRow_push (w : World) (B : Nat) (v : Value) (ss : List Stm) (qs : List Q4) (n : Nat) (hn : qs.length = n) (h : StmRow w B v ss qs) (hl : n ≤ 1000000) (hB : B ≤ w.heap.size) (s : Stm) (q : Q4) (hs : StmV w B s q.1 q.2.1 q.2.2.1 q.2.2.2) (ty : TypeId) :
    ∃ A C w', (Builtin.append_ #[76, 76] ty #[v, .slice (some ⟨w.heap.size, 0, none⟩) 1 1]).run Tryz.prog (w.alloc (.cells #[q.1, q.2.1, q.2.2.1, q.2.2.2] 129)) = .ok (.slice A (n + 1) C) w' ∧ StmRow w' B (.slice A (n + 1) C) (ss ++ [s]) (qs ++ [q]) ∧ (∀ B0 w0, Below B0 w0 w → B0 ≤ B → B0 ≤ w.heap.size → Below B0 w0 w') := by
  obtain ⟨i0, hi, hz0, hz1, hz2⟩ := info_parts info_stmP
  have ha : Below w.heap.size w (w.alloc (.cells #[q.1, q.2.1, q.2.2.1, q.2.2.2] 129)) := (Below.refl _ _).alloc (Nat.le_refl _) _
  have h2 := stmRow_below h ha
  have hs2 := stmV_below hs ha
  have hc := heap_alloc_new w (.cells #[q.1, q.2.1, q.2.2.1, q.2.2.2] 129)
  have hBa := Nat.le_trans hB ha.size
  have hold := ha.size
  generalize w.alloc (.cells #[q.1, q.2.1, q.2.2.1, q.2.2.2] 129) = wa at *
  have hone := stmV_four hs
  have hn1 : ∀ j u, (q4C q)[j]? = some u → wa.cell? ((⟨w.heap.size, 0, none⟩ : Addr).add j) = some u := by
    intro j u hj
    rw [Lib.add_plain, Nat.zero_add, Lib.cell_of_heap hc]
    simpa [q4C] using hj
  have h1 : ∀ u ∈ q4C q, u.oneCell' = true := by
    intro u hu
    simp [q4C] at hu
    rcases hu with rfl | rfl | rfl | rfl
    · exact hone.1
    · exact hone.2.1
    · exact hone.2.2.1
    · exact hone.2.2.2
  obtain ⟨v', w', hr, ho, hg, _, h5⟩ := run_append_own_at (P := Tryz.prog) wa B 76 ty 129 i0 _ 4 64 Tryz.underlying76 hi hz0 hz1 hz2 rfl (by decide) v qs.length _ h2.own ⟨w.heap.size, 0, none⟩ 1 1 (q4C q) rfl hn1 h1 (by unfold maxLen; omega) (by omega) hBa
  have ho' : OwnS w' B v' (qs ++ [q]) := by
    unfold OwnS
    rw [q4Cs_app, List.length_append]
    simpa [q4Cs] using ho
  have hon : Only (fun k => v.ownBlock = some k) wa w' := (Only.refl _ wa).grown hg (fun k hk => .inl hk)
  have hty : ∀ k, v.ownBlock = some k → ∃ cs fr, wa.heap[k]? = some (.cells cs 129 fr) := fun k hk => (ownS_lt h2.own k hk).2.2
  obtain ⟨A, C, rfl⟩ := ownS_slice ho'
  have e : (qs ++ [q]).length = n + 1 := by simp [hn]
  rw [e] at hr ho'
  refine ⟨A, C, w', hr, ⟨ho', by simp [h.len], fun k hk hq => ?_⟩, fun B0 w0 hb h1 h2' => ?_⟩
  · by_cases c : k < ss.length
    · have c2 : k < qs.length := by rw [h.len]; exact c
      rw [List.getElem_append_left c, List.getElem_append_left c2]
      exact stmV_typed (h2.at' k c c2) hon hty
    · have hk2 : k = ss.length := by simp at hk; omega
      subst hk2
      have hq2 : ss.length = qs.length := h.len.symm
      have e1 : (ss ++ [s])[ss.length] = s := by simp
      have e2 : ∀ (i : Nat) (hi : i < (qs ++ [q]).length), i = qs.length → (qs ++ [q])[i] = q := fun i hi hh => by subst hh; simp
      rw [e1, e2 _ hq hq2]
      exact stmV_typed hs2 hon hty
  · have hbw := hb
    have hb3 : Below B0 w0 wa := hb.trans (ha.mono h2')
    exact Below.thenOnly hb3 hon (fun k hk => Nat.le_trans h1 (ownS_lt h2.own k hk).1) (Nat.le_trans h2' hold)

end Go.Proofs.YtakdhdaoklcidaaGreatDoor

namespace Go.Proofs.YtakdhdaoklcidaaGreatDoor
open Go.RowKit Go.Lib
set_option linter.unusedVariables false
set_option maxRecDepth 100000

def RaEnd (w : World) (ls : List Bs) (e : Ending) (w' : World) : Prop :=
  (∃ k, k < ls.length ∧ (∀ i, i < k → ∃ s, lineS (ls.getD i []) = some s) ∧ lineS (ls.getD k []) = none ∧ e = .returned (.tuple #[.slice none 0 0, .int .i64 ((k : Int) + 1)]) ∧ Below w.heap.size w w') ∨
  ((∀ i, i < ls.length → ∃ s, lineS (ls.getD i []) = some s) ∧ ∃ v qs, e = .returned (.tuple #[v, .int .i64 0]) ∧ StmRow w' w.heap.size v (ls.filterMap lineS) qs ∧ Below w.heap.size w w')
theorem stmRow_base {w : World} {B B' : Nat} {v : Value} {ss : List Stm} {qs : List Q4} (h : StmRow w B v ss qs) (hB : B' ≤ B) : StmRow w B' v ss qs := by
  refine ⟨⟨h.own.1, ?_⟩, h.len, fun k hk hq => stmV_base (h.at' k hk hq) hB⟩
  rcases h.own.2 with hn | ⟨g, cap, cur, rfl, hb, rest⟩
  · exact .inl hn
  · exact .inr ⟨g, cap, cur, rfl, by omega, rest⟩

set_option maxHeartbeats 4000000 in
theorem readAll_any (l : Bs) (hl : l.length ≤ 70000) (w : World) (he : Env w) : Calls Tryz.prog 43 #[str l] w (RaEnd w (linesT l)) := by
  have HSP := Lib.hid (splitP l w (by omega) he)
  have hlen : ∀ x ∈ linesT l, x.length ≤ l.length := (splitK_len _ l).2
  have HLN := Lib.hid hlen
  have HE := Lib.hid he
  have hnl : (linesT l).length ≤ 1000000 := by
    have h1 := (splitK_len (Lib.count l [10]) l).1
    have h2 : Lib.count l [10] ≤ l.length := by rw [Lib.count_one]; exact List.count_le_length
    have h3 : (linesT l).length = (splitK [10] 0 (Lib.count l [10]) l).length := rfl
    omega
  clear he hlen
  generalize linesT l = ls at *
  go_enter Tryz.func43, Tryz.ntmps43
  go_wp2_with (fail)
  (with_reducible refine HSP.out.mono ?_)
  rintro e w1 ⟨rfl, hw1⟩
  have HCL : Hid (∀ j, j < ls.length → w1.cell? ⟨w.heap.size, j, none⟩ = some (str (ls.getD j []))) := Lib.hid fun j hj => by
    rw [hw1, Lib.cell_of_heap (heap_alloc_new w _)]
    simp [List.getD_eq_getElem?_getD, List.getElem?_eq_getElem hj]
  have HB1 : Hid (Below w.heap.size w w1) := Lib.hid (by rw [hw1]; exact (Below.refl _ _).alloc (Nat.le_refl _) _)
  clear hw1 HSP
  go_wp2
  go_loopw [2, 11] (fun v k wr => ∃ (j : Nat) (qs : List Q4), j ≤ ls.length ∧ k = .int .i64 j ∧ (∀ i, i < j → ∃ s, lineS (ls.getD i []) = some s) ∧ StmRow wr w1.heap.size v ((ls.take j).filterMap lineS) qs ∧ ((ls.take j).filterMap lineS).length = j ∧ Below w1.heap.size w1 wr) (fun _ k _ => ls.length - (RowKit.intOf k).toNat)
  case atStart => exact ⟨0, [], Nat.zero_le _, rfl, fun i hi => by omega, stmRow_nil _ _, rfl, Below.refl _ _⟩
  case round =>
    obtain ⟨j, qs, hj, rfl, hall, hrow, hsl, hb⟩ := hrel
    obtain ⟨A, C, rfl⟩ := ownS_slice hrow.own
    have hqn : qs.length = j := by rw [hrow.len, hsl]
    rw [hqn]
    have HALL := Lib.hid hall
    have HROW := Lib.hid hrow
    have HB := Lib.hid hb
    have HQN := Lib.hid hqn
    have HSL := Lib.hid hsl
    clear hall hqn hsl
    by_cases hlt : j < ls.length
    · have hx := HCL.out j hlt
      have hxw := cell_stays HB.out hx
      have hmem : ls.getD j [] ∈ ls := by rw [List.getD_eq_getElem?_getD, List.getElem?_eq_getElem hlt]; exact List.getElem_mem hlt
      have hll := HLN.out _ hmem
      have htk : ls.take (j + 1) = ls.take j ++ [ls.getD j []] := by rw [List.take_succ_eq_append_getElem hlt, List.getD_eq_getElem?_getD, List.getElem?_eq_getElem hlt]; rfl
      have HTK := Lib.hid htk
      have HRD := Lib.hid (fun w he => readL (ls.getD j []) (by omega) w he)
      have HSZ := Lib.hid hb.size
      have HEW := Lib.hid ((HE.out.below HB1.out).below HB.out)
      clear hx hmem hll htk hb hrow
      generalize hlj : ls.getD j [] = lj at *
      have HLJ := Lib.hid hlj
      clear hlj
      go_wp2_with (fail)
      (with_reducible refine (HRD.out _ HEW.out).mono ?_)
      rintro e w2 ⟨hy, hno, hb2⟩
      have HB2 := Lib.hid (HB.out.trans (hb2.mono HB.out.size))
      have HROW2 := Lib.hid (stmRow_below HROW.out hb2)
      clear hxw
      cases hls : lineS lj with
      | none =>
        obtain ⟨v, rfl, c0, c1, c2, c3, rfl, o0, o1, o2, o3⟩ := hno hls
        have HLS := Lib.hid hls
        clear hy hno hb2 hls
        go_wp2_with (refine wpList_store_row rfl _ _ _ rfl w2.heap.size _ rfl rfl 129 _ (heap_alloc_new w2 _) size_stm rfl (four_one o0 o1 o2 o3) ?_)
        go_ret2
        exact Or.inl ⟨j, hlt, HALL.out, by rw [HLJ.out]; exact HLS.out, rfl, HB1.out.trans ((below_setRow (HB2.out.alloc HB2.out.size _) HB2.out.size _).mono HB1.out.size)⟩
      | some st =>
        obtain ⟨v, rfl, c0, c1, c2, c3, rfl, hst⟩ := hy st hls
        obtain ⟨o0, o1, o2, o3⟩ := stmV_four hst
        have HST := Lib.hid (stmV_base hst HSZ.out)
        have HLS := Lib.hid hls
        have HB2S := Lib.hid hb2.size
        clear hy hno hls hst hb2
        go_wp2_with (first
          | (refine wpList_store_row rfl _ _ _ rfl w2.heap.size _ rfl rfl 129 _ (heap_alloc_new w2 _) size_stm rfl (four_one o0 o1 o2 o3) ?_; refine Hid.out ?_))
        have hbww : Below w2.heap.size w2 ((w2.alloc (.cells #[.string ⟨#[]⟩, .slice none 0 0, .string ⟨#[]⟩, .nilFunc] 129)).setRow w2.heap.size #[c0, c1, c2, c3]) := below_setRow ((Below.refl _ _).alloc (Nat.le_refl _) _) (Nat.le_refl _) _
        have hcw : ((w2.alloc (.cells #[.string ⟨#[]⟩, .slice none 0 0, .string ⟨#[]⟩, .nilFunc] 129)).setRow w2.heap.size #[c0, c1, c2, c3]).heap[w2.heap.size]? = some (.cells #[c0, c1, c2, c3] 129 (0, 0)) := setRow_heap _ _ _ _ _ _ (heap_alloc_new w2 _)
        generalize (w2.alloc (.cells #[.string ⟨#[]⟩, .slice none 0 0, .string ⟨#[]⟩, .nilFunc] 129)).setRow w2.heap.size #[c0, c1, c2, c3] = ww at *
        have HROW3 := stmRow_below HROW2.out hbww
        have HST3 := stmV_below HST.out hbww
        have HB3 := HB2.out.trans (hbww.mono HB2.out.size)
        have HCW := Lib.hid hcw
        obtain ⟨A4, C4, w4, hr4, hrow4, hb4⟩ := stmRow_push ww w1.heap.size _ _ qs j HQN.out HROW3 (by omega) HB3.size st (c0, c1, c2, c3) HST3 76
        rw [HQN.out] at hr4
        have HRUN := Lib.hid hr4
        have HROW4 := Lib.hid hrow4
        have HB4 := Lib.hid (hb4 w1.heap.size w1 HB3 (Nat.le_refl _) HB3.size)
        have HALL4 : Hid (∀ i, i < j + 1 → ∃ s, lineS (ls.getD i []) = some s) := Lib.hid fun i hi => by
          by_cases c : i < j
          · exact HALL.out i c
          · obtain rfl : i = j := by omega
            exact ⟨st, by rw [HLJ.out]; exact HLS.out⟩
        have HFM : Hid ((ls.take (j + 1)).filterMap lineS = (ls.take j).filterMap lineS ++ [st]) := Lib.hid (by
          rw [HTK.out, List.filterMap_append]
          simp [HLS.out])
        clear hbww hcw HROW3 HST3 HB3 hr4 hrow4 hb4 HROW2 HST HB2 HB2S
        refine Lib.hid ?_
        go_wp2_with (first
          | (refine wpList_load_row rfl _ _ rfl w2.heap.size rfl 129 _ _ _ HCW.out Tryz.underlying129 rfl size_stm ?_)
          | (at_builtin; refine wpList_append_run rfl _ _ _ rfl (.slice A j C) (.slice (some ⟨ww.heap.size, 0, none⟩) 1 1) (.slice A4 (j + 1) C4) w4 rfl rfl HRUN.out ?_))
        go_roundw
        case rel => exact ⟨j + 1, qs ++ [(c0, c1, c2, c3)], by omega, by go_num, HALL4.out, by rw [HFM.out]; exact HROW4.out, by rw [HFM.out, List.length_append, HSL.out]; rfl, HB4.out⟩
        case measure => simp [RowKit.intOf]; omega
    · obtain rfl : j = ls.length := by omega
      rw [List.take_length] at HROW
      clear HCL
      go_wp2
      go_ret2
      exact Or.inr ⟨HALL.out, _, qs, rfl, by have := stmRow_base HROW.out HB1.out.size; rw [HQN.out] at *; exact this, HB1.out.trans (HB.out.mono HB1.out.size)⟩

end Go.Proofs.YtakdhdaoklcidaaGreatDoor

namespace Go.Proofs.YtakdhdaoklcidaaGreatDoor
open Go.RowKit Go.Lib Go.Maps Go.WideMaps
set_option linter.unusedVariables false
set_option maxRecDepth 100000

/-- Block mb is a map from labels to addresses, of at most n entries. -/
def LabMap (w : World) (mb n : Nat) (f : Bs → Option Int) : Prop :=
  ∃ D : DataW Unit, w.ownsMap Tryz.prog 9 (plainElem Tryz.prog 36) mb n D ∧ (∀ l, Maps.has D (.string l) = (f l).isSome) ∧ (∀ l, D.atKey (.string l) (.lit (.int .u64 0)) = .lit (.int .u64 ((f l).getD 0)))
theorem labKeyed : Keyed Tryz.prog 9 := string_keyed Tryz.underlying9
theorem labKey (l : Bs) (hl : l.length ≤ 1000000) : keyOf Tryz.prog 9 (str l) = some (.string l) := by
  have h := Go.WideMaps.keyOf_string_mk (P := Tryz.prog) (k := 9) Tryz.underlying9 (s := ⟨l.toArray⟩) (by show l.toArray.size ≤ _; rw [List.size_toArray]; unfold maxLen; omega)
  exact h
theorem LabMap.made (w : World) : LabMap (w.alloc (.map #[] 0)) w.heap.size 0 fun _ => none :=
  ⟨_, World.ownsMap_made w Tryz.prog _ _, fun l => rfl, fun l => rfl⟩
theorem LabMap.lt {w : World} {mb n : Nat} {f : Bs → Option Int} (h : LabMap w mb n f) : mb < w.heap.size := by obtain ⟨D, h1, _⟩ := h; exact h1.lt
theorem LabMap.keeps {w w' : World} {mb n : Nat} {f : Bs → Option Int} {S : Nat → Prop} (h : LabMap w mb n f) (o : Only S w w') (hs : ¬ S mb) : LabMap w' mb n f := by
  obtain ⟨D, h1, h2⟩ := h
  have hlt := h1.lt
  obtain ⟨es, clock, hb, r⟩ := h1
  exact ⟨D, ⟨es, clock, (o.block mb hlt hs).trans hb, r⟩, h2⟩
theorem LabMap.below {w w' : World} {mb n : Nat} {f : Bs → Option Int} (h : LabMap w mb n f) (hb : Below w.heap.size w w') : LabMap w' mb n f :=
  h.keeps (S := fun k => w.heap.size ≤ k) (Only.of_below _ hb) (by have := h.lt; omega)
theorem LabMap.look {w : World} {mb n : Nat} {f : Bs → Option Int} (h : LabMap w mb n f) (l : Bs) (hl : l.length ≤ 1000000) :
    (Instr.lookup 79 (.map (some mb)) (str l) true).run Tryz.prog w = .ok (.tuple #[.int .u64 ((f l).getD 0), .bool (f l).isSome]) w := by
  obtain ⟨D, h1, h2, h3⟩ := h
  obtain ⟨v, ps, hr, hv⟩ := h1.look_ok labKeyed Tryz.underlying79 (Tryz.zeroValue36 w) (plainElem_int (H := Unit) Tryz.underlying36 (a := 0) (by decide)) (labKey l hl)
  obtain ⟨a, rfl, ha, _⟩ := plainElem_int_inv Tryz.underlying36 hv
  have e := congrArg Prod.fst ha
  simp only [] at e
  rw [h3 l] at e
  injection e with e
  injection e with _ e
  rw [hr, h2 l, ← e]
theorem LabMap.put {w : World} {mb n : Nat} {f : Bs → Option Int} (h : LabMap w mb n f) (hn : n ≤ 1000000) (l : Bs) (hl : l.length ≤ 1000000) (a : Int) (ha : 0 ≤ a ∧ a < 18446744073709551616) :
    ∃ w', (Instr.mapUpdate 79 (.map (some mb)) (str l) (.int .u64 a)).run Tryz.prog w = .ok () w' ∧ LabMap w' mb (n + 1) (fun x => if x = l then some a else f x) ∧ Only (fun k => k = mb) w w' := by
  obtain ⟨D, h1, h2, h3⟩ := h
  have hw : (Lit.int .u64 a).wf = true := by simp [Lit.wf, IntKind.min, IntKind.max, IntKind.signed, IntKind.bits]; omega
  obtain ⟨w', hr, ho, hg⟩ := h1.store labKeyed Tryz.underlying79 (by unfold maxLen; omega) (labKey l hl) (plainElem_int (H := Unit) Tryz.underlying36 hw)
  have g := hg.grown
  refine ⟨w', hr, ⟨_, ho, fun x => ?_, fun x => ?_⟩, ⟨g.os, g.tape, g.output, g.size, fun i hi hn => g.block i hi (by intro e; cases e; exact hn rfl)⟩⟩
  · by_cases e : x = l
    · subst e
      show _ = (if x = x then some a else f x).isSome
      rw [if_pos rfl, Maps.has_put_same h1.isMap (labKeyed.key (labKey x hl))]; rfl
    · show _ = (if x = l then some a else f x).isSome
      rw [if_neg e, Maps.has_put_other (by intro h; injection h with h; exact e h)]; exact h2 x
  · by_cases e : x = l
    · subst e
      show _ = DataW.lit (.int .u64 ((if x = x then some a else f x).getD 0))
      rw [if_pos rfl]; exact Maps.atKey_put_same h1.isMap (labKeyed.key (labKey x hl)) _ _
    · show _ = DataW.lit (.int .u64 ((if x = l then some a else f x).getD 0))
      rw [if_neg e, Maps.atKey_put_other (by intro h; injection h with h; exact e h)]; exact h3 x

/-- The label that a line is; how many words it has. -/
def labOf : Stm → Bs
  | .label l => l
  | _ => []
def sizeS : Stm → Nat
  | .none => 0
  | .label _ => 0
  | .words ws => ws.length
  | .la _ _ => 2
  | .jump _ _ => 1
/-- Where the k-th line's words stand. -/
def atK (ss : List Stm) (base : Int) : Nat → Int
  | 0 => base
  | k + 1 => (atK ss base k + 4 * ((sizeS (ss.getD k .none) : Nat) : Int)) % 18446744073709551616
/-- The labels of the first k lines. -/
def labF (ss : List Stm) (base : Int) : Nat → Bs → Option Int
  | 0 => fun _ => none
  | k + 1 => fun l => if labOf (ss.getD k .none) ≠ [] ∧ l = labOf (ss.getD k .none) then some (atK ss base k) else labF ss base k l
/-- Whether the k-th line is a label that stands in a line ahead. -/
def dupAt (ss : List Stm) (base : Int) (k : Nat) : Bool := !(labOf (ss.getD k .none)).isEmpty && (labF ss base k (labOf (ss.getD k .none))).isSome
theorem atK_in (ss : List Stm) (base : Int) (h : 0 ≤ base ∧ base < 18446744073709551616) (k : Nat) : 0 ≤ atK ss base k ∧ atK ss base k < 18446744073709551616 := by
  cases k with
  | zero => exact h
  | succ k => unfold atK; omega
theorem stm_c0 {w : World} {B : Nat} {s : Stm} {c0 c1 c2 c3 : Value} (h : StmV w B s c0 c1 c2 c3) : c0 = str (labOf s) ∧ ∃ A C, c1 = .slice A (sizeS s) C := by
  cases s with
  | none => exact ⟨h.1, _, _, h.2.1⟩
  | label l => exact ⟨h.1, _, _, h.2.1⟩
  | words ws => obtain ⟨A, C, hv⟩ := ownW_slice h.2.1; exact ⟨h.1, _, _, hv⟩
  | la rd l => obtain ⟨h0, ⟨ws, hl, h1⟩, _⟩ := h; obtain ⟨A, C, hv⟩ := ownW_slice h1; exact ⟨h0, A, C, by rw [hv, hl]; rfl⟩
  | jump i l => obtain ⟨h0, ⟨ws, hl, h1⟩, _⟩ := h; obtain ⟨A, C, hv⟩ := ownW_slice h1; exact ⟨h0, A, C, by rw [hv, hl]; rfl⟩
/-- The cells of a row of lines. -/
theorem q4Cs_at : ∀ (l : List Q4) (k j : Nat) (hk : k < l.length), j < 4 → (q4Cs l)[k * 4 + j]? = some ((q4C l[k]).getD j undef)
  | [], k, j, hk, hj => by simp at hk
  | q :: l, 0, j, hk, hj => by
    have e : q4Cs (q :: l) = q4C q ++ q4Cs l := by simp [q4Cs]
    rw [e, Nat.zero_mul, Nat.zero_add, List.getElem?_append_left (by simpa [q4C] using hj)]
    simp only [List.getElem_cons_zero]
    rw [List.getD_eq_getElem?_getD, List.getElem?_eq_getElem (by simpa [q4C] using hj)]; rfl
  | q :: l, k + 1, j, hk, hj => by
    have e : q4Cs (q :: l) = q4C q ++ q4Cs l := by simp [q4Cs]
    have h4 : (q4C q).length = 4 := rfl
    rw [e, List.getElem?_append_right (by rw [h4]; omega), h4, show (k + 1) * 4 + j - 4 = k * 4 + j by omega]
    simp only [List.getElem_cons_succ]
    exact q4Cs_at l k j (by simpa using hk) hj
def SAt (w : World) (g : Nat) (qs : List Q4) : Prop := ∀ k (hk : k < qs.length), w.cell? ⟨g, k * 4, none⟩ = some qs[k].1 ∧ w.cell? ⟨g, k * 4 + 1, none⟩ = some qs[k].2.1 ∧ w.cell? ⟨g, k * 4 + 2, none⟩ = some qs[k].2.2.1 ∧ w.cell? ⟨g, k * 4 + 3, none⟩ = some qs[k].2.2.2
theorem sAt_own {w : World} {B : Nat} {v : Value} {l : List Q4} (h : OwnS w B v l) (hl : l ≠ []) : ∃ g C, v = .slice (some ⟨g, 0, none⟩) l.length C ∧ SAt w g l ∧ g < w.heap.size := by
  rcases h.2 with ⟨rfl, h0⟩ | ⟨g, cap, cur, rfl, hb, hc, hn, _, hcs, ht⟩
  · exact absurd (List.eq_nil_of_length_eq_zero h0) hl
  · refine ⟨g, cap, rfl, fun k hk => ?_, (Array.getElem?_eq_some_iff.1 hc).1⟩
    have at1 : ∀ j, j < 4 → w.cell? ⟨g, k * 4 + j, none⟩ = some ((q4C l[k]).getD j undef) := fun j hj => by
      rw [Lib.cell_of_heap hc]
      have h1 := q4Cs_at l k j hk hj
      rw [← ht, List.getElem?_take, if_pos (by omega)] at h1
      simpa using h1
    exact ⟨at1 0 (by decide), at1 1 (by decide), at1 2 (by decide), at1 3 (by decide)⟩
theorem sAt_below {w w' : World} {g : Nat} {l : List Q4} (h : SAt w g l) (hb : Below w.heap.size w w') : SAt w' g l := fun k hk =>
  ⟨cell_stays hb (h k hk).1, cell_stays hb (h k hk).2.1, cell_stays hb (h k hk).2.2.1, cell_stays hb (h k hk).2.2.2⟩

end Go.Proofs.YtakdhdaoklcidaaGreatDoor

namespace Go.Proofs.YtakdhdaoklcidaaGreatDoor
open Go.RowKit Go.Lib Go.Maps Go.WideMaps
set_option linter.unusedVariables false
set_option maxRecDepth 100000

def PlEnd (w : World) (ss : List Stm) (base : Int) (e : Ending) (w' : World) : Prop :=
  (∃ k, k < ss.length ∧ (∀ i, i < k → dupAt ss base i = false) ∧ dupAt ss base k = true ∧ e = .returned (.tuple #[.map none, .int .i64 ((k : Int) + 1)]) ∧ Below w.heap.size w w') ∨
  ((∀ i, i < ss.length → dupAt ss base i = false) ∧ ∃ mb n, e = .returned (.tuple #[.map (some mb), .int .i64 0]) ∧ w.heap.size ≤ mb ∧ LabMap w' mb n (labF ss base ss.length) ∧ Below w.heap.size w w')
theorem dup_no {ss : List Stm} {base : Int} {k : Nat} {f : Bs → Option Int} {l : Bs} (hf : labF ss base k = f) (hl : labOf (ss.getD k .none) = l) (h : l = [] ∨ f l = none) : dupAt ss base k = false := by
  unfold dupAt
  rw [hf, hl]
  rcases h with h | h
  · simp [h]
  · simp [h]
theorem dup_yes {ss : List Stm} {base : Int} {k : Nat} {f : Bs → Option Int} {l : Bs} {a : Int} (hf : labF ss base k = f) (hl : labOf (ss.getD k .none) = l) (h0 : l ≠ []) (h : f l = some a) : dupAt ss base k = true := by
  unfold dupAt
  rw [hf, hl]
  cases l with
  | nil => exact absurd rfl h0
  | cons a l => simp [h]
theorem labF_no {ss : List Stm} {base : Int} {k : Nat} (hl : labOf (ss.getD k .none) = []) : labF ss base (k + 1) = labF ss base k := by
  funext l
  show (if labOf (ss.getD k .none) ≠ [] ∧ l = labOf (ss.getD k .none) then some (atK ss base k) else labF ss base k l) = _
  rw [if_neg (fun h => h.1 hl)]
theorem labF_yes {ss : List Stm} {base : Int} {k : Nat} {l : Bs} (hl : labOf (ss.getD k .none) = l) (h0 : l ≠ []) : labF ss base (k + 1) = fun x => if x = l then some (atK ss base k) else labF ss base k x := by
  funext x
  show (if labOf (ss.getD k .none) ≠ [] ∧ x = labOf (ss.getD k .none) then some (atK ss base k) else labF ss base k x) = _
  rw [hl]
  by_cases c : x = l
  · rw [if_pos ⟨h0, c⟩, if_pos c]
  · rw [if_neg (fun h => c h.2), if_neg c]
/-- What place asks of the lines' cells. -/
structure QAt (ss : List Stm) (qs : List Q4) : Prop where
  len : qs.length = ss.length
  at' : ∀ k (hk : k < ss.length), ∃ A C c2 c3, qs[k]? = some (str (labOf (ss.getD k .none)), .slice A (sizeS (ss.getD k .none)) C, c2, c3) ∧ c2.oneCell' = true ∧ c3.oneCell' = true
  size : ∀ k, sizeS (ss.getD k .none) ≤ 100
  lab : ∀ k, (labOf (ss.getD k .none)).length ≤ 1000000

set_option maxHeartbeats 4000000 in
theorem place_any (ss : List Stm) (qs : List Q4) (hQ : QAt ss qs) (base : Int) (hbase : 0 ≤ base ∧ base < 18446744073709551616) (hn : ss.length ≤ 900000) (w : World) (g C : Nat) (hS : SAt w g qs) (hg : g < w.heap.size) :
    Calls Tryz.prog 44 #[.slice (some ⟨g, 0, none⟩) ss.length C, .int .u64 base] w (PlEnd w ss base) := by
  have HQ := Lib.hid hQ
  have HS := Lib.hid hS
  have HMD := Lib.hid (LabMap.made w)
  have hmm : ∀ w, (Instr.makeMap 79 none).run Tryz.prog w = .ok (.map (some w.heap.size)) (w.alloc (.map #[] 0)) := fun w => rfl
  have HAI := Lib.hid (fun k => atK_in ss base hbase k)
  clear hQ hS
  go_enter Tryz.func44, Tryz.ntmps44
  go_wp2

  have HB0 : Hid (Below w.heap.size w (w.alloc (.map #[] 0))) := Lib.hid ((Below.refl _ _).alloc (Nat.le_refl _) _)
  have HSZ0 : Hid (w.heap.size < (w.alloc (.map #[] 0)).heap.size) := Lib.hid (by rw [World.size_alloc]; omega)
  generalize w.alloc (.map #[] 0) = w1 at *
  go_loopw [4, 6, 15] (fun m4 v k wr => ∃ (j n : Nat), j ≤ ss.length ∧ n ≤ j ∧ m4 = .map (some w.heap.size) ∧ k = .int .i64 j ∧ v = .int .u64 (atK ss base j) ∧ (∀ i, i < j → dupAt ss base i = false) ∧ LabMap wr w.heap.size n (labF ss base j) ∧ Below w.heap.size w wr ∧ w.heap.size < wr.heap.size) (fun _ _ k _ => ss.length - (RowKit.intOf k).toNat)
  case atStart => exact ⟨0, 0, Nat.zero_le _, Nat.le_refl _, rfl, rfl, rfl, fun i hi => by omega, HMD.out, HB0.out, HSZ0.out⟩
  case round =>
    obtain ⟨j, n, hj, hnj, rfl, rfl, rfl, hdup, hmap, hbw, hsz⟩ := hrel
    have HDUP := Lib.hid hdup
    have HMAP := Lib.hid hmap
    have HBW := Lib.hid hbw
    have HSZ := Lib.hid hsz
    clear hdup hmap hbw
    by_cases hlt : j < ss.length
    · obtain ⟨A, C2, c2, c3, hq, o2, o3⟩ := HQ.out.at' j hlt
      have hsj := HQ.out.size j
      have hlj := HQ.out.lab j
      have hai := HAI.out j
      have hat : atK ss base (j + 1) = (atK ss base j + 4 * ((sizeS (ss.getD j .none) : Nat) : Int)) % 18446744073709551616 := rfl
      have hjq : j < qs.length := by rw [HQ.out.len]; exact hlt
      rw [List.getElem?_eq_getElem hjq] at hq
      injection hq with hq
      have h4 := HS.out j hjq
      rw [hq] at h4
      obtain ⟨x0, x1, x2, x3⟩ := h4
      have y0 := (HBW.out.cell (p := ⟨g, j * 4, none⟩) hg).trans x0
      have y1 := (HBW.out.cell (p := ⟨g, j * 4 + 1, none⟩) hg).trans x1
      have y2 := (HBW.out.cell (p := ⟨g, j * 4 + 2, none⟩) hg).trans x2
      have y3 := (HBW.out.cell (p := ⟨g, j * 4 + 3, none⟩) hg).trans x3
      clear x0 x1 x2 x3 hq
      generalize hll : labOf (ss.getD j .none) = l at *
      generalize sizeS (ss.getD j .none) = sz at *
      have HAT := Lib.hid hat
      have HLL := Lib.hid hll
      generalize hf : labF ss base j = f at *
      have HF := Lib.hid hf
      generalize hatj : atK ss base j = a at *
      have HATJ := Lib.hid hatj
      clear hat hll hf hatj
      go_wp2_with (first
        | (refine wpList_store_row rfl _ _ _ rfl wr.heap.size _ rfl rfl 129 _ (heap_alloc_new wr _) size_stm rfl (four_one rfl rfl o2 o3) ?_; refine Hid.out ?_))
      have hbww : Below w.heap.size w ((wr.alloc (.cells #[.string ⟨#[]⟩, .slice none 0 0, .string ⟨#[]⟩, .nilFunc] 129)).setRow wr.heap.size #[str l, .slice A sz C2, c2, c3]) := below_setRow (HBW.out.alloc HBW.out.size _) HBW.out.size _
      have hcw : ((wr.alloc (.cells #[.string ⟨#[]⟩, .slice none 0 0, .string ⟨#[]⟩, .nilFunc] 129)).setRow wr.heap.size #[str l, .slice A sz C2, c2, c3]).heap[wr.heap.size]? = some (.cells #[str l, .slice A sz C2, c2, c3] 129 (0, 0)) := setRow_heap _ _ _ _ _ _ (heap_alloc_new wr _)
      have hmw : LabMap ((wr.alloc (.cells #[.string ⟨#[]⟩, .slice none 0 0, .string ⟨#[]⟩, .nilFunc] 129)).setRow wr.heap.size #[str l, .slice A sz C2, c2, c3]) w.heap.size n f := HMAP.out.below (below_setRow ((Below.refl _ _).alloc (Nat.le_refl _) _) (Nat.le_refl _) _)
      have hrz : wr.heap.size < ((wr.alloc (.cells #[.string ⟨#[]⟩, .slice none 0 0, .string ⟨#[]⟩, .nilFunc] 129)).setRow wr.heap.size #[str l, .slice A sz C2, c2, c3]).heap.size := (Array.getElem?_eq_some_iff.1 hcw).1
      clear y0 y1 y2 y3
      generalize (wr.alloc (.cells #[.string ⟨#[]⟩, .slice none 0 0, .string ⟨#[]⟩, .nilFunc] 129)).setRow wr.heap.size #[str l, .slice A sz C2, c2, c3] = ww at *
      have hz0 : ww.cell? ⟨wr.heap.size, 0, none⟩ = some (str l) := by rw [Lib.cell_of_heap hcw]; rfl
      have hz1 : ww.cell? ⟨wr.heap.size, 1, none⟩ = some (.slice A sz C2) := by rw [Lib.cell_of_heap hcw]; rfl
      have HBWW := Lib.hid hbww
      have HMW := Lib.hid hmw
      have hlk := hmw.look l hlj
      have hnx : ∀ (_ : Unit), dupAt ss base j = false → ∀ i, i < j + 1 → dupAt ss base i = false := fun _ hd i hi => by
        by_cases c : i < j
        · exact HDUP.out i c
        · obtain rfl : i = j := by omega
          exact hd
      by_cases hl0 : l = []
      · subst hl0
        clear hlk hcw hbww hmw
        refine Lib.hid ?_
        go_wp2
        case roundEnd => exact ⟨⟨j + 1, n, by omega, by omega, rfl, rfl, congrArg (Value.int .u64) (by rw [HAT.out]; rfl), hnx () (dup_no HF.out HLL.out (.inl rfl)), by rw [labF_no HLL.out, HF.out]; exact HMW.out, HBWW.out, by have := HSZ.out; omega⟩, by simp [RowKit.intOf]; omega⟩
      · have hne : (!l.isEmpty) = true := by cases l with | nil => exact absurd rfl hl0 | cons _ _ => rfl
        cases hfl : f l with
        | some a' =>
          rw [hfl] at hlk
          have HFL := Lib.hid hfl
          clear hcw hbww hmw hfl
          refine Lib.hid ?_
          go_wp2
          go_ret2
          exact Or.inl ⟨j, hlt, HDUP.out, dup_yes HF.out HLL.out hl0 HFL.out, rfl, HBWW.out⟩
        | none =>
          rw [hfl] at hlk
          obtain ⟨w5, hput, hm5, ho5⟩ := hmw.put (by omega) l hlj a ⟨hai.1, hai.2⟩
          have hz1' : w5.cell? ⟨wr.heap.size, 1, none⟩ = some (.slice A sz C2) := by rw [Lib.cell_of_heap (ho5.keeps (by show ¬ wr.heap.size = w.heap.size; have := HSZ.out; omega) hcw)]; rfl
          have HM5 := Lib.hid hm5
          have HB5 : Hid (Below w.heap.size w w5) := Lib.hid (Below.thenOnly HBWW.out ho5 (fun k hk => by rw [hk]; exact Nat.le_refl _) (by have := HSZ.out; omega))
          have HZ5 : Hid (w.heap.size < w5.heap.size) := Lib.hid (by have := ho5.size; have := HSZ.out; omega)
          have HFL := Lib.hid hfl
          have HL0 := Lib.hid hl0
          clear hcw hbww hmw hfl hm5 ho5
          refine Lib.hid ?_
          go_wp2
          case roundEnd => exact ⟨⟨j + 1, n + 1, by omega, by omega, rfl, rfl, congrArg (Value.int .u64) (by rw [HAT.out]; rfl), hnx () (dup_no HF.out HLL.out (.inr HFL.out)), by rw [labF_yes HLL.out HL0.out, HATJ.out, HF.out]; exact HM5.out, HB5.out, HZ5.out⟩, by simp [RowKit.intOf]; omega⟩
    · obtain rfl : j = ss.length := by omega
      go_wp2
      go_ret2
      exact Or.inr ⟨HDUP.out, _, _, rfl, Nat.le_refl _, HMAP.out, HBW.out⟩

end Go.Proofs.YtakdhdaoklcidaaGreatDoor

namespace Go.Proofs.YtakdhdaoklcidaaGreatDoor
open Go.RowKit Go.Lib Go.Maps Go.WideMaps
set_option linter.unusedVariables false
set_option maxRecDepth 100000

theorem pourV (w : World) (B B' : Nat) (v vm : Value) (l m : List Int) (n k : Nat) (hn : l.length = n) (hk : m.length = k) (h : OwnW w B v l) (hm : OwnW w B' vm m) (hl : n + k ≤ 1000000) (hB : B ≤ w.heap.size) (ty : TypeId) :
    ∃ A C w', (Builtin.append_ #[37, 37] ty #[v, vm]).run Tryz.prog w = .ok (.slice A (n + k) C) w' ∧ OwnW w' B (.slice A (n + k) C) (l ++ m) ∧ Only (fun k => v.ownBlock = some k) w w' := by
  obtain ⟨i0, hi, hz0, hz1, hz2⟩ := info_parts info_u32
  rcases hm.2 with ⟨rfl, h0⟩ | ⟨g, cap, cur, rfl, hb, hg, hn1, hn2, hn3, ht⟩
  · have hm0 := List.eq_nil_of_length_eq_zero h0
    subst hm0
    subst hn
    subst hk
    have hr := run_append_owned_none (P := Tryz.prog) (w := w) B 37 ty 43 i0 1 Tryz.underlying37 hi v l.length _ h
    obtain ⟨A, C, rfl⟩ := ownW_slice h
    exact ⟨A, C, w, hr, by simpa using h, Only.refl _ _⟩
  · subst hn
    subst hk
    obtain ⟨v', w', hr, ho, hon, _⟩ := run_pourW w B v l m l.length rfl h (by omega) hB g 0 cap (fun j hj => by
      rw [Nat.zero_add, Lib.cell_of_heap hg]
      have e : (wordCs m)[j]? = some (.int .u32 (m.getD j 0)) := by simp [wordCs, List.getElem?_eq_getElem hj, List.getD_eq_getElem?_getD]
      rw [← ht, List.getElem?_take, if_pos (by omega)] at e
      simpa using e) ty
    obtain ⟨A, C, rfl⟩ := ownW_slice ho
    rw [List.length_append] at hr ho
    exact ⟨A, C, w', hr, by simpa using ho, hon⟩

/-- From w on only jumps' numbers turned, in blocks from B on. -/
structure Turn (B : Nat) (w wr : World) : Prop where
  only : Only (fun k => B ≤ k ∧ ∃ i, HoldsI w k i) w wr
  holds : ∀ k i, HoldsI w k i → HoldsI wr k i
theorem holdsI_lt {w : World} {k : Nat} {i : Ins} (h : HoldsI w k i) : k < w.heap.size := by obtain ⟨m, h⟩ := h; exact (Array.getElem?_eq_some_iff.1 h).1
theorem Turn.refl (B : Nat) (w : World) : Turn B w w := ⟨Only.refl _ _, fun _ _ h => h⟩
theorem Turn.bel {B : Nat} {w wr : World} (h : Turn B w wr) (hB : B ≤ w.heap.size) : Below B w wr := h.only.below (fun k hk => hk.1) hB
theorem Turn.below {B : Nat} {w wr w2 : World} (h : Turn B w wr) (hb : Below w.heap.size wr w2) : Turn B w w2 := by
  refine ⟨h.only.step (T := fun k => w.heap.size ≤ k) ⟨hb.os, hb.tape, hb.output, hb.size, fun k hk hs => hb.block k (by omega)⟩ (fun k hk => .inr hk), fun k i hi => ?_⟩
  obtain ⟨m, hm⟩ := h.holds k i hi
  exact ⟨m, (hb.block k (holdsI_lt hi)).trans hm⟩
theorem Turn.set {B : Nat} {w wr : World} (h : Turn B w wr) (p : Addr) (hp : w.heap.size ≤ p.block) (u : Value) : Turn B w (wr.setCell p u) :=
  h.below (((Only.refl (fun k => k = p.block) wr).setCell (.inl rfl) u).below (fun k hk => by rw [hk]; exact hp) h.only.size)
theorem insC_inj {i j : Ins} (h : insC i = insC j) : i = j := by
  obtain ⟨a, b, c, d, e, f, g, k⟩ := i
  obtain ⟨a', b', c', d', e', f', g', k'⟩ := j
  simp only [insC, List.cons.injEq, Value.int.injEq, Value.bool.injEq, true_and, and_true] at h
  obtain ⟨rfl, rfl, rfl, rfl, rfl, rfl, rfl, rfl⟩ := h
  rfl
theorem holdsI_same {w w2 : World} {b : Nat} {i j : Ins} (h : HoldsI w b i) (h2 : HoldsI w2 b i) (k : HoldsI w b j) : HoldsI w2 b j := by
  obtain ⟨m, hm⟩ := h
  obtain ⟨n, hn⟩ := k
  obtain ⟨p, hp⟩ := h2
  rw [hm] at hn
  injection hn with hn
  injection hn with hn _ _
  have e := insC_inj (congrArg Array.toList hn)
  refine ⟨p, ?_⟩
  have e2 : withImm i p = withImm j p := by
    have := congrArg (fun x => withImm x p) e
    exact this
  rw [hp, e2]
theorem Turn.jump {B : Nat} {w wr w2 : World} {b : Nat} {i : Ins} (h : Turn B w wr) (hb : B ≤ b) (hi : HoldsI w b i) (h2 : HoldsI w2 b i) (o : Only (fun k => k = b) wr w2) : Turn B w w2 := by
  refine ⟨h.only.step o (fun k hk => .inl ⟨by rw [hk]; exact hb, i, by rw [hk]; exact hi⟩), fun k j hj => ?_⟩
  by_cases c : k = b
  · subst c; exact holdsI_same hi h2 hj
  · obtain ⟨m, hm⟩ := h.holds k j hj
    exact ⟨m, o.keeps c hm⟩
theorem Turn.cells {B0 : Nat} {w wr : World} (h : Turn B0 w wr) {g : Nat} {cs : Array Value} {t : TypeId} {fr : Nat × Nat} (hg : w.heap[g]? = some (.cells cs t fr)) (ht : t ≠ 23) : wr.heap[g]? = some (.cells cs t fr) :=
  h.only.keeps (fun ⟨_, i, m, hm⟩ => by rw [hg] at hm; injection hm with hm; injection hm with _ e _; exact ht e) hg
theorem Turn.map {B0 : Nat} {w wr : World} (h : Turn B0 w wr) {mb n : Nat} {f : Bs → Option Int} (hm : LabMap w mb n f) : LabMap wr mb n f :=
  hm.keeps h.only (fun ⟨_, i, m, hi⟩ => by obtain ⟨D, ⟨es, clock, hb, _⟩, _⟩ := hm; rw [hb] at hi; injection hi with hi; cases hi)
theorem Turn.words {B0 : Nat} {w wr : World} (h : Turn B0 w wr) {B : Nat} {v : Value} {ws : List Int} (hw : OwnW w B v ws) : OwnW wr B v ws :=
  ownW_keep hw h.only (fun g hg ⟨_, i, m, hm⟩ => by
    rcases hw.2 with ⟨rfl, _⟩ | ⟨g', cap, cur, rfl, hb, hc, _⟩
    · simp [Value.ownBlock] at hg
    · simp [Value.ownBlock] at hg
      subst hg
      rw [hc] at hm
      injection hm with hm
      injection hm with _ e _
      exact absurd e (by decide))
theorem Turn.stm {B0 : Nat} {w wr : World} (h : Turn B0 w wr) {B : Nat} {s : Stm} {c0 c1 c2 c3 : Value} (hs : StmV w B s c0 c1 c2 c3) : StmV wr B s c0 c1 c2 c3 := by
  cases s with
  | none => exact hs
  | label l => exact hs
  | words ws => exact ⟨hs.1, h.words hs.2.1, hs.2.2⟩
  | la rd l => obtain ⟨h0, ⟨ws, hl, h1⟩, h2, b, h3, h4, h5⟩ := hs; exact ⟨h0, ⟨ws, hl, h.words h1⟩, h2, b, h3, h4, h.cells h5 (by decide)⟩
  | jump i l => obtain ⟨h0, ⟨ws, hl, h1⟩, h2, b, h3, h4, h5⟩ := hs; exact ⟨h0, ⟨ws, hl, h.words h1⟩, h2, b, h3, h4, h.holds _ _ h5⟩

/-- How far a label is. -/
def farZ (a at' : Int) : Int := wrap64 (IntKind.u64.wrap (a - at'))
def jumpW (i : Ins) (far : Int) : Option (List Int) := if rightB (withImm i far) then some [encW (withImm i far)] else none
/-- What comes of a label that a line names. -/
def aimS (o : Option Int) (g : Int → Option (List Int)) (at' : Int) : Int × List Int :=
  match o with
  | none => (101, [])
  | some a => match g (farZ a at') with
    | none => (102, [])
    | some ws => (0, ws)
theorem aimS_none (g : Int → Option (List Int)) (at' : Int) : aimS none g at' = (101, []) := rfl
theorem aimS_far {g : Int → Option (List Int)} {at' a : Int} (h : g (farZ a at') = none) : aimS (some a) g at' = (102, []) := by unfold aimS; simp only [h]
theorem aimS_ok {g : Int → Option (List Int)} {at' a : Int} {ws : List Int} (h : g (farZ a at') = some ws) : aimS (some a) g at' = (0, ws) := by unfold aimS; simp only [h]
theorem aimS_len {o : Option Int} {g : Int → Option (List Int)} {at' : Int} {n : Nat} (hg : ∀ x ws, g x = some ws → ws.length = n) (h : (aimS o g at').1 = 0) : (aimS o g at').2.length = n := by
  cases o with
  | none => rw [aimS_none] at h; exact absurd h (by decide)
  | some a =>
    cases hw : g (farZ a at') with
    | none => rw [aimS_far hw] at h; exact absurd h (by decide)
    | some ws => rw [aimS_ok hw]; exact hg _ _ hw
theorem laW_len (rd x : Int) (ws : List Int) (h : laW rd x = some ws) : ws.length = 2 := by
  unfold laW at h
  split at h
  · cases h
  · split at h
    · injection h with h; subst h; simp [laL]
    · cases h
theorem jumpW_len (i : Ins) (x : Int) (ws : List Int) (h : jumpW i x = some ws) : ws.length = 1 := by
  unfold jumpW at h
  split at h
  · injection h with h; subst h; rfl
  · cases h
/-- A line's fault, or its words. -/
def linkS (f : Bs → Option Int) (at' : Int) : Stm → Int × List Int
  | .none => (0, [])
  | .label _ => (0, [])
  | .words ws => (0, ws)
  | .la rd l => aimS (f l) (laW rd) at'
  | .jump i l => aimS (f l) (jumpW i) at'
def lkAt (ss : List Stm) (f : Bs → Option Int) (base : Int) (k : Nat) : Int × List Int := linkS f (atK ss base k) (ss.getD k .none)
/-- The words of the first k lines. -/
def outW (ss : List Stm) (f : Bs → Option Int) (base : Int) : Nat → List Int
  | 0 => []
  | k + 1 => outW ss f base k ++ (lkAt ss f base k).2
def LkEnd (B : Nat) (w : World) (ss : List Stm) (f : Bs → Option Int) (base : Int) (e : Ending) (w' : World) : Prop :=
  (∃ k, k < ss.length ∧ (∀ i, i < k → (lkAt ss f base i).1 = 0) ∧ (lkAt ss f base k).1 ≠ 0 ∧ e = .returned (.tuple #[.slice none 0 0, .int .i64 ((k : Int) + 1), .int .i64 (lkAt ss f base k).1]) ∧ Turn B w w') ∨
  ((∀ i, i < ss.length → (lkAt ss f base i).1 = 0) ∧ ∃ v, e = .returned (.tuple #[v, .int .i64 0, .int .i64 0]) ∧ OwnW w' w.heap.size v (outW ss f base ss.length) ∧ Turn B w w')
theorem link_len {f : Bs → Option Int} {a : Int} {s : Stm} (h : (linkS f a s).1 = 0) : (linkS f a s).2.length = sizeS s := by
  cases s with
  | none => rfl
  | label l => rfl
  | words ws => rfl
  | la rd l => exact aimS_len (laW_len rd) h
  | jump i l => exact aimS_len (jumpW_len i) h

theorem out_len {ss : List Stm} {f : Bs → Option Int} {base : Int} (hs : ∀ k, sizeS (ss.getD k .none) ≤ 100) : ∀ k, (∀ i, i < k → (lkAt ss f base i).1 = 0) → (outW ss f base k).length ≤ 100 * k
  | 0, _ => Nat.le_refl _
  | k + 1, h => by
    have h1 := out_len hs k (fun i hi => h i (by omega))
    have h2 : (lkAt ss f base k).2.length = _ := link_len (h k (by omega))
    have h3 := hs k
    show (outW ss f base k ++ (lkAt ss f base k).2).length ≤ _
    rw [List.length_append, h2]
    omega
/-- Lines that name no label, and those that do. -/
theorem stmV_kinds {w : World} {B : Nat} {s : Stm} {c0 c1 c2 c3 : Value} (h : StmV w B s c0 c1 c2 c3) : (c3 = .nilFunc ∧ ∃ ws, OwnW w B c1 ws ∧ (∀ f a, linkS f a s = (0, ws))) ∨ (∃ rd l, s = .la rd l) ∨ (∃ i l, s = .jump i l) := by
  cases s with
  | none => obtain ⟨rfl, rfl, rfl, rfl⟩ := h; exact .inl ⟨rfl, [], ownW_nil _ _, fun _ _ => rfl⟩
  | label l => obtain ⟨rfl, rfl, rfl, rfl⟩ := h; exact .inl ⟨rfl, [], ownW_nil _ _, fun _ _ => rfl⟩
  | words ws => obtain ⟨rfl, h1, rfl, rfl⟩ := h; exact .inl ⟨rfl, ws, h1, fun _ _ => rfl⟩
  | la rd l => exact .inr (.inl ⟨rd, l, rfl⟩)
  | jump i l => exact .inr (.inr ⟨i, l, rfl⟩)
/-- The label that a line names. -/
def namOf : Stm → Bs
  | .la _ l => l
  | .jump _ l => l
  | _ => []
theorem la_any (rd far : Int) (b : Nat) (w : World) (he : Env w) (hc : w.cell? ⟨b, 0, none⟩ = some (.int .i64 rd)) : Calls Tryz.prog 157 #[.int .i64 far, .pointer (some ⟨b, 0, none⟩)] w (AimEnd w (laW rd far)) := by
  by_cases h : far < -2147483648 ∨ 2147481599 < far
  · have := la_out rd far b h w
    rw [show laW rd far = none by unfold laW; rw [if_pos h]]; exact this
  · exact la_in rd far b (by omega) (by omega) w he hc

end Go.Proofs.YtakdhdaoklcidaaGreatDoor

namespace Go.Proofs.YtakdhdaoklcidaaGreatDoor
open Go.RowKit Go.Lib Go.Maps Go.WideMaps
set_option linter.unusedVariables false
set_option maxRecDepth 100000

theorem lk_push {ss : List Stm} {f : Bs → Option Int} {base : Int} {j : Nat} (h : ∀ i, i < j → (lkAt ss f base i).1 = 0) (hj : (lkAt ss f base j).1 = 0) : ∀ i, i < j + 1 → (lkAt ss f base i).1 = 0 := fun i hi => by
  by_cases c : i < j
  · exact h i c
  · obtain rfl : i = j := by omega
    exact hj
theorem out_push {ss : List Stm} {f : Bs → Option Int} {base : Int} {j : Nat} {ws : List Int} (h : lkAt ss f base j = (0, ws)) : outW ss f base (j + 1) = outW ss f base j ++ ws := by
  show outW ss f base j ++ (lkAt ss f base j).2 = _
  rw [h]
theorem at_push {ss : List Stm} {f : Bs → Option Int} {base : Int} {j k : Nat} {ws : List Int} (h : lkAt ss f base j = (0, ws)) (hk : ws.length = k) : atK ss base (j + 1) = (atK ss base j + 4 * (k : Int)) % 18446744073709551616 := by
  have h1 : (lkAt ss f base j).2.length = sizeS (ss.getD j .none) := link_len (by show (lkAt ss f base j).1 = 0; rw [h])
  rw [h] at h1
  show (atK ss base j + 4 * ((sizeS (ss.getD j .none) : Nat) : Int)) % 18446744073709551616 = _
  rw [← h1, hk]

theorem neq_nilF (w : World) : (binOp .neq 127 .nilFunc .nilFunc).run Tryz.prog w = .ok (.bool false) w := by
  first | rfl | kernel_rfl | simp [binOp]
theorem neq_fun (c : Fn) (a b : Array Value) (w : World) : (binOp .neq 127 (.func c a b) .nilFunc).run Tryz.prog w = .ok (.bool true) w := by
  first | rfl | kernel_rfl | simp [binOp]

set_option maxHeartbeats 4000000 in
theorem link_any (ss : List Stm) (qs : List Q4) (f : Bs → Option Int) (base : Int) (hn : ss.length ≤ 9000) (w : World) (B : Nat) (hB : B ≤ w.heap.size) (hsz : ∀ k, sizeS (ss.getD k .none) ≤ 100) (hnm : ∀ k, (namOf (ss.getD k .none)).length ≤ 1000000)
    (hlen : qs.length = ss.length) (g C mb n : Nat) (cs : Array Value) (fr : Nat × Nat) (hg : w.heap[g]? = some (.cells cs 129 fr)) (hS : SAt w g qs) (hst : ∀ k, k < ss.length → ∃ c0 c1 c2 c3, qs[k]? = some (c0, c1, c2, c3) ∧ StmV w B (ss.getD k .none) c0 c1 c2 c3) (hmap : LabMap w mb n f) (hE : ∀ w', Below B w w' → Env w') :
    Calls Tryz.prog 45 #[.slice (some ⟨g, 0, none⟩) ss.length C, .map (some mb), .int .u64 base] w (LkEnd B w ss f base) := by
  have HS := Lib.hid hS
  have HST := Lib.hid hst
  have HMP := Lib.hid hmap
  have HE := Lib.hid hE
  have HSI := Lib.hid hsz
  have HNM := Lib.hid hnm
  have HG := Lib.hid hg
  have hgl := (Array.getElem?_eq_some_iff.1 hg).1
  clear hS hst hmap hE hsz hnm hg
  go_enter Tryz.func45, Tryz.ntmps45
  go_wp2
  go_loopw [6, 9, 17] (fun v a k wr => ∃ (j : Nat), j ≤ ss.length ∧ k = .int .i64 j ∧ a = .int .u64 (atK ss base j) ∧ (∀ i, i < j → (lkAt ss f base i).1 = 0) ∧ OwnW wr w.heap.size v (outW ss f base j) ∧ Turn B w wr) (fun _ _ k _ => ss.length - (RowKit.intOf k).toNat)
  case atStart => exact ⟨0, Nat.zero_le _, rfl, rfl, fun i hi => by omega, ownW_nil _ _, Turn.refl _ _⟩
  case round =>
    obtain ⟨j, hj, rfl, rfl, hpre, how, htn⟩ := hrel
    have hol := out_len HSI.out j hpre
    obtain ⟨A, C2, rfl⟩ := ownW_slice how
    have HPRE := Lib.hid hpre
    clear hpre
    by_cases hlt : j < ss.length
    · obtain ⟨c0, c1, c2, c3, hq, hst0⟩ := HST.out j hlt
      obtain ⟨o0, o1, o2, o3⟩ := stmV_four hst0
      have hjq : j < qs.length := by rw [hlen]; exact hlt
      rw [List.getElem?_eq_getElem hjq] at hq
      injection hq with hq
      have h4 := HS.out j hjq
      rw [hq] at h4
      obtain ⟨x0, x1, x2, x3⟩ := h4
      have hgr := htn.cells HG.out (by decide)
      have cl : ∀ k v, w.cell? ⟨g, k, none⟩ = some v → wr.cell? ⟨g, k, none⟩ = some v := fun k v h => by
        rw [Lib.cell_of_heap HG.out] at h
        rw [Lib.cell_of_heap hgr]; exact h
      have y0 := cl _ _ x0
      have y1 := cl _ _ x1
      have y2 := cl _ _ x2
      have y3 := cl _ _ x3
      clear x0 x1 x2 x3 hq cl hgr
      have HAP := Lib.hid (fun ws k => at_push (ss := ss) (f := f) (base := base) (j := j) (k := k) (ws := ws))
      have HOP := Lib.hid (fun ws => out_push (ss := ss) (f := f) (base := base) (j := j) (ws := ws))
      have HLK : Hid (lkAt ss f base j = linkS f (atK ss base j) (ss.getD j .none)) := Lib.hid rfl
      have hnmj := HNM.out j
      have hszj := HSI.out j
      generalize outW ss f base j = out at *
      generalize hno : out.length = no at *
      generalize hsj : ss.getD j .none = s at *
      have HNO := Lib.hid hno
      have HTN := Lib.hid htn
      have HST0 := Lib.hid hst0
      have HOW := Lib.hid how
      clear hno hsj htn hst0 how
      generalize atK ss base j = a at *
      go_wp2_with (first
        | (refine wpList_store_row rfl _ _ _ rfl wr.heap.size _ rfl rfl 129 _ (heap_alloc_new wr _) size_stm rfl (four_one o0 o1 o2 o3) ?_; refine Hid.out ?_))
      have hwz : w.heap.size ≤ wr.heap.size := HTN.out.only.size
      have hbl : Below wr.heap.size wr ((wr.alloc (.cells #[.string ⟨#[]⟩, .slice none 0 0, .string ⟨#[]⟩, .nilFunc] 129)).setRow wr.heap.size #[c0, c1, c2, c3]) := below_setRow ((Below.refl _ _).alloc (Nat.le_refl _) _) (Nat.le_refl _) _
      have hcw : ((wr.alloc (.cells #[.string ⟨#[]⟩, .slice none 0 0, .string ⟨#[]⟩, .nilFunc] 129)).setRow wr.heap.size #[c0, c1, c2, c3]).heap[wr.heap.size]? = some (.cells #[c0, c1, c2, c3] 129 (0, 0)) := setRow_heap _ _ _ _ _ _ (heap_alloc_new wr _)
      have hrz : wr.heap.size < ((wr.alloc (.cells #[.string ⟨#[]⟩, .slice none 0 0, .string ⟨#[]⟩, .nilFunc] 129)).setRow wr.heap.size #[c0, c1, c2, c3]).heap.size := (Array.getElem?_eq_some_iff.1 hcw).1
      clear y0 y1 y2 y3
      generalize (wr.alloc (.cells #[.string ⟨#[]⟩, .slice none 0 0, .string ⟨#[]⟩, .nilFunc] 129)).setRow wr.heap.size #[c0, c1, c2, c3] = ww at *
      have how2 := ownW_below HOW.out hbl
      have htw : Turn B w ww := HTN.out.below (hbl.mono hwz)
      have z0 : ww.cell? ⟨wr.heap.size, 0, none⟩ = some c0 := by rw [Lib.cell_of_heap hcw]; rfl
      have z1 : ww.cell? ⟨wr.heap.size, 1, none⟩ = some c1 := by rw [Lib.cell_of_heap hcw]; rfl
      have z2 : ww.cell? ⟨wr.heap.size, 2, none⟩ = some c2 := by rw [Lib.cell_of_heap hcw]; rfl
      have z3 : ww.cell? ⟨wr.heap.size, 3, none⟩ = some c3 := by rw [Lib.cell_of_heap hcw]; rfl
      have hst2 := htw.stm HST0.out
      have hob : (Value.slice A no C2).ownBlock ≠ some wr.heap.size := fun e => by have := (ownW_lt HOW.out _ e).2; omega
      have HOB := Lib.hid hob
      have HTW := Lib.hid htw
      have HCW := Lib.hid hcw
      have HOW2 := Lib.hid how2
      clear HOW HTN hbl hcw htw how2 hob
      rcases stmV_kinds hst2 with ⟨rfl, ws, hw, hlk⟩ | ⟨rd, l, rfl⟩ | ⟨i, l, rfl⟩
      · have hkl : lkAt ss f base j = (0, ws) := HLK.out.trans (hlk _ _)
        obtain ⟨A1, C1, rfl⟩ := ownW_slice hw
        generalize hk1 : ws.length = k1 at *
        have hk1b : k1 ≤ 100 := by
          have h1 := link_len (f := f) (a := a) (s := s) (by rw [hlk])
          rw [hlk] at h1
          have h2 : ws.length = sizeS s := h1
          omega
        obtain ⟨A4, C4, w4, hr4, ho4, hon4⟩ := pourV ww w.heap.size B _ _ out ws no k1 HNO.out hk1 HOW2.out hw (by omega) (by omega) 37
        have z1' : w4.cell? ⟨wr.heap.size, 1, none⟩ = some (.slice A1 k1 C1) := by rw [Lib.cell_of_heap (hon4.keeps HOB.out HCW.out)]; rfl
        have HO4 := Lib.hid ho4
        have hnf := neq_nilF ww
        have HB4 : Hid (Turn B w w4) := Lib.hid (HTW.out.below (hon4.below (fun k hk => (ownW_lt HOW2.out k hk).1) (by omega)))
        have HKL := Lib.hid hkl
        clear hkl hlk hw hst2 ho4 hon4
        refine Lib.hid ?_
        go_wp2_with (at_builtin; refine wpList_append_run rfl _ _ _ rfl (.slice A no C2) (.slice A1 k1 C1) (.slice A4 (no + k1) C4) w4 rfl rfl hr4 ?_)
        case roundEnd => exact ⟨⟨j + 1, by omega, rfl, congrArg (Value.int .u64) (by rw [HAP.out _ _ HKL.out hk1]; rfl), lk_push HPRE.out (by rw [HKL.out]), by rw [HOP.out _ HKL.out]; exact HO4.out, HB4.out⟩, by simp [RowKit.intOf]; omega⟩
      · obtain ⟨rfl, ⟨ws0, hl0, hw0⟩, rfl, b, rfl, hBb, hcb⟩ := hst2
        obtain ⟨A1, C1, rfl⟩ := ownW_slice hw0
        have hlk := (HTW.out.map HMP.out).look l hnmj
        have hnf := neq_fun (.func 157) #[] #[.pointer (some ⟨b, 0, none⟩)] ww
        have HCB := Lib.hid hcb
        have HBB := Lib.hid hBb
        clear hw0 hl0 hBb hcb
        cases hfl : f l with
        | none =>
          rw [hfl] at hlk
          have HKL : Hid (lkAt ss f base j = (101, [])) := Lib.hid (by rw [HLK.out]; show aimS (f l) _ _ = _; rw [hfl]; rfl)
          clear hfl
          refine Lib.hid ?_
          go_wp2
          go_ret3
          exact Or.inl ⟨j, hlt, HPRE.out, by rw [HKL.out]; decide, by rw [HKL.out]; rfl, HTW.out⟩
        | some a' =>
          rw [hfl] at hlk
          have HKL0 : Hid (lkAt ss f base j = aimS (some a') (laW rd) a) := Lib.hid (by rw [HLK.out]; show aimS (f l) _ _ = _; rw [hfl])
          clear hfl
          have hc0 : ww.cell? ⟨b, 0, none⟩ = some (.int .i64 rd) := by rw [Lib.cell_of_heap HCB.out]; rfl
          have hli : Calls Tryz.prog 157 #[.int .i64 (wrap64 (IntKind.u64.wrap (a' - a))), .pointer (some ⟨b, 0, none⟩)] ww (AimEnd ww (laW rd (wrap64 (IntKind.u64.wrap (a' - a))))) := la_any rd _ b ww (HE.out _ (HTW.out.bel hB)) hc0
          have HLI := Lib.hid hli
          clear hli hc0
          refine Lib.hid ?_
          go_wp2_with (fail)
          (with_reducible refine HLI.out.mono ?_)
          rintro e w3 h3
          have hZ := z3
          clear z0 z1 z2 z3 hlk hnf hZ
          cases hw : laW rd (wrap64 (IntKind.u64.wrap (a' - a))) with
          | none =>
            rw [hw] at h3
            obtain ⟨rfl, hb3⟩ := h3
            have HKL : Hid (lkAt ss f base j = (102, [])) := Lib.hid (HKL0.out.trans (aimS_far hw))
            have HT3 : Hid (Turn B w w3) := Lib.hid (HTW.out.below (hb3.mono (by omega)))
            have HC3 := Lib.hid ((hb3.block _ hrz).trans HCW.out)
            clear hw hb3
            have f1 : w3.frozen? ⟨wr.heap.size, 1, none⟩ = false := Lib.frozen_of_heap HC3.out 1
            have z1 : w3.cell? ⟨wr.heap.size, 1, none⟩ = some (.slice A1 ws0.length C1) := by rw [Lib.cell_of_heap HC3.out]; rfl
            have z3 : w3.cell? ⟨wr.heap.size, 3, none⟩ = some (.func (.func 157) #[] #[.pointer (some ⟨b, 0, none⟩)]) := by rw [Lib.cell_of_heap HC3.out]; rfl
            go_wp2
            go_ret3
            exact Or.inl ⟨j, hlt, HPRE.out, by rw [HKL.out]; decide, by rw [HKL.out]; rfl, HT3.out.set _ hwz _⟩
          | some ws =>
            rw [hw] at h3
            obtain ⟨v2, rfl, ho2, hb3⟩ := h3
            have HKL : Hid (lkAt ss f base j = (0, ws)) := Lib.hid (HKL0.out.trans (aimS_ok hw))
            have hk2 := laW_len _ _ _ hw
            have HT3 : Hid (Turn B w w3) := Lib.hid (HTW.out.below (hb3.mono (by omega)))
            have HC3 := Lib.hid ((hb3.block _ hrz).trans HCW.out)
            have how3 := ownW_below HOW2.out hb3
            have hz3 := hb3.size
            clear hw hb3
            obtain ⟨A2, C3, rfl⟩ := ownW_slice ho2
            generalize hwl : ws.length = k2 at *
            have hk2b : k2 ≤ 100 := by omega
            clear hk2
            have f1 : w3.frozen? ⟨wr.heap.size, 1, none⟩ = false := Lib.frozen_of_heap HC3.out 1
            have z1 : w3.cell? ⟨wr.heap.size, 1, none⟩ = some (.slice A1 ws0.length C1) := by rw [Lib.cell_of_heap HC3.out]; rfl
            have hset : Only (fun k => k = wr.heap.size) w3 (w3.setCell ⟨wr.heap.size, 1, none⟩ (.slice A2 k2 C3)) := (Only.refl (fun k => k = wr.heap.size) w3).setCell (p := ⟨wr.heap.size, 1, none⟩) (.inl rfl) _
            have h4 := hset.size
            obtain ⟨A4, C4, w5, hr5, ho5, hon5⟩ := pourV (w3.setCell ⟨wr.heap.size, 1, none⟩ (.slice A2 k2 C3)) w.heap.size ww.heap.size (.slice A no C2) (.slice A2 k2 C3) out ws no k2 HNO.out hwl (ownW_keep how3 hset (fun k hk h => HOB.out (by rw [hk, h]))) (ownW_keep ho2 hset (fun k hk h => by have := (ownW_lt ho2 k hk).1; omega)) (by omega) (by have := HT3.out.only.size; omega) 37
            have hrow4 := setCell_row HC3.out 1 (.slice A2 k2 C3)
            have z1b : (w3.setCell ⟨wr.heap.size, 1, none⟩ (.slice A2 k2 C3)).cell? ⟨wr.heap.size, 1, none⟩ = some (.slice A2 k2 C3) := by rw [Lib.cell_of_heap hrow4]; rfl
            have z1' : w5.cell? ⟨wr.heap.size, 1, none⟩ = some (.slice A2 k2 C3) := by rw [Lib.cell_of_heap (hon5.keeps HOB.out hrow4)]; rfl
            have HO5 := Lib.hid ho5
            have HB5 : Hid (Turn B w w5) := Lib.hid ((HT3.out.set ⟨wr.heap.size, 1, none⟩ hwz (.slice A2 k2 C3)).below (hon5.below (fun k hk => by have := (ownW_lt how3 k hk).1; omega) (by have := HT3.out.only.size; omega)))
            have HWL := Lib.hid hwl
            clear ho2 how3 hset hrow4 ho5 hon5 hwl
            go_wp2_with (at_builtin; refine wpList_append_run rfl _ _ _ rfl (.slice A no C2) (.slice A2 k2 C3) (.slice A4 (no + k2) C4) w5 rfl rfl hr5 ?_)
            case roundEnd => exact ⟨⟨j + 1, by omega, rfl, congrArg (Value.int .u64) (by rw [HAP.out _ _ HKL.out HWL.out]; rfl), lk_push HPRE.out (by rw [HKL.out]), by rw [HOP.out _ HKL.out]; exact HO5.out, HB5.out⟩, by simp [RowKit.intOf]; omega⟩
      · obtain ⟨rfl, ⟨ws0, hl0, hw0⟩, rfl, b, rfl, hBb, hcb⟩ := hst2
        obtain ⟨A1, C1, rfl⟩ := ownW_slice hw0
        have hlk := (HTW.out.map HMP.out).look l hnmj
        have hnf := neq_fun (.func 159) #[] #[.pointer (some ⟨b, 0, none⟩)] ww
        have HCB := Lib.hid hcb
        have HBB := Lib.hid hBb
        clear hw0 hl0 hBb hcb
        cases hfl : f l with
        | none =>
          rw [hfl] at hlk
          have HKL : Hid (lkAt ss f base j = (101, [])) := Lib.hid (by rw [HLK.out]; show aimS (f l) _ _ = _; rw [hfl]; rfl)
          clear hfl
          refine Lib.hid ?_
          go_wp2
          go_ret3
          exact Or.inl ⟨j, hlt, HPRE.out, by rw [HKL.out]; decide, by rw [HKL.out]; rfl, HTW.out⟩
        | some a' =>
          rw [hfl] at hlk
          have HKL0 : Hid (lkAt ss f base j = aimS (some a') (jumpW i) a) := Lib.hid (by rw [HLK.out]; show aimS (f l) _ _ = _; rw [hfl])
          clear hfl
          have hI0 : HoldsI w b i := by
            obtain ⟨_, _, _, b', he', _, hI'⟩ := HST0.out
            injection he' with _ _ he'
            have he2 : b = b' := by simpa using he'
            rw [he2]; exact hI'
          have hbw := holdsI_lt hI0
          have HI0 := Lib.hid hI0
          have hli : Calls Tryz.prog 159 #[.int .i64 (wrap64 (IntKind.u64.wrap (a' - a))), .pointer (some ⟨b, 0, none⟩)] ww (JumpEnd ww b i (wrap64 (IntKind.u64.wrap (a' - a)))) := jump_any i _ b ww (fun w' o => HE.out _ ((HTW.out.bel hB).trans (o.below (fun k hk => by rw [hk]; exact HBB.out) (Nat.le_trans hB HTW.out.only.size)))) HCB.out
          have HLI := Lib.hid hli
          clear hli hI0
          refine Lib.hid ?_
          go_wp2_with (fail)
          (with_reducible refine HLI.out.mono ?_)
          rintro e w3 ⟨hy, hno, hI3, ho3⟩
          clear z0 z1 z2 z3 hlk hnf
          have HT3 : Hid (Turn B w w3) := Lib.hid (HTW.out.jump HBB.out HI0.out hI3 ho3)
          have HC3 := Lib.hid (ho3.keeps (g := wr.heap.size) (by show ¬ wr.heap.size = b; omega) HCW.out)
          cases hw : rightB (withImm i (wrap64 (IntKind.u64.wrap (a' - a)))) with
          | false =>
            obtain rfl := hno hw
            have HKL : Hid (lkAt ss f base j = (102, [])) := Lib.hid (HKL0.out.trans (aimS_far (by show jumpW i (wrap64 (IntKind.u64.wrap (a' - a))) = none; unfold jumpW; rw [hw]; rfl)))
            clear hw hy hno hI3 ho3
            have f1 : w3.frozen? ⟨wr.heap.size, 1, none⟩ = false := Lib.frozen_of_heap HC3.out 1
            have z1 : w3.cell? ⟨wr.heap.size, 1, none⟩ = some (.slice A1 ws0.length C1) := by rw [Lib.cell_of_heap HC3.out]; rfl
            have z3 : w3.cell? ⟨wr.heap.size, 3, none⟩ = some (.func (.func 159) #[] #[.pointer (some ⟨b, 0, none⟩)]) := by rw [Lib.cell_of_heap HC3.out]; rfl
            go_wp2
            go_ret3
            exact Or.inl ⟨j, hlt, HPRE.out, by rw [HKL.out]; decide, by rw [HKL.out]; rfl, HT3.out.set _ hwz _⟩
          | true =>
            obtain ⟨v2, rfl, ho2⟩ := hy hw
            have HKL1 : Hid (lkAt ss f base j = (0, [encW (withImm i (wrap64 (IntKind.u64.wrap (a' - a))))])) := Lib.hid (HKL0.out.trans (aimS_ok (by show jumpW i (wrap64 (IntKind.u64.wrap (a' - a))) = some _; unfold jumpW; rw [hw]; rfl)))
            have hk2 : [encW (withImm i (wrap64 (IntKind.u64.wrap (a' - a))))].length = 1 := rfl
            have how3 := ownW_keep HOW2.out ho3 (fun g hg hk => by have := (ownW_lt HOW2.out g hg).1; omega)
            have hz3 := ho3.size
            clear hw hy hno hI3 ho3
            generalize [encW (withImm i (wrap64 (IntKind.u64.wrap (a' - a))))] = ws at *
            have HKL := Lib.hid HKL1.out
            obtain ⟨A2, C3, rfl⟩ := ownW_slice ho2
            generalize hwl : ws.length = k2 at *
            have hk2b : k2 ≤ 100 := by omega
            clear hk2
            have f1 : w3.frozen? ⟨wr.heap.size, 1, none⟩ = false := Lib.frozen_of_heap HC3.out 1
            have z1 : w3.cell? ⟨wr.heap.size, 1, none⟩ = some (.slice A1 ws0.length C1) := by rw [Lib.cell_of_heap HC3.out]; rfl
            have hset : Only (fun k => k = wr.heap.size) w3 (w3.setCell ⟨wr.heap.size, 1, none⟩ (.slice A2 k2 C3)) := (Only.refl (fun k => k = wr.heap.size) w3).setCell (p := ⟨wr.heap.size, 1, none⟩) (.inl rfl) _
            have h4 := hset.size
            obtain ⟨A4, C4, w5, hr5, ho5, hon5⟩ := pourV (w3.setCell ⟨wr.heap.size, 1, none⟩ (.slice A2 k2 C3)) w.heap.size ww.heap.size (.slice A no C2) (.slice A2 k2 C3) out ws no k2 HNO.out hwl (ownW_keep how3 hset (fun k hk h => HOB.out (by rw [hk, h]))) (ownW_keep ho2 hset (fun k hk h => by have := (ownW_lt ho2 k hk).1; omega)) (by omega) (by have := HT3.out.only.size; omega) 37
            have hrow4 := setCell_row HC3.out 1 (.slice A2 k2 C3)
            have z1b : (w3.setCell ⟨wr.heap.size, 1, none⟩ (.slice A2 k2 C3)).cell? ⟨wr.heap.size, 1, none⟩ = some (.slice A2 k2 C3) := by rw [Lib.cell_of_heap hrow4]; rfl
            have z1' : w5.cell? ⟨wr.heap.size, 1, none⟩ = some (.slice A2 k2 C3) := by rw [Lib.cell_of_heap (hon5.keeps HOB.out hrow4)]; rfl
            have HO5 := Lib.hid ho5
            have HB5 : Hid (Turn B w w5) := Lib.hid ((HT3.out.set ⟨wr.heap.size, 1, none⟩ hwz (.slice A2 k2 C3)).below (hon5.below (fun k hk => by have := (ownW_lt how3 k hk).1; omega) (by have := HT3.out.only.size; omega)))
            have HWL := Lib.hid hwl
            clear ho2 how3 hset hrow4 ho5 hon5 hwl
            go_wp2_with (at_builtin; refine wpList_append_run rfl _ _ _ rfl (.slice A no C2) (.slice A2 k2 C3) (.slice A4 (no + k2) C4) w5 rfl rfl hr5 ?_)
            case roundEnd => exact ⟨⟨j + 1, by omega, rfl, congrArg (Value.int .u64) (by rw [HAP.out _ _ HKL.out HWL.out]; rfl), lk_push HPRE.out (by rw [HKL.out]), by rw [HOP.out _ HKL.out]; exact HO5.out, HB5.out⟩, by simp [RowKit.intOf]; omega⟩
    · obtain rfl : j = ss.length := by omega
      go_wp2
      go_ret3
      exact Or.inr ⟨HPRE.out, _, rfl, how, htn⟩

end Go.Proofs.YtakdhdaoklcidaaGreatDoor

namespace Go.Proofs.YtakdhdaoklcidaaGreatDoor
open Go.RowKit Go.Lib Go.Maps Go.WideMaps
set_option linter.unusedVariables false
set_option maxRecDepth 100000

theorem name_le {l : Bs} (h : nameOK l = true) : l.length ≤ 32 := by
  unfold nameOK at h
  simp only [Bool.and_eq_true, decide_eq_true_eq] at h
  exact h.1.1.2
/-- What a line says is short. -/
theorem line_bound {x : Bs} {s : Stm} (h : lineS x = some s) : sizeS s ≤ 100 ∧ (labOf s).length ≤ 32 ∧ (namOf s).length ≤ 32 := by
  unfold lineS at h
  generalize coreS x = y at h
  unfold readS at h
  split at h
  · injection h with h; subst h; exact ⟨Nat.le_of_ble_eq_true rfl, Nat.le_of_ble_eq_true rfl, Nat.le_of_ble_eq_true rfl⟩
  · split at h
    · split at h
      · rename_i hn
        injection h with h; subst h; exact ⟨Nat.le_of_ble_eq_true rfl, name_le hn, Nat.le_of_ble_eq_true rfl⟩
      · cases h
    · split at h
      · unfold namingS at h
        split at h
        · rename_i hn
          split at h
          · split at h
            · injection h with h; subst h; exact ⟨Nat.le_of_ble_eq_true rfl, Nat.le_of_ble_eq_true rfl, name_le hn⟩
            · cases h
          · split at h
            · split at h
              · injection h with h; subst h; exact ⟨Nat.le_of_ble_eq_true rfl, Nat.le_of_ble_eq_true rfl, name_le hn⟩
              · cases h
            · cases h
        · cases h
      · cases hw : wordsS y with
        | none => rw [hw] at h; cases h
        | some ws =>
          rw [hw] at h
          injection h with h; subst h
          refine ⟨?_, Nat.le_of_ble_eq_true rfl, Nat.le_of_ble_eq_true rfl⟩
          show ws.length ≤ 100
          unfold wordsS wordsG at hw
          split at hw
          · split at hw
            · split at hw
              · split at hw
                · injection hw with hw; subst hw
                  rw [List.length_map]
                  have := liF_len (regP (cut (cut y [32]).2.1 sepC).1) 4 (numP (cut (cut (cut y [32]).2.1 sepC).2.1 sepC).1)
                  omega
                · cases hw
              · cases hw
            · cases hw
          · split at hw
            · split at hw
              · split at hw
                · injection hw with hw; subst hw; exact Nat.le_of_ble_eq_true rfl
                · cases hw
              · cases hw
            · split at hw
              · split at hw
                · injection hw with hw; subst hw; show 1 ≤ 100; decide
                · cases hw
              · cases hw
/-- The first number below n that has it. -/
def firstN (p : Nat → Bool) (n : Nat) : Option Nat := (List.range n).find? p
theorem firstN_some {p : Nat → Bool} {n k : Nat} (hk : k < n) (h : p k = true) (h0 : ∀ i, i < k → p i = false) : firstN p n = some k := by
  unfold firstN
  rw [List.find?_range_eq_some]
  exact ⟨h, List.mem_range.2 hk, fun j hj => by rw [h0 j hj]; rfl⟩
theorem firstN_none {p : Nat → Bool} {n : Nat} (h0 : ∀ i, i < n → p i = false) : firstN p n = none := by
  unfold firstN
  rw [List.find?_range_eq_none]
  intro i hi
  rw [h0 i hi]; rfl
/-- What Assemble tells: the words, the line and the fault. -/
def asmL (ss : List Stm) (base : Int) : List Int × Int × Int :=
  match firstN (dupAt ss base) ss.length with
  | some k => ([], (k : Int) + 1, 101)
  | none => match firstN (fun k => (lkAt ss (labF ss base ss.length) base k).1 != 0) ss.length with
    | some k => ([], (k : Int) + 1, (lkAt ss (labF ss base ss.length) base k).1)
    | none => (outW ss (labF ss base ss.length) base ss.length, 0, 0)
def asmT (ls : List Bs) (base : Int) : List Int × Int × Int :=
  match firstN (fun k => (lineS (ls.getD k [])).isNone) ls.length with
  | some k => ([], (k : Int) + 1, 100)
  | none => asmL (ls.filterMap lineS) base
def asmF (l : Bs) (base : Int) : List Int × Int × Int := if base % 4 = 0 then asmT (linesT l) base else ([], 0, 1)
def AsEnd (w : World) (r : List Int × Int × Int) (e : Ending) (w' : World) : Prop :=
  ∃ v, e = .returned (.tuple #[v, .int .i64 r.2.1, .int .i64 r.2.2]) ∧ OwnW w' w.heap.size v r.1 ∧ Below w.heap.size w w'
theorem lines_ne (l : Bs) : linesT l ≠ [] := by
  show splitK [10] 0 (Lib.count l [10]) l ≠ []
  cases Lib.count l [10] with
  | zero => simp [splitK]
  | succ k => unfold splitK; split <;> simp
theorem filterMap_get (ls : List Bs) (h : ∀ i, i < ls.length → ∃ s, lineS (ls.getD i []) = some s) : (ls.filterMap lineS).length = ls.length ∧ ∀ i, i < ls.length → lineS (ls.getD i []) = some ((ls.filterMap lineS).getD i .none) := by
  induction ls with
  | nil => exact ⟨rfl, fun i hi => by simp at hi⟩
  | cons x ls ih =>
    obtain ⟨s, hs⟩ := h 0 (by simp)
    have hs' : lineS x = some s := hs
    obtain ⟨h1, h2⟩ := ih (fun i hi => by have := h (i + 1) (by simp; omega); simpa using this)
    rw [List.filterMap_cons_some hs']
    refine ⟨by simp [h1], fun i hi => ?_⟩
    cases i with
    | zero => simpa using hs'
    | succ i => simpa using h2 i (by simpa using hi)
theorem asm_bad {ls : List Bs} {base : Int} {k : Nat} (hk : k < ls.length) (h0 : ∀ i, i < k → ∃ s, lineS (ls.getD i []) = some s) (h : lineS (ls.getD k []) = none) : asmT ls base = ([], (k : Int) + 1, 100) := by
  unfold asmT
  rw [firstN_some hk (by rw [h]; rfl) (fun i hi => by obtain ⟨s, hs⟩ := h0 i hi; rw [hs]; rfl)]
theorem asm_good {ls : List Bs} {base : Int} (h0 : ∀ i, i < ls.length → ∃ s, lineS (ls.getD i []) = some s) : asmT ls base = asmL (ls.filterMap lineS) base := by
  unfold asmT
  rw [firstN_none (fun i hi => by obtain ⟨s, hs⟩ := h0 i hi; rw [hs]; rfl)]
theorem asm_dup {ss : List Stm} {base : Int} {k : Nat} (hk : k < ss.length) (h0 : ∀ i, i < k → dupAt ss base i = false) (h : dupAt ss base k = true) : asmL ss base = ([], (k : Int) + 1, 101) := by
  unfold asmL
  rw [firstN_some hk h h0]
theorem asm_far {ss : List Stm} {base : Int} {k : Nat} (hd : ∀ i, i < ss.length → dupAt ss base i = false) (hk : k < ss.length) (h0 : ∀ i, i < k → (lkAt ss (labF ss base ss.length) base i).1 = 0) (h : (lkAt ss (labF ss base ss.length) base k).1 ≠ 0) : asmL ss base = ([], (k : Int) + 1, (lkAt ss (labF ss base ss.length) base k).1) := by
  unfold asmL
  rw [firstN_none hd]
  simp only []
  rw [firstN_some hk (by simpa using h) (fun i hi => by simpa using h0 i hi)]
theorem asm_all {ss : List Stm} {base : Int} (hd : ∀ i, i < ss.length → dupAt ss base i = false) (h0 : ∀ i, i < ss.length → (lkAt ss (labF ss base ss.length) base i).1 = 0) : asmL ss base = (outW ss (labF ss base ss.length) base ss.length, 0, 0) := by
  unfold asmL
  rw [firstN_none hd]
  simp only []
  rw [firstN_none (fun i hi => by simpa using h0 i hi)]

set_option maxHeartbeats 4000000 in
theorem assemble_any (l : Bs) (hl : l.length ≤ 8000) (base : Int) (hbase : 0 ≤ base ∧ base < 18446744073709551616) (w : World) (he : Env w) : Calls Tryz.prog 18 #[str l, .int .u64 base] w (AsEnd w (asmF l base)) := by
  have HRA := Lib.hid (readAll_any l (by omega) w he)
  have hnl : (linesT l).length ≤ l.length + 1 := by
    have h1 := (splitK_len (Lib.count l [10]) l).1
    have h2 : Lib.count l [10] ≤ l.length := by rw [Lib.count_one]; exact List.count_le_length
    have h3 : (linesT l).length = (splitK [10] 0 (Lib.count l [10]) l).length := rfl
    omega
  have hne := lines_ne l
  have HE := Lib.hid he
  by_cases hb4 : base % 4 = 0
  · have hR : asmF l base = asmT (linesT l) base := by unfold asmF; rw [if_pos hb4]
    rw [hR]
    generalize linesT l = ls at *
    clear hR he
    go_enter Tryz.func18, Tryz.ntmps18
    go_wp2_with (fail)
    (with_reducible refine HRA.out.mono ?_)
    rintro e w1 h1
    rcases h1 with ⟨k, hk, hall, hbad, rfl, hb1⟩ | ⟨hall, v, qs, rfl, hrow, hb1⟩
    · have HB1 := Lib.hid hb1
      have hk0 : decide ((k : Int) + 1 = 0) = false := decide_eq_false (by omega)
      have HR := Lib.hid (asm_bad (base := base) hk hall hbad)
      clear hall hbad hb1
      go_wp2_with (fail)
      go_ret3
      exact ⟨_, by rw [HR.out]; rfl, by rw [HR.out]; exact ownW_nil _ _, HB1.out⟩
    · obtain ⟨hsl, hsg⟩ := filterMap_get ls hall
      have HR := Lib.hid (asm_good (base := base) hall)
      have hbd : ∀ k, sizeS ((ls.filterMap lineS).getD k .none) ≤ 100 ∧ (labOf ((ls.filterMap lineS).getD k .none)).length ≤ 32 ∧ (namOf ((ls.filterMap lineS).getD k .none)).length ≤ 32 := fun k => by
        by_cases c : k < ls.length
        · exact line_bound (hsg k c)
        · rw [List.getD_eq_getElem?_getD, List.getElem?_eq_none (by omega)]; exact ⟨Nat.zero_le _, Nat.zero_le _, Nat.zero_le _⟩
      have hsne : ls.filterMap lineS ≠ [] := fun h => hne (List.eq_nil_of_length_eq_zero (by rw [← hsl, h]; rfl))
      generalize ls.filterMap lineS = ss at *
      have hqn : qs.length = ss.length := hrow.len
      have hqne : qs ≠ [] := fun h => hsne (List.eq_nil_of_length_eq_zero (by rw [← hqn, h]; rfl))
      obtain ⟨g, C, rfl, hSA, hgl⟩ := sAt_own hrow.own hqne
      obtain ⟨_, _, cs, fr, hg⟩ := ownS_lt hrow.own g rfl
      rw [hqn]
      have hst : ∀ k, k < ss.length → ∃ c0 c1 c2 c3, qs[k]? = some (c0, c1, c2, c3) ∧ StmV w1 w.heap.size (ss.getD k .none) c0 c1 c2 c3 := fun k hk => by
        have hq : k < qs.length := by omega
        have h := hrow.at' k hk hq
        refine ⟨qs[k].1, qs[k].2.1, qs[k].2.2.1, qs[k].2.2.2, List.getElem?_eq_getElem hq, ?_⟩
        rw [List.getD_eq_getElem?_getD, List.getElem?_eq_getElem hk]; exact h
      have hQA : QAt ss qs := ⟨hqn, fun k hk => by
        obtain ⟨c0, c1, c2, c3, h1, h2⟩ := hst k hk
        obtain ⟨rfl, A, C', rfl⟩ := stm_c0 h2
        have h3 := stmV_four h2
        exact ⟨A, C', c2, c3, h1, h3.2.2.1, h3.2.2.2⟩, fun k => (hbd k).1, fun k => Nat.le_trans (hbd k).2.1 (by decide)⟩
      have HPL := Lib.hid (place_any ss qs hQA base hbase (by omega) w1 g C hSA hgl)
      have HB1 := Lib.hid hb1
      have HST := Lib.hid hst
      have HBD := Lib.hid hbd
      have HG := Lib.hid hg
      have HSA := Lib.hid hSA
      have hss : ss.length ≤ 9000 := by omega
      clear hall hsl hsg hbd hrow hSA hg hst hQA hb1 hqne hsne
      go_wp2_with (fail)
      (with_reducible refine HPL.out.mono ?_)
      rintro e w2 h2
      rcases h2 with ⟨k, hk, hnd, hd, rfl, hb2⟩ | ⟨hnd, mb, n, rfl, hmb, hmap, hb2⟩
      · have HB2 := Lib.hid (HB1.out.trans (hb2.mono HB1.out.size))
        have hk0 : decide ((k : Int) + 1 = 0) = false := decide_eq_false (by omega)
        have HR2 := Lib.hid (HR.out.trans (asm_dup hk hnd hd))
        clear hnd hd hb2
        go_wp2_with (fail)
        go_ret3
        exact ⟨_, by rw [HR2.out]; rfl, by rw [HR2.out]; exact ownW_nil _ _, HB2.out⟩
      · have HB2 := Lib.hid (HB1.out.trans (hb2.mono HB1.out.size))
        have HND := Lib.hid hnd
        have hlk := link_any ss qs (labF ss base ss.length) base hss w2 w.heap.size HB2.out.size (fun k => (HBD.out k).1) (fun k => Nat.le_trans (HBD.out k).2.2 (by decide)) hqn g C mb n cs fr ((hb2.block _ hgl).trans HG.out) (sAt_below HSA.out hb2) (fun k hk => by
          obtain ⟨c0, c1, c2, c3, h1, h2⟩ := HST.out k hk
          exact ⟨c0, c1, c2, c3, h1, stmV_below h2 hb2⟩) hmap (fun w' hb' => HE.out.below (HB2.out.trans hb'))
        have HLK := Lib.hid hlk
        clear hnd hb2 hmap hlk
        go_wp2_with (fail)
        (with_reducible refine HLK.out.mono ?_)
        rintro e w3 h3
        rcases h3 with ⟨k, hk, h0, hf, rfl, ht⟩ | ⟨h0, v, rfl, how, ht⟩
        · have HR2 := Lib.hid (HR.out.trans (asm_far HND.out hk h0 hf))
          have HB3 := Lib.hid (HB2.out.trans (ht.bel HB2.out.size))
          clear h0 hf ht
          generalize (lkAt ss (labF ss base ss.length) base k).1 = er at *
          go_wp2_with (fail)
          go_ret3
          exact ⟨_, by rw [HR2.out]; rfl, by rw [HR2.out]; exact ownW_nil _ _, HB3.out⟩
        · have HR2 := Lib.hid (HR.out.trans (asm_all HND.out h0))
          have HB3 := Lib.hid (HB2.out.trans (ht.bel HB2.out.size))
          have HOW := Lib.hid (ownW_base how HB2.out.size)
          clear h0 ht how
          go_wp2_with (fail)
          go_ret3
          exact ⟨_, by rw [HR2.out]; rfl, by rw [HR2.out]; exact HOW.out, HB3.out⟩
  · have hR : asmF l base = ([], 0, 1) := by unfold asmF; rw [if_neg hb4]
    rw [hR]
    clear HRA hR he hnl hne
    go_enter Tryz.func18, Tryz.ntmps18
    go_wp2_with (fail)
    go_ret3
    exact ⟨_, rfl, ownW_nil _ _, Below.refl _ _⟩

end Go.Proofs.YtakdhdaoklcidaaGreatDoor

namespace Go.Proofs.YtakdhdaoklcidaaGreatDoor
open Go.RowKit Go.Lib
set_option linter.unusedVariables false
set_option maxRecDepth 100000

def wakeT : Bs := [97, 58, 10, 98, 101, 113, 32, 120, 48, 44, 32, 120, 48, 44, 32, 64, 97, 10, 106, 97, 108, 32, 120, 48, 44, 32, 64, 98, 10, 98, 58]
def wakeI : Ins := ⟨22, 1, 2, 0, -5, 0, false, false⟩
theorem wakeI_right : rightB wakeI = true := by decide +kernel
theorem wakeI_text : printT wakeI = [97, 100, 100, 105, 32, 120, 49, 44, 32, 120, 50, 44, 32, 45, 53] := by decide +kernel
theorem wakeT_is : asmF wakeT 0 = ([99, 4194415], 0, 0) := by decide +kernel

set_option maxHeartbeats 1000000 in
theorem wakes10 (w : World) (he : Env w) : Calls Tryz.prog 12 #[] w fun e w' => e = .returned (.bool true) ∧ Below w.heap.size w w' := by
  have hP : ∀ w, Env w → Calls Tryz.prog 10 #[.agg #[.int .i64 22, .int .i64 1, .int .i64 2, .int .i64 0, .int .i64 (-5), .int .i64 0, .bool false, .bool false]] w fun e w' => e = .returned (.tuple #[.string ⟨#[97, 100, 100, 105, 32, 120, 49, 44, 32, 120, 50, 44, 32, 45, 53]⟩, .int .i64 0]) ∧ Below w.heap.size w w' := fun w he => by
    have h := print_yes wakeI wakeI_right w he
    rw [wakeI_text] at h; exact h
  have hA : ∀ w, Env w → Calls Tryz.prog 18 #[.string ⟨#[97, 58, 10, 98, 101, 113, 32, 120, 48, 44, 32, 120, 48, 44, 32, 64, 97, 10, 106, 97, 108, 32, 120, 48, 44, 32, 64, 98, 10, 98, 58]⟩, .int .u64 0] w (AsEnd w ([99, 4194415], 0, 0)) := fun w he => by
    have h := assemble_any wakeT (by decide) 0 (by decide) w he
    rw [wakeT_is] at h; exact h
  have HP := Lib.hid hP
  have HA := Lib.hid hA
  have HE := Lib.hid he
  clear hP hA he
  go_enter Tryz.func12, Tryz.ntmps12
  go_wp2_with (fail)
  (with_reducible refine (HP.out _ HE.out).mono ?_)
  rintro e w1 ⟨rfl, hb1⟩
  have HB1 := Lib.hid hb1
  clear hb1
  go_wp2_with (fail)
  (with_reducible refine (HA.out _ (HE.out.below HB1.out)).mono ?_)
  rintro e w2 ⟨v, rfl, how, hb2⟩
  have HB2 := Lib.hid (HB1.out.trans (hb2.mono HB1.out.size))
  rcases how.2 with ⟨_, h0⟩ | ⟨g, cap, cur, rfl, hb, hg, hn1, hn2, hn3, ht⟩
  · cases h0
  · have hc : ∀ j u, (wordCs [99, 4194415])[j]? = some u → w2.cell? ⟨g, j, none⟩ = some u := fun j u h => by
      rw [Lib.cell_of_heap hg, ← h, ← ht, List.getElem?_take]
      have hj := (List.getElem?_eq_some_iff.1 h).1
      rw [if_pos (by simpa [wordCs] using hj)]; simp
    have c0 := hc 0 _ rfl
    have c1 := hc 1 _ rfl
    clear hc ht hg how hb2
    go_wp2
    go_ret
    exact ⟨rfl, HB2.out⟩

end Go.Proofs.YtakdhdaoklcidaaGreatDoor

namespace Go.Proofs.YtakdhdaoklcidaaGreatDoor
open Go.RowKit Go.Lib
set_option linter.unusedVariables false
set_option maxRecDepth 100000

/-- Lines, each with its end. -/
def joinNL (ls : List Bs) : Bs := ls.flatMap (· ++ [10])
theorem index_nl {x r : Bs} (hx : (10 : UInt8) ∉ x) : index (x ++ 10 :: r) [10] = x.length := by
  have e : x ++ 10 :: r = x ++ [10] ++ r := by simp
  rw [e]
  refine index_first (by simp) ?_ ?_
  · unfold occAt
    rw [List.append_assoc, List.drop_left]
    exact List.isPrefixOf_iff_prefix.2 (List.prefix_append _ _)
  · intro j hj
    cases e : occAt (x ++ [10] ++ r) [10] j
    · rfl
    · have := occAt_head (t := []) rfl e
      rw [List.append_assoc, List.getElem?_append_left hj] at this
      exact absurd (List.mem_of_getElem? this) hx
theorem lines_join : ∀ (ls : List Bs), (∀ x ∈ ls, (10 : UInt8) ∉ x) → linesT (joinNL ls) = ls ++ [[]]
  | [], _ => by
    show splitK [10] 0 (Lib.count [] [10]) [] = _
    rw [Lib.count_one]; rfl
  | x :: ls, h => by
    have ih := lines_join ls (fun y hy => h y (List.mem_cons_of_mem _ hy))
    have hx := h x List.mem_cons_self
    have e : joinNL (x :: ls) = x ++ 10 :: joinNL ls := by simp [joinNL]
    have hc : Lib.count (joinNL (x :: ls)) [10] = Lib.count (joinNL ls) [10] + 1 := by
      rw [Lib.count_one, Lib.count_one, e, List.count_append, List.count_cons_self, List.count_eq_zero_of_not_mem hx]; omega
    show splitK [10] 0 (Lib.count (joinNL (x :: ls)) [10]) (joinNL (x :: ls)) = _
    rw [hc, e]
    unfold splitK
    rw [index_nl hx, if_neg (by simp)]
    have e1 : (x ++ 10 :: joinNL ls).take (((x.length : Nat) : Int).toNat + 0) = x := by simp
    have e2 : (x ++ 10 :: joinNL ls).drop (((x.length : Nat) : Int).toNat + [(10 : UInt8)].length) = joinNL ls := by
      simp
    rw [e1, e2]
    show x :: linesT (joinNL ls) = _
    rw [ih]; rfl

def blankB (b : UInt8) : Bool := b == 32 || b == 9
theorem blank_is (b : UInt8) : ([32, 9] : Bs).contains b = blankB b := by
  unfold blankB
  rw [Bool.eq_iff_iff]
  simp
theorem trim_mid {pre mid post : Bs} (h1 : ∀ b ∈ pre, blankB b = true) (h2 : ∀ b ∈ post, blankB b = true) (ha : ∀ b, mid.head? = some b → blankB b = false) (hz : ∀ b, mid.getLast? = some b → blankB b = false) (hne : mid ≠ []) : trimS (pre ++ (mid ++ post)) [32, 9] = mid := by
  have hp : (fun b => ([32, 9] : Bs).contains b) = blankB := funext blank_is
  unfold trimS trimLeftS trimRightS
  rw [hp]
  have e1 : (pre ++ (mid ++ post)).reverse = post.reverse ++ (mid.reverse ++ pre.reverse) := by simp
  rw [e1, List.dropWhile_append_of_pos (fun b hb => h2 b (List.mem_reverse.1 hb))]
  have e2 : (mid.reverse ++ pre.reverse).dropWhile blankB = mid.reverse ++ pre.reverse := by
    cases hm : mid.reverse with
    | nil => exact absurd (by simpa using hm) hne
    | cons b l =>
      have hb : mid.getLast? = some b := by rw [← List.head?_reverse, hm]; rfl
      rw [List.cons_append, List.dropWhile_cons_of_neg (by rw [hz b hb]; simp)]
  rw [e2]
  have e3 : (mid.reverse ++ pre.reverse).reverse = pre ++ mid := by simp
  rw [e3, List.dropWhile_append_of_pos h1]
  cases mid with
  | nil => exact absurd rfl hne
  | cons b l => rw [List.dropWhile_cons_of_neg (by rw [ha b rfl]; simp)]
theorem name_words : ∀ k, k < 114 → ∀ aq rl : Bool, (nameB k ++ markT aq rl == liT) = false ∧ (nameB k ++ markT aq rl == wordT) = false ∧ (nameB k ++ markT aq rl).contains 32 = false := by decide +kernel
theorem low_blank {b : UInt8} (h : isLow b = true) : blankB b = false := by
  unfold isLow at h
  unfold blankB
  simp only [Bool.and_eq_true, decide_eq_true_eq, UInt8.le_iff_toNat_le] at h
  rw [Bool.or_eq_false_iff]
  refine ⟨beq_eq_false_iff_ne.2 ?_, beq_eq_false_iff_ne.2 ?_⟩ <;> (rintro rfl; simp at h)
theorem end_is {b : UInt8} (h : (isLow b || isNum b) = true) : blankB b = false ∧ b ≠ 58 := by
  have hall : ∀ n : Fin 256, ((isLow (UInt8.ofNat n.1) || isNum (UInt8.ofNat n.1)) = true) → (blankB (UInt8.ofNat n.1) = false ∧ (UInt8.ofNat n.1) ≠ 58) := by decide +kernel
  have h2 := hall ⟨b.toNat, b.toNat_lt⟩
  simp only [UInt8.ofNat_toNat] at h2
  exact h2 h
theorem in_line {b : UInt8} (h : inLine b = true) : b ≠ 64 ∧ b ≠ 35 ∧ b ≠ 10 ∧ b ≠ 58 ∧ b ≠ 9 := by
  have hall : ∀ n : Fin 256, inLine (UInt8.ofNat n.1) = true → ((UInt8.ofNat n.1) ≠ 64 ∧ (UInt8.ofNat n.1) ≠ 35 ∧ (UInt8.ofNat n.1) ≠ 10 ∧ (UInt8.ofNat n.1) ≠ 58 ∧ (UInt8.ofNat n.1) ≠ 9) := by decide +kernel
  have h2 := hall ⟨b.toNat, b.toNat_lt⟩
  simp only [UInt8.ofNat_toNat] at h2
  exact h2 h
theorem print_no64 {i : Ins} (hr : rightB i = true) (c : UInt8) (hc : c = 64 ∨ c = 35 ∨ c = 10 ∨ c = 58 ∨ c = 9) : c ∉ printT i := by
  obtain ⟨h1, h2, h3, h4⟩ := rightT_of hr
  intro hm
  have := in_line (printT_inLine (i := i) (by omega) c hm)
  rcases hc with rfl | rfl | rfl | rfl | rfl
  · exact this.1 rfl
  · exact this.2.1 rfl
  · exact this.2.2.1 rfl
  · exact this.2.2.2.1 rfl
  · exact this.2.2.2.2 rfl
/-- What a printed line says. -/
theorem read_print {i : Ins} (hr : rightB i = true) : readS (printT i) = some (.words [encW i]) := by
  obtain ⟨h1, h2, h3, h4⟩ := rightT_of hr
  obtain ⟨b0, r0, e0, hb0⟩ := printT_first hr
  obtain ⟨bz, ez, hbz⟩ := printT_last hr
  have hne : printT i ≠ [] := by rw [e0]; simp
  have hs : hasSuffix (printT i) [58] = false := by
    cases h : hasSuffix (printT i) [58]
    · rfl
    · unfold hasSuffix at h
      have hm := List.isSuffixOf_iff_suffix.1 h
      exact absurd (hm.subset (List.mem_singleton.2 rfl)) (print_no64 hr 58 (by simp))
  have hc : cut (printT i) [44, 32, 64] = (printT i, [], false) := cut_none (c := 64) (by simp) (print_no64 hr 64 (by simp))
  have hk := name_words i.op.toNat (by omega) i.aq i.rl
  have hn : (cut (printT i) [32]).1 = nmT i := by
    unfold printT
    exact (cut_name (by have := hk.2.2; intro hm; unfold nmT at hm; rw [List.contains_iff_mem.2 hm] at this; cases this) _).1
  have hp : parseB (printT i) = true := by unfold parseB; rw [guessP_print hr, hr]; simp
  have hi : parseI (printT i) = i := by unfold parseI; rw [if_pos hp, guessP_print hr]
  unfold readS
  rw [if_neg hne, hs, if_neg (by simp), hc, if_neg (by simp)]
  have hw : wordsS (printT i) = some [encW i] := by
    unfold wordsS wordsG
    rw [hn, if_neg (show ¬ nmT i = liT from fun e => by have := hk.1; rw [show nameB i.op.toNat ++ markT i.aq i.rl = liT from e] at this; simp at this),
      if_neg (show ¬ nmT i = wordT from fun e => by have := hk.2.1; rw [show nameB i.op.toNat ++ markT i.aq i.rl = wordT from e] at this; simp at this), if_pos hp, hi, if_pos hr]
  rw [hw]; rfl
theorem line_print {i : Ins} (hr : rightB i = true) : lineS (printT i) = some (.words [encW i]) := by
  obtain ⟨b0, r0, e0, hb0⟩ := printT_first hr
  obtain ⟨bz, ez, hbz⟩ := printT_last hr
  unfold lineS coreS
  rw [cut_none (c := 35) (by simp) (print_no64 hr 35 (by simp))]
  have h := trim_mid (pre := []) (mid := printT i) (post := []) (by simp) (by simp) (fun b hb => by rw [e0] at hb; injection hb with hb; subst hb; exact low_blank hb0) (fun b hb => by rw [ez] at hb; injection hb with hb; subst hb; exact (end_is hbz).1) (by rw [e0]; simp)
  rw [List.append_nil, List.nil_append] at h
  show readS (trimS (printT i) [32, 9]) = _
  rw [h]; exact read_print hr
/-- Blanks ahead, a remark behind. -/
theorem line_decked {i : Ins} (hr : rightB i = true) : lineS ([32, 9] ++ printT i ++ [9, 35, 32, 120]) = some (.words [encW i]) := by
  obtain ⟨b0, r0, e0, hb0⟩ := printT_first hr
  obtain ⟨bz, ez, hbz⟩ := printT_last hr
  have e : ([32, 9] ++ printT i ++ [9, 35, 32, 120] : Bs) = ([32, 9] ++ (printT i ++ [9])) ++ [35] ++ [32, 120] := by simp
  have hno : (35 : UInt8) ∉ ([32, 9] ++ (printT i ++ [9]) : Bs) := by
    intro hm
    rcases List.mem_append.1 hm with h | h
    · simp at h
    · rcases List.mem_append.1 h with h | h
      · exact print_no64 hr 35 (by simp) h
      · simp at h
  unfold lineS coreS
  rw [e, cut_hit (c := 35) (t := []) rfl hno]
  show readS (trimS ([32, 9] ++ (printT i ++ [9])) [32, 9]) = _
  rw [trim_mid (pre := [32, 9]) (mid := printT i) (post := [9]) (by decide) (by decide) (fun b hb => by rw [e0] at hb; injection hb with hb; subst hb; exact low_blank hb0) (fun b hb => by rw [ez] at hb; injection hb with hb; subst hb; exact (end_is hbz).1) (by rw [e0]; simp)]
  exact read_print hr
theorem line_empty : lineS [] = some .none := by kernel_rfl
theorem line_remark : lineS [35] = some .none := by kernel_rfl
/-- The label of the i-th line. -/
def labT (i : Nat) : Bs := [108, UInt8.ofNat (97 + i / 26), UInt8.ofNat (97 + i % 26)]
def isLab (o : Option Stm) (l : Bs) : Bool := match o with
  | some (.label x) => x == l
  | _ => false
theorem isLab_is {o : Option Stm} {l : Bs} (h : isLab o l = true) : o = some (.label l) := by
  cases o with
  | none => cases h
  | some s =>
    cases s with
    | label x => rw [show x = l from eq_of_beq h]
    | none => cases h
    | words _ => cases h
    | la _ _ => cases h
    | jump _ _ => cases h
theorem line_label0 : ∀ i, i < 60 → isLab (lineS (labT i ++ [58])) (labT i) = true ∧ (labT i ++ [58]).contains 10 = false := by decide +kernel
theorem line_label (i : Nat) (hi : i < 60) : lineS (labT i ++ [58]) = some (.label (labT i)) ∧ (10 : UInt8) ∉ (labT i ++ [58]) :=
  ⟨isLab_is (line_label0 i hi).1, fun hm => by have := (line_label0 i hi).2; rw [List.contains_iff_mem.2 hm] at this; cases this⟩
theorem lab_apart : ∀ i, i < 60 → ∀ j, j < 60 → labT i = labT j → i = j := by decide +kernel

end Go.Proofs.YtakdhdaoklcidaaGreatDoor

namespace Go.Proofs.YtakdhdaoklcidaaGreatDoor
open Go.RowKit Go.Lib
set_option linter.unusedVariables false
set_option maxRecDepth 100000

def plainS : Stm → Bool
  | .la _ _ => false
  | .jump _ _ => false
  | _ => true
def wordsOf : Stm → List Int
  | .words ws => ws
  | _ => []
theorem link_plain {s : Stm} (h : plainS s = true) (f : Bs → Option Int) (a : Int) : linkS f a s = (0, wordsOf s) := by
  cases s with
  | none => rfl
  | label l => rfl
  | words ws => rfl
  | la rd l => cases h
  | jump i l => cases h
theorem lk_plain {ss : List Stm} (h : ∀ s ∈ ss, plainS s = true) (f : Bs → Option Int) (base : Int) (k : Nat) (hk : k < ss.length) : lkAt ss f base k = (0, wordsOf ss[k]) := by
  unfold lkAt
  rw [List.getD_eq_getElem?_getD, List.getElem?_eq_getElem hk]
  exact link_plain (h _ (List.getElem_mem hk)) f _
theorem out_plain {ss : List Stm} (h : ∀ s ∈ ss, plainS s = true) (f : Bs → Option Int) (base : Int) : ∀ n, n ≤ ss.length → outW ss f base n = (ss.take n).flatMap wordsOf
  | 0, _ => by simp [outW]
  | n + 1, hn => by
    show outW ss f base n ++ (lkAt ss f base n).2 = _
    rw [out_plain h f base n (by omega), lk_plain h f base n (by omega), List.take_succ_eq_append_getElem (by omega), List.flatMap_append]
    simp
theorem labF_some {ss : List Stm} {base : Int} {l : Bs} : ∀ k, (labF ss base k l).isSome = true → ∃ j, j < k ∧ labOf (ss.getD j .none) = l
  | 0, h => by cases h
  | k + 1, h => by
    have e : labF ss base (k + 1) l = if labOf (ss.getD k .none) ≠ [] ∧ l = labOf (ss.getD k .none) then some (atK ss base k) else labF ss base k l := rfl
    rw [e] at h
    by_cases c : labOf (ss.getD k .none) ≠ [] ∧ l = labOf (ss.getD k .none)
    · exact ⟨k, by omega, c.2.symm⟩
    · rw [if_neg c] at h
      obtain ⟨j, hj, he⟩ := labF_some k h
      exact ⟨j, by omega, he⟩
def Apart (a b : Stm) : Prop := labOf a = labOf b → labOf b = []
theorem dup_apart {ss : List Stm} (h : ss.Pairwise Apart) (base : Int) (k : Nat) (hk : k < ss.length) : dupAt ss base k = false := by
  cases e : dupAt ss base k
  · rfl
  · unfold dupAt at e
    rw [Bool.and_eq_true] at e
    obtain ⟨j, hj, he⟩ := labF_some k e.2
    have hjl : j < ss.length := by omega
    rw [List.getD_eq_getElem?_getD, List.getElem?_eq_getElem hjl, List.getD_eq_getElem?_getD, List.getElem?_eq_getElem hk] at he
    have h0 := (List.pairwise_iff_getElem.1 h) j k hjl hk hj he
    rw [List.getD_eq_getElem?_getD, List.getElem?_eq_getElem hk] at e
    have e1 := e.1
    simp only [Option.getD_some] at e1 h0
    rw [h0] at e1
    cases e1
theorem asm_plain {ss : List Stm} (hp : ∀ s ∈ ss, plainS s = true) (hd : ss.Pairwise Apart) (base : Int) : asmL ss base = (ss.flatMap wordsOf, 0, 0) := by
  rw [asm_all (fun i hi => dup_apart hd base i hi) (fun i hi => by rw [lk_plain hp _ base i hi]), out_plain hp _ base _ (Nat.le_refl _), List.take_length]

/-- The lines of the i-th instruction (d: its mark), what they say, and its words. -/
def linesP (i d : Nat) (k : Ins) : List Bs :=
  if rightB k then
    (if d = 0 then [[32, 9] ++ printT k ++ [9, 35, 32, 120]]
     else if d = 1 then [printT k, [], [35], []]
     else if d = 2 then [labT i ++ [58], printT k]
     else [printT k])
  else []
def stmP (i d : Nat) (k : Ins) : List Stm :=
  if rightB k then
    (if d = 0 then [.words [encW k]]
     else if d = 1 then [.words [encW k], .none, .none, .none]
     else if d = 2 then [.label (labT i), .words [encW k]]
     else [.words [encW k]])
  else []
def wordP (k : Ins) : List Int := if rightB k then [encW k] else []
theorem stmP_lines {i d : Nat} {k : Ins} (hi : i < 60) : (linesP i d k).filterMap lineS = stmP i d k ∧ (∀ x ∈ linesP i d k, (10 : UInt8) ∉ x ∧ ∃ s, lineS x = some s) := by
  unfold linesP stmP
  cases hr : rightB k
  · simp
  · have hs := line_print hr
    have hd := line_decked hr
    have hl := line_label i hi
    have h10 := print_no64 hr 10 (by simp)
    have hdn : (10 : UInt8) ∉ ([32, 9] ++ printT k ++ [9, 35, 32, 120] : Bs) := by simp; exact h10
    rw [if_pos rfl, if_pos rfl]
    by_cases c0 : d = 0
    · rw [if_pos c0, if_pos c0]
      refine ⟨by rw [List.filterMap_cons_some hd]; rfl, fun x hx => ?_⟩
      rw [List.mem_singleton.1 hx]; exact ⟨hdn, _, hd⟩
    · rw [if_neg c0, if_neg c0]
      by_cases c1 : d = 1
      · rw [if_pos c1, if_pos c1]
        refine ⟨by simp [hs, line_empty, line_remark], fun x hx => ?_⟩
        simp only [List.mem_cons, List.not_mem_nil, or_false] at hx
        rcases hx with rfl | rfl | rfl | rfl
        · exact ⟨h10, _, hs⟩
        · exact ⟨by simp, _, line_empty⟩
        · exact ⟨by decide, _, line_remark⟩
        · exact ⟨by simp, _, line_empty⟩
      · rw [if_neg c1, if_neg c1]
        by_cases c2 : d = 2
        · rw [if_pos c2, if_pos c2]
          refine ⟨by simp [hs, hl.1], fun x hx => ?_⟩
          simp only [List.mem_cons, List.not_mem_nil, or_false] at hx
          rcases hx with rfl | rfl
          · exact ⟨hl.2, _, hl.1⟩
          · exact ⟨h10, _, hs⟩
        · rw [if_neg c2, if_neg c2]
          refine ⟨by simp [hs], fun x hx => ?_⟩
          rw [List.mem_singleton.1 hx]; exact ⟨h10, _, hs⟩
theorem stmP_is (i d : Nat) (k : Ins) : (∀ s ∈ stmP i d k, plainS s = true) ∧ (stmP i d k).flatMap wordsOf = wordP k ∧ (stmP i d k).Pairwise Apart ∧ (∀ s ∈ stmP i d k, labOf s = [] ∨ labOf s = labT i) := by
  unfold stmP wordP
  cases rightB k
  · simp
  · rw [if_pos rfl, if_pos rfl]
    by_cases c0 : d = 0
    · rw [if_pos c0]; simp [plainS, wordsOf, labOf]
    · rw [if_neg c0]
      by_cases c1 : d = 1
      · rw [if_pos c1]; simp [plainS, wordsOf, labOf, Apart]
      · rw [if_neg c1]
        by_cases c2 : d = 2
        · rw [if_pos c2]; simp [plainS, wordsOf, labOf, Apart]
        · rw [if_neg c2]; simp [plainS, wordsOf, labOf]
/-- The first n instructions' lines, statements, words. -/
def linesN (l : List Ins) (d : Nat → Nat) : Nat → List Bs
  | 0 => []
  | n + 1 => linesN l d n ++ linesP n (d n) (l.getD n insZ)
def stmN (l : List Ins) (d : Nat → Nat) : Nat → List Stm
  | 0 => []
  | n + 1 => stmN l d n ++ stmP n (d n) (l.getD n insZ)
def wordN (l : List Ins) : Nat → List Int
  | 0 => []
  | n + 1 => wordN l n ++ wordP (l.getD n insZ)
theorem linesN_is (l : List Ins) (d : Nat → Nat) : ∀ n, n ≤ 60 → (linesN l d n).filterMap lineS = stmN l d n ∧ (∀ x ∈ linesN l d n, (10 : UInt8) ∉ x ∧ ∃ s, lineS x = some s)
  | 0, _ => ⟨rfl, fun x hx => by cases hx⟩
  | n + 1, hn => by
    obtain ⟨a, b⟩ := linesN_is l d n (by omega)
    obtain ⟨a2, b2⟩ := stmP_lines (i := n) (d := d n) (k := l.getD n insZ) (by omega)
    refine ⟨?_, fun x hx => ?_⟩
    · show (linesN l d n ++ linesP n (d n) (l.getD n insZ)).filterMap lineS = _
      rw [List.filterMap_append, a, a2]; rfl
    · rcases List.mem_append.1 hx with h | h
      · exact b x h
      · exact b2 x h
theorem stmN_is (l : List Ins) (d : Nat → Nat) : ∀ n, n ≤ 60 → (∀ s ∈ stmN l d n, plainS s = true) ∧ (stmN l d n).flatMap wordsOf = wordN l n ∧ (stmN l d n).Pairwise Apart ∧ (∀ s ∈ stmN l d n, labOf s = [] ∨ ∃ i, i < n ∧ labOf s = labT i)
  | 0, _ => by refine ⟨?_, rfl, List.Pairwise.nil, ?_⟩ <;> (intro s hs; cases hs)
  | n + 1, hn => by
    obtain ⟨a, b, c, e⟩ := stmN_is l d n (by omega)
    obtain ⟨a2, b2, c2, e2⟩ := stmP_is n (d n) (l.getD n insZ)
    refine ⟨fun s hs => ?_, ?_, ?_, fun s hs => ?_⟩
    · rcases List.mem_append.1 hs with h | h
      · exact a s h
      · exact a2 s h
    · show (stmN l d n ++ stmP n (d n) (l.getD n insZ)).flatMap wordsOf = _
      rw [List.flatMap_append, b, b2]; rfl
    · show (stmN l d n ++ stmP n (d n) (l.getD n insZ)).Pairwise Apart
      rw [List.pairwise_append]
      refine ⟨c, c2, fun x hx y hy hxy => ?_⟩
      rcases e2 y hy with h | h
      · exact h
      · rcases e x hx with h' | ⟨i, hi, h'⟩
        · rw [h', h] at hxy; cases hxy
        · rw [h', h] at hxy
          have := lab_apart i (by omega) n (by omega) hxy
          omega
    · rcases List.mem_append.1 hs with h | h
      · rcases e s h with h | ⟨i, hi, h⟩
        · exact .inl h
        · exact .inr ⟨i, by omega, h⟩
      · rcases e2 s h with h | h
        · exact .inl h
        · exact .inr ⟨n, by omega, h⟩
/-- The law's program, assembled. -/
theorem asm_lines (l : List Ins) (d : Nat → Nat) (n : Nat) (hn : n ≤ 60) (base : Int) (hb : base % 4 = 0) : asmF (joinNL (linesN l d n)) base = (wordN l n, 0, 0) := by
  obtain ⟨a, b⟩ := linesN_is l d n hn
  obtain ⟨p, q, r, _⟩ := stmN_is l d n hn
  unfold asmF
  rw [if_pos hb, lines_join _ (fun x hx => (b x hx).1)]
  have hall : ∀ x ∈ linesN l d n ++ [[]], ∃ s, lineS x = some s := fun x hx => by
    rcases List.mem_append.1 hx with h | h
    · exact (b x h).2
    · rw [List.mem_singleton.1 h]; exact ⟨_, line_empty⟩
  rw [asm_good (fun i hi => by
    rw [List.getD_eq_getElem?_getD, List.getElem?_eq_getElem hi]
    exact hall _ (List.getElem_mem hi)), List.filterMap_append, a]
  have e : ([[]] : List Bs).filterMap lineS = [.none] := by simp [line_empty]
  rw [e]
  have hp : ∀ s ∈ stmN l d n ++ [.none], plainS s = true := fun s hs => by
    rcases List.mem_append.1 hs with h | h
    · exact p s h
    · rw [List.mem_singleton.1 h]; rfl
  rw [asm_plain hp (List.pairwise_append.2 ⟨r, List.pairwise_singleton _ _, fun x hx y hy _ => by rw [List.mem_singleton.1 hy]; rfl⟩), List.flatMap_append, q]
  simp [wordsOf]
theorem asm_off (t : Bs) (base : Int) (hb : ¬ base % 4 = 0) : asmF t base = ([], 0, 1) := by unfold asmF; rw [if_neg hb]
/-- How long the text is. -/
theorem piece_len (i d : Nat) (k : Ins) (hk : rightB k = true → (printT k).length ≤ 100) : (joinNL (linesP i d k)).length ≤ 110 := by
  unfold linesP
  cases hr : rightB k
  · simp [joinNL]
  · have h := hk hr
    rw [if_pos rfl]
    by_cases c0 : d = 0
    · rw [if_pos c0]; simp [joinNL]; omega
    · rw [if_neg c0]
      by_cases c1 : d = 1
      · rw [if_pos c1]; simp [joinNL]; omega
      · rw [if_neg c1]
        by_cases c2 : d = 2
        · rw [if_pos c2]; simp [joinNL, labT]; omega
        · rw [if_neg c2]; simp [joinNL]; omega
theorem join_app (a b : List Bs) : joinNL (a ++ b) = joinNL a ++ joinNL b := by unfold joinNL; exact List.flatMap_append
theorem text_len (l : List Ins) (d : Nat → Nat) (hk : ∀ k, rightB k = true → (printT k).length ≤ 100) : ∀ n, (joinNL (linesN l d n)).length ≤ 110 * n
  | 0 => by simp [linesN, joinNL]
  | n + 1 => by
    have h1 := text_len l d hk n
    have h2 := piece_len n (d n) (l.getD n insZ) (hk _)
    show (joinNL (linesN l d n ++ linesP n (d n) (l.getD n insZ))).length ≤ _
    rw [join_app, List.length_append]; omega

end Go.Proofs.YtakdhdaoklcidaaGreatDoor

namespace Go.Proofs.YtakdhdaoklcidaaGreatDoor
open Go.RowKit Go.ChangeShapes Go.WideShapes Go.Deep
set_option linter.unusedVariables false
set_option maxRecDepth 100000

section
variable {H : Type} {enc : TypeId × Value → H} {P : Program} {w : World} {base : Nat} {spare : Nat → Bool} {held : Bool}
/-- The cells of a struct whose fields are one cell each, and each field's reading. -/
theorem fields_of {t : TypeId} {fs : Array Field} {n : Nat} {cs : List Value} {x : DataW H × List MemPlace} (hs : P.underlying t = some (.struct fs)) (hone : oneCellFields P fs = true) (hC : P.cellsOf t = fs.size)
    (h : DataW.trod enc P w base spare held n t cs = some x) : cs.length = fs.size ∧ ∀ (j : Nat) (f : Field), fs[j]? = some f → ∃ v y k, cs[j]? = some v ∧ DataW.trod enc P w base spare held k f.type [v] = some y := by
  obtain ⟨xs, k, _, _, hl, hlen, hf⟩ := DataW.trod_struct hs h
  refine ⟨hl.trans hC, fun j f hj => ?_⟩
  obtain ⟨ho, hc⟩ := hone_of hone j f hj
  have hjs : j < fs.size := (Array.getElem?_eq_some_iff.1 hj).1
  have hjl : j < cs.length := by omega
  have hjx : j < xs.length := by omega
  have h1 := hf j f hj
  rw [ho, hc, List.drop_eq_getElem_cons hjl, List.take_succ_cons, List.take_zero, List.getElem?_eq_getElem hjx] at h1
  exact ⟨_, _, k, List.getElem?_eq_getElem hjl, h1⟩
end
theorem wf_u8a {x : Int} (h : (Lit.int .u8 x).wf = true) : 0 ≤ x ∧ x ≤ 255 := by
  have h2 := h
  simp [Lit.wf, IntKind.min, IntKind.max, IntKind.signed, IntKind.bits] at h2
  omega
theorem block_lt {w : World} {p : Addr} {v : Value} (h : w.cell? p = some v) : p.block < w.heap.size := by
  by_cases hb : p.block < w.heap.size
  · exact hb
  · have hn : w.heap[p.block]? = none := by simp; omega
    simp [World.cell?, hn] at h

/-- An act, as the program's data tell it. -/
structure ActV where
  op : Int
  rd : Int
  a : Int
  b : Int
  imm : Int
  csr : Int
  aq : Bool
  rl : Bool
/-- The act that stands in cells from an address on. -/
def ActAt (w : World) (ad : Addr) (x : ActV) : Prop :=
  w.cell? (ad.add 0) = some (.int .i64 x.op) ∧ w.cell? (ad.add 1) = some (.int .i64 x.rd) ∧ w.cell? (ad.add 2) = some (.int .i64 x.a) ∧ w.cell? (ad.add 3) = some (.int .i64 x.b) ∧ w.cell? (ad.add 4) = some (.int .i64 x.imm) ∧ w.cell? (ad.add 5) = some (.int .i64 x.csr) ∧ w.cell? (ad.add 6) = some (.bool x.aq) ∧ w.cell? (ad.add 7) = some (.bool x.rl) ∧ In63 x.op ∧ In63 x.rd ∧ In63 x.a ∧ In63 x.b ∧ In63 x.imm ∧ In63 x.csr
/-- The acts that stand there, in a block below B. -/
def ActsIn (B : Nat) (w : World) (v : Value) (xs : List ActV) : Prop :=
  ∃ a c, v = .slice a xs.length c ∧ xs.length ≤ maxLen ∧ (xs = [] ∨ ∃ b off, a = some ⟨b, off, none⟩ ∧ b < B ∧ ∀ i (h : i < xs.length), ActAt w ⟨b, off + i * 8, none⟩ xs[i])
theorem ActAt.below {B : Nat} {w w' : World} {b off : Nat} {x : ActV} (h : ActAt w ⟨b, off, none⟩ x) (k : Below B w w') (hb : b < B) : ActAt w' ⟨b, off, none⟩ x := by
  unfold ActAt at *
  simp only [add_none] at *
  obtain ⟨h0, h1, h2, h3, h4, h5, h6, h7, hr⟩ := h
  exact ⟨(k.cell (p := ⟨b, off + 0, none⟩) hb).trans h0, (k.cell (p := ⟨b, off + 1, none⟩) hb).trans h1, (k.cell (p := ⟨b, off + 2, none⟩) hb).trans h2, (k.cell (p := ⟨b, off + 3, none⟩) hb).trans h3, (k.cell (p := ⟨b, off + 4, none⟩) hb).trans h4, (k.cell (p := ⟨b, off + 5, none⟩) hb).trans h5, (k.cell (p := ⟨b, off + 6, none⟩) hb).trans h6, (k.cell (p := ⟨b, off + 7, none⟩) hb).trans h7, hr⟩
theorem ActsIn.below {B : Nat} {w w' : World} {v : Value} {xs : List ActV} (h : ActsIn B w v xs) (k : Below B w w') : ActsIn B w' v xs := by
  obtain ⟨a, c, hv, hm, h⟩ := h
  refine ⟨a, c, hv, hm, ?_⟩
  rcases h with h | ⟨b, off, ha, hb, hc⟩
  · exact .inl h
  · exact .inr ⟨b, off, ha, hb, fun i hi => (hc i hi).below k hb⟩
/-- The cells of the k-th act, and its ranges. -/
theorem act_at {w : World} {b off : Nat} {x : ActV} (h : ActAt w ⟨b, off, none⟩ x) : w.cell? ⟨b, off, none⟩ = some (.int .i64 x.op) ∧ w.cell? ⟨b, off + 1, none⟩ = some (.int .i64 x.rd) ∧ w.cell? ⟨b, off + 2, none⟩ = some (.int .i64 x.a) ∧ w.cell? ⟨b, off + 3, none⟩ = some (.int .i64 x.b) ∧ w.cell? ⟨b, off + 4, none⟩ = some (.int .i64 x.imm) ∧ w.cell? ⟨b, off + 5, none⟩ = some (.int .i64 x.csr) ∧ w.cell? ⟨b, off + 6, none⟩ = some (.bool x.aq) ∧ w.cell? ⟨b, off + 7, none⟩ = some (.bool x.rl) ∧ In63 x.op ∧ In63 x.rd ∧ In63 x.a ∧ In63 x.b ∧ In63 x.imm ∧ In63 x.csr := by
  unfold ActAt at h
  simp only [add_none, Nat.add_zero] at h
  exact h

theorem open_acts {H : Type} {enc : TypeId × Value → H} {w : World} {spare : Nat → Bool} {held : Bool} {d : DataW H} {p : List MemPlace} {a : Option Addr} {len cap : Nat}
    (h : DataW.Trod enc Tryz.prog w 0 spare held 33 (.slice a len cap) d p) : ∃ xs, ActsIn w.heap.size w (.slice a len cap) xs := by
  obtain ⟨fuel, hf⟩ := h
  rcases open_slice Tryz.underlying33 hf with ⟨hcs, _⟩ | ⟨x, l, c, m, n, D, Pl, hcs, _, hl, hm, hmm, hD, hi⟩
  · simp [Value.cells] at hcs
    obtain ⟨rfl, rfl, rfl⟩ := hcs
    exact ⟨[], _, _, rfl, Nat.zero_le _, .inl rfl⟩
  · simp [Value.cells] at hcs
    obtain ⟨rfl, rfl, rfl⟩ := hcs
    have hlm : len ≤ m := by rw [hmm]; split <;> omega
    have hC : Tryz.prog.cellsOf 23 = 8 := by kernel_rfl
    rw [hC] at hi
    by_cases h0 : len = 0
    · subst h0; exact ⟨[], _, _, rfl, Nat.zero_le _, .inl rfl⟩
    have hplain : ∃ b off, x = ⟨b, off, none⟩ := by
      obtain ⟨cs', hc, htr⟩ := hi 0 (by omega)
      obtain ⟨_, hcl, hat⟩ := World.cells?_some hc
      obtain ⟨v0, y0, k0, hv0, _⟩ := (fields_of Tryz.underlying23 (by kernel_rfl) (by kernel_rfl) htr).2 0 _ rfl
      obtain ⟨b, off, spot⟩ := x
      have h1 := (hat 0 (by omega)).trans hv0
      have hspot : spot = none := by simpa [Addr.add] using World.cell?_spot h1
      subst hspot
      exact ⟨b, off, rfl⟩
    obtain ⟨b, off, rfl⟩ := hplain
    have each : ∀ i, i < len → ∃ xa : ActV, ActAt w ⟨b, off + i * 8, none⟩ xa := by
      intro i hil
      obtain ⟨cs', hc, htr⟩ := hi i (by omega)
      obtain ⟨_, hcl, hat⟩ := World.cells?_some hc
      obtain ⟨_, hfs⟩ := fields_of Tryz.underlying23 (by kernel_rfl) (by kernel_rfl) htr
      obtain ⟨v0, y0, k0, hv0, t0⟩ := hfs 0 _ rfl
      obtain ⟨v1, y1, k1, hv1, t1⟩ := hfs 1 _ rfl
      obtain ⟨v2, y2, k2, hv2, t2⟩ := hfs 2 _ rfl
      obtain ⟨v3, y3, k3, hv3, t3⟩ := hfs 3 _ rfl
      obtain ⟨v4, y4, k4, hv4, t4⟩ := hfs 4 _ rfl
      obtain ⟨v5, y5, k5, hv5, t5⟩ := hfs 5 _ rfl
      obtain ⟨v6, y6, k6, hv6, t6⟩ := hfs 6 _ rfl
      obtain ⟨v7, y7, k7, hv7, t7⟩ := hfs 7 _ rfl
      obtain ⟨n0, e0, _, w0⟩ := DataW.trod_int Tryz.underlying3 t0
      obtain ⟨n1, e1, _, w1⟩ := DataW.trod_int Tryz.underlying3 t1
      obtain ⟨n2, e2, _, w2⟩ := DataW.trod_int Tryz.underlying3 t2
      obtain ⟨n3, e3, _, w3⟩ := DataW.trod_int Tryz.underlying3 t3
      obtain ⟨n4, e4, _, w4⟩ := DataW.trod_int Tryz.underlying2 t4
      obtain ⟨n5, e5, _, w5⟩ := DataW.trod_int Tryz.underlying3 t5
      obtain ⟨n6, e6, _⟩ := DataW.trod_bool Tryz.underlying4 t6
      obtain ⟨n7, e7, _⟩ := DataW.trod_bool Tryz.underlying4 t7
      simp at e0 e1 e2 e3 e4 e5 e6 e7
      subst e0 e1 e2 e3 e4 e5 e6 e7
      have ha : (⟨b, off, none⟩ : Addr).add (i * 8) = ⟨b, off + i * 8, none⟩ := add_none b off (i * 8)
      rw [ha] at hat
      exact ⟨⟨n0, n1, n2, n3, n4, n5, n6, n7⟩, (hat 0 (by omega)).trans hv0, (hat 1 (by omega)).trans hv1, (hat 2 (by omega)).trans hv2, (hat 3 (by omega)).trans hv3, (hat 4 (by omega)).trans hv4, (hat 5 (by omega)).trans hv5, (hat 6 (by omega)).trans hv6, (hat 7 (by omega)).trans hv7, of_wf63 w0, of_wf63 w1, of_wf63 w2, of_wf63 w3, of_wf63 w4, of_wf63 w5⟩
    have hb : b < w.heap.size := by
      obtain ⟨xa, h1, _⟩ := each 0 (by omega)
      have := block_lt h1
      simpa [add_none] using this
    refine ⟨(List.range len).map fun i => if h : i < len then Classical.choose (each i h) else ⟨0, 0, 0, 0, 0, 0, false, false⟩, _, cap, by simp, by simp; omega, .inr ⟨b, off, rfl, hb, fun i hil => ?_⟩⟩
    have hil2 : i < len := by simpa using hil
    have hs := Classical.choose_spec (each i hil2)
    simpa [hil2] using hs

end Go.Proofs.YtakdhdaoklcidaaGreatDoor

namespace Go.Proofs.YtakdhdaoklcidaaGreatDoor
open Go.RowKit Go.Lib
set_option linter.unusedVariables false
set_option maxRecDepth 100000

/-- A slice of bytes that came in. -/
def BytesIn (B : Nat) (w : World) (v : Value) (ys : List Int) : Prop :=
  ∃ a c, v = .slice a ys.length c ∧ (ys = [] ∨ ∃ b off, a = some ⟨b, off, none⟩ ∧ b < B ∧ ∀ i, i < ys.length → w.cell? ⟨b, off + i, none⟩ = some (.int .u8 (ys.getD i 0)) ∧ 0 ≤ ys.getD i 0 ∧ ys.getD i 0 ≤ 255)
section
open Go.ChangeShapes Go.WideShapes Go.Deep
theorem open_u8s {H : Type} {enc : TypeId × Value → H} {w : World} {spare : Nat → Bool} {held : Bool} {d : DataW H} {p : List MemPlace} {a : Option Addr} {len cap : Nat}
    (h : DataW.Trod enc Tryz.prog w 0 spare held 48 (.slice a len cap) d p) : ∃ ys, BytesIn w.heap.size w (.slice a len cap) ys := by
  obtain ⟨fuel, hf⟩ := h
  rcases open_slice Tryz.underlying48 hf with ⟨hcs, _⟩ | ⟨x, l, c, m, n, D, Pl, hcs, _, hl, hm, hmm, hD, hi⟩
  · simp [Value.cells] at hcs
    obtain ⟨rfl, rfl, rfl⟩ := hcs
    exact ⟨[], _, _, rfl, .inl rfl⟩
  · simp [Value.cells] at hcs
    obtain ⟨rfl, rfl, rfl⟩ := hcs
    have hlm : len ≤ m := by rw [hmm]; split <;> omega
    have hC : Tryz.prog.cellsOf 5 = 1 := by kernel_rfl
    rw [hC] at hi
    by_cases h0 : len = 0
    · subst h0; exact ⟨[], _, _, rfl, .inl rfl⟩
    have one : ∀ i, i < len → ∃ y : Int, w.cell? (x.add i) = some (.int .u8 y) ∧ (Lit.int .u8 y).wf = true := by
      intro i hil
      obtain ⟨cs', hc, htr⟩ := hi i (by omega)
      obtain ⟨_, hcl, hat⟩ := World.cells?_some hc
      obtain ⟨n0, e0, _, w0⟩ := DataW.trod_int Tryz.underlying5 htr
      subst e0
      have h2 := hat 0 (by simp)
      rw [Nat.mul_one] at h2
      have e : (x.add i).add 0 = x.add i := by generalize x.add i = z; simp [Addr.add]
      rw [e] at h2
      exact ⟨n0, h2, w0⟩
    have hplain : ∃ b off, x = ⟨b, off, none⟩ := by
      obtain ⟨y, h1, _⟩ := one 0 (by omega)
      obtain ⟨b, off, spot⟩ := x
      have hspot : spot = none := by simpa [Addr.add] using World.cell?_spot h1
      subst hspot
      exact ⟨b, off, rfl⟩
    obtain ⟨b, off, rfl⟩ := hplain
    have hb : b < w.heap.size := by
      obtain ⟨y, h1, _⟩ := one 0 (by omega)
      have := block_lt h1
      simpa [add_none] using this
    have two : ∀ i, i < len → ∃ y : Int, w.cell? ⟨b, off + i, none⟩ = some (.int .u8 y) ∧ (Lit.int .u8 y).wf = true := fun i hil => by
      obtain ⟨y, h1, h2⟩ := one i hil
      rw [add_none] at h1
      exact ⟨y, h1, h2⟩
    refine ⟨(List.range len).map fun i => if h : i < len then Classical.choose (two i h) else 0, _, cap, by simp, .inr ⟨b, off, rfl, hb, fun i hil => ?_⟩⟩
    have hil2 : i < len := by simpa using hil
    have hs := Classical.choose_spec (two i hil2)
    have e : ((List.range len).map fun i => if h : i < len then Classical.choose (two i h) else 0).getD i 0 = Classical.choose (two i hil2) := by
      rw [List.getD_eq_getElem?_getD, List.getElem?_eq_getElem (by simpa using hil2)]
      simp [hil2]
    rw [e]
    exact ⟨hs.1, wf_u8a hs.2⟩
end
theorem bcat (a b : Bs) : ((⟨a.toArray⟩ : ByteArray) ++ ⟨b.toArray⟩) = ⟨(a ++ b).toArray⟩ := by
  have e := str_cat a b
  injection e
def toIns (x : ActV) : Ins := ⟨x.op, x.rd, x.a, x.b, x.imm, x.csr, x.aq, x.rl⟩
def markD (ys : List Int) (i : Nat) : Nat := if i < ys.length then (ys.getD i 0 % 5).toNat else 5
set_option maxHeartbeats 4000000 in
theorem sameW_row (L : List Int) (hn : L.length ≤ 1000) (w : World) (g g' c c' : Nat) (h1 : ∀ j, j < L.length → w.cell? ⟨g, j, none⟩ = some (.int .u32 (L.getD j 0))) (h2 : ∀ j, j < L.length → w.cell? ⟨g', j, none⟩ = some (.int .u32 (L.getD j 0))) :
    Calls Tryz.prog 20 #[.slice (some ⟨g, 0, none⟩) L.length c, .slice (some ⟨g', 0, none⟩) L.length c'] w fun e w' => e = .returned (.bool true) ∧ Below w.heap.size w w' := by
  have H1 := Lib.hid h1
  have H2 := Lib.hid h2
  clear h1 h2
  go_enter Tryz.func20, Tryz.ntmps20
  go_wp2
  go_loopw [5] (fun i wr => ∃ (j : Nat), j ≤ L.length ∧ i = .int .i64 j ∧ Below w.heap.size w wr) (fun k _ => L.length - (RowKit.intOf k).toNat)
  case atStart => exact ⟨0, Nat.zero_le _, rfl, Below.refl _ _⟩
  case round =>
    obtain ⟨j, hj, rfl, hb⟩ := hrel
    have HB := Lib.hid hb
    by_cases hlt : j < L.length
    · have hj2 : (j : Int) < L.length := by omega
      have hj3 : (0 : Int) ≤ (j : Int) := by omega
      have a := cell_stays hb (H1.out j hlt)
      have b := cell_stays hb (H2.out j hlt)
      clear hb
      generalize L.getD j 0 = x at *
      go_wp2_with fail
      go_quiet (fail)
      go_wp2
      case roundEnd => exact ⟨⟨j + 1, by omega, by go_num, below_drewN HB.out _⟩, by simp [RowKit.intOf]; omega⟩
    · obtain rfl : j = L.length := by omega
      go_wp2
      go_ret
      exact ⟨rfl, HB.out⟩
theorem ownW_cells {w : World} {B : Nat} {v : Value} {L : List Int} (h : OwnW w B v L) (hn : ¬ L = []) : ∃ g c, v = .slice (some ⟨g, 0, none⟩) L.length c ∧ ∀ j, j < L.length → w.cell? ⟨g, j, none⟩ = some (.int .u32 (L.getD j 0)) := by
  rcases h.2 with ⟨_, h0⟩ | ⟨g, cap, cur, rfl, hb, hg, hn1, hn2, hn3, ht⟩
  · exact absurd (List.eq_nil_of_length_eq_zero h0) hn
  · refine ⟨g, cap, rfl, fun j hj => ?_⟩
    rw [Lib.cell_of_heap hg]
    have e : (wordCs L)[j]? = some (.int .u32 (L.getD j 0)) := by simp [wordCs, List.getElem?_eq_getElem hj, List.getD_eq_getElem?_getD]
    rw [← ht, List.getElem?_take, if_pos (by omega)] at e
    simpa using e

end Go.Proofs.YtakdhdaoklcidaaGreatDoor

namespace Go.Proofs.YtakdhdaoklcidaaGreatDoor
open Go.RowKit Go.Lib
set_option linter.unusedVariables false
set_option maxRecDepth 100000

theorem text_step (l : List Ins) (d : Nat → Nat) (j : Nat) : joinNL (linesN l d (j + 1)) = joinNL (linesN l d j) ++ joinNL (linesP j (d j) (l.getD j insZ)) := join_app _ _
theorem piece_no {i d : Nat} {k : Ins} (h : rightB k = false) : joinNL (linesP i d k) = [] ∧ wordP k = [] := by unfold linesP wordP; rw [h]; simp [joinNL]
theorem piece_0 {i : Nat} {k : Ins} (h : rightB k = true) : joinNL (linesP i 0 k) = [32, 9] ++ (printT k ++ ([9, 35, 32, 120] ++ [10])) := by unfold linesP; rw [if_pos h]; simp [joinNL]
theorem piece_1 {i : Nat} {k : Ins} (h : rightB k = true) : joinNL (linesP i 1 k) = printT k ++ ([10, 10, 35, 10] ++ [10]) := by unfold linesP; rw [if_pos h]; simp [joinNL]
theorem piece_2 {i : Nat} {k : Ins} (h : rightB k = true) : joinNL (linesP i 2 k) = [108] ++ ([UInt8.ofNat (97 + i / 26), UInt8.ofNat (97 + i % 26)] ++ ([58, 10] ++ (printT k ++ [10]))) := by unfold linesP; rw [if_pos h]; simp [joinNL, labT]
theorem piece_3 {i d : Nat} {k : Ins} (h : rightB k = true) (hd : 2 < d) : joinNL (linesP i d k) = printT k ++ [10] := by unfold linesP; rw [if_pos h, if_neg (by omega), if_neg (by omega), if_neg (by omega)]; simp [joinNL]
theorem word_yes {k : Ins} (h : rightB k = true) : wordP k = [encW k] := by unfold wordP; rw [if_pos h]
theorem print_100 {i : Ins} (hr : rightB i = true) : (printT i).length ≤ 100 := by
  obtain ⟨h1, h2, h3, h4⟩ := rightT_of hr
  have hf := (fT_ok h1 (by omega)).imm
  have hI := (right_imm hf h4).1
  have p1 := h4.rd; have p2 := h4.a; have p3 := h4.b; have p4 := h4.csr
  have hnl := name_short i.op.toNat (by omega)
  have hml := mark_short i.aq i.rl
  have hx : ∀ n : Int, 0 ≤ n ∧ n ≤ 31 → (itoa n).length ≤ 2 := fun n hn => by
    have h : ∀ k : Nat, k < 32 → (itoa (k : Int)).length ≤ 2 := by decide +kernel
    have := h n.toNat (by omega)
    rwa [show ((n.toNat : Nat) : Int) = n by omega] at this
  have l1 := hx i.rd p1
  have l2 := hx i.a p2
  have l3 := hx i.b p3
  have l4 := itoa_length_le i.imm (by omega) (by omega)
  have l5 := itoa_length_le i.csr (by omega) (by omega)
  have hs : ∀ f : Frm, ((opsF f i).map fun o => o.length + 2).sum ≤ 70 := fun f => by
    unfold opsF
    generalize f.rd = q1
    generalize f.a = q2
    generalize f.b = q3
    generalize (f.imm != 0) = q4
    generalize f.csr = q5
    cases q1 <;> cases q2 <;> cases q3 <;> cases q4 <;> cases q5 <;> simp [xr] <;> omega
  have h := lineT_len (nmT i) (opsF (fT i.op.toNat) i)
  have h2 := hs (fT i.op.toNat)
  have h3 : (nmT i).length = (nameB i.op.toNat).length + (markT i.aq i.rl).length := by unfold nmT; simp
  show (lineT (nmT i) (opsF (fT i.op.toNat) i)).length ≤ 100
  omega
theorem of_wf {x : Int} (h : (Lit.int .u64 x).wf = true) : 0 ≤ x ∧ x < 18446744073709551616 := by
  have h2 := h
  simp [Lit.wf, IntKind.min, IntKind.max, IntKind.signed, IntKind.bits] at h2
  omega
theorem sameW_zero (w : World) (a a' : Option Addr) (c c' : Nat) : Calls Tryz.prog 20 #[.slice a 0 c, .slice a' 0 c'] w fun e w' => e = .returned (.bool true) ∧ Below w.heap.size w w' := by
  go_enter Tryz.func20, Tryz.ntmps20
  go_wp2
  go_loopw [5] (fun i wr => i = .int .i64 0 ∧ wr = w) (fun _ _ => 0)
  case atStart => exact ⟨rfl, rfl⟩
  case round =>
    obtain ⟨rfl, rfl⟩ := hrel
    go_wp2
    go_ret
    exact ⟨rfl, Below.refl _ _⟩
theorem wordN_len (l : List Ins) : ∀ n, (wordN l n).length ≤ n
  | 0 => by simp [wordN]
  | n + 1 => by
    have h := wordN_len l n
    show (wordN l n ++ wordP (l.getD n insZ)).length ≤ _
    have h2 : (wordP (l.getD n insZ)).length ≤ 1 := by unfold wordP; split <;> simp
    rw [List.length_append]; omega

set_option maxHeartbeats 8000000 in
theorem asmLines_walk (v0 : Value) (xs : List ActV) (base : Int) (v2 : Value) (ys : List Int) (w : World) (h0 : ActsIn w.heap.size w v0 xs) (hb : 0 ≤ base ∧ base < 18446744073709551616) (h2 : BytesIn w.heap.size w v2 ys) (he : Env w) :
    Calls Tryz.prog 9 #[v0, .int .u64 base, v2] w fun e w' => e = .returned (.bool true) ∧ Below w.heap.size w w' := by
  obtain ⟨a0, c0', rfl, hm0, hc0⟩ := h0
  obtain ⟨a2, c2', rfl, hc2⟩ := h2
  have HE := Lib.hid he
  have HC0 : Hid (∀ j, j < xs.length → ∃ b off, a0 = some ⟨b, off, none⟩ ∧ b < w.heap.size ∧ ∀ m v, m < 8 → (insC ((xs.map toIns).getD j insZ)).getD m undef = v → w.cell? ⟨b, off + j * 8 + m, none⟩ = some v) := Lib.hid fun j hj => by
    rcases hc0 with h | ⟨b, off, ha, hbl, hc⟩
    · rw [h] at hj; cases hj
    · refine ⟨b, off, ha, hbl, fun m v hm hv => ?_⟩
      have h := act_at (hc j hj)
      have e : (xs.map toIns).getD j insZ = toIns xs[j] := by
        rw [List.getD_eq_getElem?_getD, List.getElem?_map, List.getElem?_eq_getElem hj]; rfl
      rw [e] at hv
      rw [← hv]
      match m, hm with
      | 0, _ => exact h.1
      | 1, _ => exact h.2.1
      | 2, _ => exact h.2.2.1
      | 3, _ => exact h.2.2.2.1
      | 4, _ => exact h.2.2.2.2.1
      | 5, _ => exact h.2.2.2.2.2.1
      | 6, _ => exact h.2.2.2.2.2.2.1
      | 7, _ => exact h.2.2.2.2.2.2.2.1
  have HC2 : Hid (∀ j, j < ys.length → ∃ b off, a2 = some ⟨b, off, none⟩ ∧ b < w.heap.size ∧ w.cell? ⟨b, off + j, none⟩ = some (.int .u8 (ys.getD j 0)) ∧ 0 ≤ ys.getD j 0 ∧ ys.getD j 0 ≤ 255) := Lib.hid fun j hj => by
    rcases hc2 with h | ⟨b, off, ha, hbl, hc⟩
    · rw [h] at hj; cases hj
    · exact ⟨b, off, ha, hbl, hc j hj⟩
  have HMK : Hid (∀ j, markD ys j = if j < ys.length then (ys.getD j 0 % 5).toNat else 5) := Lib.hid fun j => rfl
  clear hc0 hc2 he hm0
  generalize xs.map toIns = l at *
  generalize markD ys = d at *
  generalize hY : (fun j => ys.getD j 0) = Y at *
  generalize xs.length = N at *
  generalize ys.length = M at *
  by_cases hl : 60 < N
  · have hl2 : (60 : Int) < (N : Int) := by omega
    go_enter Tryz.func9, Tryz.ntmps9
    go_wp2_with (go_at_call 12; (with_reducible refine (wakes10 _ HE.out).mono ?_); rintro e w6 ⟨rfl, hb6⟩; have HB6 := Lib.hid hb6; clear hb6)
    go_ret
    exact ⟨rfl, HB6.out⟩
  · have hl2 : ¬ (60 : Int) < (N : Int) := by omega
    go_enter Tryz.func9, Tryz.ntmps9
    go_wp2
    go_loopw [7, 8, 9] (fun t v k wr => ∃ (j : Nat), j ≤ N ∧ k = .int .i64 j ∧ t = str (joinNL (linesN l d j)) ∧ OwnW wr w.heap.size v (wordN l j) ∧ Below w.heap.size w wr) (fun _ _ k _ => N - (RowKit.intOf k).toNat)
    case atStart => exact ⟨0, Nat.zero_le _, rfl, rfl, ownW_nil _ _, Below.refl _ _⟩
    case round =>
      obtain ⟨j, hj, rfl, rfl, how, hbw⟩ := hrel
      have hwl := wordN_len l j
      have HOW := Lib.hid how
      have HB := Lib.hid hbw
      by_cases hlt : j < N
      · obtain ⟨b0, off, rfl, hbl, hcc⟩ := HC0.out j hlt
        have HTX : Hid (joinNL (linesN l d (j + 1)) = joinNL (linesN l d j) ++ joinNL (linesP j (d j) (l.getD j insZ))) := Lib.hid (text_step l d j)
        have HWD : Hid (wordN l (j + 1) = wordN l j ++ wordP (l.getD j insZ)) := Lib.hid rfl
        have hT := text_len l d (fun k hk => print_100 hk) j
        generalize wordN l j = ws at *
        generalize joinNL (linesN l d j) = T at *
        generalize l.getD j insZ = k at *
        have cw : ∀ m v, m < 8 → (insC k).getD m undef = v → wr.cell? ⟨b0, off + j * 8 + m, none⟩ = some v := fun m v hm hv => (HB.out.cell (p := ⟨b0, off + j * 8 + m, none⟩) hbl).trans (hcc m v hm hv)
        have hEN := fun (w : World) (he : Env w) => encode_is k w he.tab
        clear hcc how hbw
        cases hr : rightB k with
        | false =>
          have hp := piece_no (i := j) (d := d j) hr
          have HP := Lib.hid hp
          rw [show encE k = 80 by unfold encE; rw [hr]; rfl] at hEN
          have HEN := Lib.hid hEN
          clear hEN hp hr
          generalize encW k = W at *
          obtain ⟨op, rd, a, b, imm, csr, aq, rl⟩ := k
          have c0 : wr.cell? ⟨b0, off + j * 8, none⟩ = some (.int .i64 op) := cw 0 _ (by decide) rfl
          have c1 : wr.cell? ⟨b0, off + j * 8 + 1, none⟩ = some (.int .i64 rd) := cw 1 _ (by decide) rfl
          have c2 : wr.cell? ⟨b0, off + j * 8 + 2, none⟩ = some (.int .i64 a) := cw 2 _ (by decide) rfl
          have c3 : wr.cell? ⟨b0, off + j * 8 + 3, none⟩ = some (.int .i64 b) := cw 3 _ (by decide) rfl
          have c4 : wr.cell? ⟨b0, off + j * 8 + 4, none⟩ = some (.int .i64 imm) := cw 4 _ (by decide) rfl
          have c5 : wr.cell? ⟨b0, off + j * 8 + 5, none⟩ = some (.int .i64 csr) := cw 5 _ (by decide) rfl
          have c6 : wr.cell? ⟨b0, off + j * 8 + 6, none⟩ = some (.bool aq) := cw 6 _ (by decide) rfl
          have c7 : wr.cell? ⟨b0, off + j * 8 + 7, none⟩ = some (.bool rl) := cw 7 _ (by decide) rfl
          clear cw
          go_wp2_with (fail)
          (with_reducible refine (HEN.out _ (HE.out.below HB.out)).mono ?_)
          rintro e w2 ⟨rfl, hb2⟩
          have HB2 := Lib.hid (HB.out.trans (hb2.mono HB.out.size))
          have HOW2 := Lib.hid (ownW_below HOW.out hb2)
          clear c0 c1 c2 c3 c4 c5 c6 c7 hb2
          go_wp2
          case roundEnd => exact ⟨⟨j + 1, by omega, rfl, by rw [HTX.out, HP.out.1, List.append_nil], by rw [HWD.out, HP.out.2, List.append_nil]; exact HOW2.out, HB2.out⟩, by simp [RowKit.intOf]; omega⟩
        | true =>
          have hPR := fun (w : World) (he : Env w) => print_yes k hr w he
          rw [show encE k = 0 by unfold encE; rw [hr]; rfl] at hEN
          have HEN := Lib.hid hEN
          have HPR := Lib.hid hPR
          have HWY := Lib.hid (word_yes hr)
          have hPl := print_100 hr
          have HP0 := Lib.hid (piece_0 (i := j) hr)
          have HP1 := Lib.hid (piece_1 (i := j) hr)
          have HP2 := Lib.hid (piece_2 (i := j) hr)
          have HP3 := Lib.hid (fun d hd => piece_3 (i := j) (d := d) hr hd)
          clear hEN hPR hr
          generalize encW k = W at *
          generalize printT k = P at *
          obtain ⟨op, rd, a, b, imm, csr, aq, rl⟩ := k
          have c0 : wr.cell? ⟨b0, off + j * 8, none⟩ = some (.int .i64 op) := cw 0 _ (by decide) rfl
          have c1 : wr.cell? ⟨b0, off + j * 8 + 1, none⟩ = some (.int .i64 rd) := cw 1 _ (by decide) rfl
          have c2 : wr.cell? ⟨b0, off + j * 8 + 2, none⟩ = some (.int .i64 a) := cw 2 _ (by decide) rfl
          have c3 : wr.cell? ⟨b0, off + j * 8 + 3, none⟩ = some (.int .i64 b) := cw 3 _ (by decide) rfl
          have c4 : wr.cell? ⟨b0, off + j * 8 + 4, none⟩ = some (.int .i64 imm) := cw 4 _ (by decide) rfl
          have c5 : wr.cell? ⟨b0, off + j * 8 + 5, none⟩ = some (.int .i64 csr) := cw 5 _ (by decide) rfl
          have c6 : wr.cell? ⟨b0, off + j * 8 + 6, none⟩ = some (.bool aq) := cw 6 _ (by decide) rfl
          have c7 : wr.cell? ⟨b0, off + j * 8 + 7, none⟩ = some (.bool rl) := cw 7 _ (by decide) rfl
          have CW := Lib.hid cw
          clear cw
          go_wp2_with (fail)
          (with_reducible refine (HEN.out _ (HE.out.below HB.out)).mono ?_)
          rintro e w2 ⟨rfl, hb2⟩
          have HB2 := Lib.hid (HB.out.trans (hb2.mono HB.out.size))
          have HOW2 := Lib.hid (ownW_below HOW.out hb2)
          clear c0 c1 c2 c3 c4 c5 c6 c7
          have cw2 : ∀ m v, m < 8 → (insC ⟨op, rd, a, b, imm, csr, aq, rl⟩).getD m undef = v → w2.cell? ⟨b0, off + j * 8 + m, none⟩ = some v := fun m v hm hv => cell_stays hb2 (CW.out m v hm hv)
          have c0 : w2.cell? ⟨b0, off + j * 8, none⟩ = some (.int .i64 op) := cw2 0 _ (by decide) rfl
          have c1 : w2.cell? ⟨b0, off + j * 8 + 1, none⟩ = some (.int .i64 rd) := cw2 1 _ (by decide) rfl
          have c2 : w2.cell? ⟨b0, off + j * 8 + 2, none⟩ = some (.int .i64 a) := cw2 2 _ (by decide) rfl
          have c3 : w2.cell? ⟨b0, off + j * 8 + 3, none⟩ = some (.int .i64 b) := cw2 3 _ (by decide) rfl
          have c4 : w2.cell? ⟨b0, off + j * 8 + 4, none⟩ = some (.int .i64 imm) := cw2 4 _ (by decide) rfl
          have c5 : w2.cell? ⟨b0, off + j * 8 + 5, none⟩ = some (.int .i64 csr) := cw2 5 _ (by decide) rfl
          have c6 : w2.cell? ⟨b0, off + j * 8 + 6, none⟩ = some (.bool aq) := cw2 6 _ (by decide) rfl
          have c7 : w2.cell? ⟨b0, off + j * 8 + 7, none⟩ = some (.bool rl) := cw2 7 _ (by decide) rfl
          clear CW cw2 hb2
          go_wp2_with (fail)
          (with_reducible refine (HPR.out _ (HE.out.below HB2.out)).mono ?_)
          rintro e w3 ⟨rfl, hb3⟩
          have HB3 := Lib.hid (HB2.out.trans (hb3.mono HB2.out.size))
          have how3 := ownW_below HOW2.out hb3
          clear c0 c1 c2 c3 c4 c5 c6 c7 hb3
          obtain ⟨A1, C1, w4, hr4, ho4, hb4⟩ := pushW_new w w3 _ ws W ws.length rfl how3 (by omega) HB3.out 37
          obtain ⟨A0, C0, rfl⟩ := ownW_slice how3
          have HR4 := Lib.hid hr4; have HO4 := Lib.hid ho4; have HB4 := Lib.hid hb4
          clear hr4 ho4 hb4 how3 HOW HOW2
          by_cases hm : j < M
          · obtain ⟨b2, off2, rfl, hb2l, hy, y0, y1⟩ := HC2.out j hm
            have hy4 := (HB4.out.cell (p := ⟨b2, off2 + j, none⟩) hb2l).trans hy
            have HD : Hid (d j = (ys.getD j 0 % 5).toNat) := Lib.hid (by rw [HMK.out, if_pos hm])
            generalize ys.getD j 0 = y at *
            clear hy
            have hcase : (y % 5 = 0 ∨ y % 5 = 1 ∨ y % 5 = 2 ∨ y % 5 = 3 ∨ y % 5 = 4) := by omega
            have hj60 : j < 60 := by omega
            rcases hcase with hq | hq | hq | hq | hq <;> rw [hq] at HD
            · replace HD : Hid (d j = 0) := HD
              go_wp2_with (at_builtin; refine wpList_append_run rfl _ _ _ rfl (.slice A0 ws.length C0) (.slice (some ⟨w3.heap.size, 0, none⟩) 1 1) (.slice A1 (ws.length + 1) C1) w4 rfl rfl HR4.out ?_)
              case roundEnd => exact ⟨⟨j + 1, by omega, rfl, by rw [HTX.out, HD.out, HP0.out]; show Value.string ((⟨T.toArray⟩ ++ ((⟨([32, 9] : Bs).toArray⟩ ++ ⟨P.toArray⟩) ++ ⟨([9, 35, 32, 120] : Bs).toArray⟩)) ++ ⟨([10] : Bs).toArray⟩) = _; simp only [bcat, List.append_assoc], by rw [HWD.out, HWY.out]; exact HO4.out, HB4.out⟩, by simp [RowKit.intOf]; omega⟩
              all_goals (exfalso; omega)
            · replace HD : Hid (d j = 1) := HD
              go_wp2_with (at_builtin; refine wpList_append_run rfl _ _ _ rfl (.slice A0 ws.length C0) (.slice (some ⟨w3.heap.size, 0, none⟩) 1 1) (.slice A1 (ws.length + 1) C1) w4 rfl rfl HR4.out ?_)
              case roundEnd => exact ⟨⟨j + 1, by omega, rfl, by rw [HTX.out, HD.out, HP1.out]; show Value.string ((⟨T.toArray⟩ ++ (⟨P.toArray⟩ ++ ⟨([10, 10, 35, 10] : Bs).toArray⟩)) ++ ⟨([10] : Bs).toArray⟩) = _; simp only [bcat, List.append_assoc], by rw [HWD.out, HWY.out]; exact HO4.out, HB4.out⟩, by simp [RowKit.intOf]; omega⟩
              all_goals (exfalso; omega)
            · replace HD : Hid (d j = 2) := HD
              have eu : (UInt8.ofNat (97 + j / 26)).toNat = 97 + j / 26 := by rw [UInt8.toNat_ofNat']; exact Nat.mod_eq_of_lt (by show _ < 256; omega)
              have ev : (UInt8.ofNat (97 + j % 26)).toNat = 97 + j % 26 := by rw [UInt8.toNat_ofNat']; exact Nat.mod_eq_of_lt (by show _ < 256; omega)
              generalize UInt8.ofNat (97 + j / 26) = u at *
              generalize UInt8.ofNat (97 + j % 26) = v at *
              have hcv : (convert 48 9 (.slice (some ⟨w4.heap.size, 0, none⟩) 2 2)).run Tryz.prog (w4.alloc (.cells #[.int .u8 (97 + (j : Int) / 26), .int .u8 (97 + (j : Int) % 26)] 5)) = .ok (.string ⟨([u, v] : Bs).toArray⟩) (w4.alloc (.cells #[.int .u8 (97 + (j : Int) / 26), .int .u8 (97 + (j : Int) % 26)] 5)) :=
                run_convert_bytes_back _ _ _ 5 ⟨w4.heap.size, 0, none⟩ 2 [u, v] Tryz.underlying48 Tryz.underlying5 Tryz.underlying9 (fun i hi => by
                  rw [Lib.add_plain, Nat.zero_add, Lib.cell_of_heap (heap_alloc_new _ _)]
                  have hi2 : i = 0 ∨ i = 1 := by simp at hi; omega
                  rcases hi2 with rfl | rfl
                  · show _ = some (Value.int .u8 (u.toNat : Int))
                    rw [eu]; simp
                  · show _ = some (Value.int .u8 (v.toNat : Int))
                    rw [ev]; simp)
              have HEU := Lib.hid eu; have HEV := Lib.hid ev
              clear eu ev
              go_wp2_with (at_builtin; refine wpList_append_run rfl _ _ _ rfl (.slice A0 ws.length C0) (.slice (some ⟨w3.heap.size, 0, none⟩) 1 1) (.slice A1 (ws.length + 1) C1) w4 rfl rfl HR4.out ?_)
              case roundEnd => exact ⟨⟨j + 1, by omega, rfl, by rw [HTX.out, HD.out, HP2.out]; show Value.string ((⟨T.toArray⟩ ++ (((⟨([108] : Bs).toArray⟩ ++ ⟨([u, v] : Bs).toArray⟩) ++ ⟨([58, 10] : Bs).toArray⟩) ++ ⟨P.toArray⟩)) ++ ⟨([10] : Bs).toArray⟩) = _; simp only [bcat, List.append_assoc], by rw [HWD.out, HWY.out]; exact ownW_below HO4.out ((Below.refl _ _).alloc (Nat.le_refl _) _), HB4.out.alloc HB4.out.size _⟩, by simp [RowKit.intOf]; omega⟩
              all_goals (exfalso; omega)
            · replace HD : Hid (d j = 3) := HD
              go_wp2_with (at_builtin; refine wpList_append_run rfl _ _ _ rfl (.slice A0 ws.length C0) (.slice (some ⟨w3.heap.size, 0, none⟩) 1 1) (.slice A1 (ws.length + 1) C1) w4 rfl rfl HR4.out ?_)
              case roundEnd => exact ⟨⟨j + 1, by omega, rfl, by rw [HTX.out, HD.out, HP3.out 3 (by decide)]; show Value.string ((⟨T.toArray⟩ ++ ⟨P.toArray⟩) ++ ⟨([10] : Bs).toArray⟩) = _; simp only [bcat, List.append_assoc], by rw [HWD.out, HWY.out]; exact HO4.out, HB4.out⟩, by simp [RowKit.intOf]; omega⟩
              all_goals (exfalso; omega)
            · replace HD : Hid (d j = 4) := HD
              go_wp2_with (at_builtin; refine wpList_append_run rfl _ _ _ rfl (.slice A0 ws.length C0) (.slice (some ⟨w3.heap.size, 0, none⟩) 1 1) (.slice A1 (ws.length + 1) C1) w4 rfl rfl HR4.out ?_)
              case roundEnd => exact ⟨⟨j + 1, by omega, rfl, by rw [HTX.out, HD.out, HP3.out 4 (by decide)]; show Value.string ((⟨T.toArray⟩ ++ ⟨P.toArray⟩) ++ ⟨([10] : Bs).toArray⟩) = _; simp only [bcat, List.append_assoc], by rw [HWD.out, HWY.out]; exact HO4.out, HB4.out⟩, by simp [RowKit.intOf]; omega⟩
              all_goals (exfalso; omega)
          · have HD : Hid (d j = 5) := Lib.hid (by rw [HMK.out, if_neg hm])
            go_wp2_with (at_builtin; refine wpList_append_run rfl _ _ _ rfl (.slice A0 ws.length C0) (.slice (some ⟨w3.heap.size, 0, none⟩) 1 1) (.slice A1 (ws.length + 1) C1) w4 rfl rfl HR4.out ?_)
            case roundEnd => exact ⟨⟨j + 1, by omega, rfl, by rw [HTX.out, HD.out, HP3.out 5 (by decide)]; show Value.string ((⟨T.toArray⟩ ++ ⟨P.toArray⟩) ++ ⟨([10] : Bs).toArray⟩) = _; simp only [bcat, List.append_assoc], by rw [HWD.out, HWY.out]; exact HO4.out, HB4.out⟩, by simp [RowKit.intOf]; omega⟩
            all_goals (exfalso; omega)
      · obtain rfl : j = N := by omega
        have hT := text_len l d (fun k hk => print_100 hk) j
        have hAS := assemble_any (joinNL (linesN l d j)) (by omega) base hb wr (HE.out.below HB.out)
        by_cases hb4 : base % 4 = 0
        · rw [asm_lines l d j (by omega) base hb4] at hAS
          generalize joinNL (linesN l d j) = T at *
          have HAS := Lib.hid hAS
          have hwl := wordN_len l j
          generalize wordN l j = ws at *
          clear hAS hbw
          obtain ⟨A0, C0, rfl⟩ := ownW_slice how
          go_wp2_with (fail)
          (with_reducible refine HAS.out.mono ?_)
          rintro e w2 ⟨v2, rfl, ho2, hb2⟩
          have HB2 := Lib.hid (HB.out.trans (hb2.mono HB.out.size))
          have how2 := ownW_below how hb2
          obtain ⟨A2, C2, rfl⟩ := ownW_slice ho2
          have hSM : Calls Tryz.prog 20 #[.slice A2 ws.length C2, .slice A0 ws.length C0] w2 fun e w' => e = .returned (.bool true) ∧ Below w2.heap.size w2 w' := by
            by_cases h0 : ws = []
            · subst h0; exact sameW_zero w2 _ _ _ _
            · obtain ⟨g, c, e, hg⟩ := ownW_cells ho2 h0
              obtain ⟨g', c', e', hg'⟩ := ownW_cells how2 h0
              rw [e, e']
              exact sameW_row ws (by omega) w2 g g' c c' hg hg'
          have HSM := Lib.hid hSM
          clear hSM how ho2 hb2 how2 HOW
          generalize ws.length = n at *
          go_wp2_with (first
            | (go_at_call 20; (with_reducible refine HSM.out.mono ?_); rintro e w5 ⟨rfl, hb5⟩; have HB5 := Lib.hid (HB2.out.trans (hb5.mono HB2.out.size)); clear hb5)
            | (go_at_call 12; (with_reducible refine (wakes10 _ (HE.out.below HB5.out)).mono ?_); rintro e w6 ⟨rfl, hb6⟩; have HB6 := Lib.hid (HB5.out.trans (hb6.mono HB5.out.size)); clear hb6))
          go_ret
          exact ⟨rfl, HB6.out⟩
        · rw [asm_off _ base hb4] at hAS
          generalize joinNL (linesN l d j) = T at *
          have HAS := Lib.hid hAS
          clear hAS hbw
          go_wp2_with (fail)
          (with_reducible refine HAS.out.mono ?_)
          rintro e w2 ⟨v2, rfl, ho2, hb2⟩
          have HB2 := Lib.hid (HB.out.trans (hb2.mono HB.out.size))
          obtain ⟨A2, C2, rfl⟩ := ownW_slice ho2
          clear ho2 hb2 how HOW
          go_wp2_with (first
            | (go_at_call 12; (with_reducible refine (wakes10 _ (HE.out.below HB2.out)).mono ?_); rintro e w6 ⟨rfl, hb6⟩; have HB6 := Lib.hid (HB2.out.trans (hb6.mono HB2.out.size)); clear hb6))
          go_ret
          exact ⟨rfl, HB6.out⟩

end Go.Proofs.YtakdhdaoklcidaaGreatDoor
