/- Joined: AsTb AsTc AsTd AsTe LawAsmAssembles ATab -/
import Derived.Test.YtakdhdaoklcidaaGreatDoorKV7
import Derived.Laws.IdiomStrings
import Derived.Deep.QuietTactic
import Derived.BigQuiet
import Derived.Test.YtakdhdaoklcidaaGreatDoorRows
import Derived.ProofKit
import Derived.LaidMore
import Derived.OpenShut
import Derived.Stop.Joined
import Derived.MakeChecks
import Derived.Lib.LaidTab
import Derived.Stop.LaidErr
import Derived.Shelf.Vars
import Derived.HandedShaped
import Derived.Lay
namespace Go.Proofs.YtakdhdaoklcidaaGreatDoor
open Go.RowKit Go.Lib
set_option linter.unusedVariables false
set_option maxRecDepth 100000
def saidL (x : Bs) : DL := saidD (coreS x)
theorem lineS_said (x : Bs) : lineS x = stmD (saidL x) := said_read (coreS x)
def DOk : DL → Prop
  | .empty => True
  | .mark l => l ≠ [] ∧ l.length ≤ 32
  | .one i => rightB i = true
  | .many rd n => (liF rd 4 n).all rightB = true
  | .far rd l => (l ≠ [] ∧ l.length ≤ 32) ∧ 0 ≤ rd ∧ rd ≤ 31
  | .aim i l => (l ≠ [] ∧ l.length ≤ 32) ∧ rightB i = true ∧ jumpsZ i.op = true
  | .raw _ => True
  | .bad => False
theorem nm_ok {l : Bs} (h : nameOK l = true) : l ≠ [] ∧ l.length ≤ 32 := ⟨(name_okB h).2, name_le h⟩
theorem dok {s : Bs} (h : saidD s ≠ .bad) : DOk (saidD s) := by
  unfold saidD at h ⊢
  by_cases h0 : s = []
  · rw [if_pos h0]; trivial
  rw [if_neg h0] at h ⊢
  by_cases h1 : (s.getLast? == some 58 && nameOK s.dropLast) = true
  · rw [if_pos h1]; rw [Bool.and_eq_true] at h1; exact nm_ok h1.2
  rw [if_neg h1] at h ⊢
  by_cases h2 : liB s = true
  · rw [if_pos h2]
    obtain ⟨_, hr, hI⟩ := li_line h2
    show (liF _ 4 _).all rightB = true
    obtain ⟨a, t, e1, e2, e3⟩ := liF_shape _ hr 4 _ (by omega) hI (by unfold InI at hI; simp only [bF]; omega)
    rw [e1, List.all_cons, e2.2.2.2.2, Bool.true_and]
    exact List.all_eq_true.2 fun k hk => (e3 k hk).2.2.2.2.2
  rw [if_neg h2] at h ⊢
  by_cases h3 : laZ s = true
  · rw [if_pos h3]
    obtain ⟨_, hr, hn⟩ := la_line h3
    exact ⟨nm_ok hn, hr⟩
  rw [if_neg h3] at h ⊢
  by_cases h4 : rawB s = true
  · rw [if_pos h4]; trivial
  rw [if_neg h4] at h ⊢
  by_cases h5 : parseB s = true
  · rw [if_pos h5]; exact (parse_is h5).1
  rw [if_neg h5] at h ⊢
  by_cases h6 : aimB s = true
  · rw [if_pos h6]
    obtain ⟨i, l, e, h7, h8, _, h9, _⟩ := aim_line h6
    rw [e]
    exact ⟨nm_ok h9, h7, h8⟩
  rw [if_neg h6] at h
  exact absurd rfl h
theorem dok_stm {d : DL} (h : DOk d) : stmD d = some (stmG d) := by cases d <;> first | rfl | exact h.elim
theorem dok_size {d : DL} (h : DOk d) : sizeS (stmG d) ≤ 100 := by
  cases d with
  | empty => exact Nat.zero_le _
  | mark l => exact Nat.zero_le _
  | one i => show 1 ≤ 100; omega
  | many rd n =>
    show ((liF rd 4 n).map encW).length ≤ 100
    have := liF_len rd 4 n
    rw [List.length_map]; omega
  | far rd l => show 2 ≤ 100; omega
  | aim i l => show 1 ≤ 100; omega
  | raw x => show 1 ≤ 100; omega
  | bad => exact h.elim
theorem ld_ok (d : DL) (p : Option Addr) (c : Nat) : LDOk (ldOf d p c) := by
  cases d <;> refine ⟨?_, ?_⟩ <;> simp [ldOf, ldZ]
  rename_i rd n
  have := liF_len rd 4 n
  omega
theorem k6_y {d : DL} {p : Option Addr} {c : Nat} (h : (((ldOf d p c).k : Int) == 6) = true) : d = .bad := by
  cases d <;> first | rfl | exact absurd h (by simp [ldOf, ldZ])
theorem k6_n {d : DL} {p : Option Addr} {c : Nat} (h : (((ldOf d p c).k : Int) == 6) = false) : d ≠ .bad := by
  rintro rfl; exact absurd h (by simp [ldOf])
theorem lab_1 {d : DL} {p : Option Addr} {c : Nat} (ok : DOk d) (h : (((ldOf d p c).k : Int) == 1) = true) : labOf (stmG d) = (ldOf d p c).lb ∧ labOf (stmG d) ≠ [] := by
  cases d with
  | mark l => exact ⟨rfl, ok.1⟩
  | _ => exact absurd h (by simp [ldOf, ldZ])
theorem lab_0 {d : DL} {p : Option Addr} {c : Nat} (h : (((ldOf d p c).k : Int) == 1) = false) : labOf (stmG d) = [] := by
  cases d with
  | mark l => exact absurd h (by simp [ldOf])
  | _ => rfl
theorem rowD_only {w w' : World} {B B0 : Nat} {d : DL} {p : Option Addr} {c : Nat} {v : Value} {L : List LD} (h : RowD w B d p c) (o : Only (fun k => v.ownBlock = some k) w w') (hv : OwnL w B0 v L) : RowD w' B d p c := by
  cases d with
  | many rd n =>
    refine ownI_keep (show OwnI w B _ _ from h) o (fun g hg e => ?_)
    obtain ⟨_, _, cs, fr, h1⟩ := ownI_ty (show OwnI w B _ _ from h) g hg
    obtain ⟨_, _, cs2, fr2, h2⟩ := ownL_lt hv g e
    rw [h1] at h2
    simp only [Option.some.injEq, Obj.cells.injEq] at h2
    exact absurd h2.2.1 (by decide)
  | _ => trivial
theorem rowD_below {w w' : World} {B : Nat} {d : DL} {p : Option Addr} {c : Nat} (h : RowD w B d p c) (o : Below w.heap.size w w') : RowD w' B d p c := by
  cases d with
  | many rd n => exact ownI_below (show OwnI w B _ _ from h) o
  | _ => trivial
theorem rowD_base {w : World} {B B' : Nat} {d : DL} {p : Option Addr} {c : Nat} (h : RowD w B d p c) (hB : B' ≤ B) : RowD w B' d p c := by
  cases d with
  | many rd n => exact ownI_base (show OwnI w B _ _ from h) hB
  | _ => trivial
theorem rowD_tch {w w' : World} {B b : Nat} {d : DL} {p : Option Addr} {c : Nat} {e : LD} (h : RowD w B d p c) (hT : Tch b w w') (hb : LnD w b e) : RowD w' B d p c := by
  cases d with
  | many rd n => exact ownI_tch (show OwnI w B _ _ from h) hT hb
  | _ => trivial
structure LRows (w : World) (B : Nat) (ls : List Bs) (L : List LD) : Prop where
  len : L.length = ls.length
  at' : ∀ (k : Nat) (x : Bs), ls[k]? = some x → DOk (saidL x) ∧ ∃ p c, L[k]? = some (ldOf (saidL x) p c) ∧ RowD w B (saidL x) p c
theorem LRows.nil (w : World) (B : Nat) : LRows w B [] [] := ⟨rfl, fun k x h => by simp at h⟩
theorem LRows.below {w w' : World} {B : Nat} {ls : List Bs} {L : List LD} (h : LRows w B ls L) (o : Below w.heap.size w w') : LRows w' B ls L :=
  ⟨h.len, fun k x hx => by obtain ⟨h1, p, c, h2, h3⟩ := h.at' k x hx; exact ⟨h1, p, c, h2, rowD_below h3 o⟩⟩
theorem LRows.only {w w' : World} {B B0 : Nat} {ls : List Bs} {L L0 : List LD} {v : Value} (h : LRows w B ls L) (o : Only (fun k => v.ownBlock = some k) w w') (hv : OwnL w B0 v L0) : LRows w' B ls L :=
  ⟨h.len, fun k x hx => by obtain ⟨h1, p, c, h2, h3⟩ := h.at' k x hx; exact ⟨h1, p, c, h2, rowD_only h3 o hv⟩⟩
theorem LRows.tch {w w' : World} {B b : Nat} {ls : List Bs} {L : List LD} {e : LD} (h : LRows w B ls L) (hT : Tch b w w') (hb : LnD w b e) : LRows w' B ls L :=
  ⟨h.len, fun k x hx => by obtain ⟨h1, p, c, h2, h3⟩ := h.at' k x hx; exact ⟨h1, p, c, h2, rowD_tch h3 hT hb⟩⟩
theorem LRows.snoc {w : World} {B : Nat} {ls : List Bs} {L : List LD} {x : Bs} {p : Option Addr} {c : Nat} (h : LRows w B ls L) (hd : DOk (saidL x)) (hr : RowD w B (saidL x) p c) : LRows w B (ls ++ [x]) (L ++ [ldOf (saidL x) p c]) :=
  ⟨by simp [h.len], fun k y hy => by
    by_cases e : k < ls.length
    · rw [List.getElem?_append_left e] at hy
      rw [List.getElem?_append_left (by rw [h.len]; exact e)]
      exact h.at' k y hy
    · have hk : k < (ls ++ [x]).length := (List.getElem?_eq_some_iff.1 hy).1
      rw [List.length_append, List.length_singleton] at hk
      obtain rfl : k = ls.length := by omega
      rw [List.getElem?_append_right (Nat.le_refl _), Nat.sub_self] at hy
      simp only [List.getElem?_cons_zero, Option.some.injEq] at hy
      subst hy
      refine ⟨hd, p, c, ?_, hr⟩
      rw [← h.len, List.getElem?_append_right (Nat.le_refl _), Nat.sub_self]; rfl⟩
theorem LRows.good {w : World} {B : Nat} {ls : List Bs} {L : List LD} (h : LRows w B ls L) (i : Nat) (hi : i < ls.length) : lineS (ls.getD i []) = some (stmG (saidL (ls.getD i []))) := by
  rw [lineS_said]
  refine dok_stm (h.at' i _ ?_).1
  rw [List.getD_eq_getElem?_getD, List.getElem?_eq_getElem hi]; rfl
theorem LRows.at {w : World} {B : Nat} {ls : List Bs} {L : List LD} (h : LRows w B ls L) {k : Nat} (hk : k < L.length) : ∃ d p c, (ls.map saidL)[k]? = some d ∧ DOk d ∧ L[k]? = some (ldOf d p c) ∧ RowD w B d p c := by
  have hk2 : k < ls.length := by rw [← h.len]; exact hk
  obtain ⟨h1, p, c, h2, h3⟩ := h.at' k ls[k] (List.getElem?_eq_getElem hk2)
  exact ⟨_, p, c, by rw [List.getElem?_map, List.getElem?_eq_getElem hk2]; rfl, h1, h2, h3⟩
theorem lines_step (r : Bs) : linesT r = (cut r [10]).1 :: (if (cut r [10]).2.2 = true then linesT (cut r [10]).2.1 else []) := by
  rw [lines_cut]
  by_cases h : (cut r [10]).2.2 = true
  · rw [if_pos h, if_pos h]
  · rw [if_neg h, if_neg h, (cut_not r [10] (by simpa using h)).1]
theorem cut_less (r : Bs) : (cut r [10]).2.1.length + (if (cut r [10]).2.2 = true then 1 else 0) < r.length + 1 := by
  by_cases h : (cut r [10]).2.2 = true
  · have := cut_parts r [10] h
    have h2 := congrArg List.length this
    simp only [List.length_append, List.length_singleton] at h2
    rw [if_pos h]; omega
  · rw [if_neg h, (cut_not r [10] (by simpa using h)).2]; simp
theorem asm_badA {ls done t : List Bs} {x : Bs} {base : Int} {w : World} {B : Nat} {L : List LD} (hls : ls = done ++ x :: t) (hR : LRows w B done L) (hx : saidL x = .bad) : asmT ls base = ([], ((done.length : Nat) : Int) + 1, 100) := by
  subst hls
  refine asm_bad (by simp) (fun i hi => ⟨stmG (saidL (done.getD i [])), ?_⟩) ?_
  · have e : (done ++ x :: t).getD i [] = done.getD i [] := by
      rw [List.getD_eq_getElem?_getD, List.getD_eq_getElem?_getD, List.getElem?_append_left hi]
    rw [e]; exact hR.good i hi
  · have e : (done ++ x :: t).getD done.length [] = x := by
      rw [List.getD_eq_getElem?_getD, List.getElem?_append_right (Nat.le_refl _)]; simp
    rw [e, lineS_said, hx]; rfl
theorem asm_goodA {ls : List Bs} {base : Int} {w : World} {B : Nat} {L : List LD} (hR : LRows w B ls L) : asmT ls base = asmL ((ls.map saidL).map stmG) base := by
  rw [asm_good (fun i hi => ⟨_, hR.good i hi⟩)]
  have : ls.filterMap lineS = (ls.map saidL).map stmG := by
    have key : ∀ l : List Bs, (∀ x ∈ l, lineS x = some (stmG (saidL x))) → l.filterMap lineS = (l.map saidL).map stmG := by
      intro l
      induction l with
      | nil => intro _; rfl
      | cons x t ih =>
        intro h
        rw [List.filterMap_cons_some (h x (by simp)), ih (fun y hy => h y (by simp [hy]))]; rfl
    refine key ls (fun x hx => ?_)
    obtain ⟨k, hk, e⟩ := List.getElem_of_mem hx
    rw [lineS_said]
    exact dok_stm (hR.at' k x (by rw [List.getElem?_eq_getElem hk, e])).1
  rw [this]
theorem ss_at {D : List DL} {k : Nat} {d : DL} (h : D[k]? = some d) : (D.map stmG).getD k .none = stmG d := by
  rw [List.getD_eq_getElem?_getD, List.getElem?_map, h]; rfl
def Goes (f : Bs → Option Int) (at' : Int) (d : DL) (g : Int) : Prop :=
  match d with
  | .far _ m => ∃ x, f m = some x ∧ g = farZ x at'
  | .aim _ m => ∃ x, f m = some x ∧ g = farZ x at'
  | _ => True
theorem lab_none {d : DL} {p : Option Addr} {c : Nat} {f : Bs → Option Int} {at' : Int} (h1 : (!(((ldOf d p c).k : Int) == 1)) = true) (h2 : (!((ldOf d p c).lb == [])) = true) (h : f (ldOf d p c).lb = none) : linkS f at' (stmG d) = (101, []) := by
  cases d with
  | mark l => exact absurd h1 (by simp [ldOf])
  | far rd l => show aimS (f l) _ _ = _; rw [show f l = none from h]; rfl
  | aim i l => show aimS (f l) _ _ = _; rw [show f l = none from h]; rfl
  | _ => exact absurd h2 (by simp [ldOf, ldZ])
theorem goes_some {d : DL} {p : Option Addr} {c : Nat} {f : Bs → Option Int} {at' x : Int} (h : f (ldOf d p c).lb = some x) : Goes f at' d (farZ x at') := by
  cases d with
  | far rd l => exact ⟨x, h, rfl⟩
  | aim i l => exact ⟨x, h, rfl⟩
  | _ => trivial
theorem goes_none {d : DL} {p : Option Addr} {c : Nat} {f : Bs → Option Int} {at' g : Int} (ok : DOk d) (h : (!(((ldOf d p c).k : Int) == 1)) = false ∨ (!((ldOf d p c).lb == [])) = false) : Goes f at' d g := by
  cases d with
  | far rd l =>
    rcases h with h | h
    · exact absurd h (by simp [ldOf])
    · exact absurd h (by have := ok.1.1; simp [ldOf, this])
  | aim i l =>
    rcases h with h | h
    · exact absurd h (by simp [ldOf])
    · exact absurd h (by have := ok.1.1; simp [ldOf, this])
  | _ => trivial
theorem right_auipc {rd n : Int} (hr : 0 ≤ rd ∧ rd ≤ 31) (hn : -2147483648 ≤ n ∧ n ≤ 2147483647 ∧ n % 4096 = 0) : rightB (auipcI rd n) = true := 
  (rightB_of (k := 2) (i := auipcI rd n) ⟨by decide, by decide, rfl, ⟨hr, z31, z31, z4095, fun h => absurd h (by decide +kernel), fun _ => rfl, fun _ => rfl, fun _ => rfl, fun _ => ⟨rfl, rfl⟩, by
    rw [show (fT 2).imm = 4 by decide +kernel]; exact (fit_U n).2 hn⟩⟩).1
theorem la_all {rd far : Int} (hr : 0 ≤ rd ∧ rd ≤ 31) (h1 : ¬ far < -2147483648) (h2 : ¬ 2147481599 < far) : (laL rd far).all rightB = true := by
  have h3 := lowZ_bd far
  have h4 := lowZ_mod far
  unfold laL
  rw [List.all_cons, List.all_cons, List.all_nil, right_auipc hr ⟨by unfold lowZ at *; omega, by omega, h4⟩, right_addi hr hr (by omega)]
  rfl
theorem lk_far {f : Bs → Option Int} {at' rd g : Int} {m : Bs} (hg : Goes f at' (.far rd m) g) (h : g < -2147483648 ∨ 2147481599 < g) : linkS f at' (stmG (.far rd m)) = (102, []) := by
  obtain ⟨x, h1, rfl⟩ := hg
  show aimS (f m) (laW rd) at' = _
  rw [h1]
  exact aimS_far (by unfold laW; rw [if_pos h])
theorem lk_la {f : Bs → Option Int} {at' rd g : Int} {m : Bs} (hg : Goes f at' (.far rd m) g) (hr : 0 ≤ rd ∧ rd ≤ 31) (h1 : ¬ g < -2147483648) (h2 : ¬ 2147481599 < g) : linkS f at' (stmG (.far rd m)) = (0, (laL rd g).map encW) := by
  obtain ⟨x, h3, rfl⟩ := hg
  show aimS (f m) (laW rd) at' = _
  rw [h3]
  exact aimS_ok (by unfold laW; rw [if_neg (by omega), if_pos (la_all hr h1 h2)])
theorem lk_no {f : Bs → Option Int} {at' g : Int} {i : Ins} {m : Bs} (hg : Goes f at' (.aim i m) g) (h : rightB (withImm i g) = false) : linkS f at' (stmG (.aim i m)) = (102, []) := by
  obtain ⟨x, h1, rfl⟩ := hg
  show aimS (f m) (jumpW i) at' = _
  rw [h1]
  exact aimS_far (by unfold jumpW; rw [if_neg (by rw [h]; simp)])
theorem lk_aim {f : Bs → Option Int} {at' g : Int} {i : Ins} {m : Bs} (hg : Goes f at' (.aim i m) g) (h : rightB (withImm i g) = true) : linkS f at' (stmG (.aim i m)) = (0, [withImm i g].map encW) := by
  obtain ⟨x, h1, rfl⟩ := hg
  show aimS (f m) (jumpW i) at' = _
  rw [h1]
  exact aimS_ok (by unfold jumpW; rw [if_pos h]; rfl)
theorem jump_let {i : Ins} (hr : rightB i = true) (hj : jumpsZ i.op = true) : ∃ (s : ByteArray) (m t : Int) (k : Nat), (k = 5 ∨ k = 3) ∧ (∀ w, Calls Tryz.prog 31 #[.int .i64 i.op] w fun e w' => e = .returned (.agg #[.string s, .int .u32 m, .int .u32 t, .int .u8 (letK i.op.toNat)]) ∧ Below w.heap.size w w') ∧
    (∀ w, Calls Tryz.prog 50 #[.int .u8 (letK i.op.toNat)] w fun e w' => e = .returned (.int .i64 (k : Int)) ∧ w = w') ∧ ∀ x w, Calls Tryz.prog 49 #[.int .i64 (k : Int), .int .i64 x] w fun e w' => e = .returned (.bool (rightB (withImm i x))) ∧ Below w.heap.size w w' := by
  obtain ⟨k1, k2, k3, k4⟩ := rightT_of hr
  obtain ⟨s, m, t, hR⟩ := rowK i.op.toNat (by omega)
  have hop : ((i.op.toNat : Nat) : Int) = i.op := by omega
  rw [hop] at hR
  have hjf := (jump_frm i.op.toNat (by omega) k1).2 (by rw [hop]; exact hj)
  have hK : letK i.op.toNat = letT (frmT i.op.toNat) := by unfold letK; rw [if_neg (by omega)]
  have hfit : ∀ k : Nat, 1 ≤ k ∧ k ≤ 5 → (if frmT i.op.toNat = 1 then 5 else 3) = k → ∀ x w, Calls Tryz.prog 49 #[.int .i64 (k : Int), .int .i64 x] w fun e w' => e = .returned (.bool (rightB (withImm i x))) ∧ Below w.heap.size w w' := fun k hk hq x w => by
    have c := form_cond k (by omega)
    refine refFits_is k (by omega) (formP k) rfl c.1 c.2.1 c.2.2 x _ ?_ w
    rw [right_fits hr hj x, hq, decide_eq_true (show k ≤ 5 by omega)]
  rcases hjf with h | h
  · refine ⟨s, m, t, 5, .inl rfl, hR, fun w => ?_, hfit 5 (by omega) (by rw [if_pos h])⟩
    rw [hK, h]; exact refForm_1 w
  · refine ⟨s, m, t, 3, .inr rfl, hR, fun w => ?_, hfit 3 (by omega) (by rw [if_neg (by rw [h]; decide)])⟩
    rw [hK, h]; exact refForm_3 w
theorem at_done {D : List DL} {base : Int} {k : Nat} {d : DL} (hbase : 0 ≤ base ∧ base < 18446744073709551616) (hd : D[k]? = some d) (ok : DOk d) {z : Int} (hz : z = ((sizeS (stmG d) : Nat) : Int)) : IntKind.u64.wrap (atK (D.map stmG) base k + IntKind.u64.wrap (4 * z)) = atK (D.map stmG) base (k + 1) := by
  subst hz
  rw [at_step _ _ (atK_in _ _ hbase k) (by have := dok_size ok; omega)]
  show _ = (atK (D.map stmG) base k + 4 * ((sizeS ((D.map stmG).getD k .none) : Nat) : Int)) % 18446744073709551616
  rw [ss_at hd]
end Go.Proofs.YtakdhdaoklcidaaGreatDoor

namespace Go.Proofs.YtakdhdaoklcidaaGreatDoor
open Go.RowKit Go.Lib
set_option linter.unusedVariables false
set_option maxRecDepth 100000
theorem ownL_tch {w w' : World} {B b : Nat} {v : Value} {L : List LD} (h : OwnL w B v L) (hT : Tch b w w') (hb : ∀ g, v.ownBlock = some g → ¬ g = b) : OwnL w' B v L := by
  refine ⟨h.1, ?_⟩
  rcases h.2 with hn | ⟨g, cap, cur, rfl, hB, hg, rest⟩
  · exact .inl hn
  · exact .inr ⟨g, cap, cur, rfl, hB, (hT.oth g (hb g rfl)).trans hg, rest⟩
theorem ownW_tch {w w' : World} {B b : Nat} {v : Value} {l : List Int} {d : LD} (h : OwnW w B v l) (hT : Tch b w w') (hb : LnD w b d) : OwnW w' B v l := by
  refine ⟨h.1, ?_⟩
  rcases h.2 with hn | ⟨g, cap, cur, rfl, hB, hg, rest⟩
  · exact .inl hn
  · refine .inr ⟨g, cap, cur, rfl, hB, (hT.oth g (fun e => ?_)).trans hg, rest⟩
    subst e
    have h2 := hg.symm.trans hb
    simp only [Option.some.injEq, Obj.cells.injEq] at h2
    exact absurd h2.2.1 (by decide)
theorem LinesR.tch {w w' : World} {b g : Nat} {L : List LD} (h : LinesR w g L) (hT : Tch b w w') (hb : ¬ g = b) : LinesR w' g L :=
  ⟨by rw [hT.sz]; exact h.lt, fun j d hd => fun q v hv => by
    rw [World.cell?_of_block (w := w) (hT.oth g hb)]; exact h.row j d hd q v hv⟩
theorem lnD_onlyL {w w' : World} {b : Nat} {v : Value} {d : LD} (h : LnD w b d) (o : Only (fun k => v.ownBlock = some k) w w') (hb : ∀ g, v.ownBlock = some g → ¬ g = b) : LnD w' b d :=
  o.keeps (fun e => hb b e rfl) h
theorem lnD_onlyW {w w' : World} {b B : Nat} {v : Value} {d : LD} {l : List Int} (h : LnD w b d) (o : Only (fun k => v.ownBlock = some k) w w') (hv : OwnW w B v l) : LnD w' b d :=
  o.keeps (fun e => by
    obtain ⟨_, _, cs, fr, h2⟩ := ownW_ty hv b e
    have h3 := h2.symm.trans h
    simp only [Option.some.injEq, Obj.cells.injEq] at h3
    exact absurd h3.2.1 (by decide)) h
theorem ownI_onlyW {w w' : World} {B B0 : Nat} {v v0 : Value} {l : List Int} {is : List Ins} (h : OwnI w B0 v0 is) (o : Only (fun k => v.ownBlock = some k) w w') (hv : OwnW w B v l) : OwnI w' B0 v0 is :=
  ownI_keep h o (fun g hg e => by
    obtain ⟨_, _, cs, fr, h1⟩ := ownI_ty h g hg
    obtain ⟨_, _, cs2, fr2, h2⟩ := ownW_ty hv g e
    rw [h1] at h2
    simp only [Option.some.injEq, Obj.cells.injEq] at h2
    exact absurd h2.2.1 (by decide))
theorem LinesR.only {w w' : World} {g B : Nat} {v : Value} {L : List LD} {l : List Int} (h : LinesR w g L) (hg : g < B) (o : Only (fun k => v.ownBlock = some k) w w') (hv : OwnW w B v l) : LinesR w' g L := by
  have hb := o.block g h.lt (fun e => by have := (ownW_ty hv g e).1; omega)
  exact ⟨Nat.lt_of_lt_of_le h.lt o.size, fun j d hd => fun q v hv => by
    rw [World.cell?_of_block (w := w) hb]; exact h.row j d hd q v hv⟩
theorem said_E (s : Bs) (hl : s.length ≤ 100000) (w : World) : Calls Tryz.prog 47 #[str s] w fun e w' => ∃ v, e = .returned v ∧ ∃ p c, v = .agg (lineC (ldOf (saidL s) p c)) ∧ RowD w' w.heap.size (saidL s) p c ∧ Below w.heap.size w w' := by
  refine (said_any s hl w).mono ?_
  rintro e w' ⟨p, c, rfl, h1, h2⟩
  exact ⟨_, rfl, p, c, rfl, h1, h2⟩
theorem as_fault {w w' : World} {r : List Int × Int × Int} {n x m : Int} (h : r = ([], n, x)) (hb : Below w.heap.size w w') (hm : m = n) : AsEnd w r (.returned (.tuple #[.slice none 0 0, .int .i64 m, .int .i64 x])) w' :=
  ⟨_, by rw [h, hm], by rw [h]; exact ownW_nil _ _, hb⟩
theorem as_good {w w' : World} {r : List Int × Int × Int} {v : Value} {ws : List Int} (h : r = (ws, 0, 0)) (hb : Below w.heap.size w w') (ho : OwnW w' w.heap.size v ws) : AsEnd w r (.returned (.tuple #[v, .int .i64 0, .int .i64 0])) w' :=
  ⟨_, by rw [h], by rw [h]; exact ho, hb⟩
theorem place_no {L : List LD} (hL : ∀ d ∈ L, LDOk d) (hn : L.length < 100000) {b cp : Nat} {base : Int} {lb : Bs} {w : World} (LL : LinesR w b L) (h : placeGo lb L base = none) : Calls Tryz.prog 48 #[.slice (some ⟨b, 0, none⟩) L.length cp, .int .u64 base, str lb] w fun e w' => e = .returned (.tuple #[.int .u64 0, .bool false]) ∧ Below w.heap.size w w' := by
  have := refPlace_any L hL hn b cp base lb w LL
  rw [h] at this; exact this
theorem place_yes {L : List LD} (hL : ∀ d ∈ L, LDOk d) (hn : L.length < 100000) {b cp : Nat} {base x : Int} {lb : Bs} {w : World} (LL : LinesR w b L) (h : placeGo lb L base = some x) : Calls Tryz.prog 48 #[.slice (some ⟨b, 0, none⟩) L.length cp, .int .u64 base, str lb] w fun e w' => e = .returned (.tuple #[.int .u64 x, .bool true]) ∧ Below w.heap.size w w' := by
  have := refPlace_any L hL hn b cp base lb w LL
  rw [h] at this; exact this
theorem dup_next {D : List DL} {d e : DL} {j : Nat} (hj : D[j]? = some e) (h : labOf (stmG d) = [] ∨ ∀ i, i < j → labOf ((D.map stmG).getD i .none) ≠ labOf (stmG d)) (hx : labOf (stmG d) = [] ∨ labOf (stmG e) ≠ labOf (stmG d)) : labOf (stmG d) = [] ∨ ∀ i, i < j + 1 → labOf ((D.map stmG).getD i .none) ≠ labOf (stmG d) := by
  rcases h with h | h
  · exact .inl h
  · rcases hx with hx | hx
    · exact .inl hx
    · refine .inr (fun i hi => ?_)
      by_cases c : i < j
      · exact h i c
      · obtain rfl : i = j := by omega
        rw [ss_at hj]; exact hx
theorem dup_step {D : List DL} {base : Int} {d : DL} {k : Nat} (hk : D[k]? = some d) (hdup : ∀ i, i < k → dupAt (D.map stmG) base i = false) (h : labOf (stmG d) = [] ∨ ∀ i, i < k → labOf ((D.map stmG).getD i .none) ≠ labOf (stmG d)) : ∀ i, i < k + 1 → dupAt (D.map stmG) base i = false := fun i hi => by
  by_cases c : i < k
  · exact hdup i c
  · obtain rfl : i = k := by omega
    refine dup_none ?_
    rw [ss_at hk]; exact h
structure LineEnd (ff : Bs → Option Int) (at' : Int) (d : DL) (out : List Int) (ins : List Ins) (pre ws : List Int) (ld : LD) : Prop where
  all : ∀ i ∈ ins, rightB i = true
  len : ins.length ≤ 100
  lk : linkS ff at' (stmG d) = (0, ws)
  eo : pre ++ ins.map encW = out ++ ws
  pl : pre.length ≤ out.length + 1
  ok : LDOk ld
  sz : sizeD ld.k ld.n = ((sizeS (stmG d) : Nat) : Int)
theorem fin_none {ff : Bs → Option Int} {at' : Int} {d : DL} {out : List Int} {p : Option Addr} {c : Nat} (h : d = .empty ∨ ∃ l, d = .mark l) : LineEnd ff at' d out [] out [] (ldOf d p c) := by
  refine ⟨fun i hi => (by cases hi), Nat.zero_le _, ?_, rfl, by omega, ld_ok d p c, size_G d p c⟩
  rcases h with rfl | ⟨l, rfl⟩ <;> rfl
theorem fin_one {ff : Bs → Option Int} {at' : Int} {i : Ins} {out : List Int} {p : Option Addr} {c : Nat} (h : DOk (.one i)) : LineEnd ff at' (.one i) out [i] out [encW i] (ldOf (.one i) p c) :=
  ⟨fun j hj => by rw [List.mem_singleton] at hj; subst hj; exact h, by simp, rfl, rfl, by omega, ld_ok _ p c, size_G _ p c⟩
theorem fin_many {ff : Bs → Option Int} {at' rd n : Int} {out : List Int} {p : Option Addr} {c : Nat} (h : DOk (.many rd n)) : LineEnd ff at' (.many rd n) out (liF rd 4 n) out ((liF rd 4 n).map encW) (ldOf (.many rd n) p c) :=
  ⟨fun j hj => List.all_eq_true.1 h j hj, by have := liF_len rd 4 n; omega, rfl, rfl, by omega, ld_ok _ p c, size_G _ p c⟩
theorem fin_raw {ff : Bs → Option Int} {at' x : Int} {out : List Int} {p : Option Addr} {c : Nat} : LineEnd ff at' (.raw x) out [] (out ++ [x]) [x] (ldOf (.raw x) p c) :=
  ⟨fun i hi => (by cases hi), Nat.zero_le _, rfl, by simp, by simp, ld_ok _ p c, size_G _ p c⟩
theorem fin_la {ff : Bs → Option Int} {at' rd g : Int} {m : Bs} {out : List Int} {p : Option Addr} {c : Nat} (h : DOk (.far rd m)) (hg : Goes ff at' (.far rd m) g) (h1 : ¬ g < -2147483648) (h2 : ¬ 2147481599 < g) : LineEnd ff at' (.far rd m) out (laL rd g) out ((laL rd g).map encW) (ldOf (.far rd m) p c) :=
  ⟨fun j hj => List.all_eq_true.1 (la_all h.2 h1 h2) j hj, by show 2 ≤ 100; omega, lk_la hg h.2 h1 h2, rfl, by omega, ld_ok _ p c, size_G _ p c⟩
theorem fin_aim {ff : Bs → Option Int} {at' g : Int} {i : Ins} {m : Bs} {out : List Int} {p : Option Addr} {c : Nat} (hg : Goes ff at' (.aim i m) g) (h : rightB (withImm i g) = true) : LineEnd ff at' (.aim i m) out [withImm i g] out ([withImm i g].map encW) ((ldOf (.aim i m) p c).imm g) :=
  ⟨fun j hj => by rw [List.mem_singleton] at hj; subst hj; exact h, by simp, lk_aim hg h, rfl, by omega, ⟨(ld_ok (.aim i m) p c).k, (ld_ok (.aim i m) p c).n⟩, size_G (.aim i m) p c⟩
theorem fin_lk {D : List DL} {ff : Bs → Option Int} {base : Int} {k : Nat} {d : DL} {out : List Int} {ins : List Ins} {pre ws : List Int} {ld : LD} (hd : D[k]? = some d) (h : LineEnd ff (atK (D.map stmG) base k) d out ins pre ws ld) : lkAt (D.map stmG) ff base k = (0, ws) := by
  show linkS ff _ ((D.map stmG).getD k .none) = _
  rw [ss_at hd]; exact h.lk
theorem lk_is {D : List DL} {ff : Bs → Option Int} {base : Int} {k : Nat} {d : DL} {x : Int × List Int} (hd : D[k]? = some d) (h : linkS ff (atK (D.map stmG) base k) (stmG d) = x) : lkAt (D.map stmG) ff base k = x := by
  show linkS ff _ ((D.map stmG).getD k .none) = _
  rw [ss_at hd]; exact h
theorem asm_farA {D : List DL} {base : Int} {k : Nat} {x : Int} {r : List Int × Int × Int} (hr : r = asmL (D.map stmG) base) (hd : ∀ i, i < (D.map stmG).length → dupAt (D.map stmG) base i = false) (hk : k < (D.map stmG).length) (h0 : ∀ i, i < k → (lkAt (D.map stmG) (labF (D.map stmG) base (D.map stmG).length) base i).1 = 0) (h : lkAt (D.map stmG) (labF (D.map stmG) base (D.map stmG).length) base k = (x, [])) (hx : x ≠ 0) : r = ([], (k : Int) + 1, x) := by
  rw [hr, asm_far hd hk h0 (by rw [h]; exact hx), h]
theorem bld_i4 (op rd x : Int) : Tryz.prog.built 23 [(0, .int .i64 op), (1, .int .i64 rd), (4, .int .i64 x)] = some (InsC ⟨op, rd, 0, 0, x, 0, false, false⟩) := by kernel_rfl
theorem bld_i5 (op rd a x : Int) : Tryz.prog.built 23 [(0, .int .i64 op), (1, .int .i64 rd), (2, .int .i64 a), (4, .int .i64 x)] = some (InsC ⟨op, rd, a, 0, x, 0, false, false⟩) := by kernel_rfl
section
variable {Q : Exit → Act → World → Prop} {w : World} {ops : Array Oper} {rest : List Oper} {o : Oper} {a : Act} {l : List (Nat × Value)} {n d : Nat}
theorem W_stImm (hA : FrA l n a) (hg : o.guard = none) (hd : o.dst = none) {x y : Operand} (ho : o.op = .store 2 x y) {b : Nat} {v : Int} (hx : evL l x = some (.pointer (some ⟨b, 6, none⟩))) (hy : evL l y = some (.int .i64 v)) {d : LD} (hb : LnD w b d)
    (h : ∀ w', Tch b w w' → LnD w' b (d.imm v) → wpList Tryz.prog ops Q rest a w') : wpList Tryz.prog ops Q (o :: rest) a w :=
  W_st hA hg hd ho hx hy (st_imm hb v) (h _ (Tch.setCell _) (set_imm hb v))
end
end Go.Proofs.YtakdhdaoklcidaaGreatDoor

namespace Go.Proofs.YtakdhdaoklcidaaGreatDoor
open Go.RowKit Go.Lib
set_option linter.unusedVariables false
set_option maxRecDepth 100000
set_option maxHeartbeats 16000000 in
theorem refAssemble_any (l : Bs) (hl : l.length ≤ 8000) (base : Int) (hbase : 0 ≤ base ∧ base < 18446744073709551616) (w : World) : Calls Tryz.prog 19 #[str l, .int .u64 base] w (AsEnd w (asmF l base)) := by
  have hnl : (linesT l).length ≤ 8001 := by
    have h1 := (splitK_len (Lib.count l [10]) l).1
    have h2 : Lib.count l [10] ≤ l.length := by rw [Lib.count_one]; exact List.count_le_length
    have h3 : (linesT l).length = (splitK [10] 0 (Lib.count l [10]) l).length := rfl
    omega
  have HB := Below.refl w.heap.size w
  go_enter Tryz.func19, Tryz.ntmps19
  refine begin_fr [(1, .int .u64 base), (0, str l)] 213 ?_ (fun a hA => ?_)
  · exact FrA.add (FrA.add (FrA.nil (by rfl) (by rfl)) 0 _ (by rfl)) 1 _ (by rfl)
  refine wp_seq (wp_region_list ?_); (iterate 3 refine W_val hA rfl _ rfl (by decide) _ _ (R_asg hA rfl rfl _) fun a hA => ?_); refine W_nil (then_nrm ?_); show Code.wp Tryz.prog _ _ _ _; refine wp_seq ?_; refine wp_seq (wp_region_list ?_); refine W_val hA rfl _ rfl (by decide) _ _ (R_mov hA rfl rfl _) (fun a hA => ?_); refine W_val hA rfl _ rfl (by decide) _ _ (R_lenL hA rfl rfl _) (fun a hA => ?_); refine W_val hA rfl _ rfl (by decide) _ _ (R_gtrI hA rfl rfl rfl _) (fun a hA => ?_); refine W_nil (then_nrm ?_); show Code.wp Tryz.prog _ _ _ _; refine wp_cond_split (hA.ev (x := .tmp 27) rfl) (fun cz => absurd (of_decide_eq_true cz) (by omega)) (fun cz => ?_); refine wp_skip ?_; refine then_nrm ?_; show Code.wp Tryz.prog _ _ _ _; refine wp_seq ?_; refine wp_seq (wp_region_list ?_); refine W_val hA rfl _ rfl (by decide) _ _ (R_mov hA rfl rfl _) (fun a hA => ?_); refine W_val hA rfl _ rfl (by decide) _ _ (R_rem4 hA rfl hbase rfl rfl _) (fun a hA => ?_); refine W_val hA rfl _ rfl (by decide) _ _ (R_neqU hA rfl rfl rfl _) (fun a hA => ?_); refine W_nil (then_nrm ?_); show Code.wp Tryz.prog _ _ _ _; refine wp_cond_split (hA.ev (x := .tmp 30) rfl) (fun c2 => ?_) (fun c2 => ?_)
  · skip
    refine wp_seq (wp_region_list ?_); (iterate 3 refine W_val hA rfl _ rfl (by decide) _ _ (R_asg hA rfl rfl _) fun a hA => ?_); refine W_nil (then_nrm ?_); show Code.wp Tryz.prog _ _ _ _; refine wp_ret ?_; refine then_ret ?_
    exact ret_three (i := 4) (j := 5) (k := 6) (by kernel_rfl) hA rfl rfl rfl (as_fault (by unfold asmF; rw [if_neg (by simpa using c2)]) HB rfl)
  have hb4 : base % 4 = 0 := by simpa using c2
  have HR : asmF l base = asmT (linesT l) base := by unfold asmF; rw [if_pos hb4]
  refine wp_skip ?_; refine then_nrm ?_; show Code.wp Tryz.prog _ _ _ _; refine wp_seq (wp_region_list ?_); refine W_val hA rfl _ rfl (by decide) _ _ (R_asg hA rfl rfl _) (fun a hA => ?_); refine W_nil (then_nrm ?_); show Code.wp Tryz.prog _ _ _ _; refine wp_seq (wp_region_list ?_); refine W_val hA rfl _ rfl (by decide) _ _ (R_mov hA rfl rfl _) (fun a hA => ?_); (iterate 2 refine W_val hA rfl _ rfl (by decide) _ _ (R_asg hA rfl rfl _) fun a hA => ?_); refine W_nil (then_nrm ?_); show Code.wp Tryz.prog _ _ _ _; refine wp_seq ?_; refine wp_block ?_; refine loop_rest (fun r m a' w' => ∃ (done : List Bs) (L : List LD) (v : Value), FrA [(9, .bool m), (8, str r), (7, v), (1, .int .u64 base)] 213 a' ∧ Below w.heap.size w w' ∧ OwnL w' w.heap.size v L ∧ LRows w' w.heap.size done L ∧ linesT l = done ++ (if m = true then linesT r else []) ∧ r.length ≤ 8000) (fun r m a w h => by obtain ⟨_, _, _, h, _⟩ := h; exact ⟨h.get 8 _ rfl, h.get 9 _ rfl⟩) l true ⟨[], [], _, hA.re (sa rfl (sa rfl (sa rfl (sa rfl (sn))))), HB, ownL_nil _ _, LRows.nil _ _, by simp, hl⟩ (fun r m a wa h => ?_); clear HB hA
  obtain ⟨done, L, v, hA, HB, OL, RS, hls, hrl⟩ := h
  have hLl : L.length ≤ 70000 := by
    have h1 := congrArg List.length hls
    rw [List.length_append] at h1
    have h2 := RS.len
    omega
  refine wp_seq ?_; refine wp_seq (wp_region_list ?_); refine W_val hA rfl _ rfl (by decide) _ _ (R_mov hA rfl rfl _) (fun a hA => ?_); refine W_nil (then_nrm ?_); show Code.wp Tryz.prog _ _ _ _; refine wp_cond_split (hA.ev (x := .tmp 32) rfl) (fun c3 => ?_) (fun c3 => ?_)
  · skip
    subst c3; refine wp_skip ?_; refine then_nrm ?_; show Code.wp Tryz.prog _ _ _ _; refine wp_block ?_; refine wp_seq (wp_region_list ?_); refine W_val hA rfl _ rfl (by decide) _ _ (R_asg hA rfl rfl _) (fun a hA => ?_); refine W_nil (then_nrm ?_); show Code.wp Tryz.prog _ _ _ _; refine wp_seq (wp_region_list ?_); refine W_val hA rfl _ rfl (by decide) _ _ (R_mov hA rfl rfl _) (fun a hA => ?_); refine W_callA hA (by decide) (fun _ _ => by kernel_rfl) (args2 hA rfl rfl) (refCut_any r [10] (by omega) (by decide) _) (fun w1 hw a hA => ?_); replace OL := ownL_below OL hw; replace RS := RS.below hw; replace HB := HB.trans (hw.mono HB.size); clear hw; refine W_val hA rfl _ rfl (by decide) _ _ (R_mov hA rfl rfl _) (fun a hA => ?_); (iterate 3 refine W_val hA rfl _ rfl (by decide) _ _ (R_extract hA rfl rfl rfl _) fun a hA => ?_); (iterate 3 refine W_val hA rfl _ rfl (by decide) _ _ (R_asg hA rfl rfl _) fun a hA => ?_); refine W_nil (then_nrm ?_); show Code.wp Tryz.prog _ _ _ _; refine wp_seq (wp_region_list ?_); refine W_val hA rfl _ rfl (by decide) _ _ (R_mov hA rfl rfl _) (fun a hA => ?_); refine W_callE hA (by decide) (fun _ _ => by kernel_rfl) (args1 hA rfl) (said_E (cut r [10]).1 (by have := cut_len r [10]; omega) _) (fun v4 w2 hw a hA => ?_)
    obtain ⟨p, c, rfl, RD, hw⟩ := hw
    replace RD := rowD_base RD HB.size; replace OL := ownL_below OL hw; replace RS := RS.below hw; replace HB := HB.trans (hw.mono HB.size); clear hw; refine W_allocLn hA rfl 11 rfl (by decide) rfl (fun w3 bLN a hA hb LN gLN => ?_)
    have nLN : ∀ g, v.ownBlock = some g → ¬ g = bLN := fun g hg e => by have := (ownL_lt OL g hg).2.1; omega
    replace gLN := Nat.le_trans HB.size gLN; replace OL := ownL_below OL hb; replace RS := RS.below hb; replace RD := rowD_below RD hb; replace HB := HB.trans (hb.mono HB.size); clear hb; refine W_cpLn hA rfl rfl rfl rfl rfl LN (fun w4 hT HN => ?_); replace OL := ownL_tch OL hT nLN; replace RS := LRows.tch RS hT LN; replace RD := rowD_tch RD hT LN; replace HB := HB.trans (hT.bel _ gLN); replace LN := HN; clear hT HN; refine W_nil (then_nrm ?_); show Code.wp Tryz.prog _ _ _ _; refine wp_seq (wp_region_list ?_); refine W_val hA rfl _ rfl (by decide) _ _ (R_mov hA rfl rfl _) (fun a hA => ?_); refine W_val hA rfl _ rfl (by decide) _ _ (R_row hA rfl rfl LN Tryz.underlying85 (size_lnD _)) (fun a hA => ?_); refine W_pushLn hA rfl rfl 43 44 rfl rfl (by decide) (by decide) rfl rfl rfl rfl (fun h => by cases h) OL hLl HB.size (fun w5 v2 a hA OL2 hO => ?_); replace RS := RS.only hO OL; replace RD := rowD_only RD hO OL; replace LN := lnD_onlyL LN hO nLN; replace HB := Below.thenOnly HB hO (fun k hk => (ownL_lt OL k hk).1) HB.size; replace OL := OL2; clear OL2 hO; refine W_val hA rfl _ rfl (by decide) _ _ (R_asg hA rfl rfl _) (fun a hA => ?_); refine W_nil (then_nrm ?_); show Code.wp Tryz.prog _ _ _ _; refine wp_seq (wp_region_list ?_); refine W_val hA rfl _ rfl (by decide) _ _ (R_fa hA rfl rfl (fun w => fl_0 _ w) _) (fun a hA => ?_); refine W_val hA rfl _ rfl (by decide) _ _ (R_ld hA rfl rfl ag_i (LnD.cell LN 0 _ rfl)) (fun a hA => ?_); refine W_val hA rfl _ rfl (by decide) _ _ (R_eqlI hA rfl rfl rfl _) (fun a hA => ?_); refine W_nil (then_nrm ?_); show Code.wp Tryz.prog _ _ _ _; refine wp_cond_split (hA.ev (x := .tmp 47) rfl) (fun c4 => ?_) (fun c4 => ?_)
    · skip
      refine wp_seq ?_
      obtain ⟨A7, C7, rfl⟩ := ownL_slice OL
      refine wp_region_list ?_; refine W_val hA rfl _ rfl (by decide) _ _ (R_mov hA rfl rfl _) (fun a hA => ?_); refine W_val hA rfl _ rfl (by decide) _ _ (R_lenR hA rfl rfl _) (fun a hA => ?_); (iterate 3 refine W_val hA rfl _ rfl (by decide) _ _ (R_asg hA rfl rfl _) fun a hA => ?_); refine W_nil (then_nrm ?_); show Code.wp Tryz.prog _ _ _ _; refine wp_ret ?_; refine blk_ret ?_; refine then_ret ?_; refine blk_ret ?_; refine then_ret ?_
      obtain ⟨t, ht⟩ : ∃ t, linesT r = (cut r [10]).1 :: t := ⟨_, lines_step r⟩
      exact ret_three (i := 4) (j := 5) (k := 6) (by kernel_rfl) hA rfl rfl rfl (as_fault (HR.trans (asm_badA (hls.trans (by rw [if_pos rfl, ht])) RS (k6_y c4))) HB (by rw [List.length_append, RS.len, List.length_singleton]; omega))
    refine wp_skip ?_; refine blk_nrm ?_; refine then_nrm ?_; refine ⟨(cut r [10]).2.1, (cut r [10]).2.2, ?_, done ++ [(cut r [10]).1], L ++ [ldOf (saidL (cut r [10]).1) p c], v2, hA.re (sa rfl (sa rfl (sa rfl (sa rfl (sn))))), HB, OL, RS.snoc (dok (k6_n c4)) RD, ?_, ?_⟩
    · show _ < r.length + 1
      exact cut_less r
    · rw [hls, if_pos rfl]; conv => lhs; rw [lines_step r]
      simp
    · have := cut_len r [10]; omega
  subst c3
  have hls2 : linesT l = done := by simpa using hls
  subst hls2
  have hLne : L ≠ [] := fun e => lines_ne l (List.eq_nil_of_length_eq_zero (by rw [← RS.len, e]; rfl))
  obtain ⟨gR, CR, rfl, LL⟩ := own_lines OL hLne
  have hgR := LL.lt
  have HBA := HB
  have HR2 := HR.trans (asm_goodA RS)
  have hat : ∀ {k : Nat}, k < L.length → ∃ d p c, ((linesT l).map saidL)[k]? = some d ∧ DOk d ∧ L[k]? = some (ldOf d p c) ∧ RowD wa w.heap.size d p c := fun hk => RS.at hk
  have hDn : ((linesT l).map saidL).length = L.length := by rw [List.length_map, RS.len]
  have hL8 : L.length ≤ 8001 := by rw [RS.len]; exact hnl
  generalize (linesT l).map saidL = D at HR2 hat hDn
  have hssn : (D.map stmG).length = L.length := by rw [List.length_map, hDn]
  have hLok : ∀ d ∈ L, LDOk d := fun q hq => by
    obtain ⟨k, hk, e⟩ := List.getElem_of_mem hq
    obtain ⟨d, p, c, _, _, h3, _⟩ := hat hk
    rw [List.getElem?_eq_getElem hk, e] at h3
    injection h3 with h3
    rw [h3]; exact ld_ok d p c
  have hDok : ∀ (k : Nat) (d : DL), D[k]? = some d → DOk d ∧ ∃ p c, L[k]? = some (ldOf d p c) := fun k d h => by
    have hk : k < L.length := by rw [← hDn]; exact (List.getElem?_eq_some_iff.1 h).1
    obtain ⟨d2, p, c, h1, h2, h3, _⟩ := hat hk
    rw [h] at h1; injection h1 with h1; subst h1
    exact ⟨h2, p, c, h3⟩
  have hsz : ∀ k, sizeS ((D.map stmG).getD k .none) ≤ 100 := fun k => by
    rw [List.getD_eq_getElem?_getD, List.getElem?_map]
    cases h : D[k]? with
    | none => exact Nat.zero_le _
    | some d => exact dok_size (hDok k d h).1
  have HB0 : Below wa.heap.size wa wa := Below.refl _ _
  clear HB hls RS OL
  have HB := HB0
  refine wp_exit ?_; refine then_ext ?_; refine then_ext ?_; refine blk_eq ?_; refine then_nrm ?_; show Code.wp Tryz.prog _ _ _ _; refine wp_seq ?_; refine wp_seq (wp_region_list ?_); refine W_val hA rfl _ rfl (by decide) _ _ (R_asg hA rfl rfl _) (fun a hA => ?_); refine W_nil (then_nrm ?_); show Code.wp Tryz.prog _ _ _ _; refine wp_block ?_; refine loop_cnt 12 L.length (fun k a' w' => FrA [(12, .int .i64 (k : Int)), (7, .slice (some ⟨gR, 0, none⟩) L.length CR), (1, .int .u64 base)] 213 a' ∧ Below wa.heap.size wa w' ∧ LinesR w' gR L ∧ ∀ i, i < k → dupAt (D.map stmG) base i = false) (fun k a' w' h => ⟨_, h.1.get 12 _ rfl⟩) ⟨hA.re (sa rfl (sa rfl (sa rfl (sn)))), HB, LL, fun i hi => absurd hi (by omega)⟩ (fun k a wb hk h => ?_); clear HB LL hA
  obtain ⟨hA, HB, LL, hdup⟩ := h
  refine wp_seq ?_; refine wp_seq (wp_region_list ?_); (iterate 2 refine W_val hA rfl _ rfl (by decide) _ _ (R_mov hA rfl rfl _) fun a hA => ?_); refine W_val hA rfl _ rfl (by decide) _ _ (R_lenR hA rfl rfl _) (fun a hA => ?_); refine W_val hA rfl _ rfl (by decide) _ _ (R_lssI hA rfl rfl rfl _) (fun a hA => ?_); refine W_nil (then_nrm ?_); show Code.wp Tryz.prog _ _ _ _; refine wp_cond_split (hA.ev (x := .tmp 53) rfl) (fun c5 => ?_) (fun c5 => ?_)
  · skip
    have ck : k < L.length := by have := of_decide_eq_true c5; omega
    obtain ⟨d, p, c, hDk, okd, hLk, hRk⟩ := hat ck
    refine wp_skip ?_; refine then_nrm ?_; show Code.wp Tryz.prog _ _ _ _; refine wp_seq ?_; refine wp_block ?_; refine wp_seq (wp_region_list ?_); refine W_val hA rfl _ rfl (by decide) _ _ (R_asg hA rfl rfl _) (fun a hA => ?_); refine W_nil (then_nrm ?_); show Code.wp Tryz.prog _ _ _ _; refine wp_block ?_; refine loop_cnt 13 k (fun j a' w' => FrA [(13, .int .i64 (j : Int)), (12, .int .i64 (k : Int)), (7, .slice (some ⟨gR, 0, none⟩) L.length CR), (1, .int .u64 base)] 213 a' ∧ Below wa.heap.size wa w' ∧ LinesR w' gR L ∧ (labOf (stmG d) = [] ∨ ∀ i, i < j → labOf ((D.map stmG).getD i .none) ≠ labOf (stmG d))) (fun j a' w' h => ⟨_, h.1.get 13 _ rfl⟩) ⟨hA.re (sa rfl (sa rfl (sa rfl (sa rfl (sn))))), HB, LL, .inr (fun i hi => absurd hi (by omega))⟩ (fun j a wc hj h => ?_); clear HB LL hA
    obtain ⟨hA, HB, LL, hnx⟩ := h
    refine wp_seq ?_; refine wp_seq (wp_region_list ?_); (iterate 2 refine W_val hA rfl _ rfl (by decide) _ _ (R_mov hA rfl rfl _) fun a hA => ?_); refine W_val hA rfl _ rfl (by decide) _ _ (R_lssI hA rfl rfl rfl _) (fun a hA => ?_); refine W_nil (then_nrm ?_); show Code.wp Tryz.prog _ _ _ _; refine wp_cond_split (hA.ev (x := .tmp 58) rfl) (fun c6 => ?_) (fun c6 => ?_)
    · skip
      have cj : j < k := by have := of_decide_eq_true c6; omega
      obtain ⟨e, pe, ce, hDj, oke, hLj, _⟩ := hat (show j < L.length by omega)
      refine wp_skip ?_; refine then_nrm ?_; show Code.wp Tryz.prog _ _ _ _; refine wp_seq ?_; refine wp_block ?_
      cases q1 : (((ldOf d p c).k : Int) == 1)
      · skip
        refine wp_seq ?_; refine wp_region_held_drew (S := fun wx => Below wc.heap.size wc wx) (by kernel_rfl) ((Below.refl _ _).drew) (fun hS => ?_); refine takeF (i := 0) hA 61 rfl rfl (by decide) rfl (by kernel_rfl) (by kernel_rfl) (by kernel_rfl) (fun _ _ _ h => h) hS (fun wx hx => R_mov hA rfl rfl _) (fun a hA => ?_); refine takeF (i := 1) hA 62 rfl rfl (by decide) rfl (by kernel_rfl) (by kernel_rfl) (by kernel_rfl) (fun _ _ _ h => h) hS (fun wx hx => R_mov hA rfl rfl _) (fun a hA => ?_); refine takeF (i := 2) hA 63 rfl rfl (by decide) rfl (by kernel_rfl) (by kernel_rfl) (by kernel_rfl) (fun _ _ _ h => h) hS (fun wx hx => R_index2 hA rfl rfl rfl (fun w => ix_line gR L.length CR k ck w) _) (fun a hA => ?_); refine takeF (i := 3) hA 64 rfl rfl (by decide) rfl (by kernel_rfl) (by kernel_rfl) (by kernel_rfl) (fun _ _ _ h => h) hS (fun wx hx => R_fa hA rfl rfl (fun w => fa_line0 _ _ w) _) (fun a hA => ?_); refine takeF (i := 4) hA 65 rfl rfl (by decide) rfl (by kernel_rfl) (by kernel_rfl) (by kernel_rfl) (fun _ _ _ h => h) hS (fun wx hx => R_ld hA rfl rfl ag_i ((LL.below hx).row _ _ hLk 0 _ rfl)) (fun a hA => ?_); refine takeF (i := 5) hA 66 rfl rfl (by decide) rfl (by kernel_rfl) (by kernel_rfl) (by kernel_rfl) (fun _ _ _ h => h) hS (fun wx hx => R_eqlIT hA rfl rfl rfl false (q1) _) (fun a hA => ?_); refine takeF (i := 6) hA 67 rfl rfl (by decide) rfl (by kernel_rfl) (by kernel_rfl) (by kernel_rfl) (fun _ _ _ h => h) hS (fun wx hx => R_mov hA rfl rfl _) (fun a hA => ?_); refine skipFs (i := 7) hA 68 rfl rfl (by decide) rfl rfl rfl (by kernel_rfl) (by kernel_rfl) (by kernel_rfl) (fun _ _ _ h => h) hS (fun a hA => ?_); refine skipFs (i := 8) hA 69 rfl rfl (by decide) rfl rfl rfl (by kernel_rfl) (by kernel_rfl) (by kernel_rfl) (fun _ _ _ h => h) hS (fun a hA => ?_); refine skipFs (i := 9) hA 70 rfl rfl (by decide) rfl rfl rfl (by kernel_rfl) (by kernel_rfl) (by kernel_rfl) (fun _ _ _ h => h) hS (fun a hA => ?_); refine skipFs (i := 10) hA 71 rfl rfl (by decide) rfl rfl rfl (by kernel_rfl) (by kernel_rfl) (by kernel_rfl) (fun _ _ _ h => h) hS (fun a hA => ?_); refine skipFs (i := 11) hA 72 rfl rfl (by decide) rfl rfl rfl (by kernel_rfl) (by kernel_rfl) (by kernel_rfl) (fun _ _ _ h => h) hS (fun a hA => ?_); refine skipFs (i := 12) hA 73 rfl rfl (by decide) rfl rfl rfl (by kernel_rfl) (by kernel_rfl) (by kernel_rfl) (fun _ _ _ h => h) hS (fun a hA => ?_); refine takeF (i := 13) hA 74 rfl rfl (by decide) rfl (by kernel_rfl) (by kernel_rfl) (by kernel_rfl) (fun _ _ _ h => h) hS (fun wx hx => R_pick hA rfl rfl rfl _) (fun a hA => ?_); refine takeF (i := 14) hA 75 rfl rfl (by decide) rfl (by kernel_rfl) (by kernel_rfl) (by kernel_rfl) (fun _ _ _ h => h) hS (fun wx hx => R_mov hA rfl rfl _) (fun a hA => ?_); refine skipFs (i := 15) hA 76 rfl rfl (by decide) rfl rfl rfl (by kernel_rfl) (by kernel_rfl) (by kernel_rfl) (fun _ _ _ h => h) hS (fun a hA => ?_); refine skipFs (i := 16) hA 77 rfl rfl (by decide) rfl rfl rfl (by kernel_rfl) (by kernel_rfl) (by kernel_rfl) (fun _ _ _ h => h) hS (fun a hA => ?_)
        refine skipFs (i := 17) hA 78 rfl rfl (by decide) rfl rfl rfl (by kernel_rfl) (by kernel_rfl) (by kernel_rfl) (fun _ _ _ h => h) hS (fun a hA => ?_); refine skipFs (i := 18) hA 79 rfl rfl (by decide) rfl rfl rfl (by kernel_rfl) (by kernel_rfl) (by kernel_rfl) (fun _ _ _ h => h) hS (fun a hA => ?_); refine skipFs (i := 19) hA 80 rfl rfl (by decide) rfl rfl rfl (by kernel_rfl) (by kernel_rfl) (by kernel_rfl) (fun _ _ _ h => h) hS (fun a hA => ?_); refine skipFs (i := 20) hA 81 rfl rfl (by decide) rfl rfl rfl (by kernel_rfl) (by kernel_rfl) (by kernel_rfl) (fun _ _ _ h => h) hS (fun a hA => ?_); refine skipFs (i := 21) hA 82 rfl rfl (by decide) rfl rfl rfl (by kernel_rfl) (by kernel_rfl) (by kernel_rfl) (fun _ _ _ h => h) hS (fun a hA => ?_); refine skipFs (i := 22) hA 83 rfl rfl (by decide) rfl rfl rfl (by kernel_rfl) (by kernel_rfl) (by kernel_rfl) (fun _ _ _ h => h) hS (fun a hA => ?_); refine skipFs (i := 23) hA 84 rfl rfl (by decide) rfl rfl rfl (by kernel_rfl) (by kernel_rfl) (by kernel_rfl) (fun _ _ _ h => h) hS (fun a hA => ?_); refine skipFs (i := 24) hA 85 rfl rfl (by decide) rfl rfl rfl (by kernel_rfl) (by kernel_rfl) (by kernel_rfl) (fun _ _ _ h => h) hS (fun a hA => ?_); refine skipFs (i := 25) hA 86 rfl rfl (by decide) rfl rfl rfl (by kernel_rfl) (by kernel_rfl) (by kernel_rfl) (fun _ _ _ h => h) hS (fun a hA => ?_); refine takeF (i := 26) hA 87 rfl rfl (by decide) rfl (by kernel_rfl) (by kernel_rfl) (by kernel_rfl) (fun _ _ _ h => h) hS (fun wx hx => R_pick hA rfl rfl rfl _) (fun a hA => ?_); refine wpAnyH_done (by kernel_rfl) ?_ _; replace LL := LL.below hS; replace HB := HB.trans (hS.mono HB.size); clear hS; refine then_nrm ?_; show Code.wp Tryz.prog _ _ _ _; refine wp_cond_false (hA.ev (x := .tmp 87) rfl) ?_; refine wp_skip ?_; refine blk_nrm ?_; refine then_nrm ?_; show Code.wp Tryz.prog _ _ _ _; refine wp_region_list ?_; refine W_val hA rfl _ rfl (by decide) _ _ (R_mov hA rfl rfl _) (fun a hA => ?_); refine W_val hA rfl _ rfl (by decide) _ _ (R_addI hA rfl rfl rfl _) (fun a hA => ?_); refine W_val hA rfl _ rfl (by decide) _ _ (R_asg hA rfl rfl _) (fun a hA => ?_); refine W_nil ?_; refine then_nrm ?_
        exact ⟨cj, FrA.add (hA.re (sa rfl (sa rfl (sa rfl (sn))))) 13 _ ((hA.get 13 _ rfl).trans (congrArg (Value.int .i64) (wrap_upL (by omega)))), HB, LL, dup_next hDj hnx (.inl (lab_0 q1))⟩
      cases q2 : (((ldOf e pe ce).k : Int) == 1)
      · skip
        refine wp_seq ?_; refine wp_region_held_drew (S := fun wx => Below wc.heap.size wc wx) (by kernel_rfl) ((Below.refl _ _).drew) (fun hS => ?_); refine takeF (i := 0) hA 61 rfl rfl (by decide) rfl (by kernel_rfl) (by kernel_rfl) (by kernel_rfl) (fun _ _ _ h => h) hS (fun wx hx => R_mov hA rfl rfl _) (fun a hA => ?_); refine takeF (i := 1) hA 62 rfl rfl (by decide) rfl (by kernel_rfl) (by kernel_rfl) (by kernel_rfl) (fun _ _ _ h => h) hS (fun wx hx => R_mov hA rfl rfl _) (fun a hA => ?_); refine takeF (i := 2) hA 63 rfl rfl (by decide) rfl (by kernel_rfl) (by kernel_rfl) (by kernel_rfl) (fun _ _ _ h => h) hS (fun wx hx => R_index2 hA rfl rfl rfl (fun w => ix_line gR L.length CR k ck w) _) (fun a hA => ?_); refine takeF (i := 3) hA 64 rfl rfl (by decide) rfl (by kernel_rfl) (by kernel_rfl) (by kernel_rfl) (fun _ _ _ h => h) hS (fun wx hx => R_fa hA rfl rfl (fun w => fa_line0 _ _ w) _) (fun a hA => ?_); refine takeF (i := 4) hA 65 rfl rfl (by decide) rfl (by kernel_rfl) (by kernel_rfl) (by kernel_rfl) (fun _ _ _ h => h) hS (fun wx hx => R_ld hA rfl rfl ag_i ((LL.below hx).row _ _ hLk 0 _ rfl)) (fun a hA => ?_); refine takeF (i := 5) hA 66 rfl rfl (by decide) rfl (by kernel_rfl) (by kernel_rfl) (by kernel_rfl) (fun _ _ _ h => h) hS (fun wx hx => R_eqlIT hA rfl rfl rfl true (q1) _) (fun a hA => ?_); refine takeF (i := 6) hA 67 rfl rfl (by decide) rfl (by kernel_rfl) (by kernel_rfl) (by kernel_rfl) (fun _ _ _ h => h) hS (fun wx hx => R_mov hA rfl rfl _) (fun a hA => ?_); refine takeFs (i := 7) hA 68 rfl rfl (by decide) rfl rfl rfl (by kernel_rfl) (by kernel_rfl) (by kernel_rfl) (fun _ _ _ h => h) hS (fun wx hx => R_mov hA rfl rfl _) (fun a hA => ?_); refine takeFs (i := 8) hA 69 rfl rfl (by decide) rfl rfl rfl (by kernel_rfl) (by kernel_rfl) (by kernel_rfl) (fun _ _ _ h => h) hS (fun wx hx => R_mov hA rfl rfl _) (fun a hA => ?_); refine takeFs (i := 9) hA 70 rfl rfl (by decide) rfl rfl rfl (by kernel_rfl) (by kernel_rfl) (by kernel_rfl) (fun _ _ _ h => h) hS (fun wx hx => R_index2 hA rfl rfl rfl (fun w => ix_line gR L.length CR j (by omega) w) _) (fun a hA => ?_); refine takeFs (i := 10) hA 71 rfl rfl (by decide) rfl rfl rfl (by kernel_rfl) (by kernel_rfl) (by kernel_rfl) (fun _ _ _ h => h) hS (fun wx hx => R_fa hA rfl rfl (fun w => fa_line0 _ _ w) _) (fun a hA => ?_); refine takeFs (i := 11) hA 72 rfl rfl (by decide) rfl rfl rfl (by kernel_rfl) (by kernel_rfl) (by kernel_rfl) (fun _ _ _ h => h) hS (fun wx hx => R_ld hA rfl rfl ag_i ((LL.below hx).row _ _ hLj 0 _ rfl)) (fun a hA => ?_); refine takeFs (i := 12) hA 73 rfl rfl (by decide) rfl rfl rfl (by kernel_rfl) (by kernel_rfl) (by kernel_rfl) (fun _ _ _ h => h) hS (fun wx hx => R_eqlIT hA rfl rfl rfl false (q2) _) (fun a hA => ?_); refine takeF (i := 13) hA 74 rfl rfl (by decide) rfl (by kernel_rfl) (by kernel_rfl) (by kernel_rfl) (fun _ _ _ h => h) hS (fun wx hx => R_pick hA rfl rfl rfl _) (fun a hA => ?_); refine takeF (i := 14) hA 75 rfl rfl (by decide) rfl (by kernel_rfl) (by kernel_rfl) (by kernel_rfl) (fun _ _ _ h => h) hS (fun wx hx => R_mov hA rfl rfl _) (fun a hA => ?_)
        refine skipFs (i := 15) hA 76 rfl rfl (by decide) rfl rfl rfl (by kernel_rfl) (by kernel_rfl) (by kernel_rfl) (fun _ _ _ h => h) hS (fun a hA => ?_); refine skipFs (i := 16) hA 77 rfl rfl (by decide) rfl rfl rfl (by kernel_rfl) (by kernel_rfl) (by kernel_rfl) (fun _ _ _ h => h) hS (fun a hA => ?_); refine skipFs (i := 17) hA 78 rfl rfl (by decide) rfl rfl rfl (by kernel_rfl) (by kernel_rfl) (by kernel_rfl) (fun _ _ _ h => h) hS (fun a hA => ?_); refine skipFs (i := 18) hA 79 rfl rfl (by decide) rfl rfl rfl (by kernel_rfl) (by kernel_rfl) (by kernel_rfl) (fun _ _ _ h => h) hS (fun a hA => ?_); refine skipFs (i := 19) hA 80 rfl rfl (by decide) rfl rfl rfl (by kernel_rfl) (by kernel_rfl) (by kernel_rfl) (fun _ _ _ h => h) hS (fun a hA => ?_); refine skipFs (i := 20) hA 81 rfl rfl (by decide) rfl rfl rfl (by kernel_rfl) (by kernel_rfl) (by kernel_rfl) (fun _ _ _ h => h) hS (fun a hA => ?_); refine skipFs (i := 21) hA 82 rfl rfl (by decide) rfl rfl rfl (by kernel_rfl) (by kernel_rfl) (by kernel_rfl) (fun _ _ _ h => h) hS (fun a hA => ?_); refine skipFs (i := 22) hA 83 rfl rfl (by decide) rfl rfl rfl (by kernel_rfl) (by kernel_rfl) (by kernel_rfl) (fun _ _ _ h => h) hS (fun a hA => ?_); refine skipFs (i := 23) hA 84 rfl rfl (by decide) rfl rfl rfl (by kernel_rfl) (by kernel_rfl) (by kernel_rfl) (fun _ _ _ h => h) hS (fun a hA => ?_); refine skipFs (i := 24) hA 85 rfl rfl (by decide) rfl rfl rfl (by kernel_rfl) (by kernel_rfl) (by kernel_rfl) (fun _ _ _ h => h) hS (fun a hA => ?_); refine skipFs (i := 25) hA 86 rfl rfl (by decide) rfl rfl rfl (by kernel_rfl) (by kernel_rfl) (by kernel_rfl) (fun _ _ _ h => h) hS (fun a hA => ?_); refine takeF (i := 26) hA 87 rfl rfl (by decide) rfl (by kernel_rfl) (by kernel_rfl) (by kernel_rfl) (fun _ _ _ h => h) hS (fun wx hx => R_pick hA rfl rfl rfl _) (fun a hA => ?_); refine wpAnyH_done (by kernel_rfl) ?_ _; replace LL := LL.below hS; replace HB := HB.trans (hS.mono HB.size); clear hS; refine then_nrm ?_; show Code.wp Tryz.prog _ _ _ _; refine wp_cond_false (hA.ev (x := .tmp 87) rfl) ?_; refine wp_skip ?_; refine blk_nrm ?_; refine then_nrm ?_; show Code.wp Tryz.prog _ _ _ _; refine wp_region_list ?_; refine W_val hA rfl _ rfl (by decide) _ _ (R_mov hA rfl rfl _) (fun a hA => ?_); refine W_val hA rfl _ rfl (by decide) _ _ (R_addI hA rfl rfl rfl _) (fun a hA => ?_); refine W_val hA rfl _ rfl (by decide) _ _ (R_asg hA rfl rfl _) (fun a hA => ?_); refine W_nil ?_; refine then_nrm ?_
        exact ⟨cj, FrA.add (hA.re (sa rfl (sa rfl (sa rfl (sn))))) 13 _ ((hA.get 13 _ rfl).trans (congrArg (Value.int .i64) (wrap_upL (by omega)))), HB, LL, dup_next hDj hnx (.inr (by rw [lab_0 q2]; exact fun h => (lab_1 okd q1).2 h.symm))⟩
      cases q3 : ((ldOf d p c).lb == (ldOf e pe ce).lb)
      · skip
        refine wp_seq ?_; refine wp_region_held_drew (S := fun wx => Below wc.heap.size wc wx) (by kernel_rfl) ((Below.refl _ _).drew) (fun hS => ?_); refine takeF (i := 0) hA 61 rfl rfl (by decide) rfl (by kernel_rfl) (by kernel_rfl) (by kernel_rfl) (fun _ _ _ h => h) hS (fun wx hx => R_mov hA rfl rfl _) (fun a hA => ?_); refine takeF (i := 1) hA 62 rfl rfl (by decide) rfl (by kernel_rfl) (by kernel_rfl) (by kernel_rfl) (fun _ _ _ h => h) hS (fun wx hx => R_mov hA rfl rfl _) (fun a hA => ?_); refine takeF (i := 2) hA 63 rfl rfl (by decide) rfl (by kernel_rfl) (by kernel_rfl) (by kernel_rfl) (fun _ _ _ h => h) hS (fun wx hx => R_index2 hA rfl rfl rfl (fun w => ix_line gR L.length CR k ck w) _) (fun a hA => ?_); refine takeF (i := 3) hA 64 rfl rfl (by decide) rfl (by kernel_rfl) (by kernel_rfl) (by kernel_rfl) (fun _ _ _ h => h) hS (fun wx hx => R_fa hA rfl rfl (fun w => fa_line0 _ _ w) _) (fun a hA => ?_); refine takeF (i := 4) hA 65 rfl rfl (by decide) rfl (by kernel_rfl) (by kernel_rfl) (by kernel_rfl) (fun _ _ _ h => h) hS (fun wx hx => R_ld hA rfl rfl ag_i ((LL.below hx).row _ _ hLk 0 _ rfl)) (fun a hA => ?_); refine takeF (i := 5) hA 66 rfl rfl (by decide) rfl (by kernel_rfl) (by kernel_rfl) (by kernel_rfl) (fun _ _ _ h => h) hS (fun wx hx => R_eqlIT hA rfl rfl rfl true (q1) _) (fun a hA => ?_); refine takeF (i := 6) hA 67 rfl rfl (by decide) rfl (by kernel_rfl) (by kernel_rfl) (by kernel_rfl) (fun _ _ _ h => h) hS (fun wx hx => R_mov hA rfl rfl _) (fun a hA => ?_); refine takeFs (i := 7) hA 68 rfl rfl (by decide) rfl rfl rfl (by kernel_rfl) (by kernel_rfl) (by kernel_rfl) (fun _ _ _ h => h) hS (fun wx hx => R_mov hA rfl rfl _) (fun a hA => ?_); refine takeFs (i := 8) hA 69 rfl rfl (by decide) rfl rfl rfl (by kernel_rfl) (by kernel_rfl) (by kernel_rfl) (fun _ _ _ h => h) hS (fun wx hx => R_mov hA rfl rfl _) (fun a hA => ?_); refine takeFs (i := 9) hA 70 rfl rfl (by decide) rfl rfl rfl (by kernel_rfl) (by kernel_rfl) (by kernel_rfl) (fun _ _ _ h => h) hS (fun wx hx => R_index2 hA rfl rfl rfl (fun w => ix_line gR L.length CR j (by omega) w) _) (fun a hA => ?_); refine takeFs (i := 10) hA 71 rfl rfl (by decide) rfl rfl rfl (by kernel_rfl) (by kernel_rfl) (by kernel_rfl) (fun _ _ _ h => h) hS (fun wx hx => R_fa hA rfl rfl (fun w => fa_line0 _ _ w) _) (fun a hA => ?_); refine takeFs (i := 11) hA 72 rfl rfl (by decide) rfl rfl rfl (by kernel_rfl) (by kernel_rfl) (by kernel_rfl) (fun _ _ _ h => h) hS (fun wx hx => R_ld hA rfl rfl ag_i ((LL.below hx).row _ _ hLj 0 _ rfl)) (fun a hA => ?_); refine takeFs (i := 12) hA 73 rfl rfl (by decide) rfl rfl rfl (by kernel_rfl) (by kernel_rfl) (by kernel_rfl) (fun _ _ _ h => h) hS (fun wx hx => R_eqlIT hA rfl rfl rfl true (q2) _) (fun a hA => ?_); refine takeF (i := 13) hA 74 rfl rfl (by decide) rfl (by kernel_rfl) (by kernel_rfl) (by kernel_rfl) (fun _ _ _ h => h) hS (fun wx hx => R_pick hA rfl rfl rfl _) (fun a hA => ?_); refine takeF (i := 14) hA 75 rfl rfl (by decide) rfl (by kernel_rfl) (by kernel_rfl) (by kernel_rfl) (fun _ _ _ h => h) hS (fun wx hx => R_mov hA rfl rfl _) (fun a hA => ?_)
        refine takeFs (i := 15) hA 76 rfl rfl (by decide) rfl rfl rfl (by kernel_rfl) (by kernel_rfl) (by kernel_rfl) (fun _ _ _ h => h) hS (fun wx hx => R_mov hA rfl rfl _) (fun a hA => ?_); refine takeFs (i := 16) hA 77 rfl rfl (by decide) rfl rfl rfl (by kernel_rfl) (by kernel_rfl) (by kernel_rfl) (fun _ _ _ h => h) hS (fun wx hx => R_mov hA rfl rfl _) (fun a hA => ?_); refine takeFs (i := 17) hA 78 rfl rfl (by decide) rfl rfl rfl (by kernel_rfl) (by kernel_rfl) (by kernel_rfl) (fun _ _ _ h => h) hS (fun wx hx => R_index2 hA rfl rfl rfl (fun w => ix_line gR L.length CR k ck w) _) (fun a hA => ?_); refine takeFs (i := 18) hA 79 rfl rfl (by decide) rfl rfl rfl (by kernel_rfl) (by kernel_rfl) (by kernel_rfl) (fun _ _ _ h => h) hS (fun wx hx => R_fa hA rfl rfl (fun w => fa_line1 _ _ w) _) (fun a hA => ?_); refine takeFs (i := 19) hA 80 rfl rfl (by decide) rfl rfl rfl (by kernel_rfl) (by kernel_rfl) (by kernel_rfl) (fun _ _ _ h => h) hS (fun wx hx => R_ld hA rfl rfl ag_s ((LL.below hx).row _ _ hLk 1 _ rfl)) (fun a hA => ?_); refine takeFs (i := 20) hA 81 rfl rfl (by decide) rfl rfl rfl (by kernel_rfl) (by kernel_rfl) (by kernel_rfl) (fun _ _ _ h => h) hS (fun wx hx => R_mov hA rfl rfl _) (fun a hA => ?_); refine takeFs (i := 21) hA 82 rfl rfl (by decide) rfl rfl rfl (by kernel_rfl) (by kernel_rfl) (by kernel_rfl) (fun _ _ _ h => h) hS (fun wx hx => R_mov hA rfl rfl _) (fun a hA => ?_); refine takeFs (i := 22) hA 83 rfl rfl (by decide) rfl rfl rfl (by kernel_rfl) (by kernel_rfl) (by kernel_rfl) (fun _ _ _ h => h) hS (fun wx hx => R_index2 hA rfl rfl rfl (fun w => ix_line gR L.length CR j (by omega) w) _) (fun a hA => ?_); refine takeFs (i := 23) hA 84 rfl rfl (by decide) rfl rfl rfl (by kernel_rfl) (by kernel_rfl) (by kernel_rfl) (fun _ _ _ h => h) hS (fun wx hx => R_fa hA rfl rfl (fun w => fa_line1 _ _ w) _) (fun a hA => ?_); refine takeFs (i := 24) hA 85 rfl rfl (by decide) rfl rfl rfl (by kernel_rfl) (by kernel_rfl) (by kernel_rfl) (fun _ _ _ h => h) hS (fun wx hx => R_ld hA rfl rfl ag_s ((LL.below hx).row _ _ hLj 1 _ rfl)) (fun a hA => ?_); refine takeFs (i := 25) hA 86 rfl rfl (by decide) rfl rfl rfl (by kernel_rfl) (by kernel_rfl) (by kernel_rfl) (fun _ _ _ h => h) hS (fun wx hx => R_eqlLT hA rfl rfl rfl false (q3) _) (fun a hA => ?_); refine takeF (i := 26) hA 87 rfl rfl (by decide) rfl (by kernel_rfl) (by kernel_rfl) (by kernel_rfl) (fun _ _ _ h => h) hS (fun wx hx => R_pick hA rfl rfl rfl _) (fun a hA => ?_); refine wpAnyH_done (by kernel_rfl) ?_ _; replace LL := LL.below hS; replace HB := HB.trans (hS.mono HB.size); clear hS; refine then_nrm ?_; show Code.wp Tryz.prog _ _ _ _; refine wp_cond_false (hA.ev (x := .tmp 87) rfl) ?_; refine wp_skip ?_; refine blk_nrm ?_; refine then_nrm ?_; show Code.wp Tryz.prog _ _ _ _; refine wp_region_list ?_; refine W_val hA rfl _ rfl (by decide) _ _ (R_mov hA rfl rfl _) (fun a hA => ?_); refine W_val hA rfl _ rfl (by decide) _ _ (R_addI hA rfl rfl rfl _) (fun a hA => ?_); refine W_val hA rfl _ rfl (by decide) _ _ (R_asg hA rfl rfl _) fun a hA => ?_
        refine W_nil ?_; refine then_nrm ?_
        exact ⟨cj, FrA.add (hA.re (sa rfl (sa rfl (sa rfl (sn))))) 13 _ ((hA.get 13 _ rfl).trans (congrArg (Value.int .i64) (wrap_upL (by omega)))), HB, LL, dup_next hDj hnx (.inr (by rw [(lab_1 oke q2).1, (lab_1 okd q1).1]; exact fun h => by rw [h] at q3; simp at q3))⟩
      refine wp_seq ?_; refine wp_region_held_drew (S := fun wx => Below wc.heap.size wc wx) (by kernel_rfl) ((Below.refl _ _).drew) (fun hS => ?_); refine takeF (i := 0) hA 61 rfl rfl (by decide) rfl (by kernel_rfl) (by kernel_rfl) (by kernel_rfl) (fun _ _ _ h => h) hS (fun wx hx => R_mov hA rfl rfl _) (fun a hA => ?_); refine takeF (i := 1) hA 62 rfl rfl (by decide) rfl (by kernel_rfl) (by kernel_rfl) (by kernel_rfl) (fun _ _ _ h => h) hS (fun wx hx => R_mov hA rfl rfl _) (fun a hA => ?_); refine takeF (i := 2) hA 63 rfl rfl (by decide) rfl (by kernel_rfl) (by kernel_rfl) (by kernel_rfl) (fun _ _ _ h => h) hS (fun wx hx => R_index2 hA rfl rfl rfl (fun w => ix_line gR L.length CR k ck w) _) (fun a hA => ?_); refine takeF (i := 3) hA 64 rfl rfl (by decide) rfl (by kernel_rfl) (by kernel_rfl) (by kernel_rfl) (fun _ _ _ h => h) hS (fun wx hx => R_fa hA rfl rfl (fun w => fa_line0 _ _ w) _) (fun a hA => ?_); refine takeF (i := 4) hA 65 rfl rfl (by decide) rfl (by kernel_rfl) (by kernel_rfl) (by kernel_rfl) (fun _ _ _ h => h) hS (fun wx hx => R_ld hA rfl rfl ag_i ((LL.below hx).row _ _ hLk 0 _ rfl)) (fun a hA => ?_); refine takeF (i := 5) hA 66 rfl rfl (by decide) rfl (by kernel_rfl) (by kernel_rfl) (by kernel_rfl) (fun _ _ _ h => h) hS (fun wx hx => R_eqlIT hA rfl rfl rfl true (q1) _) (fun a hA => ?_); refine takeF (i := 6) hA 67 rfl rfl (by decide) rfl (by kernel_rfl) (by kernel_rfl) (by kernel_rfl) (fun _ _ _ h => h) hS (fun wx hx => R_mov hA rfl rfl _) (fun a hA => ?_); refine takeFs (i := 7) hA 68 rfl rfl (by decide) rfl rfl rfl (by kernel_rfl) (by kernel_rfl) (by kernel_rfl) (fun _ _ _ h => h) hS (fun wx hx => R_mov hA rfl rfl _) (fun a hA => ?_); refine takeFs (i := 8) hA 69 rfl rfl (by decide) rfl rfl rfl (by kernel_rfl) (by kernel_rfl) (by kernel_rfl) (fun _ _ _ h => h) hS (fun wx hx => R_mov hA rfl rfl _) (fun a hA => ?_); refine takeFs (i := 9) hA 70 rfl rfl (by decide) rfl rfl rfl (by kernel_rfl) (by kernel_rfl) (by kernel_rfl) (fun _ _ _ h => h) hS (fun wx hx => R_index2 hA rfl rfl rfl (fun w => ix_line gR L.length CR j (by omega) w) _) (fun a hA => ?_); refine takeFs (i := 10) hA 71 rfl rfl (by decide) rfl rfl rfl (by kernel_rfl) (by kernel_rfl) (by kernel_rfl) (fun _ _ _ h => h) hS (fun wx hx => R_fa hA rfl rfl (fun w => fa_line0 _ _ w) _) (fun a hA => ?_); refine takeFs (i := 11) hA 72 rfl rfl (by decide) rfl rfl rfl (by kernel_rfl) (by kernel_rfl) (by kernel_rfl) (fun _ _ _ h => h) hS (fun wx hx => R_ld hA rfl rfl ag_i ((LL.below hx).row _ _ hLj 0 _ rfl)) (fun a hA => ?_); refine takeFs (i := 12) hA 73 rfl rfl (by decide) rfl rfl rfl (by kernel_rfl) (by kernel_rfl) (by kernel_rfl) (fun _ _ _ h => h) hS (fun wx hx => R_eqlIT hA rfl rfl rfl true (q2) _) (fun a hA => ?_); refine takeF (i := 13) hA 74 rfl rfl (by decide) rfl (by kernel_rfl) (by kernel_rfl) (by kernel_rfl) (fun _ _ _ h => h) hS (fun wx hx => R_pick hA rfl rfl rfl _) (fun a hA => ?_); refine takeF (i := 14) hA 75 rfl rfl (by decide) rfl (by kernel_rfl) (by kernel_rfl) (by kernel_rfl) (fun _ _ _ h => h) hS (fun wx hx => R_mov hA rfl rfl _) (fun a hA => ?_)
      refine takeFs (i := 15) hA 76 rfl rfl (by decide) rfl rfl rfl (by kernel_rfl) (by kernel_rfl) (by kernel_rfl) (fun _ _ _ h => h) hS (fun wx hx => R_mov hA rfl rfl _) (fun a hA => ?_); refine takeFs (i := 16) hA 77 rfl rfl (by decide) rfl rfl rfl (by kernel_rfl) (by kernel_rfl) (by kernel_rfl) (fun _ _ _ h => h) hS (fun wx hx => R_mov hA rfl rfl _) (fun a hA => ?_); refine takeFs (i := 17) hA 78 rfl rfl (by decide) rfl rfl rfl (by kernel_rfl) (by kernel_rfl) (by kernel_rfl) (fun _ _ _ h => h) hS (fun wx hx => R_index2 hA rfl rfl rfl (fun w => ix_line gR L.length CR k ck w) _) (fun a hA => ?_); refine takeFs (i := 18) hA 79 rfl rfl (by decide) rfl rfl rfl (by kernel_rfl) (by kernel_rfl) (by kernel_rfl) (fun _ _ _ h => h) hS (fun wx hx => R_fa hA rfl rfl (fun w => fa_line1 _ _ w) _) (fun a hA => ?_); refine takeFs (i := 19) hA 80 rfl rfl (by decide) rfl rfl rfl (by kernel_rfl) (by kernel_rfl) (by kernel_rfl) (fun _ _ _ h => h) hS (fun wx hx => R_ld hA rfl rfl ag_s ((LL.below hx).row _ _ hLk 1 _ rfl)) (fun a hA => ?_); refine takeFs (i := 20) hA 81 rfl rfl (by decide) rfl rfl rfl (by kernel_rfl) (by kernel_rfl) (by kernel_rfl) (fun _ _ _ h => h) hS (fun wx hx => R_mov hA rfl rfl _) (fun a hA => ?_); refine takeFs (i := 21) hA 82 rfl rfl (by decide) rfl rfl rfl (by kernel_rfl) (by kernel_rfl) (by kernel_rfl) (fun _ _ _ h => h) hS (fun wx hx => R_mov hA rfl rfl _) (fun a hA => ?_); refine takeFs (i := 22) hA 83 rfl rfl (by decide) rfl rfl rfl (by kernel_rfl) (by kernel_rfl) (by kernel_rfl) (fun _ _ _ h => h) hS (fun wx hx => R_index2 hA rfl rfl rfl (fun w => ix_line gR L.length CR j (by omega) w) _) (fun a hA => ?_); refine takeFs (i := 23) hA 84 rfl rfl (by decide) rfl rfl rfl (by kernel_rfl) (by kernel_rfl) (by kernel_rfl) (fun _ _ _ h => h) hS (fun wx hx => R_fa hA rfl rfl (fun w => fa_line1 _ _ w) _) (fun a hA => ?_); refine takeFs (i := 24) hA 85 rfl rfl (by decide) rfl rfl rfl (by kernel_rfl) (by kernel_rfl) (by kernel_rfl) (fun _ _ _ h => h) hS (fun wx hx => R_ld hA rfl rfl ag_s ((LL.below hx).row _ _ hLj 1 _ rfl)) (fun a hA => ?_); refine takeFs (i := 25) hA 86 rfl rfl (by decide) rfl rfl rfl (by kernel_rfl) (by kernel_rfl) (by kernel_rfl) (fun _ _ _ h => h) hS (fun wx hx => R_eqlLT hA rfl rfl rfl true (q3) _) (fun a hA => ?_); refine takeF (i := 26) hA 87 rfl rfl (by decide) rfl (by kernel_rfl) (by kernel_rfl) (by kernel_rfl) (fun _ _ _ h => h) hS (fun wx hx => R_pick hA rfl rfl rfl _) (fun a hA => ?_); refine wpAnyH_done (by kernel_rfl) ?_ _; replace LL := LL.below hS; replace HB := HB.trans (hS.mono HB.size); clear hS; refine then_nrm ?_; show Code.wp Tryz.prog _ _ _ _; refine wp_cond_true (hA.ev (x := .tmp 87) rfl) ?_; refine wp_seq (wp_region_list ?_); refine W_val hA rfl _ rfl (by decide) _ _ (R_mov hA rfl rfl _) (fun a hA => ?_); refine W_val hA rfl _ rfl (by decide) _ _ (R_addI hA rfl rfl rfl _) (fun a hA => ?_); (iterate 3 refine W_val hA rfl _ rfl (by decide) _ _ (R_asg hA rfl rfl _) fun a hA => ?_); refine W_nil (then_nrm ?_); show Code.wp Tryz.prog _ _ _ _
      refine wp_ret ?_; refine blk_ret ?_; refine then_ret ?_; refine then_ret ?_; refine blk_ret ?_; refine blk_ret ?_; refine then_ret ?_; refine then_ret ?_; refine blk_ret ?_; refine then_ret ?_
      exact ret_three (i := 4) (j := 5) (k := 6) (by kernel_rfl) hA rfl rfl rfl (as_fault (HR2.trans (asm_dup (by omega) hdup (dup_of (j := j) cj (by rw [ss_at hDk]; exact (lab_1 okd q1).2) (by rw [ss_at hDk, ss_at hDj, (lab_1 okd q1).1, (lab_1 oke q2).1]; exact (eq_of_beq q3).symm)))) (HBA.trans (HB.mono HBA.size)) (by rw [wrap_upL (by omega)]; omega))
    refine wp_exit ?_; refine then_ext ?_; refine then_ext ?_; refine blk_eq ?_; refine blk_nrm ?_; refine then_nrm ?_; show Code.wp Tryz.prog _ _ _ _; refine wp_region_list ?_; refine W_val hA rfl _ rfl (by decide) _ _ (R_mov hA rfl rfl _) (fun a hA => ?_); refine W_val hA rfl _ rfl (by decide) _ _ (R_addI hA rfl rfl rfl _) (fun a hA => ?_); refine W_val hA rfl _ rfl (by decide) _ _ (R_asg hA rfl rfl _) (fun a hA => ?_); refine W_nil ?_; refine then_nrm ?_; refine ⟨ck, FrA.add (hA.re (sa rfl (sa rfl (sn)))) 12 _ ((hA.get 12 _ rfl).trans (congrArg (Value.int .i64) (wrap_upL (by omega)))), HB, LL, dup_step hDk hdup ?_⟩
    obtain rfl : j = k := by have := of_decide_eq_false c6; omega
    exact hnx
  obtain rfl : k = L.length := by have := of_decide_eq_false c5; omega
  have hd : ∀ i, i < (D.map stmG).length → dupAt (D.map stmG) base i = false := fun i hi => hdup i (by omega)
  have hPL : ∀ lb : Bs, lb ≠ [] → placeGo lb L base = (labF (D.map stmG) base (D.map stmG).length) lb := fun lb h => by
    rw [place_lab h hbase hDn.symm (fun k d hk => (hDok k d hk).2) (fun d hq => by
      obtain ⟨k, hk, e⟩ := List.getElem_of_mem hq
      have := dok_size (hDok k d (by rw [List.getElem?_eq_getElem hk, e])).1
      omega) (fun i hi => hd i (by rw [List.length_map]; exact hi)), List.length_map]
  refine wp_exit ?_; refine then_ext ?_; refine then_ext ?_; refine blk_eq ?_; refine then_nrm ?_; show Code.wp Tryz.prog _ _ _ _; refine wp_seq (wp_region_list ?_); refine W_val hA rfl _ rfl (by decide) _ _ (R_asg hA rfl rfl _) (fun a hA => ?_); refine W_nil (then_nrm ?_); show Code.wp Tryz.prog _ _ _ _; refine wp_seq (wp_region_list ?_); refine W_val hA rfl _ rfl (by decide) _ _ (R_mov hA rfl rfl _) (fun a hA => ?_); refine W_val hA rfl _ rfl (by decide) _ _ (R_asg hA rfl rfl _) (fun a hA => ?_); refine W_nil (then_nrm ?_); show Code.wp Tryz.prog _ _ _ _; refine wp_seq ?_; refine wp_seq (wp_region_list ?_); refine W_val hA rfl _ rfl (by decide) _ _ (R_asg hA rfl rfl _) (fun a hA => ?_); refine W_nil (then_nrm ?_); show Code.wp Tryz.prog _ _ _ _; refine wp_block ?_; refine loop_cnt 16 L.length (fun k a' w' => ∃ v14 : Value, FrA [(16, .int .i64 (k : Int)), (15, .int .u64 (atK (D.map stmG) base k)), (14, v14), (7, .slice (some ⟨gR, 0, none⟩) L.length CR), (1, .int .u64 base)] 213 a' ∧ Below wa.heap.size wa w' ∧ LinesR w' gR L ∧ OwnW w' wa.heap.size v14 (outW (D.map stmG) (labF (D.map stmG) base (D.map stmG).length) base k) ∧ ∀ i, i < k → (lkAt (D.map stmG) (labF (D.map stmG) base (D.map stmG).length) base i).1 = 0) (fun k a' w' h => by obtain ⟨_, h, _⟩ := h; exact ⟨_, h.get 16 _ rfl⟩) ⟨_, hA.re (sa rfl (sa rfl (sa rfl (sa rfl (sa rfl (sn)))))), HB, LL, ownW_nil _ _, fun i hi => absurd hi (by omega)⟩ (fun k a wb hk h => ?_); clear HB LL hA
  obtain ⟨v14, hA, HB, LL, OW, hlk⟩ := h
  have hol := out_len hsz k hlk
  have hok : (outW (D.map stmG) (labF (D.map stmG) base (D.map stmG).length) base k).length ≤ 100 * 8001 := Nat.le_trans hol (by omega)
  refine wp_seq ?_; refine wp_seq (wp_region_list ?_); (iterate 2 refine W_val hA rfl _ rfl (by decide) _ _ (R_mov hA rfl rfl _) fun a hA => ?_); refine W_val hA rfl _ rfl (by decide) _ _ (R_lenR hA rfl rfl _) (fun a hA => ?_); refine W_val hA rfl _ rfl (by decide) _ _ (R_lssI hA rfl rfl rfl _) (fun a hA => ?_); refine W_nil (then_nrm ?_); show Code.wp Tryz.prog _ _ _ _; refine wp_cond_split (hA.ev (x := .tmp 94) rfl) (fun c7 => ?_) (fun c7 => ?_)
  · skip
    have ck : k < L.length := by have := of_decide_eq_true c7; omega
    obtain ⟨d, p, c, hDk, okd, hLk, hRk⟩ := hat ck
    refine wp_skip ?_; refine then_nrm ?_; show Code.wp Tryz.prog _ _ _ _; refine wp_seq ?_; refine wp_block ?_; refine wp_seq (wp_region_list ?_); (iterate 2 refine W_val hA rfl _ rfl (by decide) _ _ (R_mov hA rfl rfl _) fun a hA => ?_); refine W_val hA rfl _ rfl (by decide) _ _ (R_index2 hA rfl rfl rfl (fun w => ix_line gR L.length CR k ck w) _) (fun a hA => ?_); refine W_val hA rfl _ rfl (by decide) _ _ (R_line hA rfl rfl (LL.row _ _ hLk)) (fun a hA => ?_); refine W_allocLn hA rfl 17 rfl (by decide) rfl (fun w6 bLN a hA hb LN gLN => ?_); replace gLN := Nat.le_trans HB.size gLN; replace LL := LL.below hb; replace OW := ownW_below OW hb; replace HB := HB.trans (hb.mono HB.size); clear hb; refine W_cpLn hA rfl rfl rfl rfl rfl LN (fun w7 hT HN => ?_); replace LL := LinesR.tch LL hT (by omega); replace OW := ownW_tch OW hT LN; replace HB := HB.trans (hT.bel _ gLN); replace LN := HN; clear hT HN; refine W_nil (then_nrm ?_); show Code.wp Tryz.prog _ _ _ _; refine wp_seq (wp_region_list ?_); refine W_val hA rfl _ rfl (by decide) _ _ (R_asg hA rfl rfl _) (fun a hA => ?_); refine W_nil (then_nrm ?_); show Code.wp Tryz.prog _ _ _ _; refine wp_seq (wp_merge (fun a' w' => ∃ gv : Int, FrA [(18, .int .i64 gv), (17, .pointer (some ⟨bLN, 0, none⟩)), (16, .int .i64 (k : Int)), (15, .int .u64 (atK (D.map stmG) base k)), (14, v14), (7, .slice (some ⟨gR, 0, none⟩) L.length CR), (1, .int .u64 base)] 213 a' ∧ Below wa.heap.size wa w' ∧ LinesR w' gR L ∧ OwnW w' wa.heap.size v14 (outW (D.map stmG) (labF (D.map stmG) base (D.map stmG).length) base k) ∧ LnD w' bLN (ldOf d p c) ∧ Goes (labF (D.map stmG) base (D.map stmG).length) (atK (D.map stmG) base k) d gv) ?_ (fun a w9 h => ?_))
    · skip
      refine wp_seq (wp_region_list ?_); refine W_val hA rfl _ rfl (by decide) _ _ (R_fa hA rfl rfl (fun w => fl_0 _ w) _) (fun a hA => ?_); refine W_val hA rfl _ rfl (by decide) _ _ (R_ld hA rfl rfl ag_i (LnD.cell LN 0 _ rfl)) (fun a hA => ?_); refine W_val hA rfl _ rfl (by decide) _ _ (R_neqIT hA rfl rfl rfl _ rfl _) (fun a hA => ?_); refine W_val hA rfl _ rfl (by decide) _ _ (R_mov hA rfl rfl _) (fun a hA => ?_); refine W_split hA 104 rfl (fun c8 hA => ?_) (fun c8 hA => ?_)
      · skip
        refine W_gval hA rfl rfl rfl _ rfl (by decide) _ _ (R_fa hA rfl rfl (fun w => fl_1 _ w) _) (fun a hA => ?_); refine W_gval hA rfl rfl rfl _ rfl (by decide) _ _ (R_ld hA rfl rfl ag_s (LnD.cell LN 1 _ rfl)) (fun a hA => ?_); refine W_gval hA rfl rfl rfl _ rfl (by decide) _ _ (R_neqL hA rfl rfl rfl _) (fun a hA => ?_); refine W_val hA rfl _ rfl (by decide) _ _ (R_pick hA rfl rfl rfl _) (fun a hA => ?_); refine W_nil (then_nrm ?_); show Code.wp Tryz.prog _ _ _ _; refine wp_cond_split (hA.ev (x := .tmp 108) rfl) (fun c9 => ?_) (fun c9 => ?_)
        · skip
          have hlb : (ldOf d p c).lb ≠ [] := by simpa using c9
          have hpg := hPL _ hlb
          cases hpl : (labF (D.map stmG) base (D.map stmG).length) (ldOf d p c).lb
          · rw [hpl] at hpg
            refine wp_seq (wp_region_list ?_); (iterate 2 refine W_val hA rfl _ rfl (by decide) _ _ (R_mov hA rfl rfl _) fun a hA => ?_); refine W_val hA rfl _ rfl (by decide) _ _ (R_fa hA rfl rfl (fun w => fl_1 _ w) _) (fun a hA => ?_); refine W_val hA rfl _ rfl (by decide) _ _ (R_ld hA rfl rfl ag_s (LnD.cell LN 1 _ rfl)) (fun a hA => ?_); refine W_callA hA (by decide) (fun _ _ => by kernel_rfl) (args3 hA rfl rfl rfl) (place_no hLok (by omega) LL hpg) (fun w8 hw a hA => ?_); replace LL := LL.below hw; replace OW := ownW_below OW hw; replace LN := LN.below hw; replace HB := HB.trans (hw.mono HB.size); clear hw; refine W_val hA rfl _ rfl (by decide) _ _ (R_mov hA rfl rfl _) (fun a hA => ?_); (iterate 2 refine W_val hA rfl _ rfl (by decide) _ _ (R_extract hA rfl rfl rfl _) fun a hA => ?_); (iterate 2 refine W_val hA rfl _ rfl (by decide) _ _ (R_asg hA rfl rfl _) fun a hA => ?_); refine W_nil (then_nrm ?_); show Code.wp Tryz.prog _ _ _ _; refine wp_seq ?_; refine wp_seq (wp_region_list ?_); refine W_val hA rfl _ rfl (by decide) _ _ (R_mov hA rfl rfl _) (fun a hA => ?_); refine W_val hA rfl _ rfl (by decide) _ _ (R_not hA rfl rfl _) (fun a hA => ?_); refine W_nil (then_nrm ?_); show Code.wp Tryz.prog _ _ _ _; refine wp_cond_true (hA.ev (x := .tmp 118) rfl) ?_; refine wp_seq (wp_region_list ?_); refine W_val hA rfl _ rfl (by decide) _ _ (R_mov hA rfl rfl _) (fun a hA => ?_); refine W_val hA rfl _ rfl (by decide) _ _ (R_addI hA rfl rfl rfl _) (fun a hA => ?_); (iterate 3 refine W_val hA rfl _ rfl (by decide) _ _ (R_asg hA rfl rfl _) fun a hA => ?_); refine W_nil (then_nrm ?_); show Code.wp Tryz.prog _ _ _ _; refine wp_ret ?_; refine then_ret ?_; refine then_ret ?_; refine blk_ret ?_; refine then_ret ?_; refine then_ret ?_; refine blk_ret ?_; refine then_ret ?_
            exact ret_three (i := 4) (j := 5) (k := 6) (by kernel_rfl) hA rfl rfl rfl (as_fault (asm_farA HR2 hd (by omega) hlk (lk_is hDk (lab_none c8 c9 hpl)) (by decide)) (HBA.trans (HB.mono HBA.size)) (by rw [wrap_upL (by omega)]; omega))
          rename_i x
          rw [hpl] at hpg
          refine wp_seq (wp_region_list ?_); (iterate 2 refine W_val hA rfl _ rfl (by decide) _ _ (R_mov hA rfl rfl _) fun a hA => ?_); refine W_val hA rfl _ rfl (by decide) _ _ (R_fa hA rfl rfl (fun w => fl_1 _ w) _) (fun a hA => ?_); refine W_val hA rfl _ rfl (by decide) _ _ (R_ld hA rfl rfl ag_s (LnD.cell LN 1 _ rfl)) (fun a hA => ?_); refine W_callA hA (by decide) (fun _ _ => by kernel_rfl) (args3 hA rfl rfl rfl) (place_yes hLok (by omega) LL hpg) (fun w9 hw a hA => ?_); replace LL := LL.below hw; replace OW := ownW_below OW hw; replace LN := LN.below hw; replace HB := HB.trans (hw.mono HB.size); clear hw; refine W_val hA rfl _ rfl (by decide) _ _ (R_mov hA rfl rfl _) (fun a hA => ?_); (iterate 2 refine W_val hA rfl _ rfl (by decide) _ _ (R_extract hA rfl rfl rfl _) fun a hA => ?_); (iterate 2 refine W_val hA rfl _ rfl (by decide) _ _ (R_asg hA rfl rfl _) fun a hA => ?_); refine W_nil (then_nrm ?_); show Code.wp Tryz.prog _ _ _ _; refine wp_seq ?_; refine wp_seq (wp_region_list ?_); refine W_val hA rfl _ rfl (by decide) _ _ (R_mov hA rfl rfl _) (fun a hA => ?_); refine W_val hA rfl _ rfl (by decide) _ _ (R_not hA rfl rfl _) (fun a hA => ?_); refine W_nil (then_nrm ?_); show Code.wp Tryz.prog _ _ _ _; refine wp_cond_false (hA.ev (x := .tmp 118) rfl) ?_; refine wp_skip ?_; refine then_nrm ?_; show Code.wp Tryz.prog _ _ _ _; refine wp_region_list ?_; (iterate 2 refine W_val hA rfl _ rfl (by decide) _ _ (R_mov hA rfl rfl _) fun a hA => ?_); refine W_val hA rfl _ rfl (by decide) _ _ (R_subU hA rfl rfl rfl _) (fun a hA => ?_); refine W_val hA rfl _ rfl (by decide) _ _ (R_cvUJ hA rfl rfl _) (fun a hA => ?_); refine W_val hA rfl _ rfl (by decide) _ _ (R_asg hA rfl rfl _) (fun a hA => ?_); refine W_nil ?_; refine then_nrm ?_
          exact ⟨farZ x (atK (D.map stmG) base k), hA.re (sa rfl (sa rfl (sa rfl (sa rfl (sa rfl (sa rfl (sa rfl (sn)))))))), HB, LL, OW, LN, goes_some hpl⟩
        refine wp_skip ?_; refine then_nrm ?_
        exact ⟨0, hA.re (sa rfl (sa rfl (sa rfl (sa rfl (sa rfl (sa rfl (sa rfl (sn)))))))), HB, LL, OW, LN, goes_none okd (.inr c9)⟩
      (iterate 3 refine W_gskip hA rfl rfl rfl _ rfl (by decide) fun a hA => ?_); refine W_val hA rfl _ rfl (by decide) _ _ (R_pick hA rfl rfl rfl _) (fun a hA => ?_); refine W_nil (then_nrm ?_); show Code.wp Tryz.prog _ _ _ _; refine wp_cond_false (hA.ev (x := .tmp 108) rfl) ?_; refine wp_skip ?_; refine then_nrm ?_
      exact ⟨0, hA.re (sa rfl (sa rfl (sa rfl (sa rfl (sa rfl (sa rfl (sa rfl (sn)))))))), HB, LL, OW, LN, goes_none okd (.inl c8)⟩
    clear HB LL OW LN hA
    obtain ⟨gv, hA, HB, LL, OW, LN, hgo⟩ := h
    refine wp_seq (wp_region_list ?_); refine W_val hA rfl _ rfl (by decide) _ _ (R_asg hA rfl rfl _) (fun a hA => ?_); refine W_nil (then_nrm ?_); show Code.wp Tryz.prog _ _ _ _; refine wp_seq (wp_merge (fun a' w' => ∃ (v21 v : Value) (ins : List Ins) (pre ws : List Int) (ld : LD), FrA [(21, v21), (17, .pointer (some ⟨bLN, 0, none⟩)), (16, .int .i64 (k : Int)), (15, .int .u64 (atK (D.map stmG) base k)), (14, v), (7, .slice (some ⟨gR, 0, none⟩) L.length CR), (1, .int .u64 base)] 213 a' ∧ Below wa.heap.size wa w' ∧ LinesR w' gR L ∧ OwnW w' wa.heap.size v pre ∧ LnD w' bLN ld ∧ OwnI w' w.heap.size v21 ins ∧ LineEnd (labF (D.map stmG) base (D.map stmG).length) (atK (D.map stmG) base k) d (outW (D.map stmG) (labF (D.map stmG) base (D.map stmG).length) base k) ins pre ws ld) ?_ (fun a w9 h => ?_))
    · skip
      have hAq := hA
      clear hA
      rcases d with _ | m | i | ⟨rd, n⟩ | ⟨rd, m⟩ | ⟨i, m⟩ | x | _
      · skip
        have hA := hAq
        replace LN : LnD _ bLN ldZ := LN; refine wp_seq (wp_region_list ?_); refine W_val hA rfl _ rfl (by decide) _ _ (R_fa hA rfl rfl (fun w => fl_0 _ w) _) (fun a hA => ?_); refine W_val hA rfl _ rfl (by decide) _ _ (R_ld hA rfl rfl ag_i (LnD.cell LN 0 _ rfl)) (fun a hA => ?_); refine W_nil (then_nrm ?_); show Code.wp Tryz.prog _ _ _ _; refine wp_block ?_; refine W_test hA rfl (by decide) (by decide) rfl rfl (fun cz => absurd (show false = true from cz) (by decide)) (fun cz a hA => ?_); refine W_test hA rfl (by decide) (by decide) rfl rfl (fun cz => absurd (show false = true from cz) (by decide)) (fun cz a hA => ?_); refine W_test hA rfl (by decide) (by decide) rfl rfl (fun cz => absurd (show false = true from cz) (by decide)) (fun cz a hA => ?_); refine W_test hA rfl (by decide) (by decide) rfl rfl (fun cz => absurd (show false = true from cz) (by decide)) (fun cz a hA => ?_); refine wp_skip ?_; refine blk_nrm ?_; refine then_nrm ?_
        exact ⟨_, _, _, _, _, ldOf .empty p c, hA.re (sa rfl (sa rfl (sa rfl (sa rfl (sa rfl (sa rfl (sa rfl (sn)))))))), HB, LL, OW, LN, (ownI_nil _ _), (fin_none (.inl rfl))⟩
      · skip
        have hA := hAq
        replace LN : LnD _ bLN ⟨1, m, insZ, none, 0, 0, 0, 0⟩ := LN; refine wp_seq (wp_region_list ?_); refine W_val hA rfl _ rfl (by decide) _ _ (R_fa hA rfl rfl (fun w => fl_0 _ w) _) (fun a hA => ?_); refine W_val hA rfl _ rfl (by decide) _ _ (R_ld hA rfl rfl ag_i (LnD.cell LN 0 _ rfl)) (fun a hA => ?_); refine W_nil (then_nrm ?_); show Code.wp Tryz.prog _ _ _ _; refine wp_block ?_; refine W_test hA rfl (by decide) (by decide) rfl rfl (fun cz => absurd (show false = true from cz) (by decide)) (fun cz a hA => ?_); refine W_test hA rfl (by decide) (by decide) rfl rfl (fun cz => absurd (show false = true from cz) (by decide)) (fun cz a hA => ?_); refine W_test hA rfl (by decide) (by decide) rfl rfl (fun cz => absurd (show false = true from cz) (by decide)) (fun cz a hA => ?_); refine W_test hA rfl (by decide) (by decide) rfl rfl (fun cz => absurd (show false = true from cz) (by decide)) (fun cz a hA => ?_); refine wp_skip ?_; refine blk_nrm ?_; refine then_nrm ?_
        exact ⟨_, _, _, _, _, ldOf (.mark m) p c, hA.re (sa rfl (sa rfl (sa rfl (sa rfl (sa rfl (sa rfl (sa rfl (sn)))))))), HB, LL, OW, LN, (ownI_nil _ _), (fin_none (.inr ⟨m, rfl⟩))⟩
      · skip
        have hA := hAq
        replace LN : LnD _ bLN ⟨2, [], i, none, 0, 0, 0, 0⟩ := LN; refine wp_seq (wp_region_list ?_); refine W_val hA rfl _ rfl (by decide) _ _ (R_fa hA rfl rfl (fun w => fl_0 _ w) _) (fun a hA => ?_); refine W_val hA rfl _ rfl (by decide) _ _ (R_ld hA rfl rfl ag_i (LnD.cell LN 0 _ rfl)) (fun a hA => ?_); refine W_nil (then_nrm ?_); show Code.wp Tryz.prog _ _ _ _; refine wp_block ?_; refine W_test hA rfl (by decide) (by decide) rfl rfl (fun cz a hA => ?_) (fun cz => absurd (show true = false from cz) (by decide)); refine wp_seq ?_; refine wp_seq (wp_region_list ?_); refine W_val hA rfl _ rfl (by decide) _ _ (R_fa hA rfl rfl (fun w => fl_1 _ w) _) (fun a hA => ?_); refine W_val hA rfl _ rfl (by decide) _ _ (R_ld hA rfl rfl ag_s (LnD.cell LN 1 _ rfl)) (fun a hA => ?_); refine W_val hA rfl _ rfl (by decide) _ _ (R_neqLT hA rfl rfl rfl false (rfl) _) (fun a hA => ?_); refine W_nil (then_nrm ?_); show Code.wp Tryz.prog _ _ _ _; refine wp_cond_false (hA.ev (x := .tmp 131) rfl) ?_; refine wp_skip ?_; refine then_nrm ?_; show Code.wp Tryz.prog _ _ _ _; refine wp_region_list ?_; refine W_val hA rfl _ rfl (by decide) _ _ (R_mov hA rfl rfl _) (fun a hA => ?_); refine W_val hA rfl _ rfl (by decide) _ _ (R_fa hA rfl rfl (fun w => fl_2 _ w) _) (fun a hA => ?_); refine W_val hA rfl _ rfl (by decide) _ _ (R_insM hA rfl rfl LN.ins) (fun a hA => ?_); refine W_oneIn hA rfl rfl 149 150 rfl rfl (by decide) (by decide) rfl rfl rfl (B := w.heap.size) rfl (fun h => by cases h) (Nat.le_trans HBA.size HB.size) (fun w10 v21 a hA OI hw => ?_); replace LL := LL.below hw; replace OW := ownW_below OW hw; replace LN := LN.below hw; replace HB := HB.trans (hw.mono HB.size); clear hw; refine W_val hA rfl _ rfl (by decide) _ _ (R_asg hA rfl rfl _) (fun a hA => ?_); refine W_nil ?_; refine blk_nrm ?_; refine then_nrm ?_
        exact ⟨_, _, _, _, _, ldOf (.one i) p c, hA.re (sa rfl (sa rfl (sa rfl (sa rfl (sa rfl (sa rfl (sa rfl (sn)))))))), HB, LL, OW, LN, OI, (fin_one okd)⟩
      · skip
        have hA := hAq
        replace LN : LnD _ bLN ⟨3, [], insZ, p, (liF rd 4 n).length, c, 0, 0⟩ := LN; refine wp_seq (wp_region_list ?_); refine W_val hA rfl _ rfl (by decide) _ _ (R_fa hA rfl rfl (fun w => fl_0 _ w) _) (fun a hA => ?_); refine W_val hA rfl _ rfl (by decide) _ _ (R_ld hA rfl rfl ag_i (LnD.cell LN 0 _ rfl)) (fun a hA => ?_); refine W_nil (then_nrm ?_); show Code.wp Tryz.prog _ _ _ _; refine wp_block ?_; refine W_test hA rfl (by decide) (by decide) rfl rfl (fun cz => absurd (show false = true from cz) (by decide)) (fun cz a hA => ?_); refine W_test hA rfl (by decide) (by decide) rfl rfl (fun cz a hA => ?_) (fun cz => absurd (show true = false from cz) (by decide)); refine wp_region_list ?_; refine W_val hA rfl _ rfl (by decide) _ _ (R_fa hA rfl rfl (fun w => fl_3 _ w) _) (fun a hA => ?_); refine W_val hA rfl _ rfl (by decide) _ _ (R_ld hA rfl rfl ag_sl (LnD.cell LN 10 _ rfl)) (fun a hA => ?_); refine W_val hA rfl _ rfl (by decide) _ _ (R_asg hA rfl rfl _) (fun a hA => ?_); refine W_nil ?_; refine blk_nrm ?_; refine then_nrm ?_
        exact ⟨_, _, _, _, _, ldOf (.many rd n) p c, hA.re (sa rfl (sa rfl (sa rfl (sa rfl (sa rfl (sa rfl (sa rfl (sn)))))))), HB, LL, OW, LN, (ownI_below (show OwnI wa w.heap.size _ _ from hRk) HB), (fin_many okd)⟩
      · skip
        have hA := hAq
        replace LN : LnD _ bLN ⟨4, m, insZ, none, 0, 0, rd, 0⟩ := LN; refine wp_seq (wp_region_list ?_); refine W_val hA rfl _ rfl (by decide) _ _ (R_fa hA rfl rfl (fun w => fl_0 _ w) _) (fun a hA => ?_); refine W_val hA rfl _ rfl (by decide) _ _ (R_ld hA rfl rfl ag_i (LnD.cell LN 0 _ rfl)) (fun a hA => ?_); refine W_nil (then_nrm ?_); show Code.wp Tryz.prog _ _ _ _; refine wp_block ?_; refine W_test hA rfl (by decide) (by decide) rfl rfl (fun cz => absurd (show false = true from cz) (by decide)) (fun cz a hA => ?_); refine W_test hA rfl (by decide) (by decide) rfl rfl (fun cz => absurd (show false = true from cz) (by decide)) (fun cz a hA => ?_); refine W_test hA rfl (by decide) (by decide) rfl rfl (fun cz a hA => ?_) (fun cz => absurd (show true = false from cz) (by decide)); refine wp_seq ?_; refine wp_seq (wp_region_list ?_); refine W_val hA rfl _ rfl (by decide) _ _ (R_mov hA rfl rfl _) (fun a hA => ?_); refine W_val hA rfl _ rfl (by decide) _ _ (R_lssJ hA rfl rfl rfl _) (fun a hA => ?_); refine W_val hA rfl _ rfl (by decide) _ _ (R_mov hA rfl rfl _) (fun a hA => ?_); refine W_split hA 159 rfl (fun c10 hA => ?_) (fun c10 hA => ?_)
        · skip
          (iterate 2 refine W_gskip hA rfl rfl rfl _ rfl (by decide) fun a hA => ?_); refine W_val hA rfl _ rfl (by decide) _ _ (R_pick hA rfl rfl rfl _) (fun a hA => ?_); refine W_nil (then_nrm ?_); show Code.wp Tryz.prog _ _ _ _; refine wp_cond_true (hA.ev (x := .tmp 162) rfl) ?_; refine wp_seq (wp_region_list ?_); refine W_val hA rfl _ rfl (by decide) _ _ (R_mov hA rfl rfl _) (fun a hA => ?_); refine W_val hA rfl _ rfl (by decide) _ _ (R_addI hA rfl rfl rfl _) (fun a hA => ?_); (iterate 3 refine W_val hA rfl _ rfl (by decide) _ _ (R_asg hA rfl rfl _) fun a hA => ?_); refine W_nil (then_nrm ?_); show Code.wp Tryz.prog _ _ _ _; refine wp_ret ?_; refine then_ret ?_; refine blk_ret ?_; refine then_ret ?_; refine blk_ret ?_; refine then_ret ?_; refine then_ret ?_; refine blk_ret ?_; refine then_ret ?_
          exact ret_three (i := 4) (j := 5) (k := 6) (by kernel_rfl) hA rfl rfl rfl (as_fault (asm_farA HR2 hd (by omega) hlk (lk_is hDk (lk_far hgo (.inl (of_decide_eq_true c10)))) (by decide)) (HBA.trans (HB.mono HBA.size)) (by rw [wrap_upL (by omega)]; omega))
        refine W_gval hA rfl rfl rfl _ rfl (by decide) _ _ (R_mov hA rfl rfl _) (fun a hA => ?_); refine W_gval hA rfl rfl rfl _ rfl (by decide) _ _ (R_gtrJ hA rfl rfl rfl _) (fun a hA => ?_); refine W_val hA rfl _ rfl (by decide) _ _ (R_pick hA rfl rfl rfl _) (fun a hA => ?_); refine W_nil (then_nrm ?_); show Code.wp Tryz.prog _ _ _ _; refine wp_cond_split (hA.ev (x := .tmp 162) rfl) (fun c11 => ?_) (fun c11 => ?_)
        · skip
          refine wp_seq (wp_region_list ?_); refine W_val hA rfl _ rfl (by decide) _ _ (R_mov hA rfl rfl _) (fun a hA => ?_); refine W_val hA rfl _ rfl (by decide) _ _ (R_addI hA rfl rfl rfl _) (fun a hA => ?_); (iterate 3 refine W_val hA rfl _ rfl (by decide) _ _ (R_asg hA rfl rfl _) fun a hA => ?_); refine W_nil (then_nrm ?_); show Code.wp Tryz.prog _ _ _ _; refine wp_ret ?_; refine then_ret ?_; refine blk_ret ?_; refine then_ret ?_; refine blk_ret ?_; refine then_ret ?_; refine then_ret ?_; refine blk_ret ?_; refine then_ret ?_
          exact ret_three (i := 4) (j := 5) (k := 6) (by kernel_rfl) hA rfl rfl rfl (as_fault (asm_farA HR2 hd (by omega) hlk (lk_is hDk (lk_far hgo (.inr (of_decide_eq_true c11)))) (by decide)) (HBA.trans (HB.mono HBA.size)) (by rw [wrap_upL (by omega)]; omega))
        refine wp_skip ?_; refine then_nrm ?_; show Code.wp Tryz.prog _ _ _ _
        have hlo : ¬ gv < -2147483648 := of_decide_eq_false c10
        have hhi : ¬ 2147481599 < gv := of_decide_eq_false c11
        have hlw := lowZ_bd gv
        have hsub : -9223372036854775808 ≤ gv - lowZ gv ∧ gv - lowZ gv ≤ 9223372036854775807 := by omega
        refine wp_region_held_drew (S := fun wx => Below w9.heap.size w9 wx) (by kernel_rfl) ((Below.refl _ _).drew) (fun hS => ?_); refine takeF (i := 0) hA 165 rfl rfl (by decide) rfl (by kernel_rfl) (by kernel_rfl) (by kernel_rfl) (fun _ _ _ h => h) hS (fun wx hx => R_mov hA rfl rfl _) (fun a hA => ?_); refine takeF (i := 1) hA 166 rfl rfl (by decide) rfl (by kernel_rfl) (by kernel_rfl) (by kernel_rfl) (fun _ _ _ h => h) hS (fun wx hx => R_fa hA rfl rfl (fun w => fl_4 _ w) _) (fun a hA => ?_); refine takeF (i := 2) hA 167 rfl rfl (by decide) rfl (by kernel_rfl) (by kernel_rfl) (by kernel_rfl) (fun _ _ _ h => h) hS (fun wx hx => R_ld hA rfl rfl ag_i (LnD.cell (LN.below hx) 11 _ rfl)) (fun a hA => ?_); refine takeF (i := 3) hA 168 rfl rfl (by decide) rfl (by kernel_rfl) (by kernel_rfl) (by kernel_rfl) (fun _ _ _ h => h) hS (fun wx hx => R_mov hA rfl rfl _) (fun a hA => ?_); refine takeF (i := 4) hA 169 rfl rfl (by decide) rfl (by kernel_rfl) (by kernel_rfl) (by kernel_rfl) (fun _ _ _ h => h) hS (fun wx hx => R_mov hA rfl rfl _) (fun a hA => ?_); refine takeF (i := 8) hA 173 rfl rfl (by decide) rfl (by kernel_rfl) (by kernel_rfl) (by kernel_rfl) (fun _ _ _ h => h) hS (fun wx hx => R_fa hA rfl rfl (fun w => fl_4 _ w) _) (fun a hA => ?_); refine takeF (i := 9) hA 174 rfl rfl (by decide) rfl (by kernel_rfl) (by kernel_rfl) (by kernel_rfl) (fun _ _ _ h => h) hS (fun wx hx => R_ld hA rfl rfl ag_i (LnD.cell (LN.below hx) 11 _ rfl)) (fun a hA => ?_); refine takeF (i := 10) hA 175 rfl rfl (by decide) rfl (by kernel_rfl) (by kernel_rfl) (by kernel_rfl) (fun _ _ _ h => h) hS (fun wx hx => R_fa hA rfl rfl (fun w => fl_4 _ w) _) (fun a hA => ?_); refine takeF (i := 11) hA 176 rfl rfl (by decide) rfl (by kernel_rfl) (by kernel_rfl) (by kernel_rfl) (fun _ _ _ h => h) hS (fun wx hx => R_ld hA rfl rfl ag_i (LnD.cell (LN.below hx) 11 _ rfl)) (fun a hA => ?_); refine takeF (i := 12) hA 177 rfl rfl (by decide) rfl (by kernel_rfl) (by kernel_rfl) (by kernel_rfl) (fun _ _ _ h => h) hS (fun wx hx => R_mov hA rfl rfl _) (fun a hA => ?_); refine wpAnyH_ready (rs := [5]) (by kernel_rfl) (by simp) (ready_callS (i := 5) hA (by decide) rfl (fun _ _ => by kernel_rfl) (args1 hA rfl) (refLow_any gv _) (fun _ h => h ▸ hS) (fun w11 hw a hA => ?_) AllReadyH.nil); subst hw; refine takeF (i := 6) hA 171 rfl rfl (by decide) rfl (by kernel_rfl) (by kernel_rfl) (by kernel_rfl) (fun _ _ _ h => h) hS (fun wx hx => R_subJ hA rfl rfl rfl hsub _) (fun a hA => ?_); refine takeF (i := 7) hA 172 rfl rfl (by decide) rfl (by kernel_rfl) (by kernel_rfl) (by kernel_rfl) (fun _ _ _ h => h) hS (fun wx hx => R_build (ps := [(0, .const (.int .i64 2)), (1, .tmp 167), (4, .tmp 171)]) hA rfl [(0, .int .i64 2), (1, .int .i64 _), (4, .int .i64 _)] rfl (bld_i4 _ _ _) _) (fun a hA => ?_); refine wpAnyH_ready (rs := [13]) (by kernel_rfl) (by simp) (ready_callS (i := 13) hA (by decide) rfl (fun _ _ => by kernel_rfl) (args1 hA rfl) (refLow_any gv _) (fun _ h => h ▸ hS) (fun w12 hw a hA => ?_) AllReadyH.nil); subst hw
        refine takeF (i := 14) hA 179 rfl rfl (by decide) rfl (by kernel_rfl) (by kernel_rfl) (by kernel_rfl) (fun _ _ _ h => h) hS (fun wx hx => R_build (ps := [(0, .const (.int .i64 22)), (1, .tmp 174), (2, .tmp 176), (4, .tmp 178)]) hA rfl [(0, .int .i64 22), (1, .int .i64 _), (2, .int .i64 _), (4, .int .i64 _)] rfl (bld_i5 _ _ _ _) _) (fun a hA => ?_); refine wpAnyH_ready (rs := [15]) (by kernel_rfl) (by simp) (ready_valW (i := 15) hA 180 rfl rfl (by decide) rfl (hS.alloc hS.size _) (R_bs hA (ps := [(0, .tmp 172), (1, .tmp 179)]) rfl [(0, insV (auipcI rd (gv - lowZ gv))), (1, insV (addI rd rd (lowZ gv)))] rfl Tryz.underlying33 (bs_in2 _ _) _) (fun a hA => ?_) AllReadyH.nil)
        obtain ⟨v21, w14, hr2, OI, hw⟩ := run_two (World.alloc _ (.cells (insCs [auipcI rd (gv - lowZ gv), addI rd rd (lowZ gv)]).toArray 23)) w.heap.size (auipcI rd (gv - lowZ gv)) (addI rd rd (lowZ gv)) (Nat.le_trans (Nat.le_trans HBA.size HB.size) (hS.alloc hS.size _).size) _ 2 (heap_alloc_new _ _) 33
        refine wpAnyH_ready (rs := [16]) (by kernel_rfl) (by simp) (ready_valW (i := 16) hA 181 rfl rfl (by decide) rfl ((hS.alloc hS.size _).trans (hw.mono (hS.alloc hS.size _).size)) (R_ap hA rfl (vs := .slice none 0 0) rfl rfl hr2) (fun a hA => ?_) AllReadyH.nil); replace hS := (hS.alloc hS.size (.cells (insCs [auipcI rd (gv - lowZ gv), addI rd rd (lowZ gv)]).toArray 23)).trans (hw.mono (hS.alloc hS.size _).size); clear hw hr2; refine takeF (i := 17) hA 21 rfl rfl (by decide) rfl (by kernel_rfl) (by kernel_rfl) (by kernel_rfl) (fun _ _ _ h => h) hS (fun wx hx => R_asg hA rfl rfl _) (fun a hA => ?_); refine wpAnyH_done (by kernel_rfl) ?_ _; replace LL := LL.below hS; replace OW := ownW_below OW hS; replace LN := LN.below hS; replace HB := HB.trans (hS.mono HB.size); clear hS; refine blk_nrm ?_; refine then_nrm ?_
        exact ⟨_, _, _, _, _, ldOf (.far rd m) p c, hA.re (sa rfl (sa rfl (sa rfl (sa rfl (sa rfl (sa rfl (sa rfl (sn)))))))), HB, LL, OW, LN, OI, (fin_la okd hgo hlo hhi)⟩
      · skip
        have hA := hAq
        replace LN : LnD _ bLN ⟨2, m, i, none, 0, 0, 0, 0⟩ := LN
        obtain ⟨rs, rm, rt, kf, hkf, hRow, hForm, hFits⟩ := jump_let okd.2.1 okd.2.2
        refine wp_seq (wp_region_list ?_); refine W_val hA rfl _ rfl (by decide) _ _ (R_fa hA rfl rfl (fun w => fl_0 _ w) _) (fun a hA => ?_); refine W_val hA rfl _ rfl (by decide) _ _ (R_ld hA rfl rfl ag_i (LnD.cell LN 0 _ rfl)) (fun a hA => ?_); refine W_nil (then_nrm ?_); show Code.wp Tryz.prog _ _ _ _; refine wp_block ?_; refine W_test hA rfl (by decide) (by decide) rfl rfl (fun cz a hA => ?_) (fun cz => absurd (show true = false from cz) (by decide)); refine wp_seq ?_; refine wp_seq (wp_region_list ?_); refine W_val hA rfl _ rfl (by decide) _ _ (R_fa hA rfl rfl (fun w => fl_1 _ w) _) (fun a hA => ?_); refine W_val hA rfl _ rfl (by decide) _ _ (R_ld hA rfl rfl ag_s (LnD.cell LN 1 _ rfl)) (fun a hA => ?_); refine W_val hA rfl _ rfl (by decide) _ _ (R_neqLT hA rfl rfl rfl true (by have h7 := okd.1.1; simp [h7]) _) (fun a hA => ?_); refine W_nil (then_nrm ?_); show Code.wp Tryz.prog _ _ _ _; refine wp_cond_true (hA.ev (x := .tmp 131) rfl) ?_; refine wp_seq (wp_region_list ?_); refine W_val hA rfl _ rfl (by decide) _ _ (R_mov hA rfl rfl _) (fun a hA => ?_); refine W_val hA rfl _ rfl (by decide) _ _ (R_fa hA rfl rfl (fun w => fl_2 _ w) _) (fun a hA => ?_); refine W_val hA rfl _ rfl (by decide) _ _ (R_fa hA rfl rfl (fun w => fi_4 _ w) _) (fun a hA => ?_); refine W_stImm hA rfl rfl rfl rfl rfl LN (fun w15 hT HN => ?_); replace LL := LinesR.tch LL hT (by omega); replace OW := ownW_tch OW hT LN; replace HB := HB.trans (hT.bel _ gLN); replace LN := HN; clear hT HN; refine W_nil (then_nrm ?_); show Code.wp Tryz.prog _ _ _ _; refine wp_seq (wp_region_list ?_); refine W_val hA rfl _ rfl (by decide) _ _ (R_fa hA rfl rfl (fun w => fl_2 _ w) _) (fun a hA => ?_); refine W_val hA rfl _ rfl (by decide) _ _ (R_fa hA rfl rfl (fun w => fi_0 _ w) _) (fun a hA => ?_); refine W_val hA rfl _ rfl (by decide) _ _ (R_ld hA rfl rfl ag_i (LN.cell 2 _ rfl)) (fun a hA => ?_); refine W_callA hA (by decide) (fun _ _ => by kernel_rfl) (args1 hA rfl) (hRow _) (fun w16 hw a hA => ?_); replace LL := LL.below hw; replace OW := ownW_below OW hw; replace LN := LN.below hw; replace HB := HB.trans (hw.mono HB.size); clear hw; refine W_val hA rfl _ rfl (by decide) _ _ (R_fld hA rfl rfl (fun w => field_form _ _ _ _ w) _) (fun a hA => ?_); refine W_callA hA (by decide) (fun _ _ => by kernel_rfl) (args1 hA rfl) (hForm _) (fun w17 hw a hA => ?_); subst hw; refine W_val hA rfl _ rfl (by decide) _ _ (R_mov hA rfl rfl _) (fun a hA => ?_); refine W_callA hA (by decide) (fun _ _ => by kernel_rfl) (args2 hA rfl rfl) (hFits gv _) (fun w18 hw a hA => ?_); replace LL := LL.below hw; replace OW := ownW_below OW hw; replace LN := LN.below hw; replace HB := HB.trans (hw.mono HB.size); clear hw; refine W_val hA rfl _ rfl (by decide) _ _ (R_not hA rfl rfl _) (fun a hA => ?_); refine W_nil (then_nrm ?_); show Code.wp Tryz.prog _ _ _ _; refine wp_cond_split (hA.ev (x := .tmp 143) rfl) (fun c12 => ?_) (fun c12 => ?_)
        · skip
          refine wp_seq (wp_region_list ?_); refine W_val hA rfl _ rfl (by decide) _ _ (R_mov hA rfl rfl _) (fun a hA => ?_); refine W_val hA rfl _ rfl (by decide) _ _ (R_addI hA rfl rfl rfl _) (fun a hA => ?_); (iterate 3 refine W_val hA rfl _ rfl (by decide) _ _ (R_asg hA rfl rfl _) fun a hA => ?_); refine W_nil (then_nrm ?_); show Code.wp Tryz.prog _ _ _ _; refine wp_ret ?_; refine then_ret ?_; refine blk_ret ?_; refine then_ret ?_; refine blk_ret ?_; refine then_ret ?_; refine then_ret ?_; refine blk_ret ?_; refine then_ret ?_
          exact ret_three (i := 4) (j := 5) (k := 6) (by kernel_rfl) hA rfl rfl rfl (as_fault (asm_farA HR2 hd (by omega) hlk (lk_is hDk (lk_no hgo (by simpa using c12))) (by decide)) (HBA.trans (HB.mono HBA.size)) (by rw [wrap_upL (by omega)]; omega))
        refine wp_skip ?_; refine then_nrm ?_; show Code.wp Tryz.prog _ _ _ _
        have hrt : rightB (withImm i gv) = true := by simpa using c12
        refine wp_region_list ?_; refine W_val hA rfl _ rfl (by decide) _ _ (R_mov hA rfl rfl _) (fun a hA => ?_); refine W_val hA rfl _ rfl (by decide) _ _ (R_fa hA rfl rfl (fun w => fl_2 _ w) _) (fun a hA => ?_); refine W_val hA rfl _ rfl (by decide) _ _ (R_insM hA rfl rfl LN.ins) (fun a hA => ?_); refine W_oneIn hA rfl rfl 149 150 rfl rfl (by decide) (by decide) rfl rfl rfl (B := w.heap.size) rfl (fun h => by cases h) (Nat.le_trans HBA.size HB.size) (fun w19 v21 a hA OI hw => ?_); replace LL := LL.below hw; replace OW := ownW_below OW hw; replace LN := LN.below hw; replace HB := HB.trans (hw.mono HB.size); clear hw; refine W_val hA rfl _ rfl (by decide) _ _ (R_asg hA rfl rfl _) (fun a hA => ?_); refine W_nil ?_; refine blk_nrm ?_; refine then_nrm ?_
        exact ⟨_, _, _, _, _, (ldOf (.aim i m) p c).imm gv, hA.re (sa rfl (sa rfl (sa rfl (sa rfl (sa rfl (sa rfl (sa rfl (sn)))))))), HB, LL, OW, LN, OI, (fin_aim hgo hrt)⟩
      · skip
        have hA := hAq
        replace LN : LnD _ bLN ⟨5, [], insZ, none, 0, 0, 0, x⟩ := LN; refine wp_seq (wp_region_list ?_); refine W_val hA rfl _ rfl (by decide) _ _ (R_fa hA rfl rfl (fun w => fl_0 _ w) _) (fun a hA => ?_); refine W_val hA rfl _ rfl (by decide) _ _ (R_ld hA rfl rfl ag_i (LnD.cell LN 0 _ rfl)) (fun a hA => ?_); refine W_nil (then_nrm ?_); show Code.wp Tryz.prog _ _ _ _; refine wp_block ?_; refine W_test hA rfl (by decide) (by decide) rfl rfl (fun cz => absurd (show false = true from cz) (by decide)) (fun cz a hA => ?_); refine W_test hA rfl (by decide) (by decide) rfl rfl (fun cz => absurd (show false = true from cz) (by decide)) (fun cz a hA => ?_); refine W_test hA rfl (by decide) (by decide) rfl rfl (fun cz => absurd (show false = true from cz) (by decide)) (fun cz a hA => ?_); refine W_test hA rfl (by decide) (by decide) rfl rfl (fun cz a hA => ?_) (fun cz => absurd (show true = false from cz) (by decide)); refine wp_region_list ?_; refine W_val hA rfl _ rfl (by decide) _ _ (R_mov hA rfl rfl _) (fun a hA => ?_); refine W_val hA rfl _ rfl (by decide) _ _ (R_fa hA rfl rfl (fun w => fl_5 _ w) _) (fun a hA => ?_); refine W_val hA rfl _ rfl (by decide) _ _ (R_ld hA rfl rfl ag_w (LnD.cell LN 12 _ rfl)) (fun a hA => ?_); refine W_pushW hA rfl rfl 187 188 rfl rfl (by decide) (by decide) rfl rfl rfl rfl (fun h => by cases h) OW (by omega) HB.size (fun w20 v2 a hA OW2 hO => ?_); replace LL := LinesR.only LL hgR hO OW; replace LN := lnD_onlyW LN hO OW; replace HB := Below.thenOnly HB hO (fun k hk => (ownW_ty OW k hk).1) HB.size; replace OW := OW2; clear OW2 hO; refine W_val hA rfl _ rfl (by decide) _ _ (R_asg hA rfl rfl _) (fun a hA => ?_); refine W_nil ?_; refine blk_nrm ?_; refine then_nrm ?_
        exact ⟨_, _, _, _, _, ldOf (.raw x) p c, hA.re (sa rfl (sa rfl (sa rfl (sa rfl (sa rfl (sa rfl (sa rfl (sn)))))))), HB, LL, OW, LN, (ownI_nil _ _), fin_raw⟩
      · skip
        exact okd.elim
    clear HB LL OW LN hA
    obtain ⟨v21, v, ins, pre, ws, ld, hA, HB, LL, OW, LN, OI, hF⟩ := h
    have hpl2 := hF.pl
    have hil := hF.len
    refine wp_seq ?_; refine wp_seq ?_
    obtain ⟨A21, C21, rfl⟩ := ownI_slice OI
    refine wp_region_list ?_; refine W_val hA rfl _ rfl (by decide) _ _ (R_asg hA rfl rfl _) (fun a hA => ?_); refine W_nil (then_nrm ?_); show Code.wp Tryz.prog _ _ _ _; refine wp_block ?_; refine loop_cnt 22 ins.length (fun j a' w' => ∃ v : Value, FrA [(22, .int .i64 (j : Int)), (21, .slice A21 ins.length C21), (17, .pointer (some ⟨bLN, 0, none⟩)), (16, .int .i64 (k : Int)), (15, .int .u64 (atK (D.map stmG) base k)), (14, v), (7, .slice (some ⟨gR, 0, none⟩) L.length CR), (1, .int .u64 base)] 213 a' ∧ Below wa.heap.size wa w' ∧ LinesR w' gR L ∧ OwnW w' wa.heap.size v (pre ++ (ins.take j).map encW) ∧ LnD w' bLN ld ∧ OwnI w' w.heap.size (.slice A21 ins.length C21) ins) (fun j a' w' h => by obtain ⟨_, h, _⟩ := h; exact ⟨_, h.get 22 _ rfl⟩) ⟨_, hA.re (sa rfl (sa rfl (sa rfl (sa rfl (sa rfl (sa rfl (sa rfl (sa rfl (sn))))))))), HB, LL, by simpa using OW, LN, OI⟩ (fun j a we hj h => ?_); clear HB LL hA OW LN OI
    obtain ⟨v, hA, HB, LL, OW, LN, OI⟩ := h
    refine wp_seq ?_; refine wp_seq (wp_region_list ?_); (iterate 2 refine W_val hA rfl _ rfl (by decide) _ _ (R_mov hA rfl rfl _) fun a hA => ?_); refine W_val hA rfl _ rfl (by decide) _ _ (R_lenIn hA rfl rfl _) (fun a hA => ?_); refine W_val hA rfl _ rfl (by decide) _ _ (R_lssI hA rfl rfl rfl _) (fun a hA => ?_); refine W_nil (then_nrm ?_); show Code.wp Tryz.prog _ _ _ _; refine wp_cond_split (hA.ev (x := .tmp 192) rfl) (fun c13 => ?_) (fun c13 => ?_)
    · skip
      have cj : j < ins.length := by have := of_decide_eq_true c13; omega
      obtain ⟨i, hij⟩ : ∃ i, ins[j]? = some i := ⟨_, List.getElem?_eq_getElem cj⟩
      obtain ⟨gI, CI, eI, IA⟩ := insAt_own OI (fun e => by rw [e] at cj; simp at cj)
      injection eI with e1 _ e3
      subst e1; subst e3; refine wp_skip ?_; refine then_nrm ?_; show Code.wp Tryz.prog _ _ _ _; refine wp_seq ?_; refine wp_block ?_; refine wp_seq (wp_region_list ?_); (iterate 2 refine W_val hA rfl _ rfl (by decide) _ _ (R_mov hA rfl rfl _) fun a hA => ?_); refine W_val hA rfl _ rfl (by decide) _ _ (R_index2 hA rfl rfl rfl (fun w => ix_ins gI ins.length C21 j cj w) _) (fun a hA => ?_); refine W_val hA rfl _ rfl (by decide) _ _ (R_insM hA rfl rfl (IA.row hij)) (fun a hA => ?_); refine W_callA hA (by decide) (fun _ _ => by kernel_rfl) (args1 hA rfl) (rright_enc (hF.all i (List.mem_of_getElem? hij)) _) (fun w21 hw a hA => ?_); replace LL := LL.below hw; replace OW := ownW_below OW hw; replace LN := LN.below hw; replace OI := ownI_below OI hw; replace HB := HB.trans (hw.mono HB.size); clear hw; refine W_val hA rfl _ rfl (by decide) _ _ (R_mov hA rfl rfl _) (fun a hA => ?_); (iterate 2 refine W_val hA rfl _ rfl (by decide) _ _ (R_extract hA rfl rfl rfl _) fun a hA => ?_); (iterate 2 refine W_val hA rfl _ rfl (by decide) _ _ (R_asg hA rfl rfl _) fun a hA => ?_); refine W_nil (then_nrm ?_); show Code.wp Tryz.prog _ _ _ _; refine wp_region_list ?_; (iterate 2 refine W_val hA rfl _ rfl (by decide) _ _ (R_mov hA rfl rfl _) fun a hA => ?_); refine W_pushW hA rfl rfl 205 206 rfl rfl (by decide) (by decide) rfl rfl rfl rfl (fun h => by cases h) OW (by simp only [List.length_append, List.length_map, List.length_take]; omega) HB.size (fun w22 v2 a hA OW2 hO => ?_); replace LL := LinesR.only LL hgR hO OW; replace LN := lnD_onlyW LN hO OW; replace OI := ownI_onlyW OI hO OW; replace HB := Below.thenOnly HB hO (fun k hk => (ownW_ty OW k hk).1) HB.size; replace OW := OW2; clear OW2 hO; refine W_val hA rfl _ rfl (by decide) _ _ (R_asg hA rfl rfl _) (fun a hA => ?_); refine W_nil ?_; refine blk_nrm ?_; refine then_nrm ?_; show Code.wp Tryz.prog _ _ _ _; refine wp_region_list ?_; refine W_val hA rfl _ rfl (by decide) _ _ (R_mov hA rfl rfl _) (fun a hA => ?_); refine W_val hA rfl _ rfl (by decide) _ _ (R_addI hA rfl rfl rfl _) (fun a hA => ?_); refine W_val hA rfl _ rfl (by decide) _ _ (R_asg hA rfl rfl _) (fun a hA => ?_); refine W_nil ?_; refine then_nrm ?_; refine ⟨cj, _, FrA.add (hA.re (sa rfl (sa rfl (sa rfl (sa rfl (sa rfl (sa rfl (sa rfl (sn))))))))) 22 _ ((hA.get 22 _ rfl).trans (congrArg (Value.int .i64) (wrap_upL (by omega)))), HB, LL, ?_, LN, OI⟩
      rw [List.take_add_one, hij]
      simpa [List.append_assoc] using OW
    refine wp_exit ?_; refine then_ext ?_; refine then_ext ?_; refine blk_eq ?_; refine then_nrm ?_; show Code.wp Tryz.prog _ _ _ _; refine wp_region_list ?_; refine W_val hA rfl _ rfl (by decide) _ _ (R_mov hA rfl rfl _) (fun a hA => ?_); refine W_val hA rfl _ rfl (by decide) _ _ (R_row hA rfl rfl LN Tryz.underlying85 (size_lnD _)) (fun a hA => ?_); refine W_callA hA (by decide) (fun _ _ => by kernel_rfl) (args1 hA rfl) (size_d ld hF.ok _) (fun w23 hw a hA => ?_); replace LL := LL.below hw; replace OW := ownW_below OW hw; replace LN := LN.below hw; replace OI := ownI_below OI hw; replace HB := HB.trans (hw.mono HB.size); clear hw; refine W_val hA rfl _ rfl (by decide) _ _ (R_mul hA rfl rfl rfl _) (fun a hA => ?_); refine W_val hA rfl _ rfl (by decide) _ _ (R_add hA rfl rfl rfl _) (fun a hA => ?_); refine W_val hA rfl _ rfl (by decide) _ _ (R_asg hA rfl rfl _) (fun a hA => ?_); refine W_nil ?_; refine blk_nrm ?_; refine then_nrm ?_; show Code.wp Tryz.prog _ _ _ _; refine wp_region_list ?_; refine W_val hA rfl _ rfl (by decide) _ _ (R_mov hA rfl rfl _) (fun a hA => ?_); refine W_val hA rfl _ rfl (by decide) _ _ (R_addI hA rfl rfl rfl _) (fun a hA => ?_); refine W_val hA rfl _ rfl (by decide) _ _ (R_asg hA rfl rfl _) (fun a hA => ?_); refine W_nil ?_; refine then_nrm ?_
    have hlkk := fin_lk hDk hF
    refine ⟨ck, _, FrA.add (FrA.add (hA.re (sa rfl (sa rfl (sa rfl (sn))))) 15 _ ((hA.get 15 _ rfl).trans (congrArg (Value.int .u64) (at_done hbase hDk okd hF.sz)))) 16 _ ((hA.get 16 _ rfl).trans (congrArg (Value.int .i64) (wrap_upL (by omega)))), HB, LL, ?_, lk_push hlk (by rw [hlkk])⟩
    rw [out_push hlkk, ← hF.eo]
    obtain rfl : j = ins.length := by have := of_decide_eq_false c13; omega
    rw [List.take_length] at OW
    exact OW
  obtain rfl : k = L.length := by have := of_decide_eq_false c7; omega
  refine wp_exit ?_; refine then_ext ?_; refine then_ext ?_; refine blk_eq ?_; refine then_nrm ?_; show Code.wp Tryz.prog _ _ _ _; refine wp_seq (wp_region_list ?_); refine W_val hA rfl _ rfl (by decide) _ _ (R_mov hA rfl rfl _) (fun a hA => ?_); (iterate 3 refine W_val hA rfl _ rfl (by decide) _ _ (R_asg hA rfl rfl _) fun a hA => ?_); refine W_nil (then_nrm ?_); show Code.wp Tryz.prog _ _ _ _; refine wp_ret ?_
  exact ret_three (i := 4) (j := 5) (k := 6) (by kernel_rfl) hA rfl rfl rfl (as_good (HR2.trans (asm_all hd (fun i hi => hlk i (by omega)))) (HBA.trans (HB.mono HBA.size)) (by have h9 := ownW_base OW HBA.size; rw [← hssn] at h9; exact h9))
end Go.Proofs.YtakdhdaoklcidaaGreatDoor

namespace Go.Proofs.YtakdhdaoklcidaaGreatDoor
open Go.RowKit Go.Lib
set_option linter.unusedVariables false
set_option maxRecDepth 100000
theorem link_le (f : Bs → Option Int) (a : Int) (s : Stm) : (linkS f a s).2.length ≤ sizeS s := by
  cases s with
  | none => exact Nat.le_refl _
  | label l => exact Nat.le_refl _
  | words ws => exact Nat.le_refl _
  | la rd l =>
    show (aimS (f l) (laW rd) a).2.length ≤ 2
    by_cases h : (aimS (f l) (laW rd) a).1 = 0
    · exact Nat.le_of_eq (aimS_len (laW_len rd) h)
    · unfold aimS at h ⊢
      split
      · exact Nat.zero_le _
      · split
        · exact Nat.zero_le _
        · rename_i h1 _ _ h2; exact Nat.le_of_eq (laW_len rd _ _ h2)
  | jump i l =>
    show (aimS (f l) (jumpW i) a).2.length ≤ 1
    by_cases h : (aimS (f l) (jumpW i) a).1 = 0
    · exact Nat.le_of_eq (aimS_len (jumpW_len i) h)
    · unfold aimS at h ⊢
      split
      · exact Nat.zero_le _
      · split
        · exact Nat.zero_le _
        · rename_i h1 _ _ h2; exact Nat.le_of_eq (jumpW_len i _ _ h2)
theorem outW_le {ss : List Stm} {f : Bs → Option Int} {base : Int} (hs : ∀ k, sizeS (ss.getD k .none) ≤ 100) : ∀ k, (outW ss f base k).length ≤ 100 * k
  | 0 => Nat.le_refl _
  | k + 1 => by
    have h1 := outW_le (f := f) (base := base) hs k
    have h2 := link_le f (atK ss base k) (ss.getD k .none)
    have h3 := hs k
    show (outW ss f base k ++ (lkAt ss f base k).2).length ≤ _
    rw [List.length_append]
    have h4 : (lkAt ss f base k).2.length ≤ 100 := Nat.le_trans h2 h3
    omega
theorem asmF_len (l : Bs) (hl : l.length ≤ 8000) (base : Int) : (asmF l base).1.length ≤ 1000000 := by
  have hnl : (linesT l).length ≤ 8001 := by
    have h1 := (splitK_len (Lib.count l [10]) l).1
    have h2 : Lib.count l [10] ≤ l.length := by rw [Lib.count_one]; exact List.count_le_length
    have h3 : (linesT l).length = (splitK [10] 0 (Lib.count l [10]) l).length := rfl
    omega
  have hss : ((linesT l).filterMap lineS).length ≤ 8001 := Nat.le_trans (List.length_filterMap_le _ _) hnl
  have hs : ∀ k, sizeS (((linesT l).filterMap lineS).getD k .none) ≤ 100 := fun k => by
    by_cases c : k < ((linesT l).filterMap lineS).length
    · have hm := List.getElem_mem c
      rw [List.getD_eq_getElem?_getD, List.getElem?_eq_getElem c]
      obtain ⟨x, _, hx⟩ := List.mem_filterMap.1 hm
      exact (line_bound hx).1
    · rw [List.getD_eq_getElem?_getD, List.getElem?_eq_none (by omega)]; exact Nat.zero_le _
  unfold asmF
  split
  · unfold asmT
    split
    · simp
    · generalize (linesT l).filterMap lineS = ss at *
      unfold asmL
      split
      · simp
      · split
        · simp
        · have := outW_le (f := labF ss base ss.length) (base := base) hs ss.length
          show (outW ss _ base ss.length).length ≤ _
          omega
  · simp
theorem sameW_0 (A A2 : Option Addr) (c c2 : Nat) (w : World) : Calls Tryz.prog 20 #[.slice A 0 c, .slice A2 0 c2] w fun e w' => e = .returned (.bool true) ∧ Below w.heap.size w w' := by
  go_enter Tryz.func20, Tryz.ntmps20
  go_wp2
  go_loopw [5] (fun i wr => i = .int .i64 0 ∧ wr = w) (fun _ _ => 0)
  case atStart => exact ⟨rfl, rfl⟩
  case round =>
    obtain ⟨rfl, rfl⟩ := hrel
    go_wp2
    go_ret
    exact ⟨rfl, Below.refl _ _⟩
set_option maxHeartbeats 4000000 in
theorem sameW_big (L : List Int) (hn : L.length ≤ 1000000) (w : World) (g g' c c' : Nat) (h1 : ∀ j, j < L.length → w.cell? ⟨g, j, none⟩ = some (.int .u32 (L.getD j 0))) (h2 : ∀ j, j < L.length → w.cell? ⟨g', j, none⟩ = some (.int .u32 (L.getD j 0))) :
    Calls Tryz.prog 20 #[.slice (some ⟨g, 0, none⟩) L.length c, .slice (some ⟨g', 0, none⟩) L.length c'] w fun e w' => e = .returned (.bool true) ∧ Below w.heap.size w w' := by
  have H1 := Lib.hid h1
  have H2 := Lib.hid h2
  clear h1 h2
  go_enter Tryz.func20, Tryz.ntmps20
  go_wp2
  go_loopw [5] (fun i wr => ∃ (j : Nat), j ≤ L.length ∧ i = .int .i64 j ∧ Below w.heap.size w wr) (fun k _ => L.length - (RowKit.intOf k).toNat)
  case atStart => exact ⟨0, Nat.zero_le _, rfl, Below.refl _ _⟩
  case round =>
    obtain ⟨j, hj, rfl, hb⟩ := hrel
    have HB := Lib.hid hb
    by_cases hlt : j < L.length
    · have hj2 : (j : Int) < L.length := by omega
      have hj3 : (0 : Int) ≤ (j : Int) := by omega
      have a := cell_stays hb (H1.out j hlt)
      have b := cell_stays hb (H2.out j hlt)
      clear hb
      generalize L.getD j 0 = x at *
      go_wp2_with fail
      go_quiet (fail)
      go_wp2
      case roundEnd => exact ⟨⟨j + 1, by omega, by go_num, (⟨HB.out.os, HB.out.tape, HB.out.output, HB.out.size, HB.out.block⟩)⟩, by simp [RowKit.intOf]; omega⟩
    · obtain rfl : j = L.length := by omega
      go_wp2
      go_ret
      exact ⟨rfl, HB.out⟩
theorem ownW_cellsT {w : World} {B : Nat} {v : Value} {L : List Int} (h : OwnW w B v L) (hn : ¬ L = []) : ∃ g c, v = .slice (some ⟨g, 0, none⟩) L.length c ∧ ∀ j, j < L.length → w.cell? ⟨g, j, none⟩ = some (.int .u32 (L.getD j 0)) := by
  rcases h.2 with ⟨_, h0⟩ | ⟨g, cap, cur, rfl, hb, hg, hn1, hn2, hn3, ht⟩
  · exact absurd (List.eq_nil_of_length_eq_zero h0) hn
  · refine ⟨g, cap, rfl, fun j hj => ?_⟩
    rw [Lib.cell_of_heap hg]
    have e : (wordCs L)[j]? = some (.int .u32 (L.getD j 0)) := by simp [wordCs, List.getElem?_eq_getElem hj, List.getD_eq_getElem?_getD]
    rw [← ht, List.getElem?_take, if_pos (by omega)] at e
    simpa using e
theorem same_own {w : World} {B B2 : Nat} {v v2 : Value} {L : List Int} (hn : L.length ≤ 1000000) (h : OwnW w B v L) (h2 : OwnW w B2 v2 L) : Calls Tryz.prog 20 #[v, v2] w fun e w' => e = .returned (.bool true) ∧ Below w.heap.size w w' := by
  by_cases hL : L = []
  · subst hL
    obtain ⟨A, C, rfl⟩ := ownW_slice h
    obtain ⟨A2, C2, rfl⟩ := ownW_slice h2
    exact sameW_0 A A2 C C2 w
  · obtain ⟨g, c, rfl, h3⟩ := ownW_cellsT h hL
    obtain ⟨g2, c2, rfl, h4⟩ := ownW_cellsT h2 hL
    exact sameW_big L hn w g g2 c c2 h3 h4
end Go.Proofs.YtakdhdaoklcidaaGreatDoor

namespace Go.Proofs.YtakdhdaoklcidaaGreatDoor
open Go.RowKit Go.Lib
set_option linter.unusedVariables false
set_option maxRecDepth 100000
set_option maxHeartbeats 4000000 in
theorem assembles_short (l : Bs) (hl : l.length ≤ 5000) (base : Int) (hbase : 0 ≤ base ∧ base < 18446744073709551616) (w : World) (he : Env w) : Calls Tryz.prog 6 #[str l, .int .u64 base] w fun e w' => e = .returned (.bool true) ∧ Below w.heap.size w w' := by
  have hg : ¬ (5000 : Int) < (l.length : Int) := by omega
  have hA : ∀ w, Env w → Calls Tryz.prog 18 #[str l, .int .u64 base] w (AsEnd w (asmF l base)) := fun w he => assemble_any l (by omega) base hbase w he
  have hB : ∀ w, Calls Tryz.prog 19 #[str l, .int .u64 base] w (AsEnd w (asmF l base)) := fun w => refAssemble_any l (by omega) base hbase w
  have hn := asmF_len l (by omega) base
  generalize asmF l base = R at *
  obtain ⟨ws, ln, er⟩ := R
  simp only [] at hn
  have HA := Lib.hid hA
  have HB := Lib.hid hB
  have HE := Lib.hid he
  have HN := Lib.hid hn
  clear he hA hB hn
  go_enter Tryz.func6, Tryz.ntmps6
  go_wp2_with (fail)
  (with_reducible refine (HA.out _ HE.out).mono ?_)
  rintro e w1 ⟨v1, rfl, ho1, hb1⟩
  have HB1 := Lib.hid hb1
  have HO1 := Lib.hid ho1
  clear hb1 ho1
  go_wp2_with (fail)
  (with_reducible refine (HB.out _).mono ?_)
  rintro e w2 ⟨v2, rfl, ho2, hb2⟩
  have HB2 := Lib.hid (HB1.out.trans (hb2.mono HB1.out.size))
  have HSM := Lib.hid (same_own HN.out (ownW_below HO1.out hb2) ho2)
  clear hb2 ho2
  go_wp2_with (first
    | (go_at_call 20; (with_reducible refine HSM.out.mono ?_); rintro e w5 ⟨rfl, hb5⟩; have HB5 := Lib.hid (HB2.out.trans (hb5.mono HB2.out.size)); clear hb5)
    | (go_at_call 12; (with_reducible refine (wakes10 _ (HE.out.below HB5.out)).mono ?_); rintro e w6 ⟨rfl, hb6⟩; have HB6 := Lib.hid (HB5.out.trans (hb6.mono HB5.out.size)); clear hb6))
  go_ret
  exact ⟨rfl, HB6.out⟩
set_option maxHeartbeats 4000000 in
theorem assembles_long (l : Bs) (hl : 5000 < l.length) (base : Int) (hbase : 0 ≤ base ∧ base < 18446744073709551616) (w : World) (he : Env w) : Calls Tryz.prog 6 #[str l, .int .u64 base] w fun e w' => e = .returned (.bool true) ∧ Below w.heap.size w w' := by
  have hg : (5000 : Int) < (l.length : Int) := by omega
  have hsl := fun wx => slice_to l 5000 (by omega) (by omega) wx
  rw [show (5000 : Int).toNat = 5000 from rfl] at hsl
  have hS : (l.take 5000).length ≤ 5000 := by rw [List.length_take]; omega
  generalize l.take 5000 = S at *
  have hA : ∀ w, Env w → Calls Tryz.prog 18 #[str S, .int .u64 base] w (AsEnd w (asmF S base)) := fun w he => assemble_any S (by omega) base hbase w he
  have hB : ∀ w, Calls Tryz.prog 19 #[str S, .int .u64 base] w (AsEnd w (asmF S base)) := fun w => refAssemble_any S (by omega) base hbase w
  have hn := asmF_len S (by omega) base
  generalize asmF S base = R at *
  obtain ⟨ws, ln, er⟩ := R
  simp only [] at hn
  have HA := Lib.hid hA
  have HB := Lib.hid hB
  have HE := Lib.hid he
  have HN := Lib.hid hn
  clear he hA hB hn
  go_enter Tryz.func6, Tryz.ntmps6
  go_wp2_with (fail)
  (with_reducible refine (HA.out _ HE.out).mono ?_)
  rintro e w1 ⟨v1, rfl, ho1, hb1⟩
  have HB1 := Lib.hid hb1
  have HO1 := Lib.hid ho1
  clear hb1 ho1
  go_wp2_with (fail)
  (with_reducible refine (HB.out _).mono ?_)
  rintro e w2 ⟨v2, rfl, ho2, hb2⟩
  have HB2 := Lib.hid (HB1.out.trans (hb2.mono HB1.out.size))
  have HSM := Lib.hid (same_own HN.out (ownW_below HO1.out hb2) ho2)
  clear hb2 ho2
  go_wp2_with (first
    | (go_at_call 20; (with_reducible refine HSM.out.mono ?_); rintro e w5 ⟨rfl, hb5⟩; have HB5 := Lib.hid (HB2.out.trans (hb5.mono HB2.out.size)); clear hb5)
    | (go_at_call 12; (with_reducible refine (wakes10 _ (HE.out.below HB5.out)).mono ?_); rintro e w6 ⟨rfl, hb6⟩; have HB6 := Lib.hid (HB5.out.trans (hb6.mono HB5.out.size)); clear hb6))
  go_ret
  exact ⟨rfl, HB6.out⟩
theorem of_wf {x : Int} (h : (Lit.int .u64 x).wf = true) : 0 ≤ x ∧ x < 18446744073709551616 := by
  have h2 := h
  simp [Lit.wf, IntKind.min, IntKind.max, IntKind.signed, IntKind.bits] at h2
  omega
theorem asmAssembles_walk (s : ByteArray) (base : Int) (w : World) (hs : s.size ≤ maxLen) (hbase : 0 ≤ base ∧ base < 18446744073709551616) (he : Env w) : Calls Tryz.prog 6 #[.string s, .int .u64 base] w fun e w' => e = .returned (.bool true) ∧ Below w.heap.size w w' := by
  have e : Value.string s = str s.data.toList := rfl
  rw [e]
  by_cases h : s.data.toList.length ≤ 5000
  · exact assembles_short _ h base hbase w he
  · exact assembles_long _ (by omega) base hbase w he
end Go.Proofs.YtakdhdaoklcidaaGreatDoor

namespace Go.Proofs.YtakdhdaoklcidaaGreatDoor
open Go.ChangeShapes Go.WideShapes Go.ChangeAt Go.RowKit
set_option linter.unusedVariables false
set_option maxRecDepth 100000
abbrev laidT : List (String × DataW Unit) := Rows.asmPrintsRow.laid
theorem gForms : Tryz.prog.globalNamed "mezzanine/decode.forms" = some 0 := by kernel_rfl
theorem tForms : (Tryz.prog.globals[0]?).map (·.type) = some 97 := by kernel_rfl
theorem start_met (os : Os) (args : Array Value) : laidMetH Tryz.prog laidT ((World.laidAll Tryz.prog os laidT).forCall (fun _ _ => 0) ⟨#[], args, []⟩).memory := by
  rw [MakeChecks.laidMetH_plain _ _ _ (by kernel_rfl)]
  exact laidMet_laidAll _ (by kernel_rfl) (by kernel_rfl)
section
variable {H : Type} {enc : TypeId × Value → H} {w : World} {base : Nat} {spare : Nat → Bool} {held : Bool}
theorem form_cells {n : Nat} {cs : List Value} {x : DataW H × List MemPlace} {m i : Int} {p q r s u : Bool}
    (h : DataW.trod enc Tryz.prog w base spare held n 96 cs = some x) (hx : x.1 = .agg [.lit (.int .u32 m), .lit (.bool p), .lit (.bool q), .lit (.bool r), .lit (.int .i64 i), .lit (.bool s), .lit (.bool u)]) :
    cs = [.int .u32 m, .bool p, .bool q, .bool r, .int .i64 i, .bool s, .bool u] := by
  obtain ⟨xs, m, _, rfl, hl, hlen, hf⟩ := DataW.trod_struct Tryz.underlying96 h
  have hC : Tryz.prog.cellsOf 96 = 7 := by kernel_rfl
  rw [hC] at hl
  match cs, hl with
  | [v0, v1, v2, v3, v4, v5, v6], _ =>
    have t0 := hf 0 _ rfl
    have t1 := hf 1 _ rfl
    have t2 := hf 2 _ rfl
    have t3 := hf 3 _ rfl
    have t4 := hf 4 _ rfl
    have t5 := hf 5 _ rfl
    have t6 := hf 6 _ rfl
    match xs, hlen with
    | [x0, x1, x2, x3, x4, x5, x6], _ =>
      obtain ⟨n0, e0, y0, _⟩ := DataW.trod_int Tryz.underlying43 (show DataW.trod enc Tryz.prog w base spare held m 43 [v0] = some x0 from t0)
      obtain ⟨n1, e1, y1⟩ := DataW.trod_bool Tryz.underlying4 (show DataW.trod enc Tryz.prog w base spare held m 4 [v1] = some x1 from t1)
      obtain ⟨n2, e2, y2⟩ := DataW.trod_bool Tryz.underlying4 (show DataW.trod enc Tryz.prog w base spare held m 4 [v2] = some x2 from t2)
      obtain ⟨n3, e3, y3⟩ := DataW.trod_bool Tryz.underlying4 (show DataW.trod enc Tryz.prog w base spare held m 4 [v3] = some x3 from t3)
      obtain ⟨n4, e4, y4, _⟩ := DataW.trod_int Tryz.underlying3 (show DataW.trod enc Tryz.prog w base spare held m 3 [v4] = some x4 from t4)
      obtain ⟨n5, e5, y5⟩ := DataW.trod_bool Tryz.underlying4 (show DataW.trod enc Tryz.prog w base spare held m 4 [v5] = some x5 from t5)
      obtain ⟨n6, e6, y6⟩ := DataW.trod_bool Tryz.underlying4 (show DataW.trod enc Tryz.prog w base spare held m 4 [v6] = some x6 from t6)
      simp only [List.cons.injEq, and_true] at e0 e1 e2 e3 e4 e5 e6
      subst e0 e1 e2 e3 e4 e5 e6 y0 y1 y2 y3 y4 y5 y6
      simp at hx
      obtain ⟨rfl, rfl, rfl, rfl, rfl, rfl, rfl⟩ := hx
      rfl
end
theorem list105 {l r0 r1 r2 r3 r4 r5 r6 r7 r8 r9 r10 r11 r12 r13 r14 : List Value} (hl : l.length = 105) (h0 : (l.drop 0).take 7 = r0) (h1 : (l.drop 7).take 7 = r1) (h2 : (l.drop 14).take 7 = r2) (h3 : (l.drop 21).take 7 = r3) (h4 : (l.drop 28).take 7 = r4) (h5 : (l.drop 35).take 7 = r5) (h6 : (l.drop 42).take 7 = r6) (h7 : (l.drop 49).take 7 = r7) (h8 : (l.drop 56).take 7 = r8) (h9 : (l.drop 63).take 7 = r9) (h10 : (l.drop 70).take 7 = r10) (h11 : (l.drop 77).take 7 = r11) (h12 : (l.drop 84).take 7 = r12) (h13 : (l.drop 91).take 7 = r13) (h14 : (l.drop 98).take 7 = r14) : l = r0 ++ (r1 ++ (r2 ++ (r3 ++ (r4 ++ (r5 ++ (r6 ++ (r7 ++ (r8 ++ (r9 ++ (r10 ++ (r11 ++ (r12 ++ (r13 ++ (r14 ++ [])))))))))))))) := by
  have s : ∀ n, l.drop n = (l.drop n).take 7 ++ l.drop (n + 7) := fun n => by rw [← List.drop_drop, List.take_append_drop]
  have z : l.drop 105 = [] := List.drop_eq_nil_of_le (by omega)
  subst h0 h1 h2 h3 h4 h5 h6 h7 h8 h9 h10 h11 h12 h13 h14
  have e0 : l = l.drop 0 := rfl
  have s0 := s 0
  have s7 := s 7
  have s14 := s 14
  have s21 := s 21
  have s28 := s 28
  have s35 := s 35
  have s42 := s 42
  have s49 := s 49
  have s56 := s 56
  have s63 := s 63
  have s70 := s 70
  have s77 := s 77
  have s84 := s 84
  have s91 := s 91
  have s98 := s 98
  rw [s98, z] at s91
  rw [s91] at s84
  rw [s84] at s77
  rw [s77] at s70
  rw [s70] at s63
  rw [s63] at s56
  rw [s56] at s49
  rw [s49] at s42
  rw [s42] at s35
  rw [s35] at s28
  rw [s28] at s21
  rw [s21] at s14
  rw [s14] at s7
  rw [s7] at s0
  exact s0
theorem tab_of_forms {W : World} {r : List (String × DataW Unit)} (h : laidMet Tryz.prog (("mezzanine/decode.forms", Rows.laid_mezzanine_decode_forms) :: r) W) : Tab W := by
  obtain ⟨ps, ⟨g0, t0, cs0, f0, p0, q0, hg0, ht0, hv0, hd0, _⟩, _, _⟩ := h
  obtain rfl := Option.some.inj (gForms.symm.trans hg0)
  obtain rfl := Option.some.inj (tForms.symm.trans ht0)
  obtain ⟨xs, m, _, hx, hl, hn, hel⟩ := DataW.trod_array Tryz.underlying97 hd0
  have c68 : Tryz.prog.cellsOf 96 = 7 := by kernel_rfl
  have c69 : Tryz.prog.cellsOf 97 = 105 := by kernel_rfl
  rw [c69] at hl
  rw [c68] at hel
  simp only [Prod.mk.injEq] at hx
  match xs, hn with
  | [x0, x1, x2, x3, x4, x5, x6, x7, x8, x9, x10, x11, x12, x13, x14], _ =>
    have hx1 := hx.1
    unfold Rows.laid_mezzanine_decode_forms at hx1
    simp only [List.map_cons, List.map_nil, DataW.agg.injEq, List.cons.injEq] at hx1
    obtain ⟨e0, e1, e2, e3, e4, e5, e6, e7, e8, e9, e10, e11, e12, e13, e14, _⟩ := hx1
    have k0 := form_cells (hel 0 (by decide)) e0.symm
    have k1 := form_cells (hel 1 (by decide)) e1.symm
    have k2 := form_cells (hel 2 (by decide)) e2.symm
    have k3 := form_cells (hel 3 (by decide)) e3.symm
    have k4 := form_cells (hel 4 (by decide)) e4.symm
    have k5 := form_cells (hel 5 (by decide)) e5.symm
    have k6 := form_cells (hel 6 (by decide)) e6.symm
    have k7 := form_cells (hel 7 (by decide)) e7.symm
    have k8 := form_cells (hel 8 (by decide)) e8.symm
    have k9 := form_cells (hel 9 (by decide)) e9.symm
    have k10 := form_cells (hel 10 (by decide)) e10.symm
    have k11 := form_cells (hel 11 (by decide)) e11.symm
    have k12 := form_cells (hel 12 (by decide)) e12.symm
    have k13 := form_cells (hel 13 (by decide)) e13.symm
    have k14 := form_cells (hel 14 (by decide)) e14.symm
    have hcs := list105 hl k0 k1 k2 k3 k4 k5 k6 k7 k8 k9 k10 k11 k12 k13 k14
    simp only [World.var?, gForms, Option.bind_some] at hv0
    split at hv0
    · rename_i c t fr hb
      have hc := Option.some.inj hv0
      have hq : cs0 = formsQ := Array.ext' (by rw [hcs]; rfl)
      exact ⟨t, fr, by rw [hb, hc, hq]⟩
    · cases hv0
theorem returnsInHanded_and_shaped {H : Type} {enc : TypeId × Value → H} {a : Assume} {C : Checked} {os : Os} {f : FuncId} {fn : Func} {s : ChangeSpec} {conds : List PathCond} {apart fresh handsOn again : Bool} {X : World → Array Value → Prop}
    (hX : ∀ (w w' : World) (args : Array Value), w.heap = w'.heap → X w args → X w' args)
    (own : ownKnob C.prog.godebug = none) (started : os.Started) (noInit : C.prog.inits.idxOf? f = none) (hfn : C.prog.funcs[f]? = some fn)
    (witness : ∃ (w : World) (tape : Tape) (i : Input), w.os = os ∧ (w.forCall tape i).Shaped C.prog ∧ i.vars = [] ∧ Input.okWide C.prog (w.forCall tape i) .any w.heap.size f i ∧
      ((s.pre enc C.prog fn conds apart (w.forCall tape i).memory i.args ∧ X (w.forCall tape i).memory i.args) ∧ sizedMet enc C.prog fn (OpenSpec.ofChange s) apart (w.forCall tape i).memory i.args) ∧ a.holds C.prog (lone (Frame.enter C.prog f i.args .normal) [] (w.forCall tape i)))
    (contract : ∀ (W : World) (base : Nat) (args : Array Value) (ds gs : List (DataW H)) (before : List MemPlace),
      (∀ (j : Nat) t v, fn.params[j]? = some t → args[j]? = some v → Value.okWide C.prog W .any base t v) →
      DataW.Whole enc C.prog fn.params.toList s.vars apart W args.toList ds gs before → X W args → W.ShapedOpen C.prog →
      Calls C.prog f args W fun e W' => ∃ v, e = .returned v ∧ s.post enc C.prog fn apart fresh handsOn again W args v W') :
    ReturnsInHanded a C os f .any (fun w args => (s.pre enc C.prog fn conds apart w args ∧ X w args) ∧ sizedMet enc C.prog fn (OpenSpec.ofChange s) apart w args) (s.post enc C.prog fn apart fresh handsOn again) := by
  refine returnsInHanded_of_calls own started noInit witness ?_
  intro w tape i _ hsh _ hok hpre hholds
  obtain ⟨_, _, _, fn', hfn', _, _, _, _, hval⟩ := hok
  have e : fn' = fn := Option.some.inj (hfn'.symm.trans hfn)
  subst e
  obtain ⟨⟨⟨ds, gs, before, hw, hc⟩, hx⟩, hz⟩ := hpre
  have hw' := DataW.Whole.of_heap (w' := w.forCall tape i) (by rfl) hw
  refine (contract (w.forCall tape i) w.heap.size i.args ds gs before hval hw' (hX _ _ _ (by rfl) hx) hsh).mono fun e W' ⟨v, he, hp⟩ => ?_
  subst he
  exact ChangeSpec.post_blind hp
theorem mlen_of_shaped {w : World} (h : w.ShapedOpen Tryz.prog) : ∃ m, w.cell? ⟨2, 0, none⟩ = some (.int .i64 m) :=
  cell_of_shapedOpen_int (g := 2) (t := 3) (zero := #[.int .i64 0]) h (of_decide_eq_true (by kernel_rfl)) (by kernel_rfl) rfl (by kernel_rfl) (by kernel_rfl) Tryz.underlying3
def bruTab : List Int := [0, 1, 56, 2, 57, 49, 28, 3, 61, 58, 42, 50, 38, 29, 17, 4, 62, 47, 59, 36, 45, 43, 51, 22, 53, 39, 33, 30, 24, 18, 12, 5, 63, 55, 48, 27, 60, 41, 37, 16, 46, 35, 44, 21, 52, 32, 23, 11, 54, 26, 40, 15, 34, 20, 31, 10, 25, 14, 19, 9, 13, 8, 7, 6]
theorem bru_same : ∀ j, j < 64 → bruTab.getD j 0 = (([0, 1, 56, 2, 57, 49, 28, 3, 61, 58, 42, 50, 38, 29, 17, 4, 62, 47, 59, 36, 45, 43, 51, 22, 53, 39, 33, 30, 24, 18, 12, 5, 63, 55, 48, 27, 60, 41, 37, 16, 46, 35, 44, 21, 52, 32, 23, 11, 54, 26, 40, 15, 34, 20, 31, 10, 25, 14, 19, 9, 13, 8, 7, 6] : List Nat).getD j 0 : Nat) := by decide
theorem gBru : Tryz.prog.globalNamed "math/bits.deBruijn64tab" = some 1 := by kernel_rfl
theorem gSyn : Tryz.prog.globalNamed "strconv.ErrSyntax" = some 4 := by kernel_rfl
theorem gRan : Tryz.prog.globalNamed "strconv.ErrRange" = some 5 := by kernel_rfl
theorem iface_of_laid {n nm : String} {d : DataW Unit} {r : List (String × DataW Unit)} {W : World} {g : Nat} {ti : TypeId} {ms : Array (String × TypeId)} (h : laidMet Tryz.prog ((n, .iface nm d) :: r) W)
    (hg : Tryz.prog.globalNamed n = some g) (ht : (Tryz.prog.globals[g]?).map (·.type) = some ti) (hi : Tryz.prog.underlying ti = some (.interface ms)) : ∃ tp p, W.cell? ⟨g, 0, none⟩ = some (.iface tp p) := by
  obtain ⟨ps, ⟨g0, t0, cs0, f0, p0, q0, hg0, ht0, hv0, hd0, _, e0⟩, _, hrows⟩ := h
  obtain rfl := Option.some.inj (hg.symm.trans hg0)
  obtain rfl := Option.some.inj (ht.symm.trans ht0)
  obtain ⟨f1, u, v, e, _, _⟩ := iface_of_trod hi hd0
  have hc := World.var?_cell hg hv0 0
  obtain ⟨l⟩ := cs0
  have e' : l = [.iface u v] := e
  subst e'
  exact ⟨u, v, by simpa using hc⟩
theorem env_of_laid {W : World} (h : laidMetH Tryz.prog laidT W) (hs : W.ShapedOpen Tryz.prog) : Env W := by
  rw [MakeChecks.laidMetH_plain _ _ _ (by kernel_rfl)] at h
  have h1 := h.tail
  have h2 := h1.tail
  have h3 := h2.tail
  have h4 := h3.tail
  have h5 := h4.tail
  have h6 := h5.tail
  have hb : Lib.TabIs Tryz.prog W "math/bits.deBruijn64tab" .u8 bruTab := Lib.tabIs_of_head (n := 64) gBru (t := 125) (e := 5) (by kernel_rfl) Tryz.underlying125 Tryz.underlying5 (by kernel_rfl) (by kernel_rfl) h1
  exact ⟨tab_of_forms h6, Lib.tabIs_of_head (n := 20) gPow (t := 189) (e := 36) (by kernel_rfl) Tryz.underlying189 Tryz.underlying36 (by kernel_rfl) (by kernel_rfl) h2,
    fun j hj => ⟨_, by rw [hb.cell gBru j (by simpa [bruTab] using hj), bru_same j hj], rfl⟩,
    iface_of_laid h5 gSyn (by kernel_rfl) Tryz.underlying105, iface_of_laid h4 gRan (by kernel_rfl) Tryz.underlying105, mlen_of_shaped hs⟩
end Go.Proofs.YtakdhdaoklcidaaGreatDoor
