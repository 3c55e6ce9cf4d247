/- Layer 6: the uart's state; an object of the program or of the document that holds it: a struct and two rows of bytes, apart. -/
import Derived.Test.YtcbjfkbmbjmnbaaDoorUa
namespace Go.Proofs.YtcbjfkbmbjmnbaaDoor
open Go.RowKit
set_option linter.unusedVariables false

/-- All bytes of one row poured onto an empty one. -/
theorem run_pour (w : World) (v : Value) (xs : List Int) (h : RowB w v xs) (hl : xs.length ≤ 70000) (hv : ¬ v = .slice none 0 0) (base : Nat) (d : Value) (hd : w.ownsRow base 5 1 d 0 []) (hb : base ≤ w.heap.size) (ty : TypeId) :
    ∃ v' w', (Builtin.append_ #[28, 28] ty #[d, v]).run Tryd.prog w = .ok v' w' ∧ w'.ownsRow base 5 1 v' xs.length (u8s xs) ∧ RowB w' v' xs ∧ Only (fun i => d.ownBlock = some i) w w' ∧
      (∀ g, v'.ownBlock = some g → d.ownBlock = some g ∨ w.heap.size ≤ g) := by
  obtain ⟨i0, hi, hz0, hz1, hz2⟩ := info_parts8 info_u8
  obtain ⟨a, c, rfl, _, _, hr⟩ := h.reads hl
  rcases hr with ⟨rfl, rfl, rfl⟩ | ⟨g, off, rfl, hg, hc⟩
  · exact absurd rfl hv
  obtain ⟨v', w', hr, h2, h3, _, h5⟩ := run_append_own_at (P := Tryd.prog) w base 28 ty 5 i0 (.int .u8 0) 1 1 Tryd.underlying28 hi hz0 hz1 hz2 rfl (by decide) d 0 [] hd ⟨g, off, none⟩ xs.length c (u8s xs) (by rw [u8s_len]; omega) (fun j u hj => by
      obtain ⟨hj2, rfl⟩ := u8s_get hj
      rw [add_none]; exact hc j hj2) (u8s_one xs) (by unfold maxLen; omega) (by omega) hb
  have e1 : 0 + xs.length = xs.length := by omega
  rw [e1, List.nil_append] at h2
  refine ⟨v', w', hr, h2, ⟨h.byt, .inl (own_base h2 (by omega))⟩, (Only.refl _ w).grown h3 (fun k hk => .inl hk), fun g' hg' => ?_⟩
  rcases h5 with h5 | h5
  · exact .inl (h5 ▸ hg')
  · rw [h5] at hg'; injection hg' with hg'; exact .inr (by omega)

/-- A uart's state. -/
structure US where
  inn : List Int
  out : List Int
  ier : Int
  fcr : Int
  lcr : Int
  mcr : Int
  scr : Int
  dl : Int
  dm : Int
  lost : Bool
  sent : Bool
structure US.ok (t : US) : Prop where
  li : t.inn.length ≤ 16
  lo : t.out.length ≤ 65536
  ier : 0 ≤ t.ier ∧ t.ier < 16
  fcr : 0 ≤ t.fcr ∧ t.fcr < 2
  lcr : 0 ≤ t.lcr ∧ t.lcr < 256
  mcr : 0 ≤ t.mcr ∧ t.mcr < 32
  scr : 0 ≤ t.scr ∧ t.scr < 256
  dl : 0 ≤ t.dl ∧ t.dl < 256
  dm : 0 ≤ t.dm ∧ t.dm < 256
def u0 : US := ⟨[], [], 0, 0, 0, 0, 0, 0, 0, false, false⟩
theorem u0_ok : u0.ok := ⟨by decide, by decide, by decide, by decide, by decide, by decide, by decide, by decide, by decide⟩
def cellsP (vi vo : Value) (t : US) : Array Value := #[vi, vo, .bool t.lost, .bool t.sent, .int .u8 0, .int .u8 t.ier, .int .u8 t.fcr, .int .u8 t.lcr, .int .u8 t.mcr, .int .u8 0, .int .u8 0, .int .u8 t.scr, .int .u8 t.dl, .int .u8 t.dm]
def cellsR (vi vo : Value) (t : US) : Array Value := #[vi, vo, .int .u8 t.ier, .int .u8 t.fcr, .int .u8 t.lcr, .int .u8 t.mcr, .int .u8 t.scr, .int .u8 t.dl, .int .u8 t.dm, .bool t.lost, .bool t.sent]

/-- An object in block b, its blocks are F's. -/
structure Holds (mk : Value → Value → US → Array Value) (ty : TypeId) (w : World) (b : Nat) (F : Nat → Prop) (t : US) (vi vo : Value) : Prop where
  obj : w.heap[b]? = some (.cells (mk vi vo t) ty (0, 0))
  ri : RowB w vi t.inn
  ro : RowB w vo t.out
  fb : F b
  fi : ∀ g, vi.ownBlock = some g → F g ∧ ¬ g = b
  fo : ∀ g, vo.ownBlock = some g → F g ∧ ¬ g = b
  io : ∀ g, vi.ownBlock = some g → ¬ vo.ownBlock = some g
  lt : ∀ i, F i → i < w.heap.size
  ok : t.ok
abbrev HP := Holds cellsP 52
abbrev HR := Holds cellsR 42
/-- The program's uart t stands in block b; the document's. -/
def UP (w : World) (b : Nat) (F : Nat → Prop) (t : US) : Prop := ∃ vi vo, HP w b F t vi vo
def UR (w : World) (b : Nat) (F : Nat → Prop) (t : US) : Prop := ∃ vi vo, HR w b F t vi vo

section
variable {mk : Value → Value → US → Array Value} {ty : TypeId} {w : World} {b : Nat} {F : Nat → Prop} {t : US} {vi vo : Value}
theorem Holds.blt (h : Holds mk ty w b F t vi vo) : b < w.heap.size := h.lt b h.fb
theorem Holds.keeps {w' : World} {T : Nat → Prop} (h : Holds mk ty w b F t vi vo) (o : Only T w w') (hd : ∀ i, F i → ¬ T i) : Holds mk ty w' b F t vi vo :=
  ⟨o.keeps (hd b h.fb) h.obj, h.ri.keeps o fun g hg => hd g (h.fi g hg).1, h.ro.keeps o fun g hg => hd g (h.fo g hg).1, h.fb, h.fi, h.fo, h.io, fun i hi => Nat.lt_of_lt_of_le (h.lt i hi) o.size, h.ok⟩
theorem Holds.below {w' : World} (h : Holds mk ty w b F t vi vo) (o : Below w.heap.size w w') : Holds mk ty w' b F t vi vo := h.keeps (Only.of_below (fun _ => False) o) fun _ _ => id
theorem Holds.mono {G : Nat → Prop} (h : Holds mk ty w b F t vi vo) (hs : ∀ i, F i → G i) (hl : ∀ i, G i → i < w.heap.size) : Holds mk ty w b G t vi vo :=
  ⟨h.obj, h.ri, h.ro, hs _ h.fb, fun g hg => ⟨hs _ (h.fi g hg).1, (h.fi g hg).2⟩, fun g hg => ⟨hs _ (h.fo g hg).1, (h.fo g hg).2⟩, h.io, hl, h.ok⟩
theorem Holds.cell (h : Holds mk ty w b F t vi vo) (k : Nat) {v : Value} (hv : (mk vi vo t)[k]? = some v) : w.cell? ⟨b, k, none⟩ = some v := by
  rw [cell_of_row w b k _ _ _ h.obj, hv]
theorem Holds.free (h : Holds mk ty w b F t vi vo) (k : Nat) : w.frozen? ⟨b, k, none⟩ = false := frozen_of_row w b k _ _ h.obj

/-- What a call leaves that may turn the object. -/
def EndU (mk : Value → Value → US → Array Value) (ty : TypeId) (w : World) (b : Nat) (F : Nat → Prop) (t' : US) (w' : World) : Prop :=
  Only F w w' ∧ ∃ F', (∀ i, F' i → F i ∨ w.heap.size ≤ i) ∧ ∃ vi vo, Holds mk ty w' b F' t' vi vo
theorem EndU.refl (h : Holds mk ty w b F t vi vo) : EndU mk ty w b F t w := ⟨Only.refl _ _, F, fun _ hi => .inl hi, vi, vo, h⟩
theorem EndU.later {w' : World} (h : Holds mk ty w b F t vi vo) (o : Below w.heap.size w w') : EndU mk ty w b F t w' := ⟨Only.of_below _ o, F, fun _ hi => .inl hi, vi, vo, h.below o⟩
/-- One step behind another. -/
theorem EndU.step {w1 w2 : World} {F1 : Nat → Prop} {t2 : US} (o : Only F w w1) (hF : ∀ i, F1 i → F i ∨ w.heap.size ≤ i) (h : EndU mk ty w1 b F1 t2 w2) : EndU mk ty w b F t2 w2 := by
  obtain ⟨o2, F2, hF2, h2⟩ := h
  refine ⟨o.step o2 fun i hi => hF i hi, F2, fun i hi => ?_, h2⟩
  rcases hF2 i hi with h3 | h3
  · exact hF i h3
  · exact .inr (Nat.le_trans o.size h3)
/-- One cell turned that is no row. -/
theorem Holds.set (h : Holds mk ty w b F t vi vo) (k : Nat) (v : Value) {t' : US} (hi : t'.inn = t.inn) (ho : t'.out = t.out) (ok : t'.ok) (he : (mk vi vo t).setIfInBounds k v = mk vi vo t') : Holds mk ty (w.setCell ⟨b, k, none⟩ v) b F t' vi vo := by
  have o : Only (fun i => i = b) w (w.setCell ⟨b, k, none⟩ v) := (Only.refl (fun i => i = b) w).setCell (p := ⟨b, k, none⟩) (.inl rfl) v
  refine ⟨by rw [heap_setCell_same w b k _ _ _ h.obj, he], ?_, ?_, h.fb, h.fi, h.fo, h.io, fun i hi => Nat.lt_of_lt_of_le (h.lt i hi) o.size, ok⟩
  · rw [hi]; exact h.ri.keeps o fun g hg => (h.fi g hg).2
  · rw [ho]; exact h.ro.keeps o fun g hg => (h.fo g hg).2
theorem EndU.set (h : Holds mk ty w b F t vi vo) (k : Nat) (v : Value) {t' : US} (hi : t'.inn = t.inn) (ho : t'.out = t.out) (ok : t'.ok) (he : (mk vi vo t).setIfInBounds k v = mk vi vo t') : EndU mk ty w b F t' (w.setCell ⟨b, k, none⟩ v) :=
  ⟨(Only.refl F w).setCell (p := ⟨b, k, none⟩) (.inl h.fb) v, F, fun _ hi => .inl hi, vi, vo, h.set k v hi ho ok he⟩
/-- The row that came in turned. -/
theorem EndU.turnIn (h : Holds mk ty w b F t vi vo) {w2 : World} {v' : Value} {t' : US} (o : Only (fun i => vi.ownBlock = some i) w w2) (hr : RowB w2 v' t'.inn) (hv : ∀ g, v'.ownBlock = some g → vi.ownBlock = some g ∨ w.heap.size ≤ g) (ho : t'.out = t.out) (ok : t'.ok)
    (he : (mk vi vo t).setIfInBounds 0 v' = mk v' vo t') : EndU mk ty w b F t' (w2.setCell ⟨b, 0, none⟩ v') := by
  have hb := h.blt
  have hnb : ¬ vi.ownBlock = some b := fun e => (h.fi b e).2 rfl
  have hob : w2.heap[b]? = some (.cells (mk vi vo t) ty (0, 0)) := o.keeps hnb h.obj
  have o2 : Only (fun i => i = b) w2 (w2.setCell ⟨b, 0, none⟩ v') := (Only.refl (fun i => i = b) w2).setCell (p := ⟨b, 0, none⟩) (.inl rfl) v'
  have oF : Only F w (w2.setCell ⟨b, 0, none⟩ v') := (o.mono fun i hi => .inl (h.fi i hi).1).step o2 (fun i hi => .inl (hi ▸ h.fb))
  have hg2 : ∀ g, v'.ownBlock = some g → ¬ g = b := fun g hg e => by
    rcases hv g hg with h1 | h1
    · exact (h.fi g h1).2 e
    · omega
  refine ⟨oF, fun i => F i ∨ (w.heap.size ≤ i ∧ i < w2.heap.size), fun i hi => hi.imp id fun h => h.1, v', vo, ⟨by rw [heap_setCell_same w2 b 0 _ _ _ hob, he], hr.keeps o2 hg2, ?_, .inl h.fb, ?_, ?_, ?_, ?_, ok⟩⟩
  · rw [ho]; exact (h.ro.keeps o fun g hg e => h.io g e hg).keeps o2 fun g hg => (h.fo g hg).2
  · intro g hg
    refine ⟨?_, hg2 g hg⟩
    rcases hv g hg with h1 | h1
    · exact .inl (h.fi g h1).1
    · exact .inr ⟨h1, hr.lt g hg⟩
  · exact fun g hg => ⟨.inl (h.fo g hg).1, (h.fo g hg).2⟩
  · intro g hg e
    rcases hv g hg with h1 | h1
    · exact h.io g h1 e
    · have := h.lt g (h.fo g e).1; omega
  · intro i hi
    have := o.size
    have s2 := o2.size
    rcases hi with hi | hi
    · have := h.lt i hi; omega
    · omega
/-- The row that was sent turned. -/
theorem EndU.turnOut (h : Holds mk ty w b F t vi vo) {w2 : World} {v' : Value} {t' : US} (o : Only (fun i => vo.ownBlock = some i) w w2) (hr : RowB w2 v' t'.out) (hv : ∀ g, v'.ownBlock = some g → vo.ownBlock = some g ∨ w.heap.size ≤ g) (ho : t'.inn = t.inn) (ok : t'.ok)
    (he : (mk vi vo t).setIfInBounds 1 v' = mk vi v' t') : EndU mk ty w b F t' (w2.setCell ⟨b, 1, none⟩ v') := by
  have hb := h.blt
  have hnb : ¬ vo.ownBlock = some b := fun e => (h.fo b e).2 rfl
  have hob : w2.heap[b]? = some (.cells (mk vi vo t) ty (0, 0)) := o.keeps hnb h.obj
  have o2 : Only (fun i => i = b) w2 (w2.setCell ⟨b, 1, none⟩ v') := (Only.refl (fun i => i = b) w2).setCell (p := ⟨b, 1, none⟩) (.inl rfl) v'
  have oF : Only F w (w2.setCell ⟨b, 1, none⟩ v') := (o.mono fun i hi => .inl (h.fo i hi).1).step o2 (fun i hi => .inl (hi ▸ h.fb))
  have hg2 : ∀ g, v'.ownBlock = some g → ¬ g = b := fun g hg e => by
    rcases hv g hg with h1 | h1
    · exact (h.fo g h1).2 e
    · omega
  refine ⟨oF, fun i => F i ∨ (w.heap.size ≤ i ∧ i < w2.heap.size), fun i hi => hi.imp id fun h => h.1, vi, v', ⟨by rw [heap_setCell_same w2 b 1 _ _ _ hob, he], ?_, hr.keeps o2 hg2, .inl h.fb, ?_, ?_, ?_, ?_, ok⟩⟩
  · rw [ho]; exact (h.ri.keeps o fun g hg e => h.io g hg e).keeps o2 fun g hg => (h.fi g hg).2
  · exact fun g hg => ⟨.inl (h.fi g hg).1, (h.fi g hg).2⟩
  · intro g hg
    refine ⟨?_, hg2 g hg⟩
    rcases hv g hg with h1 | h1
    · exact .inl (h.fo g h1).1
    · exact .inr ⟨h1, hr.lt g hg⟩
  · intro g hg e
    rcases hv g e with h1 | h1
    · exact h.io g hg h1
    · have := h.lt g (h.fi g hg).1; omega
  · intro i hi
    have := o.size
    have s2 := o2.size
    rcases hi with hi | hi
    · have := h.lt i hi; omega
    · omega
end

/-! ### what calls tell and leave -/
def rsn (t : US) : Int := if t.ier % 2 = 1 ∧ 0 < t.inn.length then 4 else if t.ier / 2 % 2 = 1 ∧ t.sent = true then 2 else 1
def lineU (t : US) : Bool := decide (¬ rsn t = 1)
/-- The place that stands at an offset; 10, if there is none. -/
def plK (t : US) (off n : Int) : Nat := if n = 1 ∧ 0 ≤ off ∧ off < 8 then (if off < 2 ∧ 128 ≤ t.lcr then off.toNat + 8 else off.toNat) else 10
def okK (k : Nat) : Bool := decide (k < 10)
def rdX (t : US) : Nat → Int
  | 0 => t.inn.getD 0 0
  | 1 => t.ier
  | 2 => rsn t + if t.fcr = 1 then 192 else 0
  | 3 => t.lcr
  | 4 => t.mcr
  | 5 => 96 + (if 0 < t.inn.length then 1 else 0) + if t.lost = true then 2 else 0
  | 6 => 176
  | 7 => t.scr
  | 8 => t.dl
  | 9 => t.dm
  | _ => 0
def rdT (t : US) : Nat → US
  | 0 => { t with inn := t.inn.tail }
  | 2 => { t with sent := if rsn t = 2 then false else t.sent }
  | 5 => { t with lost := false }
  | _ => t
def sendT (t : US) (b : Int) : US := { t with out := if t.out.length < 65536 then t.out ++ [b] else t.out, sent := true }
def ierT (t : US) (b : Int) : US := { t with ier := b % 16, sent := if t.ier / 2 % 2 = 0 ∧ b / 2 % 2 = 1 then true else t.sent }
def fcrT (t : US) (b : Int) : US := { t with fcr := b % 2, inn := if b / 2 % 2 = 1 then [] else t.inn }
def wrT (t : US) (b : Int) : Nat → US
  | 0 => sendT t b
  | 1 => ierT t b
  | 2 => fcrT t b
  | 3 => { t with lcr := b }
  | 4 => { t with mcr := b % 32 }
  | 7 => { t with scr := b }
  | 8 => { t with dl := b }
  | 9 => { t with dm := b }
  | _ => t
def feedT (t : US) (b : Int) : US := if t.inn.length = 16 then { t with lost := true } else { t with inn := t.inn ++ [b] }
def feedK (t : US) : Bool := decide (t.inn.length < 16)
theorem rsn_vals (t : US) : rsn t = 4 ∨ rsn t = 2 ∨ rsn t = 1 := by
  unfold rsn; split
  · exact .inl rfl
  · split
    · exact .inr (.inl rfl)
    · exact .inr (.inr rfl)

end Go.Proofs.YtcbjfkbmbjmnbaaDoor
