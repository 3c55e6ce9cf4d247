/- Layer 9: the document's RowOf beside its table; its Name, Op. -/
import Derived.Test.YtehlihhnkojjeaaDoorDsF
namespace Go.Proofs.YtehlihhnkojjeaaDoor
open Go.RowKit
set_option linter.unusedVariables false
set_option maxRecDepth 100000

section
variable {Q : Exit → Act → World → Prop} {w : World} {a : Act}
theorem chainN {kk : Int} (j : Nat) {n ix d : Nat} (hne : ¬ kk = (j : Int)) (ha : At3 kk n a) (hd : 3 < d) (hd2 : d + 1 < 344) {p1 p2 : String} {ty : TypeId} {af : Array Edge} {X Y : Code}
    (hn : ∀ a', At3 kk n a' → Y.wp Tryd.prog Q a' w) :
    ((Code.region ix #[{ dst := some (d + 1), op := .binOp .eql 3 (.tmp 3) (.const (.int .i64 j)) 3, type := ty, pos := p1, after := #[], guard := none }, { dst := some d, op := .assign (.tmp (d + 1)), type := ty, pos := p2, after := af, guard := none }] false).seq (Code.cond (.tmp d) X Y)).wp Tryd.prog Q a w := by
  refine wp_seq (wp_region_list ?_)
  refine wpList_eqlI rfl rfl ha.t3 ?_
  refine wpList_asg rfl rfl (wpList_nil ?_)
  rw [Act.eval_put_same _ _ _ (by rw [ha.sz]; omega)]
  show (Code.cond (.tmp d) X Y).wp Tryd.prog Q _ w
  have ha' := (ha.put (show 3 < d + 1 by omega) (.bool (kk == j))).put hd (.bool (kk == j))
  have hb : (kk == (j : Int)) = false := by rw [beq_eq_false_iff_ne]; exact hne
  refine wp_cond_false ?_ (hn _ ha')
  rw [Act.eval_put_same _ _ _ (by rw [Act.size_put, ha.sz]; omega), hb]
theorem bldX0 : Tryd.prog.built 65 [] = some #[.string ⟨#[]⟩, .int .u32 0, .int .u32 0, .int .u8 0] := by kernel_rfl
theorem row_zero {R : Ending → World → Prop} {kk : Int} {n e ix : Nat} {old : Array Value} (ha : At3 kk n a) (he : 3 < e) (he2 : e < 344) {p1 p2 : String} {ty ty2 : TypeId} {af : Array Edge}
    (hw : w.heap[n]? = some (.cells old 65 (0, 0))) (ho : old.size = 4) (hQ : ∀ a' w', bodyPost Tryd.prog Tryd.f23 R .ret a' w' → Q .ret a' w')
    (hR : R (.returned (.agg #[.string ⟨#[]⟩, .int .u32 0, .int .u32 0, .int .u8 0])) (w.setRow n #[.string ⟨#[]⟩, .int .u32 0, .int .u32 0, .int .u8 0])) :
    ((Code.region ix #[{ dst := some e, op := .build 65 #[], type := ty, pos := p1, after := #[], guard := none }, { dst := none, op := .store 65 (.tmp 2) (.tmp e), type := ty2, pos := p2, after := af, guard := none }] false).seq Code.ret).wp Tryd.prog Q a w := by
  refine wp_seq (wp_region_list ?_)
  refine wpList_build rfl _ _ rfl (by simp [bldX0]) ?_
  simp only [List.map_toArray, List.map_nil]
  have hev : Tryd.prog.built 65 [] = some #[.string ⟨#[]⟩, .int .u32 0, .int .u32 0, .int .u8 0] := bldX0
  rw [hev]
  have ha' := ha.put he (.agg #[.string ⟨#[]⟩, .int .u32 0, .int .u32 0, .int .u8 0])
  refine wpList_store_row rfl _ _ _ rfl n #[.string ⟨#[]⟩, .int .u32 0, .int .u32 0, .int .u8 0] ha'.t2 (Act.eval_put_same _ _ _ (by rw [ha.sz]; omega)) _ old hw size_rowX ho (by simp [Value.oneCell']) (wpList_nil ?_)
  show Code.ret.wp Tryd.prog Q _ _
  refine wp_ret (hQ _ _ ?_)
  exact bodyPost_ret (results_cell_row hres _ _ n 65 _ _ _ ha'.t2 (setRow_heap _ _ _ _ _ _ hw) Tryd.underlying65 rfl size_rowX) ha'.df hR
end

set_option maxHeartbeats 4000000 in
theorem refRow_no (op : Int) (h : ¬ (1 ≤ op ∧ op ≤ 113)) (w : World) :
    Calls Tryd.prog 23 #[.int .i64 op] w fun e w' => e = .returned (.agg #[.string ⟨#[]⟩, .int .u32 0, .int .u32 0, .int .u8 0]) ∧ Below w.heap.size w w' := by
  let R0 : Ending → World → Prop := fun e w' => e = .returned (.agg #[.string ⟨#[]⟩, .int .u32 0, .int .u32 0, .int .u8 0]) ∧ Below w.heap.size w w'
  go_enter Tryd.func23, Tryd.ntmps23
  go_upto_block 0 with (fail)
  refine wp_block ?_
  have hw := heap_alloc_new w (.cells #[.string ⟨#[]⟩, .int .u32 0, .int .u32 0, .int .u8 0] 65)
  have hb : ∀ cs, Below w.heap.size w ((w.alloc (.cells #[.string ⟨#[]⟩, .int .u32 0, .int .u32 0, .int .u8 0] 65)).setRow w.heap.size cs) := fun cs => below_setRow ((Below.refl _ _).alloc (Nat.le_refl _) _) (Nat.le_refl _) cs
  generalize w.alloc (.cells #[.string ⟨#[]⟩, .int .u32 0, .int .u32 0, .int .u8 0] 65) = w1 at *
  refine chainN 1 (by omega) ⟨rfl, rfl, rfl, rfl⟩ (by omega) (by omega) (fun a1 h1 => ?_)
  refine chainN 2 (by omega) h1 (by omega) (by omega) (fun a2 h2 => ?_)
  refine chainN 3 (by omega) h2 (by omega) (by omega) (fun a3 h3 => ?_)
  refine chainN 4 (by omega) h3 (by omega) (by omega) (fun a4 h4 => ?_)
  refine chainN 5 (by omega) h4 (by omega) (by omega) (fun a5 h5 => ?_)
  refine chainN 6 (by omega) h5 (by omega) (by omega) (fun a6 h6 => ?_)
  refine chainN 7 (by omega) h6 (by omega) (by omega) (fun a7 h7 => ?_)
  refine chainN 8 (by omega) h7 (by omega) (by omega) (fun a8 h8 => ?_)
  refine chainN 9 (by omega) h8 (by omega) (by omega) (fun a9 h9 => ?_)
  refine chainN 10 (by omega) h9 (by omega) (by omega) (fun a10 h10 => ?_)
  refine chainN 11 (by omega) h10 (by omega) (by omega) (fun a11 h11 => ?_)
  refine chainN 12 (by omega) h11 (by omega) (by omega) (fun a12 h12 => ?_)
  refine chainN 13 (by omega) h12 (by omega) (by omega) (fun a13 h13 => ?_)
  refine chainN 14 (by omega) h13 (by omega) (by omega) (fun a14 h14 => ?_)
  refine chainN 15 (by omega) h14 (by omega) (by omega) (fun a15 h15 => ?_)
  refine chainN 16 (by omega) h15 (by omega) (by omega) (fun a16 h16 => ?_)
  refine chainN 17 (by omega) h16 (by omega) (by omega) (fun a17 h17 => ?_)
  refine chainN 18 (by omega) h17 (by omega) (by omega) (fun a18 h18 => ?_)
  refine chainN 19 (by omega) h18 (by omega) (by omega) (fun a19 h19 => ?_)
  refine chainN 20 (by omega) h19 (by omega) (by omega) (fun a20 h20 => ?_)
  refine chainN 21 (by omega) h20 (by omega) (by omega) (fun a21 h21 => ?_)
  refine chainN 22 (by omega) h21 (by omega) (by omega) (fun a22 h22 => ?_)
  refine chainN 23 (by omega) h22 (by omega) (by omega) (fun a23 h23 => ?_)
  refine chainN 24 (by omega) h23 (by omega) (by omega) (fun a24 h24 => ?_)
  refine chainN 25 (by omega) h24 (by omega) (by omega) (fun a25 h25 => ?_)
  refine chainN 26 (by omega) h25 (by omega) (by omega) (fun a26 h26 => ?_)
  refine chainN 27 (by omega) h26 (by omega) (by omega) (fun a27 h27 => ?_)
  refine chainN 28 (by omega) h27 (by omega) (by omega) (fun a28 h28 => ?_)
  refine chainN 29 (by omega) h28 (by omega) (by omega) (fun a29 h29 => ?_)
  refine chainN 30 (by omega) h29 (by omega) (by omega) (fun a30 h30 => ?_)
  refine chainN 31 (by omega) h30 (by omega) (by omega) (fun a31 h31 => ?_)
  refine chainN 32 (by omega) h31 (by omega) (by omega) (fun a32 h32 => ?_)
  refine chainN 33 (by omega) h32 (by omega) (by omega) (fun a33 h33 => ?_)
  refine chainN 34 (by omega) h33 (by omega) (by omega) (fun a34 h34 => ?_)
  refine chainN 35 (by omega) h34 (by omega) (by omega) (fun a35 h35 => ?_)
  refine chainN 36 (by omega) h35 (by omega) (by omega) (fun a36 h36 => ?_)
  refine chainN 37 (by omega) h36 (by omega) (by omega) (fun a37 h37 => ?_)
  refine chainN 38 (by omega) h37 (by omega) (by omega) (fun a38 h38 => ?_)
  refine chainN 39 (by omega) h38 (by omega) (by omega) (fun a39 h39 => ?_)
  refine chainN 40 (by omega) h39 (by omega) (by omega) (fun a40 h40 => ?_)
  refine chainN 41 (by omega) h40 (by omega) (by omega) (fun a41 h41 => ?_)
  refine chainN 42 (by omega) h41 (by omega) (by omega) (fun a42 h42 => ?_)
  refine chainN 43 (by omega) h42 (by omega) (by omega) (fun a43 h43 => ?_)
  refine chainN 44 (by omega) h43 (by omega) (by omega) (fun a44 h44 => ?_)
  refine chainN 45 (by omega) h44 (by omega) (by omega) (fun a45 h45 => ?_)
  refine chainN 46 (by omega) h45 (by omega) (by omega) (fun a46 h46 => ?_)
  refine chainN 47 (by omega) h46 (by omega) (by omega) (fun a47 h47 => ?_)
  refine chainN 48 (by omega) h47 (by omega) (by omega) (fun a48 h48 => ?_)
  refine chainN 49 (by omega) h48 (by omega) (by omega) (fun a49 h49 => ?_)
  refine chainN 50 (by omega) h49 (by omega) (by omega) (fun a50 h50 => ?_)
  refine chainN 51 (by omega) h50 (by omega) (by omega) (fun a51 h51 => ?_)
  refine chainN 52 (by omega) h51 (by omega) (by omega) (fun a52 h52 => ?_)
  refine chainN 53 (by omega) h52 (by omega) (by omega) (fun a53 h53 => ?_)
  refine chainN 54 (by omega) h53 (by omega) (by omega) (fun a54 h54 => ?_)
  refine chainN 55 (by omega) h54 (by omega) (by omega) (fun a55 h55 => ?_)
  refine chainN 56 (by omega) h55 (by omega) (by omega) (fun a56 h56 => ?_)
  refine chainN 57 (by omega) h56 (by omega) (by omega) (fun a57 h57 => ?_)
  refine chainN 58 (by omega) h57 (by omega) (by omega) (fun a58 h58 => ?_)
  refine chainN 59 (by omega) h58 (by omega) (by omega) (fun a59 h59 => ?_)
  refine chainN 60 (by omega) h59 (by omega) (by omega) (fun a60 h60 => ?_)
  refine chainN 61 (by omega) h60 (by omega) (by omega) (fun a61 h61 => ?_)
  refine chainN 62 (by omega) h61 (by omega) (by omega) (fun a62 h62 => ?_)
  refine chainN 63 (by omega) h62 (by omega) (by omega) (fun a63 h63 => ?_)
  refine chainN 64 (by omega) h63 (by omega) (by omega) (fun a64 h64 => ?_)
  refine chainN 65 (by omega) h64 (by omega) (by omega) (fun a65 h65 => ?_)
  refine chainN 66 (by omega) h65 (by omega) (by omega) (fun a66 h66 => ?_)
  refine chainN 67 (by omega) h66 (by omega) (by omega) (fun a67 h67 => ?_)
  refine chainN 68 (by omega) h67 (by omega) (by omega) (fun a68 h68 => ?_)
  refine chainN 69 (by omega) h68 (by omega) (by omega) (fun a69 h69 => ?_)
  refine chainN 70 (by omega) h69 (by omega) (by omega) (fun a70 h70 => ?_)
  refine chainN 71 (by omega) h70 (by omega) (by omega) (fun a71 h71 => ?_)
  refine chainN 72 (by omega) h71 (by omega) (by omega) (fun a72 h72 => ?_)
  refine chainN 73 (by omega) h72 (by omega) (by omega) (fun a73 h73 => ?_)
  refine chainN 74 (by omega) h73 (by omega) (by omega) (fun a74 h74 => ?_)
  refine chainN 75 (by omega) h74 (by omega) (by omega) (fun a75 h75 => ?_)
  refine chainN 76 (by omega) h75 (by omega) (by omega) (fun a76 h76 => ?_)
  refine chainN 77 (by omega) h76 (by omega) (by omega) (fun a77 h77 => ?_)
  refine chainN 78 (by omega) h77 (by omega) (by omega) (fun a78 h78 => ?_)
  refine chainN 79 (by omega) h78 (by omega) (by omega) (fun a79 h79 => ?_)
  refine chainN 80 (by omega) h79 (by omega) (by omega) (fun a80 h80 => ?_)
  refine chainN 81 (by omega) h80 (by omega) (by omega) (fun a81 h81 => ?_)
  refine chainN 82 (by omega) h81 (by omega) (by omega) (fun a82 h82 => ?_)
  refine chainN 83 (by omega) h82 (by omega) (by omega) (fun a83 h83 => ?_)
  refine chainN 84 (by omega) h83 (by omega) (by omega) (fun a84 h84 => ?_)
  refine chainN 85 (by omega) h84 (by omega) (by omega) (fun a85 h85 => ?_)
  refine chainN 86 (by omega) h85 (by omega) (by omega) (fun a86 h86 => ?_)
  refine chainN 87 (by omega) h86 (by omega) (by omega) (fun a87 h87 => ?_)
  refine chainN 88 (by omega) h87 (by omega) (by omega) (fun a88 h88 => ?_)
  refine chainN 89 (by omega) h88 (by omega) (by omega) (fun a89 h89 => ?_)
  refine chainN 90 (by omega) h89 (by omega) (by omega) (fun a90 h90 => ?_)
  refine chainN 91 (by omega) h90 (by omega) (by omega) (fun a91 h91 => ?_)
  refine chainN 92 (by omega) h91 (by omega) (by omega) (fun a92 h92 => ?_)
  refine chainN 93 (by omega) h92 (by omega) (by omega) (fun a93 h93 => ?_)
  refine chainN 94 (by omega) h93 (by omega) (by omega) (fun a94 h94 => ?_)
  refine chainN 95 (by omega) h94 (by omega) (by omega) (fun a95 h95 => ?_)
  refine chainN 96 (by omega) h95 (by omega) (by omega) (fun a96 h96 => ?_)
  refine chainN 97 (by omega) h96 (by omega) (by omega) (fun a97 h97 => ?_)
  refine chainN 98 (by omega) h97 (by omega) (by omega) (fun a98 h98 => ?_)
  refine chainN 99 (by omega) h98 (by omega) (by omega) (fun a99 h99 => ?_)
  refine chainN 100 (by omega) h99 (by omega) (by omega) (fun a100 h100 => ?_)
  refine chainN 101 (by omega) h100 (by omega) (by omega) (fun a101 h101 => ?_)
  refine chainN 102 (by omega) h101 (by omega) (by omega) (fun a102 h102 => ?_)
  refine chainN 103 (by omega) h102 (by omega) (by omega) (fun a103 h103 => ?_)
  refine chainN 104 (by omega) h103 (by omega) (by omega) (fun a104 h104 => ?_)
  refine chainN 105 (by omega) h104 (by omega) (by omega) (fun a105 h105 => ?_)
  refine chainN 106 (by omega) h105 (by omega) (by omega) (fun a106 h106 => ?_)
  refine chainN 107 (by omega) h106 (by omega) (by omega) (fun a107 h107 => ?_)
  refine chainN 108 (by omega) h107 (by omega) (by omega) (fun a108 h108 => ?_)
  refine chainN 109 (by omega) h108 (by omega) (by omega) (fun a109 h109 => ?_)
  refine chainN 110 (by omega) h109 (by omega) (by omega) (fun a110 h110 => ?_)
  refine chainN 111 (by omega) h110 (by omega) (by omega) (fun a111 h111 => ?_)
  refine chainN 112 (by omega) h111 (by omega) (by omega) (fun a112 h112 => ?_)
  refine chainN 113 (by omega) h112 (by omega) (by omega) (fun a113 h113 => ?_)
  refine wp_skip ?_
  rename ∀ (a : Act) (w : World), _ → _ => hK
  refine hK _ _ ?_
  exact row_zero (R := R0) h113 (by omega) (by omega) hw rfl (fun _ _ h => h) ⟨rfl, hb _⟩

theorem fld_name (s : ByteArray) (mk mt l : Int) (w : World) : (Instr.field 65 (.agg #[.string s, .int .u32 mk, .int .u32 mt, .int .u8 l]) 0).run Tryd.prog w = .ok (.string s) w := by kernel_rfl
theorem refName_yes (k : Nat) (h1 : 1 ≤ k) (h2 : k ≤ 113) (w : World) :
    Calls Tryd.prog 16 #[.int .i64 k] w fun e w' => e = .returned (.string (nameT k)) ∧ Below w.heap.size w w' := by
  have HF := Lib.hid (refRow_any k h1 h2)
  generalize nameT k = nm at *
  generalize (mskT k : Int) = mk at *
  generalize (matT k : Int) = mt at *
  generalize (letT (frmT k) : Int) = lt at *
  clear h1 h2
  have hfl := fld_name
  go_enter Tryd.func16, Tryd.ntmps16
  go_wp2_with (go_at_call 23; (with_reducible refine (HF.out _).mono ?_); rintro e1 w1 ⟨rfl, hb1⟩)
  go_ret
  exact ⟨rfl, hb1⟩
theorem refName_no (op : Int) (h : ¬ (1 ≤ op ∧ op ≤ 113)) (w : World) :
    Calls Tryd.prog 16 #[.int .i64 op] w fun e w' => e = .returned (.string ⟨#[]⟩) ∧ Below w.heap.size w w' := by
  have HF := Lib.hid (refRow_no op h)
  clear h
  have hfl := fld_name
  go_enter Tryd.func16, Tryd.ntmps16
  go_wp2_with (go_at_call 23; (with_reducible refine (HF.out _).mono ?_); rintro e1 w1 ⟨rfl, hb1⟩)
  go_ret
  exact ⟨rfl, hb1⟩
set_option maxHeartbeats 1000000 in
theorem refOp_yes (k : Nat) (h1 : 1 ≤ k) (h2 : k ≤ 113) (s : ByteArray) (hk : sameT k s = true) (hno : ∀ j, 1 ≤ j → j < k → sameT j s = false) (w : World) :
    Calls Tryd.prog 18 #[.string s] w fun e w' => e = .returned (.int .i64 k) ∧ Below w.heap.size w w' := by
  have HK := Lib.hid hk
  have HNO := Lib.hid hno
  clear hk hno
  have hfl := fld_name
  go_enter Tryd.func18, Tryd.ntmps18
  go_wp2
  go_loopw [3] (fun i wr => ∃ j : Nat, 1 ≤ j ∧ j ≤ k ∧ i = .int .i64 j ∧ Below w.heap.size w wr) (fun i _ => (k + 1 - intOf i).toNat)
  case atStart => exact ⟨1, by omega, h1, rfl, Below.refl _ _⟩
  case round =>
    obtain ⟨j, hj1, hj2, rfl, hz⟩ := hrel
    have HZ := Lib.hid hz
    clear hz
    have hj3 : (j : Int) ≤ 113 := by omega
    have HF := Lib.hid fun w => refRow_any j hj1 (by omega) w
    generalize (mskT j : Int) = mk at *
    generalize (matT j : Int) = mt at *
    generalize (letT (frmT j) : Int) = lt at *
    by_cases e : j < k
    · have hq : ((nameT j).toList == s.toList) = false := HNO.out j hj1 e
      generalize nameT j = nm at *
      clear hj1
      go_wp2_with (go_at_call 23; (with_reducible refine (HF.out _).mono ?_); rintro e1 w1 ⟨rfl, hb1⟩; have HZ1 := Lib.hid (HZ.out.trans (hb1.mono HZ.out.size)); clear hb1)
      go_roundw
      case rel => exact ⟨j + 1, by omega, by omega, by go_num, HZ1.out⟩
      case measure => simp [intOf]; omega
    · obtain rfl : j = k := by omega
      have hq : ((nameT j).toList == s.toList) = true := HK.out
      generalize nameT j = nm at *
      clear hj1
      go_wp2_with (go_at_call 23; (with_reducible refine (HF.out _).mono ?_); rintro e1 w1 ⟨rfl, hb1⟩; have HZ1 := Lib.hid (HZ.out.trans (hb1.mono HZ.out.size)); clear hb1)
      go_ret
      exact ⟨rfl, HZ1.out⟩
set_option maxHeartbeats 1000000 in
theorem refOp_no (s : ByteArray) (hno : ∀ j, 1 ≤ j → j ≤ 113 → sameT j s = false) (w : World) :
    Calls Tryd.prog 18 #[.string s] w fun e w' => e = .returned (.int .i64 0) ∧ Below w.heap.size w w' := by
  have HNO := Lib.hid hno
  clear hno
  have hfl := fld_name
  go_enter Tryd.func18, Tryd.ntmps18
  go_wp2
  go_loopw [3] (fun i wr => ∃ j : Nat, 1 ≤ j ∧ j ≤ 114 ∧ i = .int .i64 j ∧ Below w.heap.size w wr) (fun i _ => (115 - intOf i).toNat)
  case atStart => exact ⟨1, by omega, by omega, rfl, Below.refl _ _⟩
  case round =>
    obtain ⟨j, hj1, hj2, rfl, hz⟩ := hrel
    have HZ := Lib.hid hz
    clear hz
    by_cases e : j ≤ 113
    · have hj3 : (j : Int) ≤ 113 := by omega
      have HF := Lib.hid fun w => refRow_any j hj1 (by omega) w
      have hq : ((nameT j).toList == s.toList) = false := HNO.out j hj1 e
      generalize (mskT j : Int) = mk at *
      generalize (matT j : Int) = mt at *
      generalize (letT (frmT j) : Int) = lt at *
      generalize nameT j = nm at *
      clear hj1
      go_wp2_with (go_at_call 23; (with_reducible refine (HF.out _).mono ?_); rintro e1 w1 ⟨rfl, hb1⟩; have HZ1 := Lib.hid (HZ.out.trans (hb1.mono HZ.out.size)); clear hb1)
      go_roundw
      case rel => exact ⟨j + 1, by omega, by omega, by go_num, HZ1.out⟩
      case measure => simp [intOf]; omega
    · obtain rfl : j = 114 := by omega
      go_wp2
      go_ret
      exact ⟨rfl, HZ.out⟩

end Go.Proofs.YtehlihhnkojjeaaDoor
