/- Two operations of three names: what the parser answers, each pair asked by the kernel. No walk stands in this text. Operations of one level stand from the left on, a greater one binds first, brackets bind most: the walk of ParseLevels. (Written by genlev.py.) -/
import Derived.Test.YtgkdoealhbhnmaaGreatDoorPLaid
import Derived.Test.YtgkdoealhbhnmaaGreatDoorPNumM
import Derived.Test.YtgkdoealhbhnmaaGreatDoorTSameM
set_option linter.unusedSimpArgs false
set_option linter.unusedVariables false
namespace Go.Proofs.YtgkdoealhbhnmaaGreatDoor.Pm
open Go
open Go.Lib (hid)

def opL : List (List UInt8) := [[124, 124], [38, 38], [124], [94], [38], [61, 61], [33, 61], [60], [60, 61], [62], [62, 61], [60, 60], [62, 62], [43], [45], [42], [47], [37]]
def opK (k : Nat) : List UInt8 := opL.getD k []
def lvL : List Int := [1, 2, 3, 4, 5, 6, 6, 7, 7, 7, 7, 8, 8, 9, 9, 10, 10, 10]
def lvK (k : Nat) : Int := lvL.getD k 0
def lt1 (a b : Nat) : List UInt8 := [120] ++ opK a ++ [121] ++ opK b ++ [122]
def lt2 (a b : Nat) : List UInt8 := [120] ++ opK a ++ [40, 121] ++ opK b ++ [122, 41]
def lt3 (a b : Nat) : List UInt8 := [40, 120] ++ opK a ++ [121, 41] ++ opK b ++ [122]
def le2 (a b : Nat) : RE := .bin (opK a) (.var [120]) (.bin (opK b) (.var [121]) (.var [122]))
def le3 (a b : Nat) : RE := .bin (opK b) (.bin (opK a) (.var [120]) (.var [121])) (.var [122])
def le1 (a b : Nat) : RE := if lvK a < lvK b then le2 a b else le3 a b
def isOk (r : Ans RE) (e : RE) : Bool := match r with
  | .ok a _ => decide (a = e)
  | .bad _ _ => false
def chkL (a b : Nat) : Bool := isOk (exprF 40 (lt1 a b)) (le1 a b) && (isOk (exprF 40 (lt2 a b)) (le2 a b) && isOk (exprF 40 (lt3 a b)) (le3 a b))
set_option maxRecDepth 100000 in
theorem lev_chk : ∀ a b : _root_.Fin 18, chkL a.val b.val = true := by decide +kernel
theorem isOk_is {r : Ans RE} {e : RE} (h : isOk r e = true) : ∃ n, r = .ok e n := by
  cases r with
  | ok a n => exact ⟨n, by rw [of_decide_eq_true h]⟩
  | bad p n => cases h
theorem lev_all {a b : Nat} (ha : a < 18) (hb : b < 18) : (∃ n, exprF 40 (lt1 a b) = .ok (le1 a b) n) ∧ (∃ n, exprF 40 (lt2 a b) = .ok (le2 a b) n) ∧ ∃ n, exprF 40 (lt3 a b) = .ok (le3 a b) n := by
  have h := lev_chk ⟨a, ha⟩ ⟨b, hb⟩
  unfold chkL at h
  simp only [Bool.and_eq_true] at h
  exact ⟨isOk_is h.1, isOk_is h.2.1, isOk_is h.2.2⟩
theorem op_short {k : Nat} (h : k < 18) : (opK k).length ≤ 2 := by
  have : ∀ k : _root_.Fin 18, (opK k.val).length ≤ 2 := by decide
  exact this ⟨k, h⟩
theorem le1_yes {a b : Nat} (h : lvK a < lvK b) : le1 a b = le2 a b := if_pos h
theorem le1_no {a b : Nat} (h : ¬ lvK a < lvK b) : le1 a b = le3 a b := if_neg h
end Go.Proofs.YtgkdoealhbhnmaaGreatDoor.Pm

set_option linter.unusedSimpArgs false
set_option linter.unusedVariables false
namespace Go.Proofs.YtgkdoealhbhnmaaGreatDoor.Pm
open Go Go.RowKit Go.Proofs.YtgkdoealhbhnmaaGreatDoor
open Go.Lib (hid)

theorem same_of {w0 : World} {T U : ET} (hT : T.In w0 0) (hU : U.In w0 0) (h : T.rightB = true) (h' : U.rightB = true) (e : T.re = U.re) : ∀ W, Past w0 W → Calls Tryz.prog 19 #[.agg #[.int .i64 T.kind, .string T.op, .int .i64 T.n, .string T.name, .slice T.kaddr T.kids.length T.kcap], .agg #[.int .i64 U.kind, .string U.op, .int .i64 U.n, .string U.name, .slice U.kaddr U.kids.length U.kcap]] W fun e w' => e = .returned (.bool true) ∧ Below W.heap.size W w' := fun W hW => by
  have h1 := sameExpr_any hT hU W hW
  rw [(sameE_iff _ T U (Nat.le_refl _) h h').2 e, ET.val_is, ET.val_is] at h1
  exact h1
def vbl : List ByteArray := [{ data := #[124, 124] }, { data := #[38, 38] }, { data := #[124] }, { data := #[94] }, { data := #[38] }, { data := #[61, 61] }, { data := #[33, 61] }, { data := #[60] }, { data := #[60, 61] }, { data := #[62] }, { data := #[62, 61] }, { data := #[60, 60] }, { data := #[62, 62] }, { data := #[43] }, { data := #[45] }, { data := #[42] }, { data := #[47] }, { data := #[37] }]
def vb (k : Nat) : ByteArray := vbl.getD k { data := #[] }
abbrev vbC : Array Value := #[.string { data := #[124, 124] }, .string { data := #[38, 38] }, .string { data := #[124] }, .string { data := #[94] }, .string { data := #[38] }, .string { data := #[61, 61] }, .string { data := #[33, 61] }, .string { data := #[60] }, .string { data := #[60, 61] }, .string { data := #[62] }, .string { data := #[62, 61] }, .string { data := #[60, 60] }, .string { data := #[62, 62] }, .string { data := #[43] }, .string { data := #[45] }, .string { data := #[42] }, .string { data := #[47] }, .string { data := #[37] }]
abbrev lvC' : Array Value := #[.int .i64 1, .int .i64 2, .int .i64 3, .int .i64 4, .int .i64 5, .int .i64 6, .int .i64 6, .int .i64 7, .int .i64 7, .int .i64 7, .int .i64 7, .int .i64 8, .int .i64 8, .int .i64 9, .int .i64 9, .int .i64 10, .int .i64 10, .int .i64 10]
theorem vbC_is : vbC = (vbl.map Value.string).toArray := rfl
theorem lvC'_is : lvC' = (lvL.map (Value.int .i64)).toArray := rfl
theorem vbC_at (k : Nat) (h : k < 18) : vbC[k]? = some (.string (vb k)) := by
  have hl : k < vbl.length := h
  rw [vbC_is, List.getElem?_toArray, List.getElem?_map, List.getElem?_eq_getElem hl]
  simp only [Option.map_some, vb, List.getD_eq_getElem?_getD, List.getElem?_eq_getElem hl, Option.getD_some]
theorem lvC'_at (k : Nat) (h : k < 18) : lvC'[k]? = some (.int .i64 (lvK k)) := by
  have hl : k < lvL.length := h
  rw [lvC'_is, List.getElem?_toArray, List.getElem?_map, List.getElem?_eq_getElem hl]
  simp only [Option.map_some, lvK, List.getD_eq_getElem?_getD, List.getElem?_eq_getElem hl, Option.getD_some]
theorem vb_is (k : Nat) (h : k < 18) : (vb k).data.toList = opK k ∧ (vb k).size ≤ 2 := by
  have : ∀ k : _root_.Fin 18, (vb k.val).data.toList = opK k.val ∧ (vb k.val).size ≤ 2 := by decide +kernel
  exact this ⟨k, h⟩
theorem op_of {s : ByteArray} {k : Nat} {l : List UInt8} (h : s.data.toList = l) (h2 : (vb k).data.toList = l) : s = vb k := by
  cases s with
  | mk d =>
    cases e : vb k with
    | mk d2 =>
      rw [e] at h2
      congr 1
      exact Array.toList_inj.1 (h.trans h2.symm)
theorem past_set {w0 w : World} {X k : Nat} (h : Past w0 w) (hX : w0.heap.size ≤ X) (v : Value) : Past w0 (w.setCell ⟨X, k, none⟩ v) := Below.setCell h (p := ⟨X, k, none⟩) hX v
theorem cat_run (a b : ByteArray) (h : a.size + b.size ≤ 1000) : ∃ s : ByteArray, s.data.toList = a.data.toList ++ b.data.toList ∧ s.size = a.size + b.size ∧ ∀ w : World, (Op.stringOp .add a b).run Tryz.prog w = .ok (.string s) w := by
  refine ⟨a ++ b, by simp, by simp, fun w => ?_⟩
  unfold Op.stringOp
  have h2 : ¬ ((a.size + b.size : Nat) : Int) > IntKind.i64.max := by
    have : IntKind.i64.max = 9223372036854775807 := rfl
    omega
  simp only [h2]
  rfl
theorem expr_at {w0 w : World} (H : Wo w0) (hp : Past w0 w) (m : Nat) (sb : ByteArray) {l : List UInt8} {r : RE} {mo : Nat} (hs : sb.data.toList = l) (hl : l.length ≤ 8192) (ev : exprF m l = .ok r mo) {Q : Ending → World → Prop} (k : ∀ (T : ET) (n : Int) (w' : World), Past w0 w' → Below w.heap.size w w' → (T.re = r ∧ T.rightB = true ∧ T.In w' w.heap.size) → Q (.returned (.tuple #[.agg #[.int .i64 T.kind, .string T.op, .int .i64 T.n, .string T.name, .slice T.kaddr T.kids.length T.kcap], .int .i64 n, .int .i64 0])) w') : Calls Tryz.prog 18 #[.string sb] w Q := by
  refine (expr_fine (H.on hp) m sb hs hl ev).mono ?_
  rintro e w' ⟨hb, T, rfl, hT⟩
  exact k T _ w' (hp.on hb) hb hT
structure LF (a b : Nat) (oA oB : ByteArray) (O L : Nat) (w W : World) : Prop where
  oa : W.cell? ⟨O, a, none⟩ = some (.string oA)
  ob : W.cell? ⟨O, b, none⟩ = some (.string oB)
  la : W.cell? ⟨L, a, none⟩ = some (.int .i64 (lvK a))
  lb : W.cell? ⟨L, b, none⟩ = some (.int .i64 (lvK b))
  va : oA.data.toList = opK a
  vb : oB.data.toList = opK b
  sa : oA.size ≤ 2
  sb : oB.size ≤ 2
  ha : a < 18
  hb : b < 18
  wo : Wo W
  hp : Past w W
theorem LF.on {a b : Nat} {oA oB : ByteArray} {O L : Nat} {w W W' : World} (h : LF a b oA oB O L w W) (hp : Past W W') : LF a b oA oB O L w W' :=
  ⟨cell0 hp h.oa, cell0 hp h.ob, cell0 hp h.la, cell0 hp h.lb, h.va, h.vb, h.sa, h.sb, h.ha, h.hb, h.wo.on hp, h.hp.on hp⟩
structure LT (X : Nat) (T : ET) (r : RE) (W : World) : Prop where
  hX : W.heap[X]? = some (.cells #[.int .i64 T.kind, .string T.op, .int .i64 T.n, .string T.name, .slice T.kaddr T.kids.length T.kcap] 43 (0, 0))
  re : T.re = r
  rb : T.rightB = true
  hin : T.In W 0
theorem LT.on {X : Nat} {T : ET} {r : RE} {W W' : World} (h : LT X T r W) (hp : Past W W') : LT X T r W' :=
  ⟨(hp.block X (lt_of_block h.hX)).trans h.hX, h.re, h.rb, h.hin.on hp⟩
theorem end_B {w3 w4 : World} {T : ET} {r : RE} {B : Nat} (hp : Past w3 w4) (hT : T.re = r ∧ T.rightB = true ∧ T.In w4 B) : Past w3 (w4.alloc (.cells #[.int .i64 T.kind, .string T.op, .int .i64 T.n, .string T.name, .slice T.kaddr T.kids.length T.kcap] 43)) ∧ LT w4.heap.size T r (w4.alloc (.cells #[.int .i64 T.kind, .string T.op, .int .i64 T.n, .string T.name, .slice T.kaddr T.kids.length T.kcap] 43)) :=
  ⟨hp.alloc _, bk_new _ _, hT.1, hT.2.1, (inB hT.2.2).mono (Nat.zero_le _)⟩
theorem end_A {w3 w4 : World} {T : ET} {r : RE} (hp : Past w3 w4) (hT : T.re = r ∧ T.rightB = true ∧ T.In w4 (w3.alloc (.cells #[.int .i64 0, .string { data := #[] }, .int .i64 0, .string { data := #[] }, .slice none 0 0] 43)).drew.heap.size) (bx : w4.heap[w3.heap.size]? = some (.cells #[.int .i64 0, .string { data := #[] }, .int .i64 0, .string { data := #[] }, .slice none 0 0] 43 (0, 0))) :
    Past w3 (((((w4.setCell ⟨w3.heap.size, 0, none⟩ (.int .i64 T.kind)).setCell ⟨w3.heap.size, 1, none⟩ (.string T.op)).setCell ⟨w3.heap.size, 2, none⟩ (.int .i64 T.n)).setCell ⟨w3.heap.size, 3, none⟩ (.string T.name)).setCell ⟨w3.heap.size, 4, none⟩ (.slice T.kaddr T.kids.length T.kcap)) ∧
      LT w3.heap.size T r (((((w4.setCell ⟨w3.heap.size, 0, none⟩ (.int .i64 T.kind)).setCell ⟨w3.heap.size, 1, none⟩ (.string T.op)).setCell ⟨w3.heap.size, 2, none⟩ (.int .i64 T.n)).setCell ⟨w3.heap.size, 3, none⟩ (.string T.name)).setCell ⟨w3.heap.size, 4, none⟩ (.slice T.kaddr T.kids.length T.kcap)) := by
  have hle := Nat.le_refl w3.heap.size
  refine ⟨past_set (past_set (past_set (past_set (past_set hp hle _) hle _) hle _) hle _) hle _, ?_, hT.1, hT.2.1, (ET.In.keep (fun p v hB hc => ?_) hT.2.2).mono (Nat.zero_le _)⟩
  · exact bk_set (.slice T.kaddr T.kids.length T.kcap) (bk_set (.string T.name) (bk_set (.int .i64 T.n) (bk_set (.string T.op) (bk_set (.int .i64 T.kind) bx))))
  · have hne : p.block ≠ w3.heap.size := by
      have : (w3.alloc (.cells #[.int .i64 0, .string { data := #[] }, .int .i64 0, .string { data := #[] }, .slice none 0 0] 43)).drew.heap.size = w3.heap.size + 1 := by simp
      omega
    rw [World.cell?_of_block (w := w4) ((Below.heap_setCell _ _ _ _ hne).trans ((Below.heap_setCell _ _ _ _ hne).trans ((Below.heap_setCell _ _ _ _ hne).trans ((Below.heap_setCell _ _ _ _ hne).trans (Below.heap_setCell _ _ _ _ hne)))))]
    exact hc
def LPost (w : World) (e : Ending) (w' : World) : Prop := e = .returned (.bool true) ∧ Below w.heap.size w w'
def seqN (n : Nat) : Code → Option (Code × Code)
  | .seq (.region m o d) r => if m = n then some (.region m o d, r) else seqN n r
  | .seq a b => match seqN n a with
    | some c => some c
    | none => seqN n b
  | .block _ c => seqN n c
  | .loop c => seqN n c
  | .scope c => seqN n c
  | .cond _ a b => match seqN n a with
    | some c => some c
    | none => seqN n b
  | _ => none
noncomputable def levC (n : Nat) : Code := (((Tryz.f8.body.bind (seqN n)).getD (.skip, .skip)).1)
noncomputable def levR (n : Nat) : Code := (((Tryz.f8.body.bind (seqN n)).getD (.skip, .skip)).2)
theorem opAt {ops : Array Oper} {i : Nat} {o : Oper} (h : ops.toList[i]? = some o) : ops[i]? = some o := by simpa using h
set_option maxHeartbeats 8000000 in
set_option maxRecDepth 100000 in
theorem lev13_go {a b : Nat} {oA oB : ByteArray} {O L : Nat} {X Y Z : Nat} {TX TY TZ : ET} {w W : World} {K : Act → World → Prop} (hK : ∀ a w', Code.wp Tryz.prog (levR 13) (bodyPost Tryz.prog Tryz.f8 (LPost w)) a w' → K a w') (F : LF a b oA oB O L w W) (hX : LT X TX (le1 a b) W) (hY : LT Y TY (le2 a b) W) (hZ : LT Z TZ (le3 a b) W) {j0 j1 j2 j3 j4 j11 j14 j17 j19 j20 j21 j22 j23 j24 j25 j26 j27 j28 j29 j30 j31 j32 j33 j34 j35 j36 j37 j38 j39 j40 j41 j42 j43 j44 j45 j46 j47 j48 j49 j50 j51 j52 j53 j54 j55 j56 j57 j58 j59 j60 j61 j62 j63 j64 j65 j66 j67 j68 j69 j70 j71 j72 j73 j74 j75 j76 j77 j78 j79 j80 j81 j82 j83 j84 j85 j86 j87 j88 j89 j90 j91 j92 j93 j94 j95 j96 j97 j98 j99 j100 j101 j102 j103 j104 j105 j106 j107 j108 j109 j110 j111 j112 j113 j114 j115 j116 j117 j118 j119 j120 j121 j122 j123 j124 j125 j126 j127 j128 j129 j130 j131 j132 j133 j134 j135 j136 j137 j138 j139 j140 j141 : Value} :
    Code.wp Tryz.prog (levC 13) (Exit.then K (bodyPost Tryz.prog Tryz.f8 (LPost w))) ⟨#[j0, j1, j2, j3, j4, .bool true, .slice (some ⟨O, 0, none⟩) 18 18, .slice (some ⟨L, 0, none⟩) 18 18, .int .i64 a, .int .i64 b, .pointer (some ⟨X, 0, none⟩), j11, .int .i64 0, .pointer (some ⟨Y, 0, none⟩), j14, .int .i64 0, .pointer (some ⟨Z, 0, none⟩), j17, .int .i64 0, j19, j20, j21, j22, j23, j24, j25, j26, j27, j28, j29, j30, j31, j32, j33, j34, j35, j36, j37, j38, j39, j40, j41, j42, j43, j44, j45, j46, j47, j48, j49, j50, j51, j52, j53, j54, j55, j56, j57, j58, j59, j60, j61, j62, j63, j64, j65, j66, j67, j68, j69, j70, j71, j72, j73, j74, j75, j76, j77, j78, j79, j80, j81, j82, j83, j84, j85, j86, j87, j88, j89, j90, j91, j92, j93, j94, j95, j96, j97, j98, j99, j100, j101, j102, j103, j104, j105, j106, j107, j108, j109, j110, j111, j112, j113, j114, j115, j116, j117, j118, j119, j120, j121, j122, j123, j124, j125, j126, j127, j128, j129, j130, j131, j132, j133, j134, j135, j136, j137, j138, j139, j140, j141], []⟩ W := by
  have hK' := hK
  conv at hK' => intro a w'; arg 1; arg 2; whnf
  conv => arg 2; whnf
  clear hK
  obtain ⟨-, -, -, -, -, pY, -⟩ := bin_shape (c := opK a) (q0 := .var [120]) (r := .bin (opK b) (.var [121]) (.var [122])) hY.re hY.rb hY.hin
  obtain ⟨-, -, -, -, -, pZ, -⟩ := bin_shape (c := opK b) (q0 := .bin (opK a) (.var [120]) (.var [121])) (r := .var [122]) hZ.re hZ.rb hZ.hin
  have eY : TY.op = oA := Lx.ba_ext (pY.trans F.va.symm)
  have eZ : TZ.op = oB := Lx.ba_ext (pZ.trans F.vb.symm)
  have xX := hX.hX
  have xY := hY.hX
  have xZ := hZ.hX
  rw [eY] at xY
  rw [eZ] at xZ
  have HC : Hid (∀ W', Past W W' → (W'.cell? ⟨X, 0, none⟩ = some (.int .i64 TX.kind) ∧ W'.cell? ⟨X, 1, none⟩ = some (.string TX.op) ∧ W'.cell? ⟨X, 2, none⟩ = some (.int .i64 TX.n) ∧ W'.cell? ⟨X, 3, none⟩ = some (.string TX.name) ∧ W'.cell? ⟨X, 4, none⟩ = some (.slice TX.kaddr TX.kids.length TX.kcap) ∧ W'.cell? ⟨Y, 0, none⟩ = some (.int .i64 TY.kind) ∧ W'.cell? ⟨Y, 1, none⟩ = some (.string oA) ∧ W'.cell? ⟨Y, 2, none⟩ = some (.int .i64 TY.n) ∧ W'.cell? ⟨Y, 3, none⟩ = some (.string TY.name) ∧ W'.cell? ⟨Y, 4, none⟩ = some (.slice TY.kaddr TY.kids.length TY.kcap) ∧ W'.cell? ⟨Z, 0, none⟩ = some (.int .i64 TZ.kind) ∧ W'.cell? ⟨Z, 1, none⟩ = some (.string oB) ∧ W'.cell? ⟨Z, 2, none⟩ = some (.int .i64 TZ.n) ∧ W'.cell? ⟨Z, 3, none⟩ = some (.string TZ.name) ∧ W'.cell? ⟨Z, 4, none⟩ = some (.slice TZ.kaddr TZ.kids.length TZ.kcap) ∧ W'.cell? ⟨O, a, none⟩ = some (.string oA) ∧ W'.cell? ⟨O, b, none⟩ = some (.string oB) ∧ W'.cell? ⟨L, a, none⟩ = some (.int .i64 (lvK a)) ∧ W'.cell? ⟨L, b, none⟩ = some (.int .i64 (lvK b)))) := hid fun W' hW => ⟨cell0 hW (bk_cell (k := 0) xX rfl), cell0 hW (bk_cell (k := 1) xX rfl), cell0 hW (bk_cell (k := 2) xX rfl), cell0 hW (bk_cell (k := 3) xX rfl), cell0 hW (bk_cell (k := 4) xX rfl), cell0 hW (bk_cell (k := 0) xY rfl), cell0 hW (bk_cell (k := 1) xY rfl), cell0 hW (bk_cell (k := 2) xY rfl), cell0 hW (bk_cell (k := 3) xY rfl), cell0 hW (bk_cell (k := 4) xY rfl), cell0 hW (bk_cell (k := 0) xZ rfl), cell0 hW (bk_cell (k := 1) xZ rfl), cell0 hW (bk_cell (k := 2) xZ rfl), cell0 hW (bk_cell (k := 3) xZ rfl), cell0 hW (bk_cell (k := 4) xZ rfl), cell0 hW F.oa, cell0 hW F.ob, cell0 hW F.la, cell0 hW F.lb⟩
  have a0' : (0 : Int) ≤ a := by omega
  have a1' : (a : Int) < 18 := by have := F.ha; omega
  have b0' : (0 : Int) ≤ b := by omega
  have b1' : (b : Int) < 18 := by have := F.hb; omega
  have HPW := hid F.hp
  have hp : Hid (Past W W.drew) := hid (Below.refl W.heap.size W).drew
  by_cases hlt : lvK a < lvK b
  · have hs := same_of hX.hin hY.hin hX.rb hY.rb (by rw [hX.re, hY.re, le1_yes hlt])
    rw [eY] at hs
    have HS := hid hs
    have k1 : decide (lvK a < lvK b) = true := decide_eq_true hlt
    clear hs pY pZ eY eZ xX xY xZ hX hY hZ F hlt
    refine wp_region_noPanic ?_
    refine wp_region_held_drew (S := fun w' => w'.cell? ⟨X, 0, none⟩ = some (.int .i64 TX.kind) ∧ w'.cell? ⟨X, 1, none⟩ = some (.string TX.op) ∧ w'.cell? ⟨X, 2, none⟩ = some (.int .i64 TX.n) ∧ w'.cell? ⟨X, 3, none⟩ = some (.string TX.name) ∧ w'.cell? ⟨X, 4, none⟩ = some (.slice TX.kaddr TX.kids.length TX.kcap) ∧ w'.cell? ⟨Y, 0, none⟩ = some (.int .i64 TY.kind) ∧ w'.cell? ⟨Y, 1, none⟩ = some (.string oA) ∧ w'.cell? ⟨Y, 2, none⟩ = some (.int .i64 TY.n) ∧ w'.cell? ⟨Y, 3, none⟩ = some (.string TY.name) ∧ w'.cell? ⟨Y, 4, none⟩ = some (.slice TY.kaddr TY.kids.length TY.kcap) ∧ w'.cell? ⟨Z, 0, none⟩ = some (.int .i64 TZ.kind) ∧ w'.cell? ⟨Z, 1, none⟩ = some (.string oB) ∧ w'.cell? ⟨Z, 2, none⟩ = some (.int .i64 TZ.n) ∧ w'.cell? ⟨Z, 3, none⟩ = some (.string TZ.name) ∧ w'.cell? ⟨Z, 4, none⟩ = some (.slice TZ.kaddr TZ.kids.length TZ.kcap) ∧ w'.cell? ⟨O, a, none⟩ = some (.string oA) ∧ w'.cell? ⟨O, b, none⟩ = some (.string oB) ∧ w'.cell? ⟨L, a, none⟩ = some (.int .i64 (lvK a)) ∧ w'.cell? ⟨L, b, none⟩ = some (.int .i64 (lvK b))) (by kernel_rfl) ?_ (fun hHeld => ?_)
    · with_reducible exact HC.out _ hp.out
    refine wpAnyH_take (i := 0) (v := ?_) (opAt rfl) (by kernel_rfl) (by kernel_rfl) (by kernel_rfl) (fun _ _ _ h => h) (Or.inl ⟨by rfl, ?_⟩) (by assumption) ?_
    rotate_left
    · intro w' hSw; (try dsimp only at hSw); go_simp; (try with_reducible rfl)
    try simp only [Act.put, List.setIfInBounds_toArray, List.set_cons_zero, List.set_cons_succ]
    refine wpAnyH_take (i := 1) (v := ?_) (opAt rfl) (by kernel_rfl) (by kernel_rfl) (by kernel_rfl) (fun _ _ _ h => h) (Or.inl ⟨by rfl, ?_⟩) (by assumption) ?_
    rotate_left
    · intro w' hSw; (try dsimp only at hSw); go_simp; (try with_reducible rfl)
    try simp only [Act.put, List.setIfInBounds_toArray, List.set_cons_zero, List.set_cons_succ]
    refine wpAnyH_take (i := 2) (v := ?_) (opAt rfl) (by kernel_rfl) (by kernel_rfl) (by kernel_rfl) (fun _ _ _ h => h) (Or.inl ⟨by rfl, ?_⟩) (by assumption) ?_
    rotate_left
    · intro w' hSw; (try dsimp only at hSw); go_simp; (try with_reducible rfl)
    try simp only [Act.put, List.setIfInBounds_toArray, List.set_cons_zero, List.set_cons_succ]
    refine wpAnyH_take (i := 3) (v := ?_) (opAt rfl) (by kernel_rfl) (by kernel_rfl) (by kernel_rfl) (fun _ _ _ h => h) (Or.inl ⟨by rfl, ?_⟩) (by assumption) ?_
    rotate_left
    · intro w' hSw; (try dsimp only at hSw); go_simp; (try with_reducible rfl)
    try simp only [Act.put, List.setIfInBounds_toArray, List.set_cons_zero, List.set_cons_succ]
    refine wpAnyH_take (i := 4) (v := ?_) (opAt rfl) (by kernel_rfl) (by kernel_rfl) (by kernel_rfl) (fun _ _ _ h => h) (Or.inl ⟨by rfl, ?_⟩) (by assumption) ?_
    rotate_left
    · intro w' hSw; (try dsimp only at hSw); go_simp; (try with_reducible rfl)
    try simp only [Act.put, List.setIfInBounds_toArray, List.set_cons_zero, List.set_cons_succ]
    refine wpAnyH_take (i := 5) (v := ?_) (opAt rfl) (by kernel_rfl) (by kernel_rfl) (by kernel_rfl) (fun _ _ _ h => h) (Or.inl ⟨by rfl, ?_⟩) (by assumption) ?_
    rotate_left
    · intro w' hSw; (try dsimp only at hSw); go_simp; (try with_reducible rfl)
    try simp only [Act.put, List.setIfInBounds_toArray, List.set_cons_zero, List.set_cons_succ]
    refine wpAnyH_take (i := 6) (v := ?_) (opAt rfl) (by kernel_rfl) (by kernel_rfl) (by kernel_rfl) (fun _ _ _ h => h) (Or.inl ⟨by rfl, ?_⟩) (by assumption) ?_
    rotate_left
    · intro w' hSw; (try dsimp only at hSw); go_simp; (try with_reducible rfl)
    try simp only [Act.put, List.setIfInBounds_toArray, List.set_cons_zero, List.set_cons_succ]
    refine wpAnyH_take (i := 7) (v := ?_) (opAt rfl) (by kernel_rfl) (by kernel_rfl) (by kernel_rfl) (fun _ _ _ h => h) (Or.inl ⟨by rfl, ?_⟩) (by assumption) ?_
    rotate_left
    · intro w' hSw; (try dsimp only at hSw); go_simp; (try with_reducible rfl)
    try simp only [Act.put, List.setIfInBounds_toArray, List.set_cons_zero, List.set_cons_succ]
    refine wpAnyH_take (i := 8) (v := ?_) (opAt rfl) (by kernel_rfl) (by kernel_rfl) (by kernel_rfl) (fun _ _ _ h => h) (Or.inl ⟨by rfl, ?_⟩) (by assumption) ?_
    rotate_left
    · intro w' hSw; (try dsimp only at hSw); go_simp; (try with_reducible rfl)
    try simp only [Act.put, List.setIfInBounds_toArray, List.set_cons_zero, List.set_cons_succ]
    refine wpAnyH_take (i := 9) (v := ?_) (opAt rfl) (by kernel_rfl) (by kernel_rfl) (by kernel_rfl) (fun _ _ _ h => h) (Or.inl ⟨by rfl, ?_⟩) (by assumption) ?_
    rotate_left
    · intro w' hSw; (try dsimp only at hSw); go_simp; (try with_reducible rfl)
    try simp only [Act.put, List.setIfInBounds_toArray, List.set_cons_zero, List.set_cons_succ]
    refine wpAnyH_take (i := 10) (v := ?_) (opAt rfl) (by kernel_rfl) (by kernel_rfl) (by kernel_rfl) (fun _ _ _ h => h) (Or.inl ⟨by rfl, ?_⟩) (by assumption) ?_
    rotate_left
    · intro w' hSw; (try dsimp only at hSw); go_simp; (try with_reducible rfl)
    try simp only [Act.put, List.setIfInBounds_toArray, List.set_cons_zero, List.set_cons_succ]
    refine wpAnyH_take (i := 11) (v := ?_) (opAt rfl) (by kernel_rfl) (by kernel_rfl) (by kernel_rfl) (fun _ _ _ h => h) (Or.inl ⟨by rfl, ?_⟩) (by assumption) ?_
    rotate_left
    · intro w' hSw; (try dsimp only at hSw); go_simp; (try with_reducible rfl)
    try simp only [Act.put, List.setIfInBounds_toArray, List.set_cons_zero, List.set_cons_succ]
    refine wpAnyH_take (i := 12) (v := ?_) (opAt rfl) (by kernel_rfl) (by kernel_rfl) (by kernel_rfl) (fun _ _ _ h => h) (Or.inl ⟨by rfl, ?_⟩) (by assumption) ?_
    rotate_left
    · intro w' hSw; (try dsimp only at hSw); go_simp; (try with_reducible rfl)
    try simp only [Act.put, List.setIfInBounds_toArray, List.set_cons_zero, List.set_cons_succ]
    refine wpAnyH_take (i := 13) (v := ?_) (opAt rfl) (by kernel_rfl) (by kernel_rfl) (by kernel_rfl) (fun _ _ _ h => h) (Or.inl ⟨by rfl, ?_⟩) (by assumption) ?_
    rotate_left
    · intro w' hSw; (try dsimp only at hSw); go_simp; (try with_reducible rfl)
    try simp only [Act.put, List.setIfInBounds_toArray, List.set_cons_zero, List.set_cons_succ]
    refine wpAnyH_ready (rs := [14]) (by kernel_rfl) (by simp) ?_
    refine AllReadyH.cons (opAt rfl) (fun K hK => ?_) AllReadyH.nil
    go_simp
    go_at_call 19; ((with_reducible refine (HS.out _ hp.out).mono ?_); rintro e wk ⟨rfl, hb⟩); have hq := hid (hp.out.on hb); clear hp hb; have hp := hq; clear hq
    (try go_wp2_with fail)
    refine hK.out _ _ (HC.out _ hp.out) (fun hHeld2 => ?_)
    clear hK K hHeld
    have hHeld := hHeld2
    clear hHeld2
    try simp only [Act.put, List.setIfInBounds_toArray, List.set_cons_zero, List.set_cons_succ]
    refine wpAnyH_take (i := 15) (v := ?_) (opAt rfl) (by kernel_rfl) (by kernel_rfl) (by kernel_rfl) (fun _ _ _ h => h) (Or.inl ⟨by rfl, ?_⟩) (by assumption) ?_
    rotate_left
    · intro w' hSw; (try dsimp only at hSw); go_simp; (try with_reducible rfl)
    try simp only [Act.put, List.setIfInBounds_toArray, List.set_cons_zero, List.set_cons_succ]
    refine wpAnyH_take (i := 16) (v := ?_) (opAt rfl) (by kernel_rfl) (by kernel_rfl) (by kernel_rfl) (fun _ _ _ h => h) (Or.inl ⟨by rfl, ?_⟩) (by assumption) ?_
    rotate_left
    · intro w' hSw; (try dsimp only at hSw); go_simp; (try with_reducible rfl)
    try simp only [Act.put, List.setIfInBounds_toArray, List.set_cons_zero, List.set_cons_succ]
    refine wpAnyH_take (i := 17) (v := undef) (opAt rfl) (by kernel_rfl) (by kernel_rfl) (by kernel_rfl) (fun _ _ _ h => h) (Or.inr ⟨by rfl, rfl⟩) (by assumption) ?_
    try simp only [Act.put, List.setIfInBounds_toArray, List.set_cons_zero, List.set_cons_succ]
    refine wpAnyH_take (i := 18) (v := undef) (opAt rfl) (by kernel_rfl) (by kernel_rfl) (by kernel_rfl) (fun _ _ _ h => h) (Or.inr ⟨by rfl, rfl⟩) (by assumption) ?_
    try simp only [Act.put, List.setIfInBounds_toArray, List.set_cons_zero, List.set_cons_succ]
    refine wpAnyH_take (i := 19) (v := undef) (opAt rfl) (by kernel_rfl) (by kernel_rfl) (by kernel_rfl) (fun _ _ _ h => h) (Or.inr ⟨by rfl, rfl⟩) (by assumption) ?_
    try simp only [Act.put, List.setIfInBounds_toArray, List.set_cons_zero, List.set_cons_succ]
    refine wpAnyH_take (i := 20) (v := undef) (opAt rfl) (by kernel_rfl) (by kernel_rfl) (by kernel_rfl) (fun _ _ _ h => h) (Or.inr ⟨by rfl, rfl⟩) (by assumption) ?_
    try simp only [Act.put, List.setIfInBounds_toArray, List.set_cons_zero, List.set_cons_succ]
    refine wpAnyH_take (i := 21) (v := undef) (opAt rfl) (by kernel_rfl) (by kernel_rfl) (by kernel_rfl) (fun _ _ _ h => h) (Or.inr ⟨by rfl, rfl⟩) (by assumption) ?_
    try simp only [Act.put, List.setIfInBounds_toArray, List.set_cons_zero, List.set_cons_succ]
    refine wpAnyH_take (i := 22) (v := undef) (opAt rfl) (by kernel_rfl) (by kernel_rfl) (by kernel_rfl) (fun _ _ _ h => h) (Or.inr ⟨by rfl, rfl⟩) (by assumption) ?_
    try simp only [Act.put, List.setIfInBounds_toArray, List.set_cons_zero, List.set_cons_succ]
    refine wpAnyH_take (i := 23) (v := undef) (opAt rfl) (by kernel_rfl) (by kernel_rfl) (by kernel_rfl) (fun _ _ _ h => h) (Or.inr ⟨by rfl, rfl⟩) (by assumption) ?_
    try simp only [Act.put, List.setIfInBounds_toArray, List.set_cons_zero, List.set_cons_succ]
    refine wpAnyH_take (i := 24) (v := undef) (opAt rfl) (by kernel_rfl) (by kernel_rfl) (by kernel_rfl) (fun _ _ _ h => h) (Or.inr ⟨by rfl, rfl⟩) (by assumption) ?_
    try simp only [Act.put, List.setIfInBounds_toArray, List.set_cons_zero, List.set_cons_succ]
    refine wpAnyH_take (i := 25) (v := undef) (opAt rfl) (by kernel_rfl) (by kernel_rfl) (by kernel_rfl) (fun _ _ _ h => h) (Or.inr ⟨by rfl, rfl⟩) (by assumption) ?_
    try simp only [Act.put, List.setIfInBounds_toArray, List.set_cons_zero, List.set_cons_succ]
    refine wpAnyH_take (i := 26) (v := undef) (opAt rfl) (by kernel_rfl) (by kernel_rfl) (by kernel_rfl) (fun _ _ _ h => h) (Or.inr ⟨by rfl, rfl⟩) (by assumption) ?_
    try simp only [Act.put, List.setIfInBounds_toArray, List.set_cons_zero, List.set_cons_succ]
    refine wpAnyH_take (i := 27) (v := undef) (opAt rfl) (by kernel_rfl) (by kernel_rfl) (by kernel_rfl) (fun _ _ _ h => h) (Or.inr ⟨by rfl, rfl⟩) (by assumption) ?_
    try simp only [Act.put, List.setIfInBounds_toArray, List.set_cons_zero, List.set_cons_succ]
    refine wpAnyH_take (i := 28) (v := undef) (opAt rfl) (by kernel_rfl) (by kernel_rfl) (by kernel_rfl) (fun _ _ _ h => h) (Or.inr ⟨by rfl, rfl⟩) (by assumption) ?_
    try simp only [Act.put, List.setIfInBounds_toArray, List.set_cons_zero, List.set_cons_succ]
    refine wpAnyH_take (i := 29) (v := undef) (opAt rfl) (by kernel_rfl) (by kernel_rfl) (by kernel_rfl) (fun _ _ _ h => h) (Or.inr ⟨by rfl, rfl⟩) (by assumption) ?_
    try simp only [Act.put, List.setIfInBounds_toArray, List.set_cons_zero, List.set_cons_succ]
    refine wpAnyH_take (i := 30) (v := undef) (opAt rfl) (by kernel_rfl) (by kernel_rfl) (by kernel_rfl) (fun _ _ _ h => h) (Or.inr ⟨by rfl, rfl⟩) (by assumption) ?_
    try simp only [Act.put, List.setIfInBounds_toArray, List.set_cons_zero, List.set_cons_succ]
    refine wpAnyH_take (i := 31) (v := ?_) (opAt rfl) (by kernel_rfl) (by kernel_rfl) (by kernel_rfl) (fun _ _ _ h => h) (Or.inl ⟨by rfl, ?_⟩) (by assumption) ?_
    rotate_left
    · intro w' hSw; (try dsimp only at hSw); go_simp; (try with_reducible rfl)
    try simp only [Act.put, List.setIfInBounds_toArray, List.set_cons_zero, List.set_cons_succ]
    refine wpAnyH_take (i := 32) (v := ?_) (opAt rfl) (by kernel_rfl) (by kernel_rfl) (by kernel_rfl) (fun _ _ _ h => h) (Or.inl ⟨by rfl, ?_⟩) (by assumption) ?_
    rotate_left
    · intro w' hSw; (try dsimp only at hSw); go_simp; (try with_reducible rfl)
    try simp only [Act.put, List.setIfInBounds_toArray, List.set_cons_zero, List.set_cons_succ]
    refine wpAnyH_take (i := 33) (v := ?_) (opAt rfl) (by kernel_rfl) (by kernel_rfl) (by kernel_rfl) (fun _ _ _ h => h) (Or.inl ⟨by rfl, ?_⟩) (by assumption) ?_
    rotate_left
    · intro w' hSw; (try dsimp only at hSw); go_simp; (try with_reducible rfl)
    try simp only [Act.put, List.setIfInBounds_toArray, List.set_cons_zero, List.set_cons_succ]
    refine wpAnyH_take (i := 34) (v := ?_) (opAt rfl) (by kernel_rfl) (by kernel_rfl) (by kernel_rfl) (fun _ _ _ h => h) (Or.inl ⟨by rfl, ?_⟩) (by assumption) ?_
    rotate_left
    · intro w' hSw; (try dsimp only at hSw); go_simp; (try with_reducible rfl)
    try simp only [Act.put, List.setIfInBounds_toArray, List.set_cons_zero, List.set_cons_succ]
    refine wpAnyH_take (i := 35) (v := ?_) (opAt rfl) (by kernel_rfl) (by kernel_rfl) (by kernel_rfl) (fun _ _ _ h => h) (Or.inl ⟨by rfl, ?_⟩) (by assumption) ?_
    rotate_left
    · intro w' hSw; (try dsimp only at hSw); go_simp; (try with_reducible rfl)
    try simp only [Act.put, List.setIfInBounds_toArray, List.set_cons_zero, List.set_cons_succ]
    refine wpAnyH_take (i := 36) (v := ?_) (opAt rfl) (by kernel_rfl) (by kernel_rfl) (by kernel_rfl) (fun _ _ _ h => h) (Or.inl ⟨by rfl, ?_⟩) (by assumption) ?_
    rotate_left
    · intro w' hSw; (try dsimp only at hSw); go_simp; (try with_reducible rfl)
    try simp only [Act.put, List.setIfInBounds_toArray, List.set_cons_zero, List.set_cons_succ]
    refine wpAnyH_take (i := 37) (v := ?_) (opAt rfl) (by kernel_rfl) (by kernel_rfl) (by kernel_rfl) (fun _ _ _ h => h) (Or.inl ⟨by rfl, ?_⟩) (by assumption) ?_
    rotate_left
    · intro w' hSw; (try dsimp only at hSw); go_simp; (try with_reducible rfl)
    try simp only [Act.put, List.setIfInBounds_toArray, List.set_cons_zero, List.set_cons_succ]
    refine wpAnyH_take (i := 38) (v := ?_) (opAt rfl) (by kernel_rfl) (by kernel_rfl) (by kernel_rfl) (fun _ _ _ h => h) (Or.inl ⟨by rfl, ?_⟩) (by assumption) ?_
    rotate_left
    · intro w' hSw; (try dsimp only at hSw); go_simp; (try with_reducible rfl)
    try simp only [Act.put, List.setIfInBounds_toArray, List.set_cons_zero, List.set_cons_succ]
    refine wpAnyH_take (i := 39) (v := ?_) (opAt rfl) (by kernel_rfl) (by kernel_rfl) (by kernel_rfl) (fun _ _ _ h => h) (Or.inl ⟨by rfl, ?_⟩) (by assumption) ?_
    rotate_left
    · intro w' hSw; (try dsimp only at hSw); go_simp; (try with_reducible rfl)
    try simp only [Act.put, List.setIfInBounds_toArray, List.set_cons_zero, List.set_cons_succ]
    refine wpAnyH_take (i := 40) (v := ?_) (opAt rfl) (by kernel_rfl) (by kernel_rfl) (by kernel_rfl) (fun _ _ _ h => h) (Or.inl ⟨by rfl, ?_⟩) (by assumption) ?_
    rotate_left
    · intro w' hSw; (try dsimp only at hSw); go_simp; (try with_reducible rfl)
    try simp only [Act.put, List.setIfInBounds_toArray, List.set_cons_zero, List.set_cons_succ]
    refine wpAnyH_take (i := 41) (v := ?_) (opAt rfl) (by kernel_rfl) (by kernel_rfl) (by kernel_rfl) (fun _ _ _ h => h) (Or.inl ⟨by rfl, ?_⟩) (by assumption) ?_
    rotate_left
    · intro w' hSw; (try dsimp only at hSw); go_simp; (try with_reducible rfl)
    try simp only [Act.put, List.setIfInBounds_toArray, List.set_cons_zero, List.set_cons_succ]
    refine wpAnyH_take (i := 42) (v := ?_) (opAt rfl) (by kernel_rfl) (by kernel_rfl) (by kernel_rfl) (fun _ _ _ h => h) (Or.inl ⟨by rfl, ?_⟩) (by assumption) ?_
    rotate_left
    · intro w' hSw; (try dsimp only at hSw); go_simp; (try with_reducible rfl)
    try simp only [Act.put, List.setIfInBounds_toArray, List.set_cons_zero, List.set_cons_succ]
    refine wpAnyH_take (i := 43) (v := ?_) (opAt rfl) (by kernel_rfl) (by kernel_rfl) (by kernel_rfl) (fun _ _ _ h => h) (Or.inl ⟨by rfl, ?_⟩) (by assumption) ?_
    rotate_left
    · intro w' hSw; (try dsimp only at hSw); go_simp; (try with_reducible rfl)
    try simp only [Act.put, List.setIfInBounds_toArray, List.set_cons_zero, List.set_cons_succ]
    refine wpAnyH_take (i := 44) (v := ?_) (opAt rfl) (by kernel_rfl) (by kernel_rfl) (by kernel_rfl) (fun _ _ _ h => h) (Or.inl ⟨by rfl, ?_⟩) (by assumption) ?_
    rotate_left
    · intro w' hSw; (try dsimp only at hSw); go_simp; (try with_reducible rfl)
    try simp only [Act.put, List.setIfInBounds_toArray, List.set_cons_zero, List.set_cons_succ]
    refine wpAnyH_take (i := 45) (v := ?_) (opAt rfl) (by kernel_rfl) (by kernel_rfl) (by kernel_rfl) (fun _ _ _ h => h) (Or.inl ⟨by rfl, ?_⟩) (by assumption) ?_
    rotate_left
    · intro w' hSw; (try dsimp only at hSw); go_simp; (try with_reducible rfl)
    try simp only [Act.put, List.setIfInBounds_toArray, List.set_cons_zero, List.set_cons_succ]
    refine wpAnyH_take (i := 46) (v := ?_) (opAt rfl) (by kernel_rfl) (by kernel_rfl) (by kernel_rfl) (fun _ _ _ h => h) (Or.inl ⟨by rfl, ?_⟩) (by assumption) ?_
    rotate_left
    · intro w' hSw; (try dsimp only at hSw); go_simp; (try with_reducible rfl)
    try simp only [Act.put, List.setIfInBounds_toArray, List.set_cons_zero, List.set_cons_succ]
    refine wpAnyH_take (i := 47) (v := ?_) (opAt rfl) (by kernel_rfl) (by kernel_rfl) (by kernel_rfl) (fun _ _ _ h => h) (Or.inl ⟨by rfl, ?_⟩) (by assumption) ?_
    rotate_left
    · intro w' hSw; (try dsimp only at hSw); go_simp; (try with_reducible rfl)
    try simp only [Act.put, List.setIfInBounds_toArray, List.set_cons_zero, List.set_cons_succ]
    refine wpAnyH_take (i := 48) (v := ?_) (opAt rfl) (by kernel_rfl) (by kernel_rfl) (by kernel_rfl) (fun _ _ _ h => h) (Or.inl ⟨by rfl, ?_⟩) (by assumption) ?_
    rotate_left
    · intro w' hSw; (try dsimp only at hSw); go_simp; (try with_reducible rfl)
    try simp only [Act.put, List.setIfInBounds_toArray, List.set_cons_zero, List.set_cons_succ]
    refine wpAnyH_take (i := 49) (v := ?_) (opAt rfl) (by kernel_rfl) (by kernel_rfl) (by kernel_rfl) (fun _ _ _ h => h) (Or.inl ⟨by rfl, ?_⟩) (by assumption) ?_
    rotate_left
    · intro w' hSw; (try dsimp only at hSw); go_simp; (try with_reducible rfl)
    try simp only [Act.put, List.setIfInBounds_toArray, List.set_cons_zero, List.set_cons_succ]
    refine wpAnyH_take (i := 50) (v := ?_) (opAt rfl) (by kernel_rfl) (by kernel_rfl) (by kernel_rfl) (fun _ _ _ h => h) (Or.inl ⟨by rfl, ?_⟩) (by assumption) ?_
    rotate_left
    · intro w' hSw; (try dsimp only at hSw); go_simp; (try with_reducible rfl)
    try simp only [Act.put, List.setIfInBounds_toArray, List.set_cons_zero, List.set_cons_succ]
    refine wpAnyH_take (i := 51) (v := ?_) (opAt rfl) (by kernel_rfl) (by kernel_rfl) (by kernel_rfl) (fun _ _ _ h => h) (Or.inl ⟨by rfl, ?_⟩) (by assumption) ?_
    rotate_left
    · intro w' hSw; (try dsimp only at hSw); go_simp; (try with_reducible rfl)
    try simp only [Act.put, List.setIfInBounds_toArray, List.set_cons_zero, List.set_cons_succ]
    refine wpAnyH_done (by kernel_rfl) ?_ _
    refine NoPanic.normal ?_
    go_wp2
    go_ret
    exact And.intro rfl (step_on HPW.out hp.out)
  · have hle : lvK b ≤ lvK a := by omega
    have hs := same_of hX.hin hZ.hin hX.rb hZ.rb (by rw [hX.re, hZ.re, le1_no hlt])
    rw [eZ] at hs
    have HS := hid hs
    have k1 : decide (lvK a < lvK b) = false := decide_eq_false hlt
    have k2 : decide (lvK b ≤ lvK a) = true := decide_eq_true hle
    clear hs pY pZ eY eZ xX xY xZ hX hY hZ F hlt hle
    refine wp_region_noPanic ?_
    refine wp_region_held_drew (S := fun w' => w'.cell? ⟨X, 0, none⟩ = some (.int .i64 TX.kind) ∧ w'.cell? ⟨X, 1, none⟩ = some (.string TX.op) ∧ w'.cell? ⟨X, 2, none⟩ = some (.int .i64 TX.n) ∧ w'.cell? ⟨X, 3, none⟩ = some (.string TX.name) ∧ w'.cell? ⟨X, 4, none⟩ = some (.slice TX.kaddr TX.kids.length TX.kcap) ∧ w'.cell? ⟨Y, 0, none⟩ = some (.int .i64 TY.kind) ∧ w'.cell? ⟨Y, 1, none⟩ = some (.string oA) ∧ w'.cell? ⟨Y, 2, none⟩ = some (.int .i64 TY.n) ∧ w'.cell? ⟨Y, 3, none⟩ = some (.string TY.name) ∧ w'.cell? ⟨Y, 4, none⟩ = some (.slice TY.kaddr TY.kids.length TY.kcap) ∧ w'.cell? ⟨Z, 0, none⟩ = some (.int .i64 TZ.kind) ∧ w'.cell? ⟨Z, 1, none⟩ = some (.string oB) ∧ w'.cell? ⟨Z, 2, none⟩ = some (.int .i64 TZ.n) ∧ w'.cell? ⟨Z, 3, none⟩ = some (.string TZ.name) ∧ w'.cell? ⟨Z, 4, none⟩ = some (.slice TZ.kaddr TZ.kids.length TZ.kcap) ∧ w'.cell? ⟨O, a, none⟩ = some (.string oA) ∧ w'.cell? ⟨O, b, none⟩ = some (.string oB) ∧ w'.cell? ⟨L, a, none⟩ = some (.int .i64 (lvK a)) ∧ w'.cell? ⟨L, b, none⟩ = some (.int .i64 (lvK b))) (by kernel_rfl) ?_ (fun hHeld => ?_)
    · with_reducible exact HC.out _ hp.out
    refine wpAnyH_take (i := 0) (v := ?_) (opAt rfl) (by kernel_rfl) (by kernel_rfl) (by kernel_rfl) (fun _ _ _ h => h) (Or.inl ⟨by rfl, ?_⟩) (by assumption) ?_
    rotate_left
    · intro w' hSw; (try dsimp only at hSw); go_simp; (try with_reducible rfl)
    try simp only [Act.put, List.setIfInBounds_toArray, List.set_cons_zero, List.set_cons_succ]
    refine wpAnyH_take (i := 1) (v := ?_) (opAt rfl) (by kernel_rfl) (by kernel_rfl) (by kernel_rfl) (fun _ _ _ h => h) (Or.inl ⟨by rfl, ?_⟩) (by assumption) ?_
    rotate_left
    · intro w' hSw; (try dsimp only at hSw); go_simp; (try with_reducible rfl)
    try simp only [Act.put, List.setIfInBounds_toArray, List.set_cons_zero, List.set_cons_succ]
    refine wpAnyH_take (i := 2) (v := ?_) (opAt rfl) (by kernel_rfl) (by kernel_rfl) (by kernel_rfl) (fun _ _ _ h => h) (Or.inl ⟨by rfl, ?_⟩) (by assumption) ?_
    rotate_left
    · intro w' hSw; (try dsimp only at hSw); go_simp; (try with_reducible rfl)
    try simp only [Act.put, List.setIfInBounds_toArray, List.set_cons_zero, List.set_cons_succ]
    refine wpAnyH_take (i := 3) (v := ?_) (opAt rfl) (by kernel_rfl) (by kernel_rfl) (by kernel_rfl) (fun _ _ _ h => h) (Or.inl ⟨by rfl, ?_⟩) (by assumption) ?_
    rotate_left
    · intro w' hSw; (try dsimp only at hSw); go_simp; (try with_reducible rfl)
    try simp only [Act.put, List.setIfInBounds_toArray, List.set_cons_zero, List.set_cons_succ]
    refine wpAnyH_take (i := 4) (v := ?_) (opAt rfl) (by kernel_rfl) (by kernel_rfl) (by kernel_rfl) (fun _ _ _ h => h) (Or.inl ⟨by rfl, ?_⟩) (by assumption) ?_
    rotate_left
    · intro w' hSw; (try dsimp only at hSw); go_simp; (try with_reducible rfl)
    try simp only [Act.put, List.setIfInBounds_toArray, List.set_cons_zero, List.set_cons_succ]
    refine wpAnyH_take (i := 5) (v := ?_) (opAt rfl) (by kernel_rfl) (by kernel_rfl) (by kernel_rfl) (fun _ _ _ h => h) (Or.inl ⟨by rfl, ?_⟩) (by assumption) ?_
    rotate_left
    · intro w' hSw; (try dsimp only at hSw); go_simp; (try with_reducible rfl)
    try simp only [Act.put, List.setIfInBounds_toArray, List.set_cons_zero, List.set_cons_succ]
    refine wpAnyH_take (i := 6) (v := ?_) (opAt rfl) (by kernel_rfl) (by kernel_rfl) (by kernel_rfl) (fun _ _ _ h => h) (Or.inl ⟨by rfl, ?_⟩) (by assumption) ?_
    rotate_left
    · intro w' hSw; (try dsimp only at hSw); go_simp; (try with_reducible rfl)
    try simp only [Act.put, List.setIfInBounds_toArray, List.set_cons_zero, List.set_cons_succ]
    refine wpAnyH_take (i := 7) (v := ?_) (opAt rfl) (by kernel_rfl) (by kernel_rfl) (by kernel_rfl) (fun _ _ _ h => h) (Or.inl ⟨by rfl, ?_⟩) (by assumption) ?_
    rotate_left
    · intro w' hSw; (try dsimp only at hSw); go_simp; (try with_reducible rfl)
    try simp only [Act.put, List.setIfInBounds_toArray, List.set_cons_zero, List.set_cons_succ]
    refine wpAnyH_take (i := 8) (v := ?_) (opAt rfl) (by kernel_rfl) (by kernel_rfl) (by kernel_rfl) (fun _ _ _ h => h) (Or.inl ⟨by rfl, ?_⟩) (by assumption) ?_
    rotate_left
    · intro w' hSw; (try dsimp only at hSw); go_simp; (try with_reducible rfl)
    try simp only [Act.put, List.setIfInBounds_toArray, List.set_cons_zero, List.set_cons_succ]
    refine wpAnyH_take (i := 9) (v := ?_) (opAt rfl) (by kernel_rfl) (by kernel_rfl) (by kernel_rfl) (fun _ _ _ h => h) (Or.inl ⟨by rfl, ?_⟩) (by assumption) ?_
    rotate_left
    · intro w' hSw; (try dsimp only at hSw); go_simp; (try with_reducible rfl)
    try simp only [Act.put, List.setIfInBounds_toArray, List.set_cons_zero, List.set_cons_succ]
    refine wpAnyH_take (i := 10) (v := ?_) (opAt rfl) (by kernel_rfl) (by kernel_rfl) (by kernel_rfl) (fun _ _ _ h => h) (Or.inl ⟨by rfl, ?_⟩) (by assumption) ?_
    rotate_left
    · intro w' hSw; (try dsimp only at hSw); go_simp; (try with_reducible rfl)
    try simp only [Act.put, List.setIfInBounds_toArray, List.set_cons_zero, List.set_cons_succ]
    refine wpAnyH_take (i := 11) (v := ?_) (opAt rfl) (by kernel_rfl) (by kernel_rfl) (by kernel_rfl) (fun _ _ _ h => h) (Or.inl ⟨by rfl, ?_⟩) (by assumption) ?_
    rotate_left
    · intro w' hSw; (try dsimp only at hSw); go_simp; (try with_reducible rfl)
    try simp only [Act.put, List.setIfInBounds_toArray, List.set_cons_zero, List.set_cons_succ]
    refine wpAnyH_take (i := 12) (v := undef) (opAt rfl) (by kernel_rfl) (by kernel_rfl) (by kernel_rfl) (fun _ _ _ h => h) (Or.inr ⟨by rfl, rfl⟩) (by assumption) ?_
    try simp only [Act.put, List.setIfInBounds_toArray, List.set_cons_zero, List.set_cons_succ]
    refine wpAnyH_take (i := 13) (v := undef) (opAt rfl) (by kernel_rfl) (by kernel_rfl) (by kernel_rfl) (fun _ _ _ h => h) (Or.inr ⟨by rfl, rfl⟩) (by assumption) ?_
    try simp only [Act.put, List.setIfInBounds_toArray, List.set_cons_zero, List.set_cons_succ]
    refine wpAnyH_take (i := 14) (v := undef) (opAt rfl) (by kernel_rfl) (by kernel_rfl) (by kernel_rfl) (fun _ _ _ h => h) (Or.inr ⟨by rfl, rfl⟩) (by assumption) ?_
    try simp only [Act.put, List.setIfInBounds_toArray, List.set_cons_zero, List.set_cons_succ]
    refine wpAnyH_take (i := 15) (v := ?_) (opAt rfl) (by kernel_rfl) (by kernel_rfl) (by kernel_rfl) (fun _ _ _ h => h) (Or.inl ⟨by rfl, ?_⟩) (by assumption) ?_
    rotate_left
    · intro w' hSw; (try dsimp only at hSw); go_simp; (try with_reducible rfl)
    try simp only [Act.put, List.setIfInBounds_toArray, List.set_cons_zero, List.set_cons_succ]
    refine wpAnyH_take (i := 16) (v := ?_) (opAt rfl) (by kernel_rfl) (by kernel_rfl) (by kernel_rfl) (fun _ _ _ h => h) (Or.inl ⟨by rfl, ?_⟩) (by assumption) ?_
    rotate_left
    · intro w' hSw; (try dsimp only at hSw); go_simp; (try with_reducible rfl)
    try simp only [Act.put, List.setIfInBounds_toArray, List.set_cons_zero, List.set_cons_succ]
    refine wpAnyH_take (i := 17) (v := ?_) (opAt rfl) (by kernel_rfl) (by kernel_rfl) (by kernel_rfl) (fun _ _ _ h => h) (Or.inl ⟨by rfl, ?_⟩) (by assumption) ?_
    rotate_left
    · intro w' hSw; (try dsimp only at hSw); go_simp; (try with_reducible rfl)
    try simp only [Act.put, List.setIfInBounds_toArray, List.set_cons_zero, List.set_cons_succ]
    refine wpAnyH_take (i := 18) (v := ?_) (opAt rfl) (by kernel_rfl) (by kernel_rfl) (by kernel_rfl) (fun _ _ _ h => h) (Or.inl ⟨by rfl, ?_⟩) (by assumption) ?_
    rotate_left
    · intro w' hSw; (try dsimp only at hSw); go_simp; (try with_reducible rfl)
    try simp only [Act.put, List.setIfInBounds_toArray, List.set_cons_zero, List.set_cons_succ]
    refine wpAnyH_take (i := 19) (v := ?_) (opAt rfl) (by kernel_rfl) (by kernel_rfl) (by kernel_rfl) (fun _ _ _ h => h) (Or.inl ⟨by rfl, ?_⟩) (by assumption) ?_
    rotate_left
    · intro w' hSw; (try dsimp only at hSw); go_simp; (try with_reducible rfl)
    try simp only [Act.put, List.setIfInBounds_toArray, List.set_cons_zero, List.set_cons_succ]
    refine wpAnyH_take (i := 20) (v := ?_) (opAt rfl) (by kernel_rfl) (by kernel_rfl) (by kernel_rfl) (fun _ _ _ h => h) (Or.inl ⟨by rfl, ?_⟩) (by assumption) ?_
    rotate_left
    · intro w' hSw; (try dsimp only at hSw); go_simp; (try with_reducible rfl)
    try simp only [Act.put, List.setIfInBounds_toArray, List.set_cons_zero, List.set_cons_succ]
    refine wpAnyH_take (i := 21) (v := ?_) (opAt rfl) (by kernel_rfl) (by kernel_rfl) (by kernel_rfl) (fun _ _ _ h => h) (Or.inl ⟨by rfl, ?_⟩) (by assumption) ?_
    rotate_left
    · intro w' hSw; (try dsimp only at hSw); go_simp; (try with_reducible rfl)
    try simp only [Act.put, List.setIfInBounds_toArray, List.set_cons_zero, List.set_cons_succ]
    refine wpAnyH_take (i := 22) (v := ?_) (opAt rfl) (by kernel_rfl) (by kernel_rfl) (by kernel_rfl) (fun _ _ _ h => h) (Or.inl ⟨by rfl, ?_⟩) (by assumption) ?_
    rotate_left
    · intro w' hSw; (try dsimp only at hSw); go_simp; (try with_reducible rfl)
    try simp only [Act.put, List.setIfInBounds_toArray, List.set_cons_zero, List.set_cons_succ]
    refine wpAnyH_take (i := 23) (v := ?_) (opAt rfl) (by kernel_rfl) (by kernel_rfl) (by kernel_rfl) (fun _ _ _ h => h) (Or.inl ⟨by rfl, ?_⟩) (by assumption) ?_
    rotate_left
    · intro w' hSw; (try dsimp only at hSw); go_simp; (try with_reducible rfl)
    try simp only [Act.put, List.setIfInBounds_toArray, List.set_cons_zero, List.set_cons_succ]
    refine wpAnyH_take (i := 24) (v := ?_) (opAt rfl) (by kernel_rfl) (by kernel_rfl) (by kernel_rfl) (fun _ _ _ h => h) (Or.inl ⟨by rfl, ?_⟩) (by assumption) ?_
    rotate_left
    · intro w' hSw; (try dsimp only at hSw); go_simp; (try with_reducible rfl)
    try simp only [Act.put, List.setIfInBounds_toArray, List.set_cons_zero, List.set_cons_succ]
    refine wpAnyH_take (i := 25) (v := ?_) (opAt rfl) (by kernel_rfl) (by kernel_rfl) (by kernel_rfl) (fun _ _ _ h => h) (Or.inl ⟨by rfl, ?_⟩) (by assumption) ?_
    rotate_left
    · intro w' hSw; (try dsimp only at hSw); go_simp; (try with_reducible rfl)
    try simp only [Act.put, List.setIfInBounds_toArray, List.set_cons_zero, List.set_cons_succ]
    refine wpAnyH_take (i := 26) (v := ?_) (opAt rfl) (by kernel_rfl) (by kernel_rfl) (by kernel_rfl) (fun _ _ _ h => h) (Or.inl ⟨by rfl, ?_⟩) (by assumption) ?_
    rotate_left
    · intro w' hSw; (try dsimp only at hSw); go_simp; (try with_reducible rfl)
    try simp only [Act.put, List.setIfInBounds_toArray, List.set_cons_zero, List.set_cons_succ]
    refine wpAnyH_take (i := 27) (v := ?_) (opAt rfl) (by kernel_rfl) (by kernel_rfl) (by kernel_rfl) (fun _ _ _ h => h) (Or.inl ⟨by rfl, ?_⟩) (by assumption) ?_
    rotate_left
    · intro w' hSw; (try dsimp only at hSw); go_simp; (try with_reducible rfl)
    try simp only [Act.put, List.setIfInBounds_toArray, List.set_cons_zero, List.set_cons_succ]
    refine wpAnyH_take (i := 28) (v := ?_) (opAt rfl) (by kernel_rfl) (by kernel_rfl) (by kernel_rfl) (fun _ _ _ h => h) (Or.inl ⟨by rfl, ?_⟩) (by assumption) ?_
    rotate_left
    · intro w' hSw; (try dsimp only at hSw); go_simp; (try with_reducible rfl)
    try simp only [Act.put, List.setIfInBounds_toArray, List.set_cons_zero, List.set_cons_succ]
    refine wpAnyH_ready (rs := [29]) (by kernel_rfl) (by simp) ?_
    refine AllReadyH.cons (opAt rfl) (fun K hK => ?_) AllReadyH.nil
    go_simp
    go_at_call 19; ((with_reducible refine (HS.out _ hp.out).mono ?_); rintro e wk ⟨rfl, hb⟩); have hq := hid (hp.out.on hb); clear hp hb; have hp := hq; clear hq
    (try go_wp2_with fail)
    refine hK.out _ _ (HC.out _ hp.out) (fun hHeld2 => ?_)
    clear hK K hHeld
    have hHeld := hHeld2
    clear hHeld2
    try simp only [Act.put, List.setIfInBounds_toArray, List.set_cons_zero, List.set_cons_succ]
    refine wpAnyH_take (i := 30) (v := ?_) (opAt rfl) (by kernel_rfl) (by kernel_rfl) (by kernel_rfl) (fun _ _ _ h => h) (Or.inl ⟨by rfl, ?_⟩) (by assumption) ?_
    rotate_left
    · intro w' hSw; (try dsimp only at hSw); go_simp; (try with_reducible rfl)
    try simp only [Act.put, List.setIfInBounds_toArray, List.set_cons_zero, List.set_cons_succ]
    refine wpAnyH_take (i := 31) (v := ?_) (opAt rfl) (by kernel_rfl) (by kernel_rfl) (by kernel_rfl) (fun _ _ _ h => h) (Or.inl ⟨by rfl, ?_⟩) (by assumption) ?_
    rotate_left
    · intro w' hSw; (try dsimp only at hSw); go_simp; (try with_reducible rfl)
    try simp only [Act.put, List.setIfInBounds_toArray, List.set_cons_zero, List.set_cons_succ]
    refine wpAnyH_take (i := 32) (v := ?_) (opAt rfl) (by kernel_rfl) (by kernel_rfl) (by kernel_rfl) (fun _ _ _ h => h) (Or.inl ⟨by rfl, ?_⟩) (by assumption) ?_
    rotate_left
    · intro w' hSw; (try dsimp only at hSw); go_simp; (try with_reducible rfl)
    try simp only [Act.put, List.setIfInBounds_toArray, List.set_cons_zero, List.set_cons_succ]
    refine wpAnyH_take (i := 33) (v := ?_) (opAt rfl) (by kernel_rfl) (by kernel_rfl) (by kernel_rfl) (fun _ _ _ h => h) (Or.inl ⟨by rfl, ?_⟩) (by assumption) ?_
    rotate_left
    · intro w' hSw; (try dsimp only at hSw); go_simp; (try with_reducible rfl)
    try simp only [Act.put, List.setIfInBounds_toArray, List.set_cons_zero, List.set_cons_succ]
    refine wpAnyH_take (i := 34) (v := ?_) (opAt rfl) (by kernel_rfl) (by kernel_rfl) (by kernel_rfl) (fun _ _ _ h => h) (Or.inl ⟨by rfl, ?_⟩) (by assumption) ?_
    rotate_left
    · intro w' hSw; (try dsimp only at hSw); go_simp; (try with_reducible rfl)
    try simp only [Act.put, List.setIfInBounds_toArray, List.set_cons_zero, List.set_cons_succ]
    refine wpAnyH_take (i := 35) (v := ?_) (opAt rfl) (by kernel_rfl) (by kernel_rfl) (by kernel_rfl) (fun _ _ _ h => h) (Or.inl ⟨by rfl, ?_⟩) (by assumption) ?_
    rotate_left
    · intro w' hSw; (try dsimp only at hSw); go_simp; (try with_reducible rfl)
    try simp only [Act.put, List.setIfInBounds_toArray, List.set_cons_zero, List.set_cons_succ]
    refine wpAnyH_take (i := 36) (v := ?_) (opAt rfl) (by kernel_rfl) (by kernel_rfl) (by kernel_rfl) (fun _ _ _ h => h) (Or.inl ⟨by rfl, ?_⟩) (by assumption) ?_
    rotate_left
    · intro w' hSw; (try dsimp only at hSw); go_simp; (try with_reducible rfl)
    try simp only [Act.put, List.setIfInBounds_toArray, List.set_cons_zero, List.set_cons_succ]
    refine wpAnyH_take (i := 37) (v := ?_) (opAt rfl) (by kernel_rfl) (by kernel_rfl) (by kernel_rfl) (fun _ _ _ h => h) (Or.inl ⟨by rfl, ?_⟩) (by assumption) ?_
    rotate_left
    · intro w' hSw; (try dsimp only at hSw); go_simp; (try with_reducible rfl)
    try simp only [Act.put, List.setIfInBounds_toArray, List.set_cons_zero, List.set_cons_succ]
    refine wpAnyH_take (i := 38) (v := ?_) (opAt rfl) (by kernel_rfl) (by kernel_rfl) (by kernel_rfl) (fun _ _ _ h => h) (Or.inl ⟨by rfl, ?_⟩) (by assumption) ?_
    rotate_left
    · intro w' hSw; (try dsimp only at hSw); go_simp; (try with_reducible rfl)
    try simp only [Act.put, List.setIfInBounds_toArray, List.set_cons_zero, List.set_cons_succ]
    refine wpAnyH_take (i := 39) (v := ?_) (opAt rfl) (by kernel_rfl) (by kernel_rfl) (by kernel_rfl) (fun _ _ _ h => h) (Or.inl ⟨by rfl, ?_⟩) (by assumption) ?_
    rotate_left
    · intro w' hSw; (try dsimp only at hSw); go_simp; (try with_reducible rfl)
    try simp only [Act.put, List.setIfInBounds_toArray, List.set_cons_zero, List.set_cons_succ]
    refine wpAnyH_take (i := 40) (v := ?_) (opAt rfl) (by kernel_rfl) (by kernel_rfl) (by kernel_rfl) (fun _ _ _ h => h) (Or.inl ⟨by rfl, ?_⟩) (by assumption) ?_
    rotate_left
    · intro w' hSw; (try dsimp only at hSw); go_simp; (try with_reducible rfl)
    try simp only [Act.put, List.setIfInBounds_toArray, List.set_cons_zero, List.set_cons_succ]
    refine wpAnyH_take (i := 41) (v := ?_) (opAt rfl) (by kernel_rfl) (by kernel_rfl) (by kernel_rfl) (fun _ _ _ h => h) (Or.inl ⟨by rfl, ?_⟩) (by assumption) ?_
    rotate_left
    · intro w' hSw; (try dsimp only at hSw); go_simp; (try with_reducible rfl)
    try simp only [Act.put, List.setIfInBounds_toArray, List.set_cons_zero, List.set_cons_succ]
    refine wpAnyH_take (i := 42) (v := ?_) (opAt rfl) (by kernel_rfl) (by kernel_rfl) (by kernel_rfl) (fun _ _ _ h => h) (Or.inl ⟨by rfl, ?_⟩) (by assumption) ?_
    rotate_left
    · intro w' hSw; (try dsimp only at hSw); go_simp; (try with_reducible rfl)
    try simp only [Act.put, List.setIfInBounds_toArray, List.set_cons_zero, List.set_cons_succ]
    refine wpAnyH_take (i := 43) (v := ?_) (opAt rfl) (by kernel_rfl) (by kernel_rfl) (by kernel_rfl) (fun _ _ _ h => h) (Or.inl ⟨by rfl, ?_⟩) (by assumption) ?_
    rotate_left
    · intro w' hSw; (try dsimp only at hSw); go_simp; (try with_reducible rfl)
    try simp only [Act.put, List.setIfInBounds_toArray, List.set_cons_zero, List.set_cons_succ]
    refine wpAnyH_take (i := 44) (v := ?_) (opAt rfl) (by kernel_rfl) (by kernel_rfl) (by kernel_rfl) (fun _ _ _ h => h) (Or.inl ⟨by rfl, ?_⟩) (by assumption) ?_
    rotate_left
    · intro w' hSw; (try dsimp only at hSw); go_simp; (try with_reducible rfl)
    try simp only [Act.put, List.setIfInBounds_toArray, List.set_cons_zero, List.set_cons_succ]
    refine wpAnyH_take (i := 45) (v := ?_) (opAt rfl) (by kernel_rfl) (by kernel_rfl) (by kernel_rfl) (fun _ _ _ h => h) (Or.inl ⟨by rfl, ?_⟩) (by assumption) ?_
    rotate_left
    · intro w' hSw; (try dsimp only at hSw); go_simp; (try with_reducible rfl)
    try simp only [Act.put, List.setIfInBounds_toArray, List.set_cons_zero, List.set_cons_succ]
    refine wpAnyH_take (i := 46) (v := ?_) (opAt rfl) (by kernel_rfl) (by kernel_rfl) (by kernel_rfl) (fun _ _ _ h => h) (Or.inl ⟨by rfl, ?_⟩) (by assumption) ?_
    rotate_left
    · intro w' hSw; (try dsimp only at hSw); go_simp; (try with_reducible rfl)
    try simp only [Act.put, List.setIfInBounds_toArray, List.set_cons_zero, List.set_cons_succ]
    refine wpAnyH_take (i := 47) (v := ?_) (opAt rfl) (by kernel_rfl) (by kernel_rfl) (by kernel_rfl) (fun _ _ _ h => h) (Or.inl ⟨by rfl, ?_⟩) (by assumption) ?_
    rotate_left
    · intro w' hSw; (try dsimp only at hSw); go_simp; (try with_reducible rfl)
    try simp only [Act.put, List.setIfInBounds_toArray, List.set_cons_zero, List.set_cons_succ]
    refine wpAnyH_take (i := 48) (v := ?_) (opAt rfl) (by kernel_rfl) (by kernel_rfl) (by kernel_rfl) (fun _ _ _ h => h) (Or.inl ⟨by rfl, ?_⟩) (by assumption) ?_
    rotate_left
    · intro w' hSw; (try dsimp only at hSw); go_simp; (try with_reducible rfl)
    try simp only [Act.put, List.setIfInBounds_toArray, List.set_cons_zero, List.set_cons_succ]
    refine wpAnyH_take (i := 49) (v := ?_) (opAt rfl) (by kernel_rfl) (by kernel_rfl) (by kernel_rfl) (fun _ _ _ h => h) (Or.inl ⟨by rfl, ?_⟩) (by assumption) ?_
    rotate_left
    · intro w' hSw; (try dsimp only at hSw); go_simp; (try with_reducible rfl)
    try simp only [Act.put, List.setIfInBounds_toArray, List.set_cons_zero, List.set_cons_succ]
    refine wpAnyH_take (i := 50) (v := ?_) (opAt rfl) (by kernel_rfl) (by kernel_rfl) (by kernel_rfl) (fun _ _ _ h => h) (Or.inl ⟨by rfl, ?_⟩) (by assumption) ?_
    rotate_left
    · intro w' hSw; (try dsimp only at hSw); go_simp; (try with_reducible rfl)
    try simp only [Act.put, List.setIfInBounds_toArray, List.set_cons_zero, List.set_cons_succ]
    refine wpAnyH_take (i := 51) (v := ?_) (opAt rfl) (by kernel_rfl) (by kernel_rfl) (by kernel_rfl) (fun _ _ _ h => h) (Or.inl ⟨by rfl, ?_⟩) (by assumption) ?_
    rotate_left
    · intro w' hSw; (try dsimp only at hSw); go_simp; (try with_reducible rfl)
    try simp only [Act.put, List.setIfInBounds_toArray, List.set_cons_zero, List.set_cons_succ]
    refine wpAnyH_done (by kernel_rfl) ?_ _
    refine NoPanic.normal ?_
    go_wp2
    go_ret
    exact And.intro rfl (step_on HPW.out hp.out)
set_option maxHeartbeats 8000000 in
set_option maxRecDepth 100000 in
theorem lev10_go {a b : Nat} {oA oB : ByteArray} {O L : Nat} {X Y : Nat} {TX TY : ET} {w W : World} {K : Act → World → Prop} (hK : ∀ a w', Code.wp Tryz.prog (levR 10) (bodyPost Tryz.prog Tryz.f8 (LPost w)) a w' → K a w') (F : LF a b oA oB O L w W) (hX : LT X TX (le1 a b) W) (hY : LT Y TY (le2 a b) W) {j0 j1 j2 j3 j4 j11 j14 j16 j17 j18 j19 j20 j21 j22 j23 j24 j25 j26 j27 j28 j29 j30 j31 j32 j33 j34 j35 j36 j37 j38 j39 j40 j41 j42 j43 j44 j45 j46 j47 j48 j49 j50 j51 j52 j53 j54 j55 j56 j57 j58 j59 j60 j61 j62 j63 j64 j65 j66 j67 j68 j69 j70 j71 j72 j73 j74 j75 j76 j77 j78 j79 j80 j81 j82 j83 j84 j85 j86 j87 j88 j89 j90 j91 j92 j93 j94 j95 j96 j97 j98 j99 j100 j101 j102 j103 j104 j105 j106 j107 j108 j109 j110 j111 j112 j113 j114 j115 j116 j117 j118 j119 j120 j121 j122 j123 j124 j125 j126 j127 j128 j129 j130 j131 j132 j133 j134 j135 j136 j137 j138 j139 j140 j141 : Value} :
    Code.wp Tryz.prog (levC 10) (Exit.then K (bodyPost Tryz.prog Tryz.f8 (LPost w))) ⟨#[j0, j1, j2, j3, j4, .bool true, .slice (some ⟨O, 0, none⟩) 18 18, .slice (some ⟨L, 0, none⟩) 18 18, .int .i64 a, .int .i64 b, .pointer (some ⟨X, 0, none⟩), j11, .int .i64 0, .pointer (some ⟨Y, 0, none⟩), j14, .int .i64 0, j16, j17, j18, j19, j20, j21, j22, j23, j24, j25, j26, j27, j28, j29, j30, j31, j32, j33, j34, j35, j36, j37, j38, j39, j40, j41, j42, j43, j44, j45, j46, j47, j48, j49, j50, j51, j52, j53, j54, j55, j56, j57, j58, j59, j60, j61, j62, j63, j64, j65, j66, j67, j68, j69, j70, j71, j72, j73, j74, j75, j76, j77, j78, j79, j80, j81, j82, j83, j84, j85, j86, j87, j88, j89, j90, j91, j92, j93, j94, j95, j96, j97, j98, j99, j100, j101, j102, j103, j104, j105, j106, j107, j108, j109, j110, j111, j112, j113, j114, j115, j116, j117, j118, j119, j120, j121, j122, j123, j124, j125, j126, j127, j128, j129, j130, j131, j132, j133, j134, j135, j136, j137, j138, j139, j140, j141], []⟩ W := by
  have hK' := hK
  conv at hK' => intro a w'; arg 1; arg 2; whnf
  conv => arg 2; whnf
  clear hK
  have HF := hid F
  have HX := hid hX
  have HY := hid hY
  have HC : Hid (∀ W', Past W W' → (W'.cell? ⟨O, a, none⟩ = some (.string oA) ∧ W'.cell? ⟨O, b, none⟩ = some (.string oB))) := hid fun W' hW => ⟨cell0 hW F.oa, cell0 hW F.ob⟩
  obtain ⟨n, en⟩ := (lev_all F.ha F.hb).2.2
  have E := hid en
  obtain ⟨s1, l1, z1, c1⟩ := cat_run { data := #[40, 120] } oA (by have := F.sa; have q0 : ({ data := #[40, 120] } : ByteArray).size = 2 := rfl; have q1 : ({ data := #[121, 41] } : ByteArray).size = 2 := rfl; have q2 : ({ data := #[122] } : ByteArray).size = 1 := rfl; omega)
  obtain ⟨s2, l2, z2, c2⟩ := cat_run s1 { data := #[121, 41] } (by have := F.sa; have q0 : ({ data := #[40, 120] } : ByteArray).size = 2 := rfl; have q1 : ({ data := #[121, 41] } : ByteArray).size = 2 := rfl; have q2 : ({ data := #[122] } : ByteArray).size = 1 := rfl; omega)
  obtain ⟨s3, l3, z3, c3⟩ := cat_run s2 oB (by have := F.sa; have := F.sb; have q0 : ({ data := #[40, 120] } : ByteArray).size = 2 := rfl; have q1 : ({ data := #[121, 41] } : ByteArray).size = 2 := rfl; have q2 : ({ data := #[122] } : ByteArray).size = 1 := rfl; omega)
  obtain ⟨s4, l4, z4, c4⟩ := cat_run s3 { data := #[122] } (by have := F.sa; have := F.sb; have q0 : ({ data := #[40, 120] } : ByteArray).size = 2 := rfl; have q1 : ({ data := #[121, 41] } : ByteArray).size = 2 := rfl; have q2 : ({ data := #[122] } : ByteArray).size = 1 := rfl; omega)
  have HS : Hid (s4.data.toList = lt3 a b ∧ (lt3 a b).length ≤ 8192) := hid ⟨by rw [l4, l3, l2, l1, F.va, F.vb]; simp [lt3], by have := op_short F.ha; have := op_short F.hb; simp [lt3]; omega⟩
  have a0' : (0 : Int) ≤ a := by omega
  have a1' : (a : Int) < 18 := by have := F.ha; omega
  have b0' : (0 : Int) ≤ b := by omega
  have b1' : (b : Int) < 18 := by have := F.hb; omega
  have hr : Hid (Past W W) := hid (Below.refl W.heap.size W)
  have hp : Hid (Past W W.drew) := hid (Below.refl W.heap.size W).drew
  have hz : Hid (W.heap.size ≤ W.drew.heap.size) := hid hp.out.size
  have HWO := hid F.wo
  clear l1 z1 l2 z2 l3 z3 l4 z4 en F hX hY
  go_region_held3 (fun w' => (w'.cell? ⟨O, a, none⟩ = some (.string oA) ∧ w'.cell? ⟨O, b, none⟩ = some (.string oB))) (((with_reducible refine HC.out _ ?_); (repeat (first | with_reducible exact hp.out | with_reducible exact hr.out | with_reducible refine Past.drew ?_ | with_reducible refine Past.alloc ?_ _ | (with_reducible refine past_set ?_ ?_ _; rotate_left; first | exact Nat.le_refl _ | exact hz.out | (simp; done))))))
    (first
      | (go_at_call 18; (with_reducible refine expr_at (w := (W.alloc (.cells #[.int .i64 0, .string { data := #[] }, .int .i64 0, .string { data := #[] }, .slice none 0 0] 43)).drew) HWO.out (by (repeat (first | with_reducible exact hp.out | with_reducible exact hr.out | with_reducible refine Past.drew ?_ | with_reducible refine Past.alloc ?_ _ | (with_reducible refine past_set ?_ ?_ _; rotate_left; first | exact Nat.le_refl _ | exact hz.out | (simp; done))))) 40 _ (l := lt3 a b) HS.out.1 HS.out.2 E.out ?_); intro T nX w4 hp4 hb4 hT4; clear hp hz; have hp := hid hp4; have hz := hid hp4.size; have HT4 := hid hT4; have bx : w4.heap[W.heap.size]? = some (.cells #[.int .i64 0, .string { data := #[] }, .int .i64 0, .string { data := #[] }, .slice none 0 0] 43 (0, 0)) := (hb4.block W.heap.size (by simp)).trans (bk_new W _); have HBX := hid bx; obtain ⟨fy, b0, b1, b2, b3, b4, bl⟩ := allc5 bx; clear hp4 hb4 hT4 bx)
      | (go_at_call 18; (with_reducible refine expr_at (w := W.drew) HWO.out (by (repeat (first | with_reducible exact hp.out | with_reducible exact hr.out | with_reducible refine Past.drew ?_ | with_reducible refine Past.alloc ?_ _ | (with_reducible refine past_set ?_ ?_ _; rotate_left; first | exact Nat.le_refl _ | exact hz.out | (simp; done))))) 40 _ (l := lt3 a b) HS.out.1 HS.out.2 E.out ?_); intro T nX w4 hp4 hb4 hT4; clear hp hz; have hp := hid hp4; have hz := hid hp4.size; have HT4 := hid hT4; clear hp4 hb4 hT4))
  all_goals
    go_upto_region 13 with (fail)
    first
    | (obtain ⟨hpa, hla⟩ := end_A hp.out HT4.out HBX.out; exact lev13_go (by assumption) (HF.out.on hpa) (HX.out.on hpa) (HY.out.on hpa) hla)
    | (obtain ⟨hpa, hla⟩ := end_B hp.out HT4.out; exact lev13_go (by assumption) (HF.out.on hpa) (HX.out.on hpa) (HY.out.on hpa) hla)
set_option maxHeartbeats 8000000 in
set_option maxRecDepth 100000 in
theorem lev9_go {a b : Nat} {oA oB : ByteArray} {O L : Nat} {X : Nat} {TX : ET} {w W : World} {K : Act → World → Prop} (hK : ∀ a w', Code.wp Tryz.prog (levR 9) (bodyPost Tryz.prog Tryz.f8 (LPost w)) a w' → K a w') (F : LF a b oA oB O L w W) (hX : LT X TX (le1 a b) W) {j0 j1 j2 j3 j4 j11 j13 j14 j15 j16 j17 j18 j19 j20 j21 j22 j23 j24 j25 j26 j27 j28 j29 j30 j31 j32 j33 j34 j35 j36 j37 j38 j39 j40 j41 j42 j43 j44 j45 j46 j47 j48 j49 j50 j51 j52 j53 j54 j55 j56 j57 j58 j59 j60 j61 j62 j63 j64 j65 j66 j67 j68 j69 j70 j71 j72 j73 j74 j75 j76 j77 j78 j79 j80 j81 j82 j83 j84 j85 j86 j87 j88 j89 j90 j91 j92 j93 j94 j95 j96 j97 j98 j99 j100 j101 j102 j103 j104 j105 j106 j107 j108 j109 j110 j111 j112 j113 j114 j115 j116 j117 j118 j119 j120 j121 j122 j123 j124 j125 j126 j127 j128 j129 j130 j131 j132 j133 j134 j135 j136 j137 j138 j139 j140 j141 : Value} :
    Code.wp Tryz.prog (levC 9) (Exit.then K (bodyPost Tryz.prog Tryz.f8 (LPost w))) ⟨#[j0, j1, j2, j3, j4, .bool true, .slice (some ⟨O, 0, none⟩) 18 18, .slice (some ⟨L, 0, none⟩) 18 18, .int .i64 a, .int .i64 b, .pointer (some ⟨X, 0, none⟩), j11, .int .i64 0, j13, j14, j15, j16, j17, j18, j19, j20, j21, j22, j23, j24, j25, j26, j27, j28, j29, j30, j31, j32, j33, j34, j35, j36, j37, j38, j39, j40, j41, j42, j43, j44, j45, j46, j47, j48, j49, j50, j51, j52, j53, j54, j55, j56, j57, j58, j59, j60, j61, j62, j63, j64, j65, j66, j67, j68, j69, j70, j71, j72, j73, j74, j75, j76, j77, j78, j79, j80, j81, j82, j83, j84, j85, j86, j87, j88, j89, j90, j91, j92, j93, j94, j95, j96, j97, j98, j99, j100, j101, j102, j103, j104, j105, j106, j107, j108, j109, j110, j111, j112, j113, j114, j115, j116, j117, j118, j119, j120, j121, j122, j123, j124, j125, j126, j127, j128, j129, j130, j131, j132, j133, j134, j135, j136, j137, j138, j139, j140, j141], []⟩ W := by
  have hK' := hK
  conv at hK' => intro a w'; arg 1; arg 2; whnf
  conv => arg 2; whnf
  clear hK
  have HF := hid F
  have HX := hid hX
  have HC : Hid (∀ W', Past W W' → (W'.cell? ⟨O, a, none⟩ = some (.string oA) ∧ W'.cell? ⟨O, b, none⟩ = some (.string oB))) := hid fun W' hW => ⟨cell0 hW F.oa, cell0 hW F.ob⟩
  obtain ⟨n, en⟩ := (lev_all F.ha F.hb).2.1
  have E := hid en
  obtain ⟨s1, l1, z1, c1⟩ := cat_run { data := #[120] } oA (by have := F.sa; have q0 : ({ data := #[120] } : ByteArray).size = 1 := rfl; have q1 : ({ data := #[40, 121] } : ByteArray).size = 2 := rfl; have q2 : ({ data := #[122, 41] } : ByteArray).size = 2 := rfl; omega)
  obtain ⟨s2, l2, z2, c2⟩ := cat_run s1 { data := #[40, 121] } (by have := F.sa; have q0 : ({ data := #[120] } : ByteArray).size = 1 := rfl; have q1 : ({ data := #[40, 121] } : ByteArray).size = 2 := rfl; have q2 : ({ data := #[122, 41] } : ByteArray).size = 2 := rfl; omega)
  obtain ⟨s3, l3, z3, c3⟩ := cat_run s2 oB (by have := F.sa; have := F.sb; have q0 : ({ data := #[120] } : ByteArray).size = 1 := rfl; have q1 : ({ data := #[40, 121] } : ByteArray).size = 2 := rfl; have q2 : ({ data := #[122, 41] } : ByteArray).size = 2 := rfl; omega)
  obtain ⟨s4, l4, z4, c4⟩ := cat_run s3 { data := #[122, 41] } (by have := F.sa; have := F.sb; have q0 : ({ data := #[120] } : ByteArray).size = 1 := rfl; have q1 : ({ data := #[40, 121] } : ByteArray).size = 2 := rfl; have q2 : ({ data := #[122, 41] } : ByteArray).size = 2 := rfl; omega)
  have HS : Hid (s4.data.toList = lt2 a b ∧ (lt2 a b).length ≤ 8192) := hid ⟨by rw [l4, l3, l2, l1, F.va, F.vb]; simp [lt2], by have := op_short F.ha; have := op_short F.hb; simp [lt2]; omega⟩
  have a0' : (0 : Int) ≤ a := by omega
  have a1' : (a : Int) < 18 := by have := F.ha; omega
  have b0' : (0 : Int) ≤ b := by omega
  have b1' : (b : Int) < 18 := by have := F.hb; omega
  have hr : Hid (Past W W) := hid (Below.refl W.heap.size W)
  have hp : Hid (Past W W.drew) := hid (Below.refl W.heap.size W).drew
  have hz : Hid (W.heap.size ≤ W.drew.heap.size) := hid hp.out.size
  have HWO := hid F.wo
  clear l1 z1 l2 z2 l3 z3 l4 z4 en F hX
  go_region_held3 (fun w' => (w'.cell? ⟨O, a, none⟩ = some (.string oA) ∧ w'.cell? ⟨O, b, none⟩ = some (.string oB))) (((with_reducible refine HC.out _ ?_); (repeat (first | with_reducible exact hp.out | with_reducible exact hr.out | with_reducible refine Past.drew ?_ | with_reducible refine Past.alloc ?_ _ | (with_reducible refine past_set ?_ ?_ _; rotate_left; first | exact Nat.le_refl _ | exact hz.out | (simp; done))))))
    (first
      | (go_at_call 18; (with_reducible refine expr_at (w := (W.alloc (.cells #[.int .i64 0, .string { data := #[] }, .int .i64 0, .string { data := #[] }, .slice none 0 0] 43)).drew) HWO.out (by (repeat (first | with_reducible exact hp.out | with_reducible exact hr.out | with_reducible refine Past.drew ?_ | with_reducible refine Past.alloc ?_ _ | (with_reducible refine past_set ?_ ?_ _; rotate_left; first | exact Nat.le_refl _ | exact hz.out | (simp; done))))) 40 _ (l := lt2 a b) HS.out.1 HS.out.2 E.out ?_); intro T nX w4 hp4 hb4 hT4; clear hp hz; have hp := hid hp4; have hz := hid hp4.size; have HT4 := hid hT4; have bx : w4.heap[W.heap.size]? = some (.cells #[.int .i64 0, .string { data := #[] }, .int .i64 0, .string { data := #[] }, .slice none 0 0] 43 (0, 0)) := (hb4.block W.heap.size (by simp)).trans (bk_new W _); have HBX := hid bx; obtain ⟨fy, b0, b1, b2, b3, b4, bl⟩ := allc5 bx; clear hp4 hb4 hT4 bx)
      | (go_at_call 18; (with_reducible refine expr_at (w := W.drew) HWO.out (by (repeat (first | with_reducible exact hp.out | with_reducible exact hr.out | with_reducible refine Past.drew ?_ | with_reducible refine Past.alloc ?_ _ | (with_reducible refine past_set ?_ ?_ _; rotate_left; first | exact Nat.le_refl _ | exact hz.out | (simp; done))))) 40 _ (l := lt2 a b) HS.out.1 HS.out.2 E.out ?_); intro T nX w4 hp4 hb4 hT4; clear hp hz; have hp := hid hp4; have hz := hid hp4.size; have HT4 := hid hT4; clear hp4 hb4 hT4))
  all_goals
    go_upto_region 10 with (fail)
    first
    | (obtain ⟨hpa, hla⟩ := end_A hp.out HT4.out HBX.out; exact lev10_go (by assumption) (HF.out.on hpa) (HX.out.on hpa) hla)
    | (obtain ⟨hpa, hla⟩ := end_B hp.out HT4.out; exact lev10_go (by assumption) (HF.out.on hpa) (HX.out.on hpa) hla)
set_option maxHeartbeats 8000000 in
set_option maxRecDepth 100000 in
theorem lev8_go {a b : Nat} {oA oB : ByteArray} {O L : Nat} {w W : World} {K : Act → World → Prop} (hK : ∀ a w', Code.wp Tryz.prog (levR 8) (bodyPost Tryz.prog Tryz.f8 (LPost w)) a w' → K a w') (F : LF a b oA oB O L w W) {j0 j1 j2 j3 j4 j10 j11 j12 j13 j14 j15 j16 j17 j18 j19 j20 j21 j22 j23 j24 j25 j26 j27 j28 j29 j30 j31 j32 j33 j34 j35 j36 j37 j38 j39 j40 j41 j42 j43 j44 j45 j46 j47 j48 j49 j50 j51 j52 j53 j54 j55 j56 j57 j58 j59 j60 j61 j62 j63 j64 j65 j66 j67 j68 j69 j70 j71 j72 j73 j74 j75 j76 j77 j78 j79 j80 j81 j82 j83 j84 j85 j86 j87 j88 j89 j90 j91 j92 j93 j94 j95 j96 j97 j98 j99 j100 j101 j102 j103 j104 j105 j106 j107 j108 j109 j110 j111 j112 j113 j114 j115 j116 j117 j118 j119 j120 j121 j122 j123 j124 j125 j126 j127 j128 j129 j130 j131 j132 j133 j134 j135 j136 j137 j138 j139 j140 j141 : Value} :
    Code.wp Tryz.prog (levC 8) (Exit.then K (bodyPost Tryz.prog Tryz.f8 (LPost w))) ⟨#[j0, j1, j2, j3, j4, .bool true, .slice (some ⟨O, 0, none⟩) 18 18, .slice (some ⟨L, 0, none⟩) 18 18, .int .i64 a, .int .i64 b, j10, j11, j12, j13, j14, j15, j16, j17, j18, j19, j20, j21, j22, j23, j24, j25, j26, j27, j28, j29, j30, j31, j32, j33, j34, j35, j36, j37, j38, j39, j40, j41, j42, j43, j44, j45, j46, j47, j48, j49, j50, j51, j52, j53, j54, j55, j56, j57, j58, j59, j60, j61, j62, j63, j64, j65, j66, j67, j68, j69, j70, j71, j72, j73, j74, j75, j76, j77, j78, j79, j80, j81, j82, j83, j84, j85, j86, j87, j88, j89, j90, j91, j92, j93, j94, j95, j96, j97, j98, j99, j100, j101, j102, j103, j104, j105, j106, j107, j108, j109, j110, j111, j112, j113, j114, j115, j116, j117, j118, j119, j120, j121, j122, j123, j124, j125, j126, j127, j128, j129, j130, j131, j132, j133, j134, j135, j136, j137, j138, j139, j140, j141], []⟩ W := by
  have hK' := hK
  conv at hK' => intro a w'; arg 1; arg 2; whnf
  conv => arg 2; whnf
  clear hK
  have HF := hid F
  have HC : Hid (∀ W', Past W W' → (W'.cell? ⟨O, a, none⟩ = some (.string oA) ∧ W'.cell? ⟨O, b, none⟩ = some (.string oB))) := hid fun W' hW => ⟨cell0 hW F.oa, cell0 hW F.ob⟩
  obtain ⟨n, en⟩ := (lev_all F.ha F.hb).1
  have E := hid en
  obtain ⟨s1, l1, z1, c1⟩ := cat_run { data := #[120] } oA (by have := F.sa; have q0 : ({ data := #[120] } : ByteArray).size = 1 := rfl; have q1 : ({ data := #[121] } : ByteArray).size = 1 := rfl; have q2 : ({ data := #[122] } : ByteArray).size = 1 := rfl; omega)
  obtain ⟨s2, l2, z2, c2⟩ := cat_run s1 { data := #[121] } (by have := F.sa; have q0 : ({ data := #[120] } : ByteArray).size = 1 := rfl; have q1 : ({ data := #[121] } : ByteArray).size = 1 := rfl; have q2 : ({ data := #[122] } : ByteArray).size = 1 := rfl; omega)
  obtain ⟨s3, l3, z3, c3⟩ := cat_run s2 oB (by have := F.sa; have := F.sb; have q0 : ({ data := #[120] } : ByteArray).size = 1 := rfl; have q1 : ({ data := #[121] } : ByteArray).size = 1 := rfl; have q2 : ({ data := #[122] } : ByteArray).size = 1 := rfl; omega)
  obtain ⟨s4, l4, z4, c4⟩ := cat_run s3 { data := #[122] } (by have := F.sa; have := F.sb; have q0 : ({ data := #[120] } : ByteArray).size = 1 := rfl; have q1 : ({ data := #[121] } : ByteArray).size = 1 := rfl; have q2 : ({ data := #[122] } : ByteArray).size = 1 := rfl; omega)
  have HS : Hid (s4.data.toList = lt1 a b ∧ (lt1 a b).length ≤ 8192) := hid ⟨by rw [l4, l3, l2, l1, F.va, F.vb]; simp [lt1], by have := op_short F.ha; have := op_short F.hb; simp [lt1]; omega⟩
  have a0' : (0 : Int) ≤ a := by omega
  have a1' : (a : Int) < 18 := by have := F.ha; omega
  have b0' : (0 : Int) ≤ b := by omega
  have b1' : (b : Int) < 18 := by have := F.hb; omega
  have hr : Hid (Past W W) := hid (Below.refl W.heap.size W)
  have hp : Hid (Past W W.drew) := hid (Below.refl W.heap.size W).drew
  have hz : Hid (W.heap.size ≤ W.drew.heap.size) := hid hp.out.size
  have HWO := hid F.wo
  clear l1 z1 l2 z2 l3 z3 l4 z4 en F
  go_region_held3 (fun w' => (w'.cell? ⟨O, a, none⟩ = some (.string oA) ∧ w'.cell? ⟨O, b, none⟩ = some (.string oB))) (((with_reducible refine HC.out _ ?_); (repeat (first | with_reducible exact hp.out | with_reducible exact hr.out | with_reducible refine Past.drew ?_ | with_reducible refine Past.alloc ?_ _ | (with_reducible refine past_set ?_ ?_ _; rotate_left; first | exact Nat.le_refl _ | exact hz.out | (simp; done))))))
    (first
      | (go_at_call 18; (with_reducible refine expr_at (w := (W.alloc (.cells #[.int .i64 0, .string { data := #[] }, .int .i64 0, .string { data := #[] }, .slice none 0 0] 43)).drew) HWO.out (by (repeat (first | with_reducible exact hp.out | with_reducible exact hr.out | with_reducible refine Past.drew ?_ | with_reducible refine Past.alloc ?_ _ | (with_reducible refine past_set ?_ ?_ _; rotate_left; first | exact Nat.le_refl _ | exact hz.out | (simp; done))))) 40 _ (l := lt1 a b) HS.out.1 HS.out.2 E.out ?_); intro T nX w4 hp4 hb4 hT4; clear hp hz; have hp := hid hp4; have hz := hid hp4.size; have HT4 := hid hT4; have bx : w4.heap[W.heap.size]? = some (.cells #[.int .i64 0, .string { data := #[] }, .int .i64 0, .string { data := #[] }, .slice none 0 0] 43 (0, 0)) := (hb4.block W.heap.size (by simp)).trans (bk_new W _); have HBX := hid bx; obtain ⟨fy, b0, b1, b2, b3, b4, bl⟩ := allc5 bx; clear hp4 hb4 hT4 bx)
      | (go_at_call 18; (with_reducible refine expr_at (w := W.drew) HWO.out (by (repeat (first | with_reducible exact hp.out | with_reducible exact hr.out | with_reducible refine Past.drew ?_ | with_reducible refine Past.alloc ?_ _ | (with_reducible refine past_set ?_ ?_ _; rotate_left; first | exact Nat.le_refl _ | exact hz.out | (simp; done))))) 40 _ (l := lt1 a b) HS.out.1 HS.out.2 E.out ?_); intro T nX w4 hp4 hb4 hT4; clear hp hz; have hp := hid hp4; have hz := hid hp4.size; have HT4 := hid hT4; clear hp4 hb4 hT4))
  all_goals
    go_upto_region 9 with (fail)
    first
    | (obtain ⟨hpa, hla⟩ := end_A hp.out HT4.out HBX.out; exact lev9_go (by assumption) (HF.out.on hpa) hla)
    | (obtain ⟨hpa, hla⟩ := end_B hp.out HT4.out; exact lev9_go (by assumption) (HF.out.on hpa) hla)
set_option maxHeartbeats 8000000 in
set_option maxRecDepth 100000 in
theorem levels_go (a0 a1 : Int) (h0 : 0 ≤ a0 ∧ a0 ≤ 255) (h1 : 0 ≤ a1 ∧ a1 ≤ 255) (w : World) (H : Wo w) :
    Calls Tryz.prog 8 #[.int .u8 a0, .int .u8 a1] w (LPost w) := by
  obtain ⟨h00, h01⟩ := h0
  obtain ⟨h10, h11⟩ := h1
  obtain ⟨a, ha, ea⟩ : ∃ a : Nat, a < 18 ∧ a0 % 18 = a := ⟨(a0 % 18).toNat, by omega, by omega⟩
  obtain ⟨b, hb, eb⟩ : ∃ b : Nat, b < 18 ∧ a1 % 18 = b := ⟨(a1 % 18).toNat, by omega, by omega⟩
  have HO := hid H
  clear H
  go_enter Tryz.func8, Tryz.ntmps8
  go_upto_region 8 with (go_at_call 10; refine (ex_any HO.out).mono ?_; rintro e w1 ⟨rfl, hp⟩; have HP1 := hid hp; clear hp)
  have hO := bk_old (.cells lvC' 3) (bk_new w1 (.cells vbC 9))
  have hL : ((w1.alloc (.cells vbC 9)).alloc (.cells lvC' 3)).heap[w1.heap.size + 1]? = some (.cells lvC' 3 (0, 0)) := bk_new' _ (by simp)
  have hP : Past w ((w1.alloc (.cells vbC 9)).alloc (.cells lvC' 3)) := (HP1.out.alloc _).alloc _
  exact lev8_go (by assumption) ⟨bk_cell hO (vbC_at a ha), bk_cell hO (vbC_at b hb), bk_cell hL (lvC'_at a ha), bk_cell hL (lvC'_at b hb), (vb_is a ha).1, (vb_is b hb).1, (vb_is a ha).2, (vb_is b hb).2, ha, hb, HO.out.on hP, hP⟩
end Go.Proofs.YtgkdoealhbhnmaaGreatDoor.Pm

namespace Go.Proofs.YtgkdoealhbhnmaaGreatDoor
open Go Go.RowKit Go.Proofs.YtgkdoealhbhnmaaGreatDoor.Pm
open Go.Lib (hid)
theorem parseLevels_walk (a0 a1 : Int) (w0 : (Lit.int .u8 a0).wf = true) (w1 : (Lit.int .u8 a1).wf = true) (w : World) (H : Wo w) :
    Calls Tryz.prog 8 #[.int .u8 a0, .int .u8 a1] w fun e w' => e = .returned (.bool true) ∧ Below w.heap.size w w' := by
  have h0 : 0 ≤ a0 ∧ a0 ≤ 255 := by
    simp only [Lit.wf, IntKind.min, IntKind.max, Bool.and_eq_true] at w0
    exact ⟨of_decide_eq_true w0.1, of_decide_eq_true w0.2⟩
  have h1 : 0 ≤ a1 ∧ a1 ≤ 255 := by
    simp only [Lit.wf, IntKind.min, IntKind.max, Bool.and_eq_true] at w1
    exact ⟨of_decide_eq_true w1.1, of_decide_eq_true w1.2⟩
  exact levels_go a0 a1 h0 h1 w H
end Go.Proofs.YtgkdoealhbhnmaaGreatDoor
