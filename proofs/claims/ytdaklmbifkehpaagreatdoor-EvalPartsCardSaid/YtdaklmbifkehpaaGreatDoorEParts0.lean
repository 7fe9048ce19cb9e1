/- The walk of EvalParts: an operation of two expressions. (Written by genparts.py.) -/
import Derived.Test.YtdaklmbifkehpaaGreatDoorEEx
import Derived.Test.YtdaklmbifkehpaaGreatDoorTFeedS
set_option linter.unusedSimpArgs false
set_option linter.unusedVariables false
namespace Go.Proofs.YtdaklmbifkehpaaGreatDoor.Ev
open Go Go.RowKit Go.Proofs.YtdaklmbifkehpaaGreatDoor Go.Proofs.YtdaklmbifkehpaaGreatDoor.Pm

def opList : List ByteArray := [{ data := #[124, 124] }, { data := #[38, 38] }, { data := #[124] }, { data := #[94] }, { data := #[38] }, { data := #[61, 61] }, { data := #[33, 61] }, { data := #[60] }, { data := #[60, 61] }, { data := #[62] }, { data := #[62, 61] }, { data := #[60, 60] }, { data := #[62, 62] }, { data := #[43] }, { data := #[45] }, { data := #[42] }, { data := #[47] }, { data := #[37] }]
def opAt (k : Nat) : ByteArray := opList.getD k { data := #[] }
def OpsIn (b : Nat) (w : World) : Prop := b < w.heap.size ∧ ∀ k, k < 18 → w.cell? ⟨b, k, none⟩ = some (.string (opAt k))
theorem OpsIn.on {b : Nat} {w w' : World} (h : OpsIn b w) (hb : Below w.heap.size w w') : OpsIn b w' :=
  ⟨Nat.lt_of_lt_of_le h.1 hb.size, fun k hk => (hb.cell (p := ⟨b, k, none⟩) h.1).trans (h.2 k hk)⟩
theorem OpsIn.cell {b : Nat} {w : World} (h : OpsIn b w) (k : Nat) (hk : k < 18) : w.cell? ⟨b, k, none⟩ = some (.string (opAt k)) := h.2 k hk
theorem opsIn_new (w : World) : OpsIn w.heap.size (w.alloc (.cells (opList.map Value.string).toArray 9)) := by
  refine ⟨by simp, fun k hk => ?_⟩
  have : ∀ k, k < 18 → (opList.map Value.string).toArray[k]? = some (.string (opAt k)) := by
    intro k hk
    have hl : opList.length = 18 := rfl
    simp [opAt, List.getD, hl, hk]
  rw [World.cell?_alloc_new, this k hk]
theorem ops_own {w0 : World} (w : World) (h : Past w0 w) :
    Calls Tryz.prog 33 #[] w fun e w' => e = .returned (.slice (some ⟨w.heap.size, 0, none⟩) 18 18) ∧ OpsIn w.heap.size w' ∧ Below w.heap.size w w' ∧ Past w0 w' := by
  have hn := opsIn_new w
  go_enter Tryz.func33, Tryz.ntmps33
  go_wp2
  go_ret
  exact ⟨rfl, hn, (Below.refl _ _).alloc (Nat.le_refl _) _, h.alloc _⟩
abbrev tenO (T U : ET) : Obj := (.cells #[.int .i64 T.kind, .string T.op, .int .i64 T.n, .string T.name, .slice T.kaddr T.kids.length T.kcap, .int .i64 U.kind, .string U.op, .int .i64 U.n, .string U.name, .slice U.kaddr U.kids.length U.kcap] 26)
abbrev twoT (o : ByteArray) (N : Nat) (T U : ET) : ET := .mk 4 o 0 mE (some ⟨N, 0, none⟩) 2 [T, U]
theorem twoT_in (o : ByteArray) {T U : ET} {W : World} (h : T.In W 0) (k : U.In W 0) : (twoT o W.heap.size T U).In (W.alloc (tenO T U)) 0 := by
  have hb := bk_new W (tenO T U)
  have ba : Below W.heap.size W (W.alloc (tenO T U)) := (Below.refl _ _).alloc (Nat.le_refl _) _
  rw [ET.In]
  refine ⟨by decide, by simp, ?_⟩
  rw [EsIn, EsIn, EsIn]
  refine ⟨⟨W.heap.size, 0, rfl, Nat.zero_le _, fun j v hj => ?_⟩, h.on ba, ⟨W.heap.size, 0, rfl, Nat.zero_le _, fun j v hj => ?_⟩, k.on ba, trivial⟩
  · rw [ET.cells_is] at hj
    refine bk_cell hb ?_
    match j, hj with
    | 0, hj => exact hj
    | 1, hj => exact hj
    | 2, hj => exact hj
    | 3, hj => exact hj
    | 4, hj => exact hj
    | j + 5, hj => simp at hj
  · rw [ET.cells_is] at hj
    refine bk_cell hb ?_
    match j, hj with
    | 0, hj => exact hj
    | 1, hj => exact hj
    | 2, hj => exact hj
    | 3, hj => exact hj
    | 4, hj => exact hj
    | j + 5, hj => simp at hj
theorem twoT_ev (L : List PC) {o : ByteArray} (ho : 0 < levelV o) (N : Nat) {T U : ET} (h : T.rightB = true) (k : U.rightB = true) : evT L (twoT o N T U) = binR o (evE L T.re) (evE L U.re) := by
  unfold evT
  have hr : (twoT o N T U).rightB = true := by
    rw [ET.rightB, rightEs, rightEs, rightEs, h, k]
    have : formedC 4 o 0 mE [T, U].length = true := by unfold formedC; rw [if_neg (by decide), if_neg (by decide), if_neg (by decide), if_neg (by decide), if_pos rfl, decide_eq_true ho]; kernel_rfl
    rw [this]; rfl
  rw [if_pos hr]
  show evE L (RE.bin o.data.toList T.re U.re) = _
  rw [evE, bs_of_list]
theorem opAt_lev (k : Nat) (h : k < 18) : 0 < levelV (opAt k) := by
  have : ∀ k, k < 18 → 0 < levelV (opAt k) := by decide
  exact this k h
structure Sh (w : World) (B E q r ob : Nat) (blk : Nat → Nat) (L : List PC) (T U : ET) (wb : World) : Prop where
  env : EnvIn B E blk L wb
  tin : T.In wb 0
  tright : T.rightB = true
  uin : U.In wb 0
  uright : U.rightB = true
  tbox : wb.heap[q]? = some (.cells #[.int .i64 T.kind, .string T.op, .int .i64 T.n, .string T.name, .slice T.kaddr T.kids.length T.kcap] 26 (0, 0))
  ubox : wb.heap[r]? = some (.cells #[.int .i64 U.kind, .string U.op, .int .i64 U.n, .string U.name, .slice U.kaddr U.kids.length U.kcap] 26 (0, 0))
  ops : OpsIn ob wb
  past : Past w wb
theorem Sh.cells {w wb W : World} {B E q r ob : Nat} {blk : Nat → Nat} {L : List PC} {T U : ET} (h : Sh w B E q r ob blk L T U wb) (hp : Past wb W) : (W.cell? ⟨q, 0, none⟩ = some (.int .i64 T.kind) ∧ W.cell? ⟨q, 1, none⟩ = some (.string T.op) ∧ W.cell? ⟨q, 2, none⟩ = some (.int .i64 T.n) ∧ W.cell? ⟨q, 3, none⟩ = some (.string T.name) ∧ W.cell? ⟨q, 4, none⟩ = some (.slice T.kaddr T.kids.length T.kcap)) ∧ (W.cell? ⟨r, 0, none⟩ = some (.int .i64 U.kind) ∧ W.cell? ⟨r, 1, none⟩ = some (.string U.op) ∧ W.cell? ⟨r, 2, none⟩ = some (.int .i64 U.n) ∧ W.cell? ⟨r, 3, none⟩ = some (.string U.name) ∧ W.cell? ⟨r, 4, none⟩ = some (.slice U.kaddr U.kids.length U.kcap)) :=
  ⟨box5 h.tbox hp, box5 h.ubox hp⟩
end Go.Proofs.YtdaklmbifkehpaaGreatDoor.Ev
