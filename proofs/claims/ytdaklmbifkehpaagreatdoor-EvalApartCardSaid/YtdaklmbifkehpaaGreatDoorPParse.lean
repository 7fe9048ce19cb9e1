/- read, whole, for programs. (Written by genread2.py.) Parse, Expr, Nest: what they answer. (Written by genparse.py.) -/
import Derived.Test.YtdaklmbifkehpaaGreatDoorPStC
import Derived.Test.YtdaklmbifkehpaaGreatDoorPRead
set_option linter.unusedSimpArgs false
set_option linter.unusedVariables false
namespace Go.Proofs.YtdaklmbifkehpaaGreatDoor.Pm
open Go Go.RowKit Go.Proofs.YtdaklmbifkehpaaGreatDoor
open Go.Lib (hid)

theorem CFs.on {P : Nat → Prop} {r : List RF} {v : Value} {A A' : Nat} {w1 w2 : World} (h : CFs r v A w1) (hk : KeptP P w1 w2) (hP : ∀ b, A ≤ b → ¬ P b) (hA : A' ≤ A) : CFs r v A' w2 := by
  obtain ⟨a, c, l, e, h1, h2, h3, h4⟩ := h
  exact ⟨a, c, l, e, h1, h2, (h3.keep fun p u hp hc => hk.cell (hP _ hp) hc).mono hA, h4⟩
section
variable {F : PC} {B f : Nat} {s : PS} {w W : World} {tmps : Array Value} {R ba be bp : Nat}
end
section
variable {w : World}
end
section
variable {w : World}
end
end Go.Proofs.YtdaklmbifkehpaaGreatDoor.Pm

set_option linter.unusedSimpArgs false
set_option linter.unusedVariables false
namespace Go.Proofs.YtdaklmbifkehpaaGreatDoor.Pm
open Go Go.RowKit Go.Proofs.YtdaklmbifkehpaaGreatDoor
open Go.Lib (hid)

def ParsePost {α : Type} (C : α → Value → Nat → World → Prop) (zero : Value) (l : List UInt8) (r : Ans α) (w : World) (e : Ending) (w' : World) : Prop := Below w.heap.size w w' ∧ match r with
  | .ok a mo => ∃ v, e = .returned (.tuple #[v, .int .i64 (l.length : Nat), .int .i64 0]) ∧ C a v w.heap.size w'
  | .bad p n => e = .returned (.tuple #[zero, .int .i64 (p : Nat), .int .i64 (n : Nat)])
section
variable {w : World}
theorem outExpr {W : World} {tmps : Array Value} {R : Nat} {u0 u1 u2 u3 u4 : Value} {p n : Int} (h2 : tmps[2]? = some (.pointer (some ⟨R, 0, none⟩))) (h3 : tmps[3]? = some (.int .i64 p)) (h4 : tmps[4]? = some (.int .i64 n)) (q0 : W.heap[R]? = some (.cells #[u0, u1, u2, u3, u4] 26 (0, 0))) :
    (results Tryz.f31 tmps).run Tryz.prog W = .ok (.tuple #[.agg #[u0, u1, u2, u3, u4], .int .i64 p, .int .i64 n]) W := by
  have c0 := bk_cell (k := 0) q0 rfl; have c1 := bk_cell (k := 1) q0 rfl; have c2 := bk_cell (k := 2) q0 rfl; have c3 := bk_cell (k := 3) q0 rfl; have c4 := bk_cell (k := 4) q0 rfl
  simp [results, Tryz.results31, go_sem, *]
set_option maxHeartbeats 4000000 in
set_option maxRecDepth 100000 in
theorem pExpr_any (m : Nat) (sb : ByteArray) (hs : sb.size ≤ 8192) (H : Lx.Errs w) (hfin : FinA m expr sb.data.toList) :
    Calls Tryz.prog 31 #[.string sb] w (ParsePost CE zE sb.data.toList (exprF m sb.data.toList) w) := by
  have HS := hid hs
  have HE : Hid (Lx.Errs (w.alloc oE)) := hid (H.on (show Lx.Past w (w.alloc oE) from ((Below.refl _ _).alloc (Nat.le_refl _) _)))
  have HF := hid hfin
  clear hs H hfin
  rcases hn : exprF m sb.data.toList with ⟨a, mo⟩ | ⟨p, n⟩
  · have HN := hid hn
    clear hn
    go_enter Tryz.func31, Tryz.ntmps31
    go_upto_region 2 with (go_at_call 51; refine (readE_any m sb HS.out HE.out HF.out).mono ?_; intro e w1 hq; rw [HN.out] at hq; obtain ⟨hb, v, rfl, hC⟩ := hq; obtain ⟨T, hv, hT⟩ := hC; rw [ET.val_is] at hv; subst hv; have HT := hid hT; clear hT; have hr := (hb.block w.heap.size (by simp)).trans (bk_new w oE); have HR := hid hr; have HB := hid hb; obtain ⟨y, x0, x1, x2, x3, x4, l⟩ := allc5 hr; clear hr hb)
    have hb := HB.out
    have hw : Below w.heap.size w w1 := ((Below.refl _ _).alloc (Nat.le_refl _) _).trans (hb.mono (by simp))
    have a0 : (w1.setCell ⟨w.heap.size, 0, none⟩ (.int .i64 T.kind)).heap[w.heap.size]? = some (.cells #[.int .i64 T.kind, .string ⟨#[]⟩, .int .i64 0, .string ⟨#[]⟩, .slice none 0 0] 26 (0, 0)) := bk_set (k := 0) (.int .i64 T.kind) HR.out
    have a1 : ((w1.setCell ⟨w.heap.size, 0, none⟩ (.int .i64 T.kind)).setCell ⟨w.heap.size, 1, none⟩ (.string T.op)).heap[w.heap.size]? = some (.cells #[.int .i64 T.kind, .string T.op, .int .i64 0, .string ⟨#[]⟩, .slice none 0 0] 26 (0, 0)) := bk_set (k := 1) (.string T.op) a0
    have a2 : (((w1.setCell ⟨w.heap.size, 0, none⟩ (.int .i64 T.kind)).setCell ⟨w.heap.size, 1, none⟩ (.string T.op)).setCell ⟨w.heap.size, 2, none⟩ (.int .i64 T.n)).heap[w.heap.size]? = some (.cells #[.int .i64 T.kind, .string T.op, .int .i64 T.n, .string ⟨#[]⟩, .slice none 0 0] 26 (0, 0)) := bk_set (k := 2) (.int .i64 T.n) a1
    have a3 : ((((w1.setCell ⟨w.heap.size, 0, none⟩ (.int .i64 T.kind)).setCell ⟨w.heap.size, 1, none⟩ (.string T.op)).setCell ⟨w.heap.size, 2, none⟩ (.int .i64 T.n)).setCell ⟨w.heap.size, 3, none⟩ (.string T.name)).heap[w.heap.size]? = some (.cells #[.int .i64 T.kind, .string T.op, .int .i64 T.n, .string T.name, .slice none 0 0] 26 (0, 0)) := bk_set (k := 3) (.string T.name) a2
    have a4 : (((((w1.setCell ⟨w.heap.size, 0, none⟩ (.int .i64 T.kind)).setCell ⟨w.heap.size, 1, none⟩ (.string T.op)).setCell ⟨w.heap.size, 2, none⟩ (.int .i64 T.n)).setCell ⟨w.heap.size, 3, none⟩ (.string T.name)).setCell ⟨w.heap.size, 4, none⟩ (.slice T.kaddr T.kids.length T.kcap)).heap[w.heap.size]? = some (.cells #[.int .i64 T.kind, .string T.op, .int .i64 T.n, .string T.name, .slice T.kaddr T.kids.length T.kcap] 26 (0, 0)) := bk_set (k := 4) (.slice T.kaddr T.kids.length T.kcap) a3
    have hw2 := (((((hw.setCell (p := ⟨w.heap.size, 0, none⟩) (Nat.le_refl _) (.int .i64 T.kind)).setCell (p := ⟨w.heap.size, 1, none⟩) (Nat.le_refl _) (.string T.op)).setCell (p := ⟨w.heap.size, 2, none⟩) (Nat.le_refl _) (.int .i64 T.n)).setCell (p := ⟨w.heap.size, 3, none⟩) (Nat.le_refl _) (.string T.name)).setCell (p := ⟨w.heap.size, 4, none⟩) (Nat.le_refl _) (.slice T.kaddr T.kids.length T.kcap))
    have hk2 := (kept_set1 (kept_set1 (kept_set1 (kept_set1 (kept_set1 (KeptP.refl (fun b => b = w.heap.size) w1) 0 (.int .i64 T.kind)) 1 (.string T.op)) 2 (.int .i64 T.n)) 3 (.string T.name)) 4 (.slice T.kaddr T.kids.length T.kcap))
    clear y l x0 x1 x2 x3 x4 a0 a1 a2 a3
    generalize (((((w1.setCell ⟨w.heap.size, 0, none⟩ (.int .i64 T.kind)).setCell ⟨w.heap.size, 1, none⟩ (.string T.op)).setCell ⟨w.heap.size, 2, none⟩ (.int .i64 T.n)).setCell ⟨w.heap.size, 3, none⟩ (.string T.name)).setCell ⟨w.heap.size, 4, none⟩ (.slice T.kaddr T.kids.length T.kcap)) = w2 at a4 hw2 hk2 ⊢
    have E : Hid (w2.heap[w.heap.size]? = some (.cells #[.int .i64 T.kind, .string T.op, .int .i64 T.n, .string T.name, .slice T.kaddr T.kids.length T.kcap] 26 (0, 0))) := hid a4
    have HW2 := hid hw2
    have HK2 := hid hk2
    have y := fun k => bk_free (k := k) E.out
    have x0 := bk_cell (k := 0) E.out rfl
    have x1 := bk_cell (k := 1) E.out rfl
    have x2 := bk_cell (k := 2) E.out rfl
    have x3 := bk_cell (k := 3) E.out rfl
    have x4 := bk_cell (k := 4) E.out rfl
    have l := lt_of_block E.out
    clear a4 hw2 hk2 hw hb
    go_wp2
    clear y l x0 x1 x2 x3 x4
    have b0 : (w2.setCell ⟨w.heap.size, 0, none⟩ (.int .i64 T.kind)).heap[w.heap.size]? = some (.cells #[.int .i64 T.kind, .string T.op, .int .i64 T.n, .string T.name, .slice T.kaddr T.kids.length T.kcap] 26 (0, 0)) := bk_set (k := 0) (.int .i64 T.kind) E.out
    have b1 : ((w2.setCell ⟨w.heap.size, 0, none⟩ (.int .i64 T.kind)).setCell ⟨w.heap.size, 1, none⟩ (.string T.op)).heap[w.heap.size]? = some (.cells #[.int .i64 T.kind, .string T.op, .int .i64 T.n, .string T.name, .slice T.kaddr T.kids.length T.kcap] 26 (0, 0)) := bk_set (k := 1) (.string T.op) b0
    have b2 : (((w2.setCell ⟨w.heap.size, 0, none⟩ (.int .i64 T.kind)).setCell ⟨w.heap.size, 1, none⟩ (.string T.op)).setCell ⟨w.heap.size, 2, none⟩ (.int .i64 T.n)).heap[w.heap.size]? = some (.cells #[.int .i64 T.kind, .string T.op, .int .i64 T.n, .string T.name, .slice T.kaddr T.kids.length T.kcap] 26 (0, 0)) := bk_set (k := 2) (.int .i64 T.n) b1
    have b3 : ((((w2.setCell ⟨w.heap.size, 0, none⟩ (.int .i64 T.kind)).setCell ⟨w.heap.size, 1, none⟩ (.string T.op)).setCell ⟨w.heap.size, 2, none⟩ (.int .i64 T.n)).setCell ⟨w.heap.size, 3, none⟩ (.string T.name)).heap[w.heap.size]? = some (.cells #[.int .i64 T.kind, .string T.op, .int .i64 T.n, .string T.name, .slice T.kaddr T.kids.length T.kcap] 26 (0, 0)) := bk_set (k := 3) (.string T.name) b2
    have b4 : (((((w2.setCell ⟨w.heap.size, 0, none⟩ (.int .i64 T.kind)).setCell ⟨w.heap.size, 1, none⟩ (.string T.op)).setCell ⟨w.heap.size, 2, none⟩ (.int .i64 T.n)).setCell ⟨w.heap.size, 3, none⟩ (.string T.name)).setCell ⟨w.heap.size, 4, none⟩ (.slice T.kaddr T.kids.length T.kcap)).heap[w.heap.size]? = some (.cells #[.int .i64 T.kind, .string T.op, .int .i64 T.n, .string T.name, .slice T.kaddr T.kids.length T.kcap] 26 (0, 0)) := bk_set (k := 4) (.slice T.kaddr T.kids.length T.kcap) b3
    have zb := (((((HW2.out.setCell (p := ⟨w.heap.size, 0, none⟩) (Nat.le_refl _) (.int .i64 T.kind)).setCell (p := ⟨w.heap.size, 1, none⟩) (Nat.le_refl _) (.string T.op)).setCell (p := ⟨w.heap.size, 2, none⟩) (Nat.le_refl _) (.int .i64 T.n)).setCell (p := ⟨w.heap.size, 3, none⟩) (Nat.le_refl _) (.string T.name)).setCell (p := ⟨w.heap.size, 4, none⟩) (Nat.le_refl _) (.slice T.kaddr T.kids.length T.kcap))
    have zk := (kept_set1 (kept_set1 (kept_set1 (kept_set1 (kept_set1 HK2.out 0 (.int .i64 T.kind)) 1 (.string T.op)) 2 (.int .i64 T.n)) 3 (.string T.name)) 4 (.slice T.kaddr T.kids.length T.kcap))
    exact bodyPost_ret (v := .tuple #[.agg #[.int .i64 T.kind, .string T.op, .int .i64 T.n, .string T.name, .slice T.kaddr T.kids.length T.kcap], .int .i64 (sb.size : Nat), .int .i64 0]) (outExpr rfl rfl rfl b4) rfl ⟨zb, _, rfl, CE.on (P := fun b => b = w.heap.size) (A := (w.alloc oE).heap.size) (w1 := w1) ⟨T, (ET.val_is T).symm, HT.out⟩ zk (fun b hb e => by simp at hb; omega) (by simp)⟩
  · have HN := hid hn
    clear hn
    go_enter Tryz.func31, Tryz.ntmps31
    go_upto_region 2 with (go_at_call 51; refine (readE_any m sb HS.out HE.out HF.out).mono ?_; intro e w1 hq; rw [HN.out] at hq; obtain ⟨hb, rfl⟩ := hq; have hr := (hb.block w.heap.size (by simp)).trans (bk_new w oE); have HR := hid hr; have HB := hid hb; obtain ⟨y, x0, x1, x2, x3, x4, l⟩ := allc5 hr; clear hr hb)
    have hb := HB.out
    have hw : Below w.heap.size w w1 := ((Below.refl _ _).alloc (Nat.le_refl _) _).trans (hb.mono (by simp))
    have a0 : (w1.setCell ⟨w.heap.size, 0, none⟩ (.int .i64 0)).heap[w.heap.size]? = some (.cells #[.int .i64 0, .string ⟨#[]⟩, .int .i64 0, .string ⟨#[]⟩, .slice none 0 0] 26 (0, 0)) := bk_set (k := 0) (.int .i64 0) HR.out
    have a1 : ((w1.setCell ⟨w.heap.size, 0, none⟩ (.int .i64 0)).setCell ⟨w.heap.size, 1, none⟩ (.string ⟨#[]⟩)).heap[w.heap.size]? = some (.cells #[.int .i64 0, .string ⟨#[]⟩, .int .i64 0, .string ⟨#[]⟩, .slice none 0 0] 26 (0, 0)) := bk_set (k := 1) (.string ⟨#[]⟩) a0
    have a2 : (((w1.setCell ⟨w.heap.size, 0, none⟩ (.int .i64 0)).setCell ⟨w.heap.size, 1, none⟩ (.string ⟨#[]⟩)).setCell ⟨w.heap.size, 2, none⟩ (.int .i64 0)).heap[w.heap.size]? = some (.cells #[.int .i64 0, .string ⟨#[]⟩, .int .i64 0, .string ⟨#[]⟩, .slice none 0 0] 26 (0, 0)) := bk_set (k := 2) (.int .i64 0) a1
    have a3 : ((((w1.setCell ⟨w.heap.size, 0, none⟩ (.int .i64 0)).setCell ⟨w.heap.size, 1, none⟩ (.string ⟨#[]⟩)).setCell ⟨w.heap.size, 2, none⟩ (.int .i64 0)).setCell ⟨w.heap.size, 3, none⟩ (.string ⟨#[]⟩)).heap[w.heap.size]? = some (.cells #[.int .i64 0, .string ⟨#[]⟩, .int .i64 0, .string ⟨#[]⟩, .slice none 0 0] 26 (0, 0)) := bk_set (k := 3) (.string ⟨#[]⟩) a2
    have a4 : (((((w1.setCell ⟨w.heap.size, 0, none⟩ (.int .i64 0)).setCell ⟨w.heap.size, 1, none⟩ (.string ⟨#[]⟩)).setCell ⟨w.heap.size, 2, none⟩ (.int .i64 0)).setCell ⟨w.heap.size, 3, none⟩ (.string ⟨#[]⟩)).setCell ⟨w.heap.size, 4, none⟩ (.slice none 0 0)).heap[w.heap.size]? = some (.cells #[.int .i64 0, .string ⟨#[]⟩, .int .i64 0, .string ⟨#[]⟩, .slice none 0 0] 26 (0, 0)) := bk_set (k := 4) (.slice none 0 0) a3
    have hw2 := (((((hw.setCell (p := ⟨w.heap.size, 0, none⟩) (Nat.le_refl _) (.int .i64 0)).setCell (p := ⟨w.heap.size, 1, none⟩) (Nat.le_refl _) (.string ⟨#[]⟩)).setCell (p := ⟨w.heap.size, 2, none⟩) (Nat.le_refl _) (.int .i64 0)).setCell (p := ⟨w.heap.size, 3, none⟩) (Nat.le_refl _) (.string ⟨#[]⟩)).setCell (p := ⟨w.heap.size, 4, none⟩) (Nat.le_refl _) (.slice none 0 0))
    have hk2 := (kept_set1 (kept_set1 (kept_set1 (kept_set1 (kept_set1 (KeptP.refl (fun b => b = w.heap.size) w1) 0 (.int .i64 0)) 1 (.string ⟨#[]⟩)) 2 (.int .i64 0)) 3 (.string ⟨#[]⟩)) 4 (.slice none 0 0))
    clear y l x0 x1 x2 x3 x4 a0 a1 a2 a3
    generalize (((((w1.setCell ⟨w.heap.size, 0, none⟩ (.int .i64 0)).setCell ⟨w.heap.size, 1, none⟩ (.string ⟨#[]⟩)).setCell ⟨w.heap.size, 2, none⟩ (.int .i64 0)).setCell ⟨w.heap.size, 3, none⟩ (.string ⟨#[]⟩)).setCell ⟨w.heap.size, 4, none⟩ (.slice none 0 0)) = w2 at a4 hw2 hk2 ⊢
    have E : Hid (w2.heap[w.heap.size]? = some (.cells #[.int .i64 0, .string ⟨#[]⟩, .int .i64 0, .string ⟨#[]⟩, .slice none 0 0] 26 (0, 0))) := hid a4
    have HW2 := hid hw2
    have HK2 := hid hk2
    have y := fun k => bk_free (k := k) E.out
    have x0 := bk_cell (k := 0) E.out rfl
    have x1 := bk_cell (k := 1) E.out rfl
    have x2 := bk_cell (k := 2) E.out rfl
    have x3 := bk_cell (k := 3) E.out rfl
    have x4 := bk_cell (k := 4) E.out rfl
    have l := lt_of_block E.out
    clear a4 hw2 hk2 hw hb
    go_wp2
    clear y l x0 x1 x2 x3 x4
    have b0 : (w2.setCell ⟨w.heap.size, 0, none⟩ (.int .i64 0)).heap[w.heap.size]? = some (.cells #[.int .i64 0, .string ⟨#[]⟩, .int .i64 0, .string ⟨#[]⟩, .slice none 0 0] 26 (0, 0)) := bk_set (k := 0) (.int .i64 0) E.out
    have b1 : ((w2.setCell ⟨w.heap.size, 0, none⟩ (.int .i64 0)).setCell ⟨w.heap.size, 1, none⟩ (.string ⟨#[]⟩)).heap[w.heap.size]? = some (.cells #[.int .i64 0, .string ⟨#[]⟩, .int .i64 0, .string ⟨#[]⟩, .slice none 0 0] 26 (0, 0)) := bk_set (k := 1) (.string ⟨#[]⟩) b0
    have b2 : (((w2.setCell ⟨w.heap.size, 0, none⟩ (.int .i64 0)).setCell ⟨w.heap.size, 1, none⟩ (.string ⟨#[]⟩)).setCell ⟨w.heap.size, 2, none⟩ (.int .i64 0)).heap[w.heap.size]? = some (.cells #[.int .i64 0, .string ⟨#[]⟩, .int .i64 0, .string ⟨#[]⟩, .slice none 0 0] 26 (0, 0)) := bk_set (k := 2) (.int .i64 0) b1
    have b3 : ((((w2.setCell ⟨w.heap.size, 0, none⟩ (.int .i64 0)).setCell ⟨w.heap.size, 1, none⟩ (.string ⟨#[]⟩)).setCell ⟨w.heap.size, 2, none⟩ (.int .i64 0)).setCell ⟨w.heap.size, 3, none⟩ (.string ⟨#[]⟩)).heap[w.heap.size]? = some (.cells #[.int .i64 0, .string ⟨#[]⟩, .int .i64 0, .string ⟨#[]⟩, .slice none 0 0] 26 (0, 0)) := bk_set (k := 3) (.string ⟨#[]⟩) b2
    have b4 : (((((w2.setCell ⟨w.heap.size, 0, none⟩ (.int .i64 0)).setCell ⟨w.heap.size, 1, none⟩ (.string ⟨#[]⟩)).setCell ⟨w.heap.size, 2, none⟩ (.int .i64 0)).setCell ⟨w.heap.size, 3, none⟩ (.string ⟨#[]⟩)).setCell ⟨w.heap.size, 4, none⟩ (.slice none 0 0)).heap[w.heap.size]? = some (.cells #[.int .i64 0, .string ⟨#[]⟩, .int .i64 0, .string ⟨#[]⟩, .slice none 0 0] 26 (0, 0)) := bk_set (k := 4) (.slice none 0 0) b3
    have zb := (((((HW2.out.setCell (p := ⟨w.heap.size, 0, none⟩) (Nat.le_refl _) (.int .i64 0)).setCell (p := ⟨w.heap.size, 1, none⟩) (Nat.le_refl _) (.string ⟨#[]⟩)).setCell (p := ⟨w.heap.size, 2, none⟩) (Nat.le_refl _) (.int .i64 0)).setCell (p := ⟨w.heap.size, 3, none⟩) (Nat.le_refl _) (.string ⟨#[]⟩)).setCell (p := ⟨w.heap.size, 4, none⟩) (Nat.le_refl _) (.slice none 0 0))
    have zk := (kept_set1 (kept_set1 (kept_set1 (kept_set1 (kept_set1 HK2.out 0 (.int .i64 0)) 1 (.string ⟨#[]⟩)) 2 (.int .i64 0)) 3 (.string ⟨#[]⟩)) 4 (.slice none 0 0))
    exact bodyPost_ret (v := .tuple #[zE, .int .i64 (p : Nat), .int .i64 (n : Nat)]) (outExpr rfl rfl rfl b4) rfl ⟨zb, rfl⟩
end
end Go.Proofs.YtdaklmbifkehpaaGreatDoor.Pm
