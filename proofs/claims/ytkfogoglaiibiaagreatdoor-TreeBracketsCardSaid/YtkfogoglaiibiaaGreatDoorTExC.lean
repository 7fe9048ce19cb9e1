/- What the plain functions tell of the chapter's examples. -/
import Derived.Test.YtkfogoglaiibiaaGreatDoorTEx
set_option linter.unusedSimpArgs false
set_option linter.unusedVariables false
namespace Go.Proofs.YtkfogoglaiibiaaGreatDoor
open Go Go.RowKit

theorem exc1 (a b : Nat) : putR levL (exE a b).re = [97, 32, 45, 32, 40, 98, 32, 45, 32, 45, 50, 41] := by kernel_rfl
theorem exc3 (a b : Nat) : (exE a b).rightB = true := by kernel_rfl
theorem exc4 (a b b1 b2 b3 g gd : Nat) : [exF a b b1 b2 b3 g gd].all FT.rightB = true := by kernel_rfl
theorem exc6 (a b b1 b2 b3 : Nat) : wrap64 (cnts [exS a b b1 b2 b3] : Nat) = 3 := by
  have e : cnts [exS a b b1 b2 b3] = 3 := by kernel_rfl
  rw [e]; exact wrap_small 3 (by omega)
theorem exc7 : (vrT { data := #[105, 102] }).rightB = false := by kernel_rfl
theorem exc5 (a b b1 b2 b3 g gd : Nat) : sameFs [exF a b b1 b2 b3 g gd] [exF a b b1 b2 b3 g gd] = true := by kernel_rfl
theorem exc2 (a b b1 b2 b3 g gd : Nat) : progT [exF a b b1 b2 b3 g gd] = [102, 117, 110, 99, 32, 109, 97, 105, 110, 40, 41, 32, 123, 10, 9, 118, 97, 114, 32, 97, 44, 32, 120, 91, 52, 93, 59, 10, 9, 64, 51, 32, 119, 104, 105, 108, 101, 32, 40, 97, 41, 32, 123, 10, 9, 9, 120, 91, 97, 93, 32, 61, 32, 97, 32, 45, 32, 40, 98, 32, 45, 32, 45, 50, 41, 59, 10, 9, 9, 98, 114, 101, 97, 107, 59, 10, 9, 125, 10, 125, 10] := by kernel_rfl
abbrev exU (q : Nat) : ET := .mk 3 { data := #[45] } 0 nE (some ⟨q, 0, none⟩) 1 [.mk 0 nE 5 nE none 0 []]
theorem exc8 (q : Nat) : putR levL (exU q).re = [45, 40, 53, 41] := by kernel_rfl
theorem exc9 (q : Nat) : (exU q).rightB = true := by kernel_rfl
theorem five_in (w : World) : (ET.mk 0 nE 5 nE none 0 []).In w 0 := by
  simp only [ET.In, EsIn]
  decide
theorem exU_in {w : World} {q : Nat} (h : w.heap[q]? = some (.cells #[.int .i64 0, .string nE, .int .i64 5, .string nE, .slice none 0 0] 30 (0, 0))) : (exU q).In w 0 := by
  rw [ET.In, EsIn, EsIn]
  exact ⟨by decide, by simp, row_block h (Nat.zero_le _) rfl, five_in _, trivial⟩
theorem putU_any {w1 : World} (H : Pow w1) :
    Calls Tryz.prog 21 #[.agg #[.int .i64 3, .string { data := #[45] }, .int .i64 0, .string { data := #[] }, .slice (some ⟨w1.heap.size, 0, none⟩) 1 1]] (w1.alloc (.cells #[.int .i64 0, .string { data := #[] }, .int .i64 5, .string { data := #[] }, .slice none 0 0] 30)) fun e w' => e = .returned (.string { data := #[45, 40, 53, 41] }) ∧ Below w1.heap.size w1 w' := by
  have h := putExpr_any (w0 := w1.alloc (.cells #[.int .i64 0, .string { data := #[] }, .int .i64 5, .string { data := #[] }, .slice none 0 0] 30)) (H.on ((Past.refl _).alloc _)) (exU_in (bk_new w1 _)) (exc9 _) (by rw [exc8]; decide) _ (Past.refl _)
  rw [exc8] at h
  refine h.mono ?_
  rintro e w' ⟨rfl, hb⟩
  exact ⟨rfl, step_on ((Below.refl _ _).alloc (Nat.le_refl _) _) hb⟩
end Go.Proofs.YtkfogoglaiibiaaGreatDoor
