/- What the writer writes of any right expression that lies in memory: by the parts. -/
import Derived.Test.YtkfogoglaiibiaaGreatDoorTExpr3
set_option linter.unusedSimpArgs false
set_option linter.unusedVariables false
namespace Go.Proofs.YtkfogoglaiibiaaGreatDoor
open Go Go.RowKit

theorem ET.cells_is (T : ET) : T.cells = #[.int .i64 T.kind, .string T.op, .int .i64 T.n, .string T.name, .slice T.kaddr T.kids.length T.kcap] := by cases T; rfl
theorem ET.val_is (T : ET) : T.val = .agg #[.int .i64 T.kind, .string T.op, .int .i64 T.n, .string T.name, .slice T.kaddr T.kids.length T.kcap] := by cases T; rfl
theorem expr_any {w0 : World} (H : Pow w0) : ∀ (m : Nat) (T : ET), T.sz ≤ m → T.rightB = true → T.In w0 0 → ExprDoes w0 51 T.val (putR levL T.re) := by
  intro m
  induction m with
  | zero => intro T hm; obtain ⟨k, o, n, m, a, c, l⟩ := T; simp [ET.sz] at hm
  | succ m ih =>
    intro T hm h hin
    rcases right_cases h with ⟨n, a, c, rfl⟩ | ⟨s, a, c, hs, rfl⟩ | ⟨s, a, c, e, hs, he, rfl⟩ | ⟨o, a, c, e, ho, he, rfl⟩ | ⟨o, a, c, e, f, ho, he, hf, rfl⟩
    · rw [ET.In] at hin
      exact expr_num H n hin.1 _ _ _
    · exact expr_var _ _ _ _
    · simp only [ET.In, EsIn] at hin
      simp [ET.sz, szs] at hm
      obtain ⟨kb, ko, rfl, -⟩ := hin.2.2.1
      have H1 := ih e (by omega) he hin.2.2.2.1
      rw [ET.val_is] at H1
      have hr := hin.2.2.1
      rw [ET.cells_is] at hr
      have := expr_idx (k1 := e.kind) (o1 := e.op) (n1 := e.n) (m1 := e.name) (v1 := .slice e.kaddr e.kids.length e.kcap) H1 kb ko c hr { data := #[] } s 0
      exact this
    · simp only [ET.In, EsIn] at hin
      simp [ET.sz, szs] at hm
      obtain ⟨kb, ko, rfl, -⟩ := hin.2.2.1
      have H1 := ih e (by omega) he hin.2.2.2.1
      rw [ET.val_is] at H1
      have hr := hin.2.2.1
      rw [ET.cells_is] at hr
      obtain ⟨c', hc, rfl⟩ := unB_is ho
      have := expr_un (k1 := e.kind) (o1 := e.op) (n1 := e.n) (m1 := e.name) (v1 := .slice e.kaddr e.kids.length e.kcap) H1 kb ko c hr { data := #[c'] } { data := #[] } 0 _ (brB_un c' he)
      exact this
    · simp only [ET.In, EsIn] at hin
      simp [ET.sz, szs] at hm
      obtain ⟨kb, ko, rfl, -⟩ := hin.2.2.1
      have H1 := ih e (by omega) he hin.2.2.2.1
      rw [ET.val_is] at H1
      have H2 := ih f (by omega) hf hin.2.2.2.2.2.1
      rw [ET.val_is] at H2
      have hr := hin.2.2.1
      rw [ET.cells_is] at hr
      have hr2 := hin.2.2.2.2.1
      rw [ET.cells_is] at hr2
      have := expr_bin (k1 := e.kind) (o1 := e.op) (n1 := e.n) (m1 := e.name) (v1 := .slice e.kaddr e.kids.length e.kcap) H1 (k2 := f.kind) (o2 := f.op) (n2 := f.n) (m2 := f.name) (v2 := .slice f.kaddr f.kids.length f.kcap) H2 kb ko c hr hr2 o { data := #[] } 0 _ _ (lower_is he _) (lower_is hf _)
      simp only [ET.re, putR, levL_is]
      exact this
end Go.Proofs.YtkfogoglaiibiaaGreatDoor
