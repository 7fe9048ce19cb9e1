/- What PutExpr answers of a right expression. -/
import Derived.Test.YtkfogoglaiibiaaGreatDoorTRight2
set_option linter.unusedSimpArgs false
set_option linter.unusedVariables false
namespace Go.Proofs.YtkfogoglaiibiaaGreatDoor
open Go Go.RowKit

theorem catB_nil : catB [] = [] := rfl
/-- A writer that has just been made. -/
theorem wr_new (w : World) : Wr w.heap.size w.heap.size [] 0 (w.alloc (.cells #[.pointer none, .slice none 0 0, .int .i64 0] 130)) :=
  ⟨Nat.le_refl _, .pointer none, .slice none 0 0, .inl rfl, bk_new _ _, World.ownsRow_nil _ _ _ _, by simp [Value.ownBlock]⟩
set_option maxHeartbeats 2000000 in
set_option maxRecDepth 100000 in
theorem putE_any {w0 : World} (H : Pow w0) {T : ET} (hin : T.In w0 0) (hr : T.rightB = true) (hlen : (putR levL T.re).length ≤ 140737488355328) (w : World) (hp : Past w0 w) :
    Calls Tryz.prog 50 #[T.val, .func (.func 16) #[] #[], .func (.func 51) #[] #[]] w fun e w' => e = .returned (.string ⟨(putR levL T.re).toArray⟩) ∧ Below w.heap.size w w' := by
  have HX := Lib.hid (expr_any H T.sz T (Nat.le_refl _) hr hin)
  have HR : Hid (∀ W, Past w0 W → Calls Tryz.prog 16 #[T.val] W fun e w' => e = .returned (.bool true) ∧ Below W.heap.size W w') := Lib.hid fun W hW => by have := rightExpr_any hin W hW; rwa [hr] at this
  have HP := Lib.hid hp
  have HL : Hid (([] : List UInt8).length + (putR levL T.re).length ≤ 140737488355328) := Lib.hid (by simpa using hlen)
  clear hp hlen hin hr H
  unfold ExprDoes at HX
  rw [ET.val_is] at HX HR ⊢
  generalize putR levL T.re = tx at HX HL ⊢
  go_enter Tryz.func50, Tryz.ntmps50
  go_wp2_with (first
    | (go_at_call 76; refine (string_any G2.out.wr).mono ?_; rintro e w3 ⟨rfl, hb3⟩; have HB3 := Lib.hid hb3; clear hb3)
    | (go_at_call 51; have hx := HX.out w1.heap.size w1.heap.size [] 0 _ HP1.out.size (wr_new w1) (HP1.out.alloc _) HL.out; refine hx.mono ?_; clear hx; rintro e w2 ⟨rfl, g2⟩; have G2 := Lib.hid g2; clear g2)
    | (go_at_call 16; have hx := HR.out _ (HP.out.alloc (.cells #[.int .i64 T.kind, .string T.op, .int .i64 T.n, .string T.name, .slice T.kaddr T.kids.length T.kcap] 30)); refine hx.mono ?_; clear hx; rintro e w1 ⟨rfl, hb⟩; obtain ⟨c0, c1, c2, c3, c4⟩ := cells5 ((hb.block w.heap.size (by simp)).trans (bk_new _ _)); have hlt : w.heap.size < w1.heap.size := (by have := hb.size; simp at this; omega); have HP1 := Lib.hid ((HP.out.alloc _).on hb); have HB1 := Lib.hid (step_on ((Below.refl _ _).alloc (Nat.le_refl _) _) hb); clear hb))
  go_ret
  refine ⟨rfl, ?_⟩
  have h2 : Below w1.heap.size w1 w3 := (((Below.refl w1.heap.size w1).alloc (Nat.le_refl _) _).trans G2.out.below).trans HB3.out
  exact step_on HB1.out h2
set_option maxHeartbeats 1000000 in
theorem putExpr_any {w0 : World} (H : Pow w0) {T : ET} (hin : T.In w0 0) (hr : T.rightB = true) (hlen : (putR levL T.re).length ≤ 140737488355328) (w : World) (hp : Past w0 w) :
    Calls Tryz.prog 21 #[T.val] w fun e w' => e = .returned (.string ⟨(putR levL T.re).toArray⟩) ∧ Below w.heap.size w w' := by
  have HX := Lib.hid (putE_any H hin hr hlen)
  have HP := Lib.hid hp
  clear hp hlen hin hr H
  rw [ET.val_is] at HX ⊢
  generalize putR levL T.re = tx at HX ⊢
  go_enter Tryz.func21, Tryz.ntmps21
  go_wp2_with (go_at_call 50; have hx := HX.out _ (HP.out.alloc (.cells #[.int .i64 T.kind, .string T.op, .int .i64 T.n, .string T.name, .slice T.kaddr T.kids.length T.kcap] 30)); refine hx.mono ?_; clear hx; rintro e w1 ⟨rfl, hb⟩)
  go_ret
  exact ⟨rfl, step_on ((Below.refl _ _).alloc (Nat.le_refl _) _) hb⟩
end Go.Proofs.YtkfogoglaiibiaaGreatDoor
