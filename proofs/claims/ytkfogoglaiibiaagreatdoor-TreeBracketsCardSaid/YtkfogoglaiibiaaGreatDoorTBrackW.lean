/- The walk of TreeBrackets. -/
import Derived.Test.YtkfogoglaiibiaaGreatDoorTBrackL
import Derived.Test.YtkfogoglaiibiaaGreatDoorTBrackR
namespace Go.Proofs.YtkfogoglaiibiaaGreatDoor
open Go Go.RowKit

theorem treeBrackets_walk (a0 a1 : Int) (a2 : Bool) (w0 : (Lit.int .u8 a0).wf = true) (w1 : (Lit.int .u8 a1).wf = true) (w : World) (H : Pow w) :
    Calls Tryz.prog 8 #[.int .u8 a0, .int .u8 a1, .bool a2] w fun e w' => e = .returned (.bool true) ∧ Below w.heap.size w w' := by
  have h0 : 0 ≤ a0 ∧ a0 ≤ 255 := by
    simp only [Lit.wf, IntKind.min, IntKind.max, Bool.and_eq_true] at w0
    exact ⟨of_decide_eq_true w0.1, of_decide_eq_true w0.2⟩
  have h1 : 0 ≤ a1 ∧ a1 ≤ 255 := by
    simp only [Lit.wf, IntKind.min, IntKind.max, Bool.and_eq_true] at w1
    exact ⟨of_decide_eq_true w1.1, of_decide_eq_true w1.2⟩
  cases a2
  · exact brackets_right a0 a1 h0 h1 w H
  · exact brackets_left a0 a1 h0 h1 w H
end Go.Proofs.YtkfogoglaiibiaaGreatDoor
