/- The walk of EvalSigns, whole. (Written by gensigns.py.) -/
import Derived.Test.YtdaklmbifkehpaaGreatDoorESigns1
import Derived.Test.YtdaklmbifkehpaaGreatDoorESigns2
set_option linter.unusedSimpArgs false
set_option linter.unusedVariables false
namespace Go.Proofs.YtdaklmbifkehpaaGreatDoor.Ev
open Go Go.RowKit Go.Proofs.YtdaklmbifkehpaaGreatDoor Go.Proofs.YtdaklmbifkehpaaGreatDoor.Pm

theorem evalSigns_walk (a0 : Option Addr) (len0 cap0 : Nat) (z0 : List Int) (a1 a2 a3 : Int) (w1 : (Lit.int .u8 a1).wf = true) (w2 : (Lit.int .i64 a2).wf = true) (w3 : (Lit.int .i64 a3).wf = true) (w : World) (H : Wo w) (r0 : RowIn .u8 w a0 len0 z0) :
    Calls Tryz.prog 8 #[.slice a0 len0 cap0, .int .u8 a1, .int .i64 a2, .int .i64 a3] w fun e w' => e = .returned (.bool true) ∧ Below w.heap.size w w' := by
  have h1 : 0 ≤ a1 ∧ a1 ≤ 255 := by
    simp only [Lit.wf, IntKind.min, IntKind.max, Bool.and_eq_true] at w1
    exact ⟨of_decide_eq_true w1.1, of_decide_eq_true w1.2⟩
  obtain hj | hj | hj : a1 % 3 = 0 ∨ a1 % 3 = 1 ∨ a1 % 3 = 2 := by omega
  · exact signs_0 a0 len0 cap0 z0 a1 a2 a3 h1 hj (wf_in64 w2) (wf_in64 w3) w H r0
  · exact signs_1 a0 len0 cap0 z0 a1 a2 a3 h1 hj (wf_in64 w2) (wf_in64 w3) w H r0
  · exact signs_2 a0 len0 cap0 z0 a1 a2 a3 h1 hj (wf_in64 w2) (wf_in64 w3) w H r0
end Go.Proofs.YtdaklmbifkehpaaGreatDoor.Ev
