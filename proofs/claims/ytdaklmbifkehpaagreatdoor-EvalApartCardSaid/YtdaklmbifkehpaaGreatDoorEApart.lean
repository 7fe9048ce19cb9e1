/- The walk of EvalApart, whole. (Written by genapart.py.) -/
import Derived.Test.YtdaklmbifkehpaaGreatDoorEApartA
import Derived.Test.YtdaklmbifkehpaaGreatDoorEApartB
set_option linter.unusedSimpArgs false
set_option linter.unusedVariables false
namespace Go.Proofs.YtdaklmbifkehpaaGreatDoor.Ev
open Go Go.RowKit Go.Proofs.YtdaklmbifkehpaaGreatDoor Go.Proofs.YtdaklmbifkehpaaGreatDoor.Pm

theorem evalApart_walk (a0 : Option Addr) (len0 cap0 : Nat) (z0 : List Int) (a1 a2 a3 : Int) (w1 : (Lit.int .i64 a1).wf = true) (w2 : (Lit.int .u8 a2).wf = true) (w3 : (Lit.int .u8 a3).wf = true) (w : World) (H : Wo w) (r0 : RowIn .u8 w a0 len0 z0) :
    Calls Tryz.prog 4 #[.slice a0 len0 cap0, .int .i64 a1, .int .u8 a2, .int .u8 a3] w fun e w' => e = .returned (.bool true) ∧ Below w.heap.size w w' := by
  have h1 := wf_in64 w1
  have h2 : 0 ≤ a2 ∧ a2 ≤ 255 := by
    simp only [Lit.wf, IntKind.min, IntKind.max, Bool.and_eq_true] at w2
    exact ⟨of_decide_eq_true w2.1, of_decide_eq_true w2.2⟩
  have h3 : 0 ≤ a3 ∧ a3 ≤ 255 := by
    simp only [Lit.wf, IntKind.min, IntKind.max, Bool.and_eq_true] at w3
    exact ⟨of_decide_eq_true w3.1, of_decide_eq_true w3.2⟩
  obtain hj | hj | hj : a2 % 3 = 0 ∨ a2 % 3 = 1 ∨ a2 % 3 = 2 := by omega
  · obtain hk | hk | hk | hk : a3 % 4 = 0 ∨ a3 % 4 = 1 ∨ a3 % 4 = 2 ∨ a3 % 4 = 3 := by omega
    · exact apart_P0 a0 len0 cap0 z0 a1 a2 a3 h2 h3 h1 hj hk w H r0
    · exact apart_A0 a0 len0 cap0 z0 a1 a2 a3 h2 h3 h1 hj hk w H r0
    · exact apart_B0 a0 len0 cap0 z0 a1 a2 a3 h2 h3 h1 hj hk w H r0
    · exact apart_Z0 a0 len0 cap0 z0 a1 a2 a3 h2 h3 h1 hj hk w H r0
  · obtain hk | hk | hk | hk : a3 % 4 = 0 ∨ a3 % 4 = 1 ∨ a3 % 4 = 2 ∨ a3 % 4 = 3 := by omega
    · exact apart_P1 a0 len0 cap0 z0 a1 a2 a3 h2 h3 h1 hj hk w H r0
    · exact apart_A1 a0 len0 cap0 z0 a1 a2 a3 h2 h3 h1 hj hk w H r0
    · exact apart_B1 a0 len0 cap0 z0 a1 a2 a3 h2 h3 h1 hj hk w H r0
    · exact apart_Z1 a0 len0 cap0 z0 a1 a2 a3 h2 h3 h1 hj hk w H r0
  · obtain hk | hk | hk | hk : a3 % 4 = 0 ∨ a3 % 4 = 1 ∨ a3 % 4 = 2 ∨ a3 % 4 = 3 := by omega
    · exact apart_P2 a0 len0 cap0 z0 a1 a2 a3 h2 h3 h1 hj hk w H r0
    · exact apart_A2 a0 len0 cap0 z0 a1 a2 a3 h2 h3 h1 hj hk w H r0
    · exact apart_B2 a0 len0 cap0 z0 a1 a2 a3 h2 h3 h1 hj hk w H r0
    · exact apart_Z2 a0 len0 cap0 z0 a1 a2 a3 h2 h3 h1 hj hk w H r0
end Go.Proofs.YtdaklmbifkehpaaGreatDoor.Ev
