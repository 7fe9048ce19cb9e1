/- The walk of LexNumbers: digits are the number that they come to. -/
import Derived.Test.YtgfobalchpcgbaaDoorLNumA
import Derived.Test.YtgfobalchpcgbaaDoorLNumAt
import Derived.Test.YtgfobalchpcgbaaDoorLNumB
import Derived.Test.YtgfobalchpcgbaaDoorLNumC
set_option linter.unusedSimpArgs false
set_option linter.unusedVariables false
namespace Go.Proofs.YtgfobalchpcgbaaDoor
open Go Go.RowKit
open Go.Lib (decDigits)
theorem lexNumbers_walk (a0 : Int) (a1 : Bool) (w0 : (Lit.int .u64 a0).wf = true) (w : World) (H : Errs w) :
    Calls Tryd.prog 5 #[.int .u64 a0, .bool a1] w fun e w' => e = .returned (.bool true) ∧ Below w.heap.size w w' := by
  have hb : 0 ≤ a0 ∧ a0 ≤ 18446744073709551615 := by
    simp only [Lit.wf, IntKind.min, IntKind.max, Bool.and_eq_true] at w0
    exact ⟨of_decide_eq_true w0.1, of_decide_eq_true w0.2⟩
  cases a1
  · obtain ⟨N, rfl⟩ : ∃ N : Nat, a0 = (N : Int) := ⟨a0.toNat, by omega⟩
    by_cases hA : N ≤ 9223372036854775808
    · by_cases hB : N ≤ 1000000
      · exact numbers_A_false N (by omega) hA hB w H
      · exact numbers_B_false N (by omega) hA hB w H
    · exact numbers_C_false N (by omega) hA (by omega) w H
  · exact numbers_A_true a0 hb.1 (a0 % 1000).toNat (by omega) (by omega) (by omega) (by omega) w H
end Go.Proofs.YtgfobalchpcgbaaDoor
