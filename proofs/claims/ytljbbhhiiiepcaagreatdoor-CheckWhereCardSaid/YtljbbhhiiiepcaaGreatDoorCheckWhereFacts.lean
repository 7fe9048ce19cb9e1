/- CheckWhere: the closed facts of its row, one by one. -/
import Derived.Test.YtljbbhhiiiepcaaGreatDoorRows
import Derived.Test.YtljbbhhiiiepcaaGreatDoorChecked
import Derived.ProofKit
import Derived.SevenTiedAt
namespace Go.Proofs.YtljbbhhiiiepcaaGreatDoor.checkWhere

theorem both_of {a b : Bool} (h : a = true) (k : b = true) : (a && b) = true := by rw [h, k]; rfl
theorem named_of : Tryz.checked.prog.funcNamed Rows.checkWhereRow.func = some 6 := by kernel_rfl
set_option maxHeartbeats 8000000 in
theorem closed_of : joinedFacts Tryz.checked.prog 6 Tryz.f6 Rows.checkWhereSpec Rows.checkWhereRow = true := by
  unfold joinedFacts
  repeat' (with_reducible refine both_of ?_ ?_)
  all_goals (as_aux_lemma => kernel_rfl)
end Go.Proofs.YtljbbhhiiiepcaaGreatDoor.checkWhere
