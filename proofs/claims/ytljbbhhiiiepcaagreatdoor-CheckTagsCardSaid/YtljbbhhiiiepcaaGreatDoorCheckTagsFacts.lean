/- CheckTags: the closed facts of its row, one by one. -/
import Derived.Test.YtljbbhhiiiepcaaGreatDoorRows
import Derived.Test.YtljbbhhiiiepcaaGreatDoorChecked
import Derived.ProofKit
import Derived.SevenTiedAt
namespace Go.Proofs.YtljbbhhiiiepcaaGreatDoor.checkTags

theorem both_of {a b : Bool} (h : a = true) (k : b = true) : (a && b) = true := by rw [h, k]; rfl
theorem named_of : Tryz.checked.prog.funcNamed Rows.checkTagsRow.func = some 5 := by kernel_rfl
set_option maxHeartbeats 8000000 in
theorem closed_of : joinedFacts Tryz.checked.prog 5 Tryz.f5 Rows.checkTagsSpec Rows.checkTagsRow = true := by
  unfold joinedFacts
  repeat' (with_reducible refine both_of ?_ ?_)
  all_goals (as_aux_lemma => kernel_rfl)
end Go.Proofs.YtljbbhhiiiepcaaGreatDoor.checkTags
