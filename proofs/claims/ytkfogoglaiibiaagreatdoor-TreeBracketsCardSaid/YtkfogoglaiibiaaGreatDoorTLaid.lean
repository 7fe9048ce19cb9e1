/- From the row's condition on the listed variables: strconv's table of powers is as its text lays it. -/
import Derived.Test.YtkfogoglaiibiaaGreatDoorTEx2
import Derived.Lib.LaidU8
import Derived.ProofKit
namespace Go.Proofs.YtkfogoglaiibiaaGreatDoor
open Go Go.RowKit
theorem gPow : Tryz.prog.globalNamed "internal/strconv.uint64pow10" = some 0 := by kernel_rfl
theorem laid_facts {l : List (String × DataW Unit)} {W : World} (h : laidMet Tryz.prog l W) (hm : ("internal/strconv.uint64pow10", (Lib.tabData .u64 Lib.pow10Tab : DataW Unit)) ∈ l := by first | exact .head _ | exact .tail _ (.head _) | exact .tail _ (.tail _ (.head _))) : Pow W := by
  obtain ⟨g, ty, cs, fuel, q, hg, hty, hv, hd⟩ := Lib.laidMet.reads h hm
  obtain rfl := Option.some.inj (gPow.symm.trans hg)
  obtain rfl : 192 = ty := Option.some.inj ((show (Tryz.prog.globals[0]?).map (·.type) = some 192 by kernel_rfl).symm.trans hty)
  refine Lib.tabBelow_of_tabIs ?_
  unfold Lib.TabIs
  rw [hv, ← Lib.cells_of_tab Tryz.underlying192 Tryz.underlying133 (by kernel_rfl) (by kernel_rfl) hd]
end Go.Proofs.YtkfogoglaiibiaaGreatDoor
