/- What Count answers of statements that lie in memory. The chapter's examples hold. What the plain functions tell of the chapter's examples. The chapter's examples hold, whatever the memory, as long as strconv's table of powers is as its text lays it. From the row's condition on the listed variables: strconv's table of powers is as its text lays it. -/
import Derived.Test.YtgkdoealhbhnmaaGreatDoorTProg3
import Derived.Lib.LaidU8
import Derived.ProofKit
set_option linter.unusedSimpArgs false
set_option linter.unusedVariables false
namespace Go.Proofs.YtgkdoealhbhnmaaGreatDoor
open Go Go.RowKit

mutual
def ST.cnt : ST → Nat
  | .mk _ _ _ _ _ _ _ _ _ b _ _ l => 1 + (cnts b + cnts l)
def cnts : List ST → Nat
  | [] => 0
  | S :: l => S.cnt + cnts l
end
def ST.body : ST → List ST
  | .mk _ _ _ _ _ _ _ _ _ b _ _ _ => b
def ST.els : ST → List ST
  | .mk _ _ _ _ _ _ _ _ _ _ _ _ l => l
end Go.Proofs.YtgkdoealhbhnmaaGreatDoor

set_option linter.unusedSimpArgs false
set_option linter.unusedVariables false
namespace Go.Proofs.YtgkdoealhbhnmaaGreatDoor
open Go Go.RowKit

theorem Pow.on {w0 w : World} (H : Pow w0) (h : Past w0 w) : Pow w := fun w' h' => H w' (h.on h')
end Go.Proofs.YtgkdoealhbhnmaaGreatDoor

set_option linter.unusedSimpArgs false
set_option linter.unusedVariables false
namespace Go.Proofs.YtgkdoealhbhnmaaGreatDoor
open Go Go.RowKit

end Go.Proofs.YtgkdoealhbhnmaaGreatDoor

set_option linter.unusedSimpArgs false
set_option linter.unusedVariables false
namespace Go.Proofs.YtgkdoealhbhnmaaGreatDoor
open Go Go.RowKit

end Go.Proofs.YtgkdoealhbhnmaaGreatDoor

namespace Go.Proofs.YtgkdoealhbhnmaaGreatDoor
open Go Go.RowKit
theorem gPow : Tryz.prog.globalNamed "internal/strconv.uint64pow10" = some 0 := by kernel_rfl
theorem laid_facts {l : List (String × DataW Unit)} {W : World} (h : laidMet Tryz.prog l W) (hm : ("internal/strconv.uint64pow10", (Lib.tabData .u64 Lib.pow10Tab : DataW Unit)) ∈ l := by first | exact .head _ | exact .tail _ (.head _) | exact .tail _ (.tail _ (.head _))) : Pow W := by
  obtain ⟨g, ty, cs, fuel, q, hg, hty, hv, hd⟩ := Lib.laidMet.reads h hm
  obtain rfl := Option.some.inj (gPow.symm.trans hg)
  obtain rfl : 210 = ty := Option.some.inj ((show (Tryz.prog.globals[0]?).map (·.type) = some 210 by kernel_rfl).symm.trans hty)
  refine Lib.tabBelow_of_tabIs ?_
  unfold Lib.TabIs
  rw [hv, ← Lib.cells_of_tab Tryz.underlying210 Tryz.underlying128 (by kernel_rfl) (by kernel_rfl) hd]
end Go.Proofs.YtgkdoealhbhnmaaGreatDoor
