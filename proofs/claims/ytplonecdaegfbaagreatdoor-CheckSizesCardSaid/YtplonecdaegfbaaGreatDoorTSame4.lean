/- What same asks of lists of expressions and of statements: are all fields the same, wherever they lie? (Written by gens.py.) What same asks of two expressions, and of two statements, with all below. (Written by gens2.py.) Two declarations compared by the language. What same asks of declarations, of functions and of programs. What same asks of functions and of programs. (Written by gens4.py.) -/
import Derived.Test.YtplonecdaegfbaaGreatDoorTProg3
set_option linter.unusedSimpArgs false
set_option linter.unusedVariables false
namespace Go.Proofs.YtplonecdaegfbaaGreatDoor
open Go Go.RowKit

end Go.Proofs.YtplonecdaegfbaaGreatDoor

set_option linter.unusedSimpArgs false
set_option linter.unusedVariables false
namespace Go.Proofs.YtplonecdaegfbaaGreatDoor
open Go Go.RowKit

end Go.Proofs.YtplonecdaegfbaaGreatDoor

set_option linter.unusedSimpArgs false
set_option linter.unusedVariables false
namespace Go.Proofs.YtplonecdaegfbaaGreatDoor
open Go Go.RowKit
end Go.Proofs.YtplonecdaegfbaaGreatDoor

set_option linter.unusedSimpArgs false
set_option linter.unusedVariables false
namespace Go.Proofs.YtplonecdaegfbaaGreatDoor
open Go Go.RowKit

end Go.Proofs.YtplonecdaegfbaaGreatDoor

set_option linter.unusedSimpArgs false
set_option linter.unusedVariables false
namespace Go.Proofs.YtplonecdaegfbaaGreatDoor
open Go Go.RowKit

structure FsAt (w : World) (B : Nat) (a : Option Addr) (z : Nat) (l : List FT) : Prop where
  it : FsIn w B a l
theorem FsAt.nth {w : World} {B : Nat} {a : Option Addr} {l : List FT} (h : FsAt w B a 0 l) (j : Nat) (hj : j < l.length) : RowAt w B a (0 + j) 4 l[j].cells ∧ l[j].In w B := by
  rw [Nat.zero_add]; exact ⟨h.it.row j hj, h.it.fs j hj⟩
end Go.Proofs.YtplonecdaegfbaaGreatDoor
