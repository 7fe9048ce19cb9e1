/- What is told of two programs of the feed, at each later world. -/
import Derived.Test.YtppeogcpoplpeaaGreatDoorTCodeP
import Derived.Test.YtppeogcpoplpeaaGreatDoorTLaid
import Derived.OpenShut
set_option linter.unusedSimpArgs false
set_option linter.unusedVariables false
namespace Go.Proofs.YtppeogcpoplpeaaGreatDoor
open Go Go.RowKit

abbrev prgV (N : Nat) : Value := .agg #[.slice (some ⟨N, 0, none⟩) 3 3]
/-- What Right, Put and Same answer of two programs. -/
structure PutsF (w9 : World) (N M : Nat) (tx ty : ByteArray) (sv : Bool) : Prop where
  r1 : ∀ W, Past w9 W → Calls Tryz.prog 12 #[.agg #[.slice (some ⟨N, 0, none⟩) 3 3]] W fun e w' => e = .returned (.bool true) ∧ Below W.heap.size W w'
  r2 : ∀ W, Past w9 W → Calls Tryz.prog 12 #[.agg #[.slice (some ⟨M, 0, none⟩) 3 3]] W fun e w' => e = .returned (.bool true) ∧ Below W.heap.size W w'
  p1 : ∀ W, Past w9 W → Calls Tryz.prog 19 #[.agg #[.slice (some ⟨N, 0, none⟩) 3 3]] W fun e w' => e = .returned (.string tx) ∧ Below W.heap.size W w'
  p2 : ∀ W, Past w9 W → Calls Tryz.prog 19 #[.agg #[.slice (some ⟨M, 0, none⟩) 3 3]] W fun e w' => e = .returned (.string ty) ∧ Below W.heap.size W w'
  sm : ∀ W, Past w9 W → Calls Tryz.prog 14 #[.agg #[.slice (some ⟨N, 0, none⟩) 3 3], .agg #[.slice (some ⟨M, 0, none⟩) 3 3]] W fun e w' => e = .returned (.bool sv) ∧ Below W.heap.size W w'
  eq : (tx.toList == ty.toList) = sv
theorem puts_facts {w9 : World} (H : Pow w9) {N M : Nat} {F G K F' G' K' : FT} (h1 : FsIn w9 0 (some ⟨N, 0, none⟩) [F, G, K]) (h2 : FsIn w9 0 (some ⟨M, 0, none⟩) [F', G', K']) (g1 : [F, G, K].all FT.rightB = true) (g2 : [F', G', K'].all FT.rightB = true)
    (t1 : (progT [F, G, K]).length ≤ 1000000) (t2 : (progT [F', G', K']).length ≤ 1000000) : ∃ tx ty sv, PutsF w9 N M tx ty sv := by
  refine ⟨⟨(progT [F, G, K]).toArray⟩, ⟨(progT [F', G', K']).toArray⟩, sameFs [F, G, K] [F', G', K'], ⟨fun W hW => ?_, fun W hW => ?_, fun W hW => ?_, fun W hW => ?_, fun W hW => ?_, txtP_same h1 h2 g1 g2⟩⟩
  · have := rightP_any _ 3 _ h1 W hW
    rw [g1] at this
    exact this
  · have := rightP_any _ 3 _ h2 W hW
    rw [g2] at this
    exact this
  · exact put_any H _ 3 _ h1 g1 (by omega) W hW
  · exact put_any H _ 3 _ h2 g2 (by omega) W hW
  · exact sameP_any _ _ 3 3 _ _ h1 h2 W hW
end Go.Proofs.YtppeogcpoplpeaaGreatDoor
