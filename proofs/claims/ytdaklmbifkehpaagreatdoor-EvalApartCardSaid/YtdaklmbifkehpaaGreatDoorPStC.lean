/- Small rules for statements: the tag, the sign at the end, the test, break, continue, return, assert, read. (Written by genst1.py.) Statements that hold statements: if. (Written by genst4.py.) A statement, whole: what reads it by its first word, and its tag. A function, read. (Written by gen6.py.) A program, read: functions up to the end. Rows of expressions that are parsed, with commas between, in brackets: list, within and arguments of expressions. Arguments that are expressions: a row in brackets, or none. Statements that begin with a name: calls, and all the others. (Written by genst2.py.) Statements that are read up to the bracket that shuts them: the contract of block. Statements in brackets; which rule reads the statement that begins at hand. Statements that hold statements: while and if. (Written by genst3.py.) -/
import Derived.Test.YtdaklmbifkehpaaGreatDoorPTake
import Derived.Deep.RegionHeld3
import Derived.Deep.AppendLies
import Derived.Test.YtdaklmbifkehpaaGreatDoorPBound
import Derived.Test.YtdaklmbifkehpaaGreatDoorTMade
set_option linter.unusedSimpArgs false
set_option linter.unusedVariables false
namespace Go.Proofs.YtdaklmbifkehpaaGreatDoor.Pm
open Go Go.RowKit Go.Proofs.YtdaklmbifkehpaaGreatDoor

theorem bkD {w : World} {b : Nat} {x : Obj} (h : w.heap[b]? = some x) : w.drew.heap[b]? = some x := h
section
variable {F : PC} {B f : Nat} {s : PS} {w : World}
theorem es_move {P : Nat → Prop} {a : Option Addr} {j : Nat} {l : List ET} {wa wb : World} {A A' : Nat} (hk : KeptP P wa wb) (hP : ∀ b, A ≤ b → ¬ P b) (hA : A' ≤ A) (h : EsIn wa A a j l) : EsIn wb A' a j l := (h.keep fun p v hp hc => hk.cell (hP _ hp) hc).mono hA
end
end Go.Proofs.YtdaklmbifkehpaaGreatDoor.Pm

set_option linter.unusedSimpArgs false
set_option linter.unusedVariables false
namespace Go.Proofs.YtdaklmbifkehpaaGreatDoor.Pm
open Go Go.RowKit Go.Proofs.YtdaklmbifkehpaaGreatDoor

section
variable {F : PC} {B f : Nat} {s : PS} {w : World}
end
end Go.Proofs.YtdaklmbifkehpaaGreatDoor.Pm

set_option linter.unusedSimpArgs false
set_option linter.unusedVariables false
namespace Go.Proofs.YtdaklmbifkehpaaGreatDoor.Pm
open Go Go.RowKit Go.Proofs.YtdaklmbifkehpaaGreatDoor

section
variable {F : PC} {B f : Nat} {s : PS} {w : World}
end
end Go.Proofs.YtdaklmbifkehpaaGreatDoor.Pm

set_option linter.unusedSimpArgs false
set_option linter.unusedVariables false
namespace Go.Proofs.YtdaklmbifkehpaaGreatDoor.Pm
open Go Go.RowKit Go.Proofs.YtdaklmbifkehpaaGreatDoor

section
variable {F : PC} {B f : Nat} {s : PS} {w : World}
end
end Go.Proofs.YtdaklmbifkehpaaGreatDoor.Pm

set_option linter.unusedSimpArgs false
set_option linter.unusedVariables false
namespace Go.Proofs.YtdaklmbifkehpaaGreatDoor.Pm
open Go Go.RowKit Go.Proofs.YtdaklmbifkehpaaGreatDoor

theorem kept_set1 {R : Nat} {a w : World} (h : KeptP (fun b => b = R) a w) (k : Nat) (u : Value) : KeptP (fun b => b = R) a (w.setCell ⟨R, k, none⟩ u) := h.set rfl k u
section
variable {F : PC} {B f : Nat} {s : PS} {w : World}
end
end Go.Proofs.YtdaklmbifkehpaaGreatDoor.Pm

set_option linter.unusedSimpArgs false
set_option linter.unusedVariables false
namespace Go.Proofs.YtdaklmbifkehpaaGreatDoor.Pm
open Go Go.RowKit Go.Proofs.YtdaklmbifkehpaaGreatDoor

section
variable {F : PC} {B f : Nat} {s : PS} {w : World}
end
end Go.Proofs.YtdaklmbifkehpaaGreatDoor.Pm

set_option linter.unusedSimpArgs false
set_option linter.unusedVariables false
namespace Go.Proofs.YtdaklmbifkehpaaGreatDoor.Pm
open Go Go.RowKit Go.Proofs.YtdaklmbifkehpaaGreatDoor

theorem CEs.on {P : Nat → Prop} {r : List RE} {v : Value} {A A' : Nat} {w1 w2 : World} (h : CEs r v A w1) (hk : KeptP P w1 w2) (hP : ∀ b, A ≤ b → ¬ P b) (hA : A' ≤ A) : CEs r v A' w2 := by
  obtain ⟨a, c, l, e, h1, h2, h3, h4⟩ := h
  exact ⟨a, c, l, e, h1, h2, es_move hk hP hA h3, h4⟩
section
variable {F : PC} {B f : Nat} {s : PS} {w : World}
end
end Go.Proofs.YtdaklmbifkehpaaGreatDoor.Pm

set_option linter.unusedSimpArgs false
set_option linter.unusedVariables false
namespace Go.Proofs.YtdaklmbifkehpaaGreatDoor.Pm
open Go Go.RowKit Go.Proofs.YtdaklmbifkehpaaGreatDoor

theorem CS.on {P : Nat → Prop} {r : RS} {v : Value} {A A' : Nat} {w1 w2 : World} (h : CS r v A w1) (hk : KeptP P w1 w2) (hP : ∀ b, A ≤ b → ¬ P b) (hA : A' ≤ A) : CS r v A' w2 := by
  obtain ⟨S, rfl, h1, h2, h3⟩ := h
  exact ⟨S, rfl, h1, h2, (h3.keep fun p u hp hc => hk.cell (hP _ hp) hc).mono hA⟩
section
variable {F : PC} {B f : Nat} {s : PS} {w : World}
theorem set_is (m : Nat) (hk : (cur F.z s).kind = 1) : setting F.z m s = if at' F.z [91] (skip s) then store F.z m (cur F.z s).text (skip s) else (take F.z [61] (skip s)).bind fun _ s2 => if at' F.z kRead s2 then input F.z (cur F.z s).text s2 else if (cur F.z s2).kind == 1 && (nxt F.z s2).text == [40] then call F.z m (cur F.z s).text s2 else (expr F.z m s2).bind fun e s3 => ending F.z (.asg 0 (cur F.z s).text e) s3 := by
  unfold setting
  rw [name_yes hk]
  rfl
end
end Go.Proofs.YtdaklmbifkehpaaGreatDoor.Pm

set_option linter.unusedSimpArgs false
set_option linter.unusedVariables false
namespace Go.Proofs.YtdaklmbifkehpaaGreatDoor.Pm
open Go Go.RowKit Go.Proofs.YtdaklmbifkehpaaGreatDoor

section
variable {F : PC} {B f : Nat} {s : PS} {w : World}
end
end Go.Proofs.YtdaklmbifkehpaaGreatDoor.Pm

set_option linter.unusedSimpArgs false
set_option linter.unusedVariables false
namespace Go.Proofs.YtdaklmbifkehpaaGreatDoor.Pm
open Go Go.RowKit Go.Proofs.YtdaklmbifkehpaaGreatDoor

theorem CSs.on {P : Nat → Prop} {r : List RS} {v : Value} {A A' : Nat} {w1 w2 : World} (h : CSs r v A w1) (hk : KeptP P w1 w2) (hP : ∀ b, A ≤ b → ¬ P b) (hA : A' ≤ A) : CSs r v A' w2 := by
  obtain ⟨a, c, l, e, h1, h2, h3, h4⟩ := h
  exact ⟨a, c, l, e, h1, h2, (h3.keep fun p u hp hc => hk.cell (hP _ hp) hc).mono hA, h4⟩
section
variable {F : PC} {B f : Nat} {s : PS} {w : World}
end
end Go.Proofs.YtdaklmbifkehpaaGreatDoor.Pm

set_option linter.unusedSimpArgs false
set_option linter.unusedVariables false
namespace Go.Proofs.YtdaklmbifkehpaaGreatDoor.Pm
open Go Go.RowKit Go.Proofs.YtdaklmbifkehpaaGreatDoor

section
variable {F : PC} {B f : Nat} {s : PS} {w : World}
end
end Go.Proofs.YtdaklmbifkehpaaGreatDoor.Pm
