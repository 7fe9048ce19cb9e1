/-
  DERIVED. GIVEN WITH THE SEED: THE CARDS: each row of YtagnmppdhfmgdaaGreatDoorRows.lean that lists a variable, with what it lists TIED to the program's text (the seventh form; the later family's looks); each row that meets fmt, with fmt's text TOLD by the authors' own Lean function (tested against real Go, not proved from fmt's source: count such statements apart). THE CARD IS WHAT COUNTS. Prove the row's statement (the work); the ties are given (YtagnmppdhfmgdaaGreatDoorTie.lean); close each card by the builder's one call (the guide's Derived/Test/ToyasCard.lean, 'card_holds'). Laid BY PROGRAM, IN A SANDBOX (cutbox-door.mjs). By AI agents, Wed Nov 11 2026. No macro, syntax, notation, axiom, sorry.
-/
import Derived.Test.YtagnmppdhfmgdaaGreatDoorRows
import GoSem.ClaimSeven
namespace Go.Proofs.YtagnmppdhfmgdaaGreatDoor
namespace Rows

/-- THE TIED CARD OF 'billhooklaw09.FlowTells'. -/
def flowTellsCard : Claim7 := { stood := { row := flowTellsRow, standIns := [], harness := (true, "67245c153d6ac3468b14e55490f302f76fc5c0b6e801844c30dd5cf5a81e019b"), looks := true }, kinds := [], alts := [], laidByText := true, laidKinds := [.data, .data, .data, .sentinel, .sentinel], laidTests := true, laidLooks := .later }
def FlowTellsCardSaid : Prop := Claim7.holds Tryz.pinned (.plain (OpenSpec.ofChange flowTellsSpec)) flowTellsCard

/-- THE TIED CARD OF 'billhooklaw09.FlowWays'. -/
def flowWaysCard : Claim7 := { stood := { row := flowWaysRow, standIns := [], harness := (true, "67245c153d6ac3468b14e55490f302f76fc5c0b6e801844c30dd5cf5a81e019b"), looks := true }, kinds := [], alts := [], laidByText := true, laidKinds := [.data, .data, .data, .sentinel, .sentinel], laidTests := true, laidLooks := .later }
def FlowWaysCardSaid : Prop := Claim7.holds Tryz.pinned (.plain (OpenSpec.ofChange flowWaysSpec)) flowWaysCard

/-- THE TIED CARD OF 'billhooklaw09.FlowBack'. -/
def flowBackCard : Claim7 := { stood := { row := flowBackRow, standIns := [], harness := (true, "67245c153d6ac3468b14e55490f302f76fc5c0b6e801844c30dd5cf5a81e019b"), looks := true }, kinds := [], alts := [], laidByText := true, laidKinds := [.data, .data, .data, .sentinel, .sentinel], laidTests := true, laidLooks := .later }
def FlowBackCardSaid : Prop := Claim7.holds Tryz.pinned (.plain (OpenSpec.ofChange flowBackSpec)) flowBackCard

/-- THE TIED CARD OF 'billhooklaw09.FlowIn'. -/
def flowInCard : Claim7 := { stood := { row := flowInRow, standIns := [], harness := (true, "67245c153d6ac3468b14e55490f302f76fc5c0b6e801844c30dd5cf5a81e019b"), looks := true }, kinds := [], alts := [], laidByText := true, laidKinds := [.data, .data, .data, .sentinel, .sentinel], laidTests := true, laidLooks := .later }
def FlowInCardSaid : Prop := Claim7.holds Tryz.pinned (.plain (OpenSpec.ofChange flowInSpec)) flowInCard

/-- THE TIED CARD OF 'billhooklaw09.FlowFlat'. -/
def flowFlatCard : Claim7 := { stood := { row := flowFlatRow, standIns := [], harness := (true, "67245c153d6ac3468b14e55490f302f76fc5c0b6e801844c30dd5cf5a81e019b"), looks := true }, kinds := [], alts := [], laidByText := true, laidKinds := [.data, .data, .data, .sentinel, .sentinel], laidTests := true, laidLooks := .later }
def FlowFlatCardSaid : Prop := Claim7.holds Tryz.pinned (.plain (OpenSpec.ofChange flowFlatSpec)) flowFlatCard

/-- THE SECOND FORM's CARD OF 'billhooklaw09.FlowTells'. -/
def flowTellsUptoCard : Claim7 := { stood := { row := flowTellsUptoRow, standIns := [], harness := (true, "67245c153d6ac3468b14e55490f302f76fc5c0b6e801844c30dd5cf5a81e019b"), looks := true }, kinds := [], alts := [], laidByText := true, laidKinds := [.data, .data, .data, .sentinel, .sentinel], laidTests := true, laidLooks := .later }
def FlowTellsUptoCardSaid : Prop := Claim7.holds Tryz.pinned (.plain (OpenSpec.upto flowTellsSpec)) flowTellsUptoCard

/-- THE SECOND FORM's CARD OF 'billhooklaw09.FlowWays'. -/
def flowWaysUptoCard : Claim7 := { stood := { row := flowWaysUptoRow, standIns := [], harness := (true, "67245c153d6ac3468b14e55490f302f76fc5c0b6e801844c30dd5cf5a81e019b"), looks := true }, kinds := [], alts := [], laidByText := true, laidKinds := [.data, .data, .data, .sentinel, .sentinel], laidTests := true, laidLooks := .later }
def FlowWaysUptoCardSaid : Prop := Claim7.holds Tryz.pinned (.plain (OpenSpec.upto flowWaysSpec)) flowWaysUptoCard

/-- THE SECOND FORM's CARD OF 'billhooklaw09.FlowBack'. -/
def flowBackUptoCard : Claim7 := { stood := { row := flowBackUptoRow, standIns := [], harness := (true, "67245c153d6ac3468b14e55490f302f76fc5c0b6e801844c30dd5cf5a81e019b"), looks := true }, kinds := [], alts := [], laidByText := true, laidKinds := [.data, .data, .data, .sentinel, .sentinel], laidTests := true, laidLooks := .later }
def FlowBackUptoCardSaid : Prop := Claim7.holds Tryz.pinned (.plain (OpenSpec.upto flowBackSpec)) flowBackUptoCard

/-- THE SECOND FORM's CARD OF 'billhooklaw09.FlowIn'. -/
def flowInUptoCard : Claim7 := { stood := { row := flowInUptoRow, standIns := [], harness := (true, "67245c153d6ac3468b14e55490f302f76fc5c0b6e801844c30dd5cf5a81e019b"), looks := true }, kinds := [], alts := [], laidByText := true, laidKinds := [.data, .data, .data, .sentinel, .sentinel], laidTests := true, laidLooks := .later }
def FlowInUptoCardSaid : Prop := Claim7.holds Tryz.pinned (.plain (OpenSpec.upto flowInSpec)) flowInUptoCard

/-- THE SECOND FORM's CARD OF 'billhooklaw09.FlowFlat'. -/
def flowFlatUptoCard : Claim7 := { stood := { row := flowFlatUptoRow, standIns := [], harness := (true, "67245c153d6ac3468b14e55490f302f76fc5c0b6e801844c30dd5cf5a81e019b"), looks := true }, kinds := [], alts := [], laidByText := true, laidKinds := [.data, .data, .data, .sentinel, .sentinel], laidTests := true, laidLooks := .later }
def FlowFlatUptoCardSaid : Prop := Claim7.holds Tryz.pinned (.plain (OpenSpec.upto flowFlatSpec)) flowFlatUptoCard
end Rows
end Go.Proofs.YtagnmppdhfmgdaaGreatDoor
