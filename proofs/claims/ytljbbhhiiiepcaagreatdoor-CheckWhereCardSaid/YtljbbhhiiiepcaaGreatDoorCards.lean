/-
  DERIVED. GIVEN WITH THE SEED: THE CARDS: each row of YtljbbhhiiiepcaaGreatDoorRows.lean that lists a variable, with what it lists TIED to the program's text (the seventh form; the later family's looks); each row that meets fmt, with fmt's text TOLD by the authors' own Lean function (tested against real Go, not proved from fmt's source: count such statements apart). THE CARD IS WHAT COUNTS. Prove the row's statement (the work); the ties are given (YtljbbhhiiiepcaaGreatDoorTie.lean); close each card by the builder's one call (the guide's Derived/Test/ToyasCard.lean, 'card_holds'). Laid BY PROGRAM, IN A SANDBOX (cutbox-door.mjs). By AI agents, Wed Nov 11 2026. No macro, syntax, notation, axiom, sorry.
-/
import Derived.Test.YtljbbhhiiiepcaaGreatDoorRows
import GoSem.ClaimSeven
namespace Go.Proofs.YtljbbhhiiiepcaaGreatDoor
namespace Rows

/-- THE TIED CARD OF 'billhooklaw05.CheckTells'. -/
def checkTellsCard : Claim7 := { stood := { row := checkTellsRow, standIns := [], harness := (true, "6a3ee16fb144cc279a1be4a78f1f28d783b42c32f5bb70cabb4346d03f241dca"), looks := true }, kinds := [], alts := [], laidByText := true, laidKinds := [.data, .data, .data, .sentinel, .sentinel], laidTests := true, laidLooks := .later }
def CheckTellsCardSaid : Prop := Claim7.holds Tryz.pinned (.plain (OpenSpec.ofChange checkTellsSpec)) checkTellsCard

/-- THE TIED CARD OF 'billhooklaw05.CheckBack'. -/
def checkBackCard : Claim7 := { stood := { row := checkBackRow, standIns := [], harness := (true, "6a3ee16fb144cc279a1be4a78f1f28d783b42c32f5bb70cabb4346d03f241dca"), looks := true }, kinds := [], alts := [], laidByText := true, laidKinds := [.data, .data, .data, .sentinel, .sentinel], laidTests := true, laidLooks := .later }
def CheckBackCardSaid : Prop := Claim7.holds Tryz.pinned (.plain (OpenSpec.ofChange checkBackSpec)) checkBackCard

/-- THE TIED CARD OF 'billhooklaw05.CheckTags'. -/
def checkTagsCard : Claim7 := { stood := { row := checkTagsRow, standIns := [], harness := (true, "6a3ee16fb144cc279a1be4a78f1f28d783b42c32f5bb70cabb4346d03f241dca"), looks := true }, kinds := [], alts := [], laidByText := true, laidKinds := [.data, .data, .data, .sentinel, .sentinel], laidTests := true, laidLooks := .later }
def CheckTagsCardSaid : Prop := Claim7.holds Tryz.pinned (.plain (OpenSpec.ofChange checkTagsSpec)) checkTagsCard

/-- THE TIED CARD OF 'billhooklaw05.CheckWhere'. -/
def checkWhereCard : Claim7 := { stood := { row := checkWhereRow, standIns := [], harness := (true, "6a3ee16fb144cc279a1be4a78f1f28d783b42c32f5bb70cabb4346d03f241dca"), looks := true }, kinds := [], alts := [], laidByText := true, laidKinds := [.data, .data, .data, .sentinel, .sentinel], laidTests := true, laidLooks := .later }
def CheckWhereCardSaid : Prop := Claim7.holds Tryz.pinned (.plain (OpenSpec.ofChange checkWhereSpec)) checkWhereCard

/-- THE TIED CARD OF 'billhooklaw05.CheckSizes'. -/
def checkSizesCard : Claim7 := { stood := { row := checkSizesRow, standIns := [], harness := (true, "6a3ee16fb144cc279a1be4a78f1f28d783b42c32f5bb70cabb4346d03f241dca"), looks := true }, kinds := [], alts := [], laidByText := true, laidKinds := [.data, .data, .data, .sentinel, .sentinel], laidTests := true, laidLooks := .later }
def CheckSizesCardSaid : Prop := Claim7.holds Tryz.pinned (.plain (OpenSpec.ofChange checkSizesSpec)) checkSizesCard

/-- THE SECOND FORM's CARD OF 'billhooklaw05.CheckTells'. -/
def checkTellsUptoCard : Claim7 := { stood := { row := checkTellsUptoRow, standIns := [], harness := (true, "6a3ee16fb144cc279a1be4a78f1f28d783b42c32f5bb70cabb4346d03f241dca"), looks := true }, kinds := [], alts := [], laidByText := true, laidKinds := [.data, .data, .data, .sentinel, .sentinel], laidTests := true, laidLooks := .later }
def CheckTellsUptoCardSaid : Prop := Claim7.holds Tryz.pinned (.plain (OpenSpec.upto checkTellsSpec)) checkTellsUptoCard

/-- THE SECOND FORM's CARD OF 'billhooklaw05.CheckBack'. -/
def checkBackUptoCard : Claim7 := { stood := { row := checkBackUptoRow, standIns := [], harness := (true, "6a3ee16fb144cc279a1be4a78f1f28d783b42c32f5bb70cabb4346d03f241dca"), looks := true }, kinds := [], alts := [], laidByText := true, laidKinds := [.data, .data, .data, .sentinel, .sentinel], laidTests := true, laidLooks := .later }
def CheckBackUptoCardSaid : Prop := Claim7.holds Tryz.pinned (.plain (OpenSpec.upto checkBackSpec)) checkBackUptoCard

/-- THE SECOND FORM's CARD OF 'billhooklaw05.CheckTags'. -/
def checkTagsUptoCard : Claim7 := { stood := { row := checkTagsUptoRow, standIns := [], harness := (true, "6a3ee16fb144cc279a1be4a78f1f28d783b42c32f5bb70cabb4346d03f241dca"), looks := true }, kinds := [], alts := [], laidByText := true, laidKinds := [.data, .data, .data, .sentinel, .sentinel], laidTests := true, laidLooks := .later }
def CheckTagsUptoCardSaid : Prop := Claim7.holds Tryz.pinned (.plain (OpenSpec.upto checkTagsSpec)) checkTagsUptoCard

/-- THE SECOND FORM's CARD OF 'billhooklaw05.CheckWhere'. -/
def checkWhereUptoCard : Claim7 := { stood := { row := checkWhereUptoRow, standIns := [], harness := (true, "6a3ee16fb144cc279a1be4a78f1f28d783b42c32f5bb70cabb4346d03f241dca"), looks := true }, kinds := [], alts := [], laidByText := true, laidKinds := [.data, .data, .data, .sentinel, .sentinel], laidTests := true, laidLooks := .later }
def CheckWhereUptoCardSaid : Prop := Claim7.holds Tryz.pinned (.plain (OpenSpec.upto checkWhereSpec)) checkWhereUptoCard

/-- THE SECOND FORM's CARD OF 'billhooklaw05.CheckSizes'. -/
def checkSizesUptoCard : Claim7 := { stood := { row := checkSizesUptoRow, standIns := [], harness := (true, "6a3ee16fb144cc279a1be4a78f1f28d783b42c32f5bb70cabb4346d03f241dca"), looks := true }, kinds := [], alts := [], laidByText := true, laidKinds := [.data, .data, .data, .sentinel, .sentinel], laidTests := true, laidLooks := .later }
def CheckSizesUptoCardSaid : Prop := Claim7.holds Tryz.pinned (.plain (OpenSpec.upto checkSizesSpec)) checkSizesUptoCard
end Rows
end Go.Proofs.YtljbbhhiiiepcaaGreatDoor
