/-
  DERIVED. GIVEN WITH THE SEED: THE CARDS: each row of YtbilfdapmbahgaaGreatDoorRows.lean that lists a variable, with what it lists TIED to the program's text (the seventh form; the later family's looks); each row that meets fmt, with fmt's text TOLD by the authors' own Lean function (tested against real Go, not proved from fmt's source: count such statements apart). THE CARD IS WHAT COUNTS. Prove the row's statement (the work); the ties are given (YtbilfdapmbahgaaGreatDoorTie.lean); close each card by the builder's one call (the guide's Derived/Test/ToyasCard.lean, 'card_holds'). Laid BY PROGRAM, IN A SANDBOX (cutbox-door.mjs). By AI agents, Wed Nov 11 2026. No macro, syntax, notation, axiom, sorry.
-/
import Derived.Test.YtbilfdapmbahgaaGreatDoorRows
import GoSem.ClaimSeven
namespace Go.Proofs.YtbilfdapmbahgaaGreatDoor
namespace Rows

/-- THE TIED CARD OF 'billhooklaw08.RunTells'. -/
def runTellsCard : Claim7 := { stood := { row := runTellsRow, standIns := [], harness := (true, "91bbd71b00aa254638ec3627841fd8b1a89cbe7997aacdba44b768ebeace296e"), looks := true }, kinds := [], alts := [], laidByText := true, laidKinds := [.data, .data, .data, .sentinel, .sentinel], laidTests := true, laidLooks := .later }
def RunTellsCardSaid : Prop := Claim7.holds Tryz.pinned (.plain (OpenSpec.ofChange runTellsSpec)) runTellsCard

/-- THE TIED CARD OF 'billhooklaw08.RunFuel'. -/
def runFuelCard : Claim7 := { stood := { row := runFuelRow, standIns := [], harness := (true, "91bbd71b00aa254638ec3627841fd8b1a89cbe7997aacdba44b768ebeace296e"), looks := true }, kinds := [], alts := [], laidByText := true, laidKinds := [.data, .data, .data, .sentinel, .sentinel], laidTests := true, laidLooks := .later }
def RunFuelCardSaid : Prop := Claim7.holds Tryz.pinned (.plain (OpenSpec.ofChange runFuelSpec)) runFuelCard

/-- THE TIED CARD OF 'billhooklaw08.RunTrace'. -/
def runTraceCard : Claim7 := { stood := { row := runTraceRow, standIns := [], harness := (true, "91bbd71b00aa254638ec3627841fd8b1a89cbe7997aacdba44b768ebeace296e"), looks := true }, kinds := [], alts := [], laidByText := true, laidKinds := [.data, .data, .data, .sentinel, .sentinel], laidTests := true, laidLooks := .later }
def RunTraceCardSaid : Prop := Claim7.holds Tryz.pinned (.plain (OpenSpec.ofChange runTraceSpec)) runTraceCard

/-- THE TIED CARD OF 'billhooklaw08.RunBegins'. -/
def runBeginsCard : Claim7 := { stood := { row := runBeginsRow, standIns := [], harness := (true, "91bbd71b00aa254638ec3627841fd8b1a89cbe7997aacdba44b768ebeace296e"), looks := true }, kinds := [], alts := [], laidByText := true, laidKinds := [.data, .data, .data, .sentinel, .sentinel], laidTests := true, laidLooks := .later }
def RunBeginsCardSaid : Prop := Claim7.holds Tryz.pinned (.plain (OpenSpec.ofChange runBeginsSpec)) runBeginsCard

/-- THE TIED CARD OF 'billhooklaw08.RunAgain'. -/
def runAgainCard : Claim7 := { stood := { row := runAgainRow, standIns := [], harness := (true, "91bbd71b00aa254638ec3627841fd8b1a89cbe7997aacdba44b768ebeace296e"), looks := true }, kinds := [], alts := [], laidByText := true, laidKinds := [.data, .data, .data, .sentinel, .sentinel], laidTests := true, laidLooks := .later }
def RunAgainCardSaid : Prop := Claim7.holds Tryz.pinned (.plain (OpenSpec.ofChange runAgainSpec)) runAgainCard

/-- THE TIED CARD OF 'billhooklaw08.RunReads'. -/
def runReadsCard : Claim7 := { stood := { row := runReadsRow, standIns := [], harness := (true, "91bbd71b00aa254638ec3627841fd8b1a89cbe7997aacdba44b768ebeace296e"), looks := true }, kinds := [], alts := [], laidByText := true, laidKinds := [.data, .data, .data, .sentinel, .sentinel], laidTests := true, laidLooks := .later }
def RunReadsCardSaid : Prop := Claim7.holds Tryz.pinned (.plain (OpenSpec.ofChange runReadsSpec)) runReadsCard

/-- THE TIED CARD OF 'billhooklaw08.RunCalls'. -/
def runCallsCard : Claim7 := { stood := { row := runCallsRow, standIns := [], harness := (true, "91bbd71b00aa254638ec3627841fd8b1a89cbe7997aacdba44b768ebeace296e"), looks := true }, kinds := [], alts := [], laidByText := true, laidKinds := [.data, .data, .data, .sentinel, .sentinel], laidTests := true, laidLooks := .later }
def RunCallsCardSaid : Prop := Claim7.holds Tryz.pinned (.plain (OpenSpec.ofChange runCallsSpec)) runCallsCard

/-- THE SECOND FORM's CARD OF 'billhooklaw08.RunTells'. -/
def runTellsUptoCard : Claim7 := { stood := { row := runTellsUptoRow, standIns := [], harness := (true, "91bbd71b00aa254638ec3627841fd8b1a89cbe7997aacdba44b768ebeace296e"), looks := true }, kinds := [], alts := [], laidByText := true, laidKinds := [.data, .data, .data, .sentinel, .sentinel], laidTests := true, laidLooks := .later }
def RunTellsUptoCardSaid : Prop := Claim7.holds Tryz.pinned (.plain (OpenSpec.upto runTellsSpec)) runTellsUptoCard

/-- THE SECOND FORM's CARD OF 'billhooklaw08.RunFuel'. -/
def runFuelUptoCard : Claim7 := { stood := { row := runFuelUptoRow, standIns := [], harness := (true, "91bbd71b00aa254638ec3627841fd8b1a89cbe7997aacdba44b768ebeace296e"), looks := true }, kinds := [], alts := [], laidByText := true, laidKinds := [.data, .data, .data, .sentinel, .sentinel], laidTests := true, laidLooks := .later }
def RunFuelUptoCardSaid : Prop := Claim7.holds Tryz.pinned (.plain (OpenSpec.upto runFuelSpec)) runFuelUptoCard

/-- THE SECOND FORM's CARD OF 'billhooklaw08.RunTrace'. -/
def runTraceUptoCard : Claim7 := { stood := { row := runTraceUptoRow, standIns := [], harness := (true, "91bbd71b00aa254638ec3627841fd8b1a89cbe7997aacdba44b768ebeace296e"), looks := true }, kinds := [], alts := [], laidByText := true, laidKinds := [.data, .data, .data, .sentinel, .sentinel], laidTests := true, laidLooks := .later }
def RunTraceUptoCardSaid : Prop := Claim7.holds Tryz.pinned (.plain (OpenSpec.upto runTraceSpec)) runTraceUptoCard

/-- THE SECOND FORM's CARD OF 'billhooklaw08.RunBegins'. -/
def runBeginsUptoCard : Claim7 := { stood := { row := runBeginsUptoRow, standIns := [], harness := (true, "91bbd71b00aa254638ec3627841fd8b1a89cbe7997aacdba44b768ebeace296e"), looks := true }, kinds := [], alts := [], laidByText := true, laidKinds := [.data, .data, .data, .sentinel, .sentinel], laidTests := true, laidLooks := .later }
def RunBeginsUptoCardSaid : Prop := Claim7.holds Tryz.pinned (.plain (OpenSpec.upto runBeginsSpec)) runBeginsUptoCard

/-- THE SECOND FORM's CARD OF 'billhooklaw08.RunAgain'. -/
def runAgainUptoCard : Claim7 := { stood := { row := runAgainUptoRow, standIns := [], harness := (true, "91bbd71b00aa254638ec3627841fd8b1a89cbe7997aacdba44b768ebeace296e"), looks := true }, kinds := [], alts := [], laidByText := true, laidKinds := [.data, .data, .data, .sentinel, .sentinel], laidTests := true, laidLooks := .later }
def RunAgainUptoCardSaid : Prop := Claim7.holds Tryz.pinned (.plain (OpenSpec.upto runAgainSpec)) runAgainUptoCard

/-- THE SECOND FORM's CARD OF 'billhooklaw08.RunReads'. -/
def runReadsUptoCard : Claim7 := { stood := { row := runReadsUptoRow, standIns := [], harness := (true, "91bbd71b00aa254638ec3627841fd8b1a89cbe7997aacdba44b768ebeace296e"), looks := true }, kinds := [], alts := [], laidByText := true, laidKinds := [.data, .data, .data, .sentinel, .sentinel], laidTests := true, laidLooks := .later }
def RunReadsUptoCardSaid : Prop := Claim7.holds Tryz.pinned (.plain (OpenSpec.upto runReadsSpec)) runReadsUptoCard

/-- THE SECOND FORM's CARD OF 'billhooklaw08.RunCalls'. -/
def runCallsUptoCard : Claim7 := { stood := { row := runCallsUptoRow, standIns := [], harness := (true, "91bbd71b00aa254638ec3627841fd8b1a89cbe7997aacdba44b768ebeace296e"), looks := true }, kinds := [], alts := [], laidByText := true, laidKinds := [.data, .data, .data, .sentinel, .sentinel], laidTests := true, laidLooks := .later }
def RunCallsUptoCardSaid : Prop := Claim7.holds Tryz.pinned (.plain (OpenSpec.upto runCallsSpec)) runCallsUptoCard
end Rows
end Go.Proofs.YtbilfdapmbahgaaGreatDoor
