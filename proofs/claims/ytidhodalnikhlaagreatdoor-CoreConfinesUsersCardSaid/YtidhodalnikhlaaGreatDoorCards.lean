/-
  DERIVED. GIVEN WITH THE SEED: THE CARDS: each row of YtidhodalnikhlaaGreatDoorRows.lean that lists a variable, with what it lists TIED to the program's text (the seventh form; the later family's looks); each row that meets fmt, with fmt's text TOLD by the authors' own Lean function (tested against real Go, not proved from fmt's source: count such statements apart). THE CARD IS WHAT COUNTS. Prove the row's statement (the work); the ties are given (YtidhodalnikhlaaGreatDoorTie.lean); close each card by the builder's one call (the guide's Derived/Test/ToyasCard.lean, 'card_holds'). Laid BY PROGRAM, IN A SANDBOX (cutbox-door.mjs). By AI agents, Wed Nov 11 2026. No macro, syntax, notation, axiom, sorry.
-/
import Derived.Test.YtidhodalnikhlaaGreatDoorRows
import GoSem.ClaimSeven
namespace Go.Proofs.YtidhodalnikhlaaGreatDoor
namespace Rows

/-- THE TIED CARD OF 'simulacrumlaw12.CoreStepsAsSpecified'. -/
def coreStepsAsSpecifiedCard : Claim7 := { stood := { row := coreStepsAsSpecifiedRow, standIns := [], harness := (true, "dbe3c0ae3ba1a1d332276338b940413ef404bec7cced71e95b7885ba025e546c"), looks := true }, kinds := [], alts := [], laidByText := true, laidKinds := [.data], laidTests := true, laidLooks := .later }
def CoreStepsAsSpecifiedCardSaid : Prop := Claim7.holds Tryz.pinned (.plain (OpenSpec.ofChange coreStepsAsSpecifiedSpec)) coreStepsAsSpecifiedCard

/-- THE TIED CARD OF 'simulacrumlaw12.CoreAnswersAsSpecified'. -/
def coreAnswersAsSpecifiedCard : Claim7 := { stood := { row := coreAnswersAsSpecifiedRow, standIns := [], harness := (true, "dbe3c0ae3ba1a1d332276338b940413ef404bec7cced71e95b7885ba025e546c"), looks := true }, kinds := [], alts := [], laidByText := true, laidKinds := [.data], laidTests := true, laidLooks := .later }
def CoreAnswersAsSpecifiedCardSaid : Prop := Claim7.holds Tryz.pinned (.plain (OpenSpec.ofChange coreAnswersAsSpecifiedSpec)) coreAnswersAsSpecifiedCard

/-- THE TIED CARD OF 'simulacrumlaw12.CoreRunsAsSpecified'. -/
def coreRunsAsSpecifiedCard : Claim7 := { stood := { row := coreRunsAsSpecifiedRow, standIns := [], harness := (true, "dbe3c0ae3ba1a1d332276338b940413ef404bec7cced71e95b7885ba025e546c"), looks := true }, kinds := [], alts := [], laidByText := true, laidKinds := [.data], laidTests := true, laidLooks := .later }
def CoreRunsAsSpecifiedCardSaid : Prop := Claim7.holds Tryz.pinned (.plain (OpenSpec.ofChange coreRunsAsSpecifiedSpec)) coreRunsAsSpecifiedCard

/-- THE TIED CARD OF 'simulacrumlaw12.CoreTouchesWhatItSays'. -/
def coreTouchesWhatItSaysCard : Claim7 := { stood := { row := coreTouchesWhatItSaysRow, standIns := [], harness := (true, "dbe3c0ae3ba1a1d332276338b940413ef404bec7cced71e95b7885ba025e546c"), looks := true }, kinds := [], alts := [], laidByText := true, laidKinds := [.data], laidTests := true, laidLooks := .later }
def CoreTouchesWhatItSaysCardSaid : Prop := Claim7.holds Tryz.pinned (.plain (OpenSpec.ofChange coreTouchesWhatItSaysSpec)) coreTouchesWhatItSaysCard

/-- THE TIED CARD OF 'simulacrumlaw12.CoreKeepsValid'. -/
def coreKeepsValidCard : Claim7 := { stood := { row := coreKeepsValidRow, standIns := [], harness := (true, "dbe3c0ae3ba1a1d332276338b940413ef404bec7cced71e95b7885ba025e546c"), looks := true }, kinds := [], alts := [], laidByText := true, laidKinds := [.data], laidTests := true, laidLooks := .later }
def CoreKeepsValidCardSaid : Prop := Claim7.holds Tryz.pinned (.plain (OpenSpec.ofChange coreKeepsValidSpec)) coreKeepsValidCard

/-- THE TIED CARD OF 'simulacrumlaw12.CoreConfinesUsers'. -/
def coreConfinesUsersCard : Claim7 := { stood := { row := coreConfinesUsersRow, standIns := [], harness := (true, "dbe3c0ae3ba1a1d332276338b940413ef404bec7cced71e95b7885ba025e546c"), looks := true }, kinds := [], alts := [], laidByText := true, laidKinds := [.data], laidTests := true, laidLooks := .later }
def CoreConfinesUsersCardSaid : Prop := Claim7.holds Tryz.pinned (.plain (OpenSpec.ofChange coreConfinesUsersSpec)) coreConfinesUsersCard

/-- THE TIED CARD OF 'simulacrumlaw12.CoreComputes'. -/
def coreComputesCard : Claim7 := { stood := { row := coreComputesRow, standIns := [], harness := (true, "dbe3c0ae3ba1a1d332276338b940413ef404bec7cced71e95b7885ba025e546c"), looks := true }, kinds := [], alts := [], laidByText := true, laidKinds := [.data], laidTests := true, laidLooks := .later }
def CoreComputesCardSaid : Prop := Claim7.holds Tryz.pinned (.plain (OpenSpec.ofChange coreComputesSpec)) coreComputesCard

/-- THE SECOND FORM's CARD OF 'simulacrumlaw12.CoreStepsAsSpecified'. -/
def coreStepsAsSpecifiedUptoCard : Claim7 := { stood := { row := coreStepsAsSpecifiedUptoRow, standIns := [], harness := (true, "dbe3c0ae3ba1a1d332276338b940413ef404bec7cced71e95b7885ba025e546c"), looks := true }, kinds := [], alts := [], laidByText := true, laidKinds := [.data], laidTests := true, laidLooks := .later }
def CoreStepsAsSpecifiedUptoCardSaid : Prop := Claim7.holds Tryz.pinned (.plain (OpenSpec.upto coreStepsAsSpecifiedSpec)) coreStepsAsSpecifiedUptoCard

/-- THE SECOND FORM's CARD OF 'simulacrumlaw12.CoreAnswersAsSpecified'. -/
def coreAnswersAsSpecifiedUptoCard : Claim7 := { stood := { row := coreAnswersAsSpecifiedUptoRow, standIns := [], harness := (true, "dbe3c0ae3ba1a1d332276338b940413ef404bec7cced71e95b7885ba025e546c"), looks := true }, kinds := [], alts := [], laidByText := true, laidKinds := [.data], laidTests := true, laidLooks := .later }
def CoreAnswersAsSpecifiedUptoCardSaid : Prop := Claim7.holds Tryz.pinned (.plain (OpenSpec.upto coreAnswersAsSpecifiedSpec)) coreAnswersAsSpecifiedUptoCard

/-- THE SECOND FORM's CARD OF 'simulacrumlaw12.CoreRunsAsSpecified'. -/
def coreRunsAsSpecifiedUptoCard : Claim7 := { stood := { row := coreRunsAsSpecifiedUptoRow, standIns := [], harness := (true, "dbe3c0ae3ba1a1d332276338b940413ef404bec7cced71e95b7885ba025e546c"), looks := true }, kinds := [], alts := [], laidByText := true, laidKinds := [.data], laidTests := true, laidLooks := .later }
def CoreRunsAsSpecifiedUptoCardSaid : Prop := Claim7.holds Tryz.pinned (.plain (OpenSpec.upto coreRunsAsSpecifiedSpec)) coreRunsAsSpecifiedUptoCard

/-- THE SECOND FORM's CARD OF 'simulacrumlaw12.CoreTouchesWhatItSays'. -/
def coreTouchesWhatItSaysUptoCard : Claim7 := { stood := { row := coreTouchesWhatItSaysUptoRow, standIns := [], harness := (true, "dbe3c0ae3ba1a1d332276338b940413ef404bec7cced71e95b7885ba025e546c"), looks := true }, kinds := [], alts := [], laidByText := true, laidKinds := [.data], laidTests := true, laidLooks := .later }
def CoreTouchesWhatItSaysUptoCardSaid : Prop := Claim7.holds Tryz.pinned (.plain (OpenSpec.upto coreTouchesWhatItSaysSpec)) coreTouchesWhatItSaysUptoCard

/-- THE SECOND FORM's CARD OF 'simulacrumlaw12.CoreKeepsValid'. -/
def coreKeepsValidUptoCard : Claim7 := { stood := { row := coreKeepsValidUptoRow, standIns := [], harness := (true, "dbe3c0ae3ba1a1d332276338b940413ef404bec7cced71e95b7885ba025e546c"), looks := true }, kinds := [], alts := [], laidByText := true, laidKinds := [.data], laidTests := true, laidLooks := .later }
def CoreKeepsValidUptoCardSaid : Prop := Claim7.holds Tryz.pinned (.plain (OpenSpec.upto coreKeepsValidSpec)) coreKeepsValidUptoCard

/-- THE SECOND FORM's CARD OF 'simulacrumlaw12.CoreConfinesUsers'. -/
def coreConfinesUsersUptoCard : Claim7 := { stood := { row := coreConfinesUsersUptoRow, standIns := [], harness := (true, "dbe3c0ae3ba1a1d332276338b940413ef404bec7cced71e95b7885ba025e546c"), looks := true }, kinds := [], alts := [], laidByText := true, laidKinds := [.data], laidTests := true, laidLooks := .later }
def CoreConfinesUsersUptoCardSaid : Prop := Claim7.holds Tryz.pinned (.plain (OpenSpec.upto coreConfinesUsersSpec)) coreConfinesUsersUptoCard

/-- THE SECOND FORM's CARD OF 'simulacrumlaw12.CoreComputes'. -/
def coreComputesUptoCard : Claim7 := { stood := { row := coreComputesUptoRow, standIns := [], harness := (true, "dbe3c0ae3ba1a1d332276338b940413ef404bec7cced71e95b7885ba025e546c"), looks := true }, kinds := [], alts := [], laidByText := true, laidKinds := [.data], laidTests := true, laidLooks := .later }
def CoreComputesUptoCardSaid : Prop := Claim7.holds Tryz.pinned (.plain (OpenSpec.upto coreComputesSpec)) coreComputesUptoCard
end Rows
end Go.Proofs.YtidhodalnikhlaaGreatDoor
