/-
  DERIVED. GIVEN WITH THE SEED: THE CARDS: each row of YtjopadfkdpcjmaaDoorRows.lean that lists a variable, with what it lists TIED to the program's text (the seventh form; the later family's looks); each row that meets fmt, with fmt's text TOLD by the authors' own Lean function (tested against real Go, not proved from fmt's source: count such statements apart). THE CARD IS WHAT COUNTS. Prove the row's statement (the work); the ties are given (YtjopadfkdpcjmaaDoorTie.lean); close each card by the builder's one call (the guide's Derived/Test/ToyasCard.lean, 'card_holds'). Laid BY PROGRAM, IN A SANDBOX (cutbox-door.mjs). By AI agents, Wed Nov 11 2026. No macro, syntax, notation, axiom, sorry.
-/
import Derived.Test.YtjopadfkdpcjmaaDoorRows
import GoSem.ClaimSeven
namespace Go.Proofs.YtjopadfkdpcjmaaDoor
namespace Rows

/-- THE TIED CARD OF 'simulacrumlaw07.LexerReadsAsSpecified'. -/
def lexerReadsAsSpecifiedCard : Claim7 := { stood := { row := lexerReadsAsSpecifiedRow, standIns := [], harness := (true, "1583b62b90593f10b8c430cb61f5695ce2040eab3589b8a8aa15bfdcfe9835bd"), looks := false }, kinds := [], alts := [], laidByText := true, laidKinds := [.data, .data, .data, .data, .pinned], laidTests := true, laidLooks := .later }
def LexerReadsAsSpecifiedCardSaid : Prop := Claim7.holds Tryd.pinned (.plain (OpenSpec.ofChange lexerReadsAsSpecifiedSpec)) lexerReadsAsSpecifiedCard

/-- THE TIED CARD OF 'simulacrumlaw07.LexerPrintsAsSpecified'. -/
def lexerPrintsAsSpecifiedCard : Claim7 := { stood := { row := lexerPrintsAsSpecifiedRow, standIns := [], harness := (true, "1583b62b90593f10b8c430cb61f5695ce2040eab3589b8a8aa15bfdcfe9835bd"), looks := false }, kinds := [], alts := [], laidByText := true, laidKinds := [.data, .data, .data, .data, .pinned], laidTests := true, laidLooks := .later }
def LexerPrintsAsSpecifiedCardSaid : Prop := Claim7.holds Tryd.pinned (.plain (OpenSpec.ofChange lexerPrintsAsSpecifiedSpec)) lexerPrintsAsSpecifiedCard

/-- THE TIED CARD OF 'simulacrumlaw07.LexerReadsBack'. -/
def lexerReadsBackCard : Claim7 := { stood := { row := lexerReadsBackRow, standIns := [], harness := (true, "1583b62b90593f10b8c430cb61f5695ce2040eab3589b8a8aa15bfdcfe9835bd"), looks := false }, kinds := [], alts := [], laidByText := true, laidKinds := [.data, .data, .data, .data, .pinned], laidTests := true, laidLooks := .later }
def LexerReadsBackCardSaid : Prop := Claim7.holds Tryd.pinned (.plain (OpenSpec.ofChange lexerReadsBackSpec)) lexerReadsBackCard

/-- THE TIED CARD OF 'simulacrumlaw07.LexerForgetsSpace'. -/
def lexerForgetsSpaceCard : Claim7 := { stood := { row := lexerForgetsSpaceRow, standIns := [], harness := (true, "1583b62b90593f10b8c430cb61f5695ce2040eab3589b8a8aa15bfdcfe9835bd"), looks := false }, kinds := [], alts := [], laidByText := true, laidKinds := [.data, .data, .data, .data, .pinned], laidTests := true, laidLooks := .later }
def LexerForgetsSpaceCardSaid : Prop := Claim7.holds Tryd.pinned (.plain (OpenSpec.ofChange lexerForgetsSpaceSpec)) lexerForgetsSpaceCard

/-- THE TIED CARD OF 'simulacrumlaw07.LexerIsLocal'. -/
def lexerIsLocalCard : Claim7 := { stood := { row := lexerIsLocalRow, standIns := [], harness := (true, "1583b62b90593f10b8c430cb61f5695ce2040eab3589b8a8aa15bfdcfe9835bd"), looks := false }, kinds := [], alts := [], laidByText := true, laidKinds := [.data, .data, .data, .data, .pinned], laidTests := true, laidLooks := .later }
def LexerIsLocalCardSaid : Prop := Claim7.holds Tryd.pinned (.plain (OpenSpec.ofChange lexerIsLocalSpec)) lexerIsLocalCard

/-- THE TIED CARD OF 'simulacrumlaw07.LexerNumbersAreExact'. -/
def lexerNumbersAreExactCard : Claim7 := { stood := { row := lexerNumbersAreExactRow, standIns := [], harness := (true, "1583b62b90593f10b8c430cb61f5695ce2040eab3589b8a8aa15bfdcfe9835bd"), looks := false }, kinds := [], alts := [], laidByText := true, laidKinds := [.data, .data, .data, .data, .pinned], laidTests := true, laidLooks := .later }
def LexerNumbersAreExactCardSaid : Prop := Claim7.holds Tryd.pinned (.plain (OpenSpec.ofChange lexerNumbersAreExactSpec)) lexerNumbersAreExactCard

/-- THE SECOND FORM's CARD OF 'simulacrumlaw07.LexerReadsAsSpecified'. -/
def lexerReadsAsSpecifiedUptoCard : Claim7 := { stood := { row := lexerReadsAsSpecifiedUptoRow, standIns := [], harness := (true, "1583b62b90593f10b8c430cb61f5695ce2040eab3589b8a8aa15bfdcfe9835bd"), looks := false }, kinds := [], alts := [], laidByText := true, laidKinds := [.data, .data, .data, .data, .pinned], laidTests := true, laidLooks := .later }
def LexerReadsAsSpecifiedUptoCardSaid : Prop := Claim7.holds Tryd.pinned (.plain (OpenSpec.upto lexerReadsAsSpecifiedSpec)) lexerReadsAsSpecifiedUptoCard

/-- THE SECOND FORM's CARD OF 'simulacrumlaw07.LexerPrintsAsSpecified'. -/
def lexerPrintsAsSpecifiedUptoCard : Claim7 := { stood := { row := lexerPrintsAsSpecifiedUptoRow, standIns := [], harness := (true, "1583b62b90593f10b8c430cb61f5695ce2040eab3589b8a8aa15bfdcfe9835bd"), looks := false }, kinds := [], alts := [], laidByText := true, laidKinds := [.data, .data, .data, .data, .pinned], laidTests := true, laidLooks := .later }
def LexerPrintsAsSpecifiedUptoCardSaid : Prop := Claim7.holds Tryd.pinned (.plain (OpenSpec.upto lexerPrintsAsSpecifiedSpec)) lexerPrintsAsSpecifiedUptoCard

/-- THE SECOND FORM's CARD OF 'simulacrumlaw07.LexerReadsBack'. -/
def lexerReadsBackUptoCard : Claim7 := { stood := { row := lexerReadsBackUptoRow, standIns := [], harness := (true, "1583b62b90593f10b8c430cb61f5695ce2040eab3589b8a8aa15bfdcfe9835bd"), looks := false }, kinds := [], alts := [], laidByText := true, laidKinds := [.data, .data, .data, .data, .pinned], laidTests := true, laidLooks := .later }
def LexerReadsBackUptoCardSaid : Prop := Claim7.holds Tryd.pinned (.plain (OpenSpec.upto lexerReadsBackSpec)) lexerReadsBackUptoCard

/-- THE SECOND FORM's CARD OF 'simulacrumlaw07.LexerForgetsSpace'. -/
def lexerForgetsSpaceUptoCard : Claim7 := { stood := { row := lexerForgetsSpaceUptoRow, standIns := [], harness := (true, "1583b62b90593f10b8c430cb61f5695ce2040eab3589b8a8aa15bfdcfe9835bd"), looks := false }, kinds := [], alts := [], laidByText := true, laidKinds := [.data, .data, .data, .data, .pinned], laidTests := true, laidLooks := .later }
def LexerForgetsSpaceUptoCardSaid : Prop := Claim7.holds Tryd.pinned (.plain (OpenSpec.upto lexerForgetsSpaceSpec)) lexerForgetsSpaceUptoCard

/-- THE SECOND FORM's CARD OF 'simulacrumlaw07.LexerIsLocal'. -/
def lexerIsLocalUptoCard : Claim7 := { stood := { row := lexerIsLocalUptoRow, standIns := [], harness := (true, "1583b62b90593f10b8c430cb61f5695ce2040eab3589b8a8aa15bfdcfe9835bd"), looks := false }, kinds := [], alts := [], laidByText := true, laidKinds := [.data, .data, .data, .data, .pinned], laidTests := true, laidLooks := .later }
def LexerIsLocalUptoCardSaid : Prop := Claim7.holds Tryd.pinned (.plain (OpenSpec.upto lexerIsLocalSpec)) lexerIsLocalUptoCard

/-- THE SECOND FORM's CARD OF 'simulacrumlaw07.LexerNumbersAreExact'. -/
def lexerNumbersAreExactUptoCard : Claim7 := { stood := { row := lexerNumbersAreExactUptoRow, standIns := [], harness := (true, "1583b62b90593f10b8c430cb61f5695ce2040eab3589b8a8aa15bfdcfe9835bd"), looks := false }, kinds := [], alts := [], laidByText := true, laidKinds := [.data, .data, .data, .data, .pinned], laidTests := true, laidLooks := .later }
def LexerNumbersAreExactUptoCardSaid : Prop := Claim7.holds Tryd.pinned (.plain (OpenSpec.upto lexerNumbersAreExactSpec)) lexerNumbersAreExactUptoCard
end Rows
end Go.Proofs.YtjopadfkdpcjmaaDoor
