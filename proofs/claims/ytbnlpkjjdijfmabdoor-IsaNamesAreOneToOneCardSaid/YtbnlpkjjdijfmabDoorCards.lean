/-
  DERIVED. GIVEN WITH THE SEED: THE CARDS: each row of YtbnlpkjjdijfmabDoorRows.lean that lists a variable, with what it lists TIED to the program's text (the seventh form; the later family's looks); each row that meets fmt, with fmt's text TOLD by the authors' own Lean function (tested against real Go, not proved from fmt's source: count such statements apart). THE CARD IS WHAT COUNTS. Prove the row's statement (the work); the ties are given (YtbnlpkjjdijfmabDoorTie.lean); close each card by the builder's one call (the guide's Derived/Test/ToyasCard.lean, 'card_holds'). Laid BY PROGRAM, IN A SANDBOX (cutbox-door.mjs). By AI agents, Wed Nov 11 2026. No macro, syntax, notation, axiom, sorry.
-/
import Derived.Test.YtbnlpkjjdijfmabDoorRows
import GoSem.ClaimSeven
namespace Go.Proofs.YtbnlpkjjdijfmabDoor
namespace Rows

/-- THE TIED CARD OF 'simulacrumlaw04.IsaEncodesAsSpecified'. -/
def isaEncodesAsSpecifiedCard : Claim7 := { stood := { row := isaEncodesAsSpecifiedRow, standIns := [], harness := (true, "462bbe3c7682687245f17c355a14ea9f270370da6aa9737712704ca26f8785d8"), looks := false }, kinds := [], alts := [], laidByText := true, laidKinds := [.data], laidTests := true, laidLooks := .later }
def IsaEncodesAsSpecifiedCardSaid : Prop := Claim7.holds Tryd.pinned (.plain (OpenSpec.ofChange isaEncodesAsSpecifiedSpec)) isaEncodesAsSpecifiedCard

/-- THE TIED CARD OF 'simulacrumlaw04.IsaDecodesAsSpecified'. -/
def isaDecodesAsSpecifiedCard : Claim7 := { stood := { row := isaDecodesAsSpecifiedRow, standIns := [], harness := (true, "462bbe3c7682687245f17c355a14ea9f270370da6aa9737712704ca26f8785d8"), looks := false }, kinds := [], alts := [], laidByText := true, laidKinds := [.data], laidTests := true, laidLooks := .later }
def IsaDecodesAsSpecifiedCardSaid : Prop := Claim7.holds Tryd.pinned (.plain (OpenSpec.ofChange isaDecodesAsSpecifiedSpec)) isaDecodesAsSpecifiedCard

/-- THE TIED CARD OF 'simulacrumlaw04.IsaNamesAsSpecified'. -/
def isaNamesAsSpecifiedCard : Claim7 := { stood := { row := isaNamesAsSpecifiedRow, standIns := [], harness := (true, "462bbe3c7682687245f17c355a14ea9f270370da6aa9737712704ca26f8785d8"), looks := false }, kinds := [], alts := [], laidByText := true, laidKinds := [.data], laidTests := true, laidLooks := .later }
def IsaNamesAsSpecifiedCardSaid : Prop := Claim7.holds Tryd.pinned (.plain (OpenSpec.ofChange isaNamesAsSpecifiedSpec)) isaNamesAsSpecifiedCard

/-- THE TIED CARD OF 'simulacrumlaw04.IsaWordsAreOneToOne'. -/
def isaWordsAreOneToOneCard : Claim7 := { stood := { row := isaWordsAreOneToOneRow, standIns := [], harness := (true, "462bbe3c7682687245f17c355a14ea9f270370da6aa9737712704ca26f8785d8"), looks := false }, kinds := [], alts := [], laidByText := true, laidKinds := [.data], laidTests := true, laidLooks := .later }
def IsaWordsAreOneToOneCardSaid : Prop := Claim7.holds Tryd.pinned (.plain (OpenSpec.ofChange isaWordsAreOneToOneSpec)) isaWordsAreOneToOneCard

/-- THE TIED CARD OF 'simulacrumlaw04.IsaNamesAreOneToOne'. -/
def isaNamesAreOneToOneCard : Claim7 := { stood := { row := isaNamesAreOneToOneRow, standIns := [], harness := (true, "462bbe3c7682687245f17c355a14ea9f270370da6aa9737712704ca26f8785d8"), looks := false }, kinds := [], alts := [], laidByText := true, laidKinds := [.data], laidTests := true, laidLooks := .later }
def IsaNamesAreOneToOneCardSaid : Prop := Claim7.holds Tryd.pinned (.plain (OpenSpec.ofChange isaNamesAreOneToOneSpec)) isaNamesAreOneToOneCard

/-- THE TIED CARD OF 'simulacrumlaw04.IsaTargetsTurnBack'. -/
def isaTargetsTurnBackCard : Claim7 := { stood := { row := isaTargetsTurnBackRow, standIns := [], harness := (true, "462bbe3c7682687245f17c355a14ea9f270370da6aa9737712704ca26f8785d8"), looks := false }, kinds := [], alts := [], laidByText := true, laidKinds := [.data], laidTests := true, laidLooks := .later }
def IsaTargetsTurnBackCardSaid : Prop := Claim7.holds Tryd.pinned (.plain (OpenSpec.ofChange isaTargetsTurnBackSpec)) isaTargetsTurnBackCard

/-- THE SECOND FORM's CARD OF 'simulacrumlaw04.IsaEncodesAsSpecified'. -/
def isaEncodesAsSpecifiedUptoCard : Claim7 := { stood := { row := isaEncodesAsSpecifiedUptoRow, standIns := [], harness := (true, "462bbe3c7682687245f17c355a14ea9f270370da6aa9737712704ca26f8785d8"), looks := false }, kinds := [], alts := [], laidByText := true, laidKinds := [.data], laidTests := true, laidLooks := .later }
def IsaEncodesAsSpecifiedUptoCardSaid : Prop := Claim7.holds Tryd.pinned (.plain (OpenSpec.upto isaEncodesAsSpecifiedSpec)) isaEncodesAsSpecifiedUptoCard

/-- THE SECOND FORM's CARD OF 'simulacrumlaw04.IsaDecodesAsSpecified'. -/
def isaDecodesAsSpecifiedUptoCard : Claim7 := { stood := { row := isaDecodesAsSpecifiedUptoRow, standIns := [], harness := (true, "462bbe3c7682687245f17c355a14ea9f270370da6aa9737712704ca26f8785d8"), looks := false }, kinds := [], alts := [], laidByText := true, laidKinds := [.data], laidTests := true, laidLooks := .later }
def IsaDecodesAsSpecifiedUptoCardSaid : Prop := Claim7.holds Tryd.pinned (.plain (OpenSpec.upto isaDecodesAsSpecifiedSpec)) isaDecodesAsSpecifiedUptoCard

/-- THE SECOND FORM's CARD OF 'simulacrumlaw04.IsaNamesAsSpecified'. -/
def isaNamesAsSpecifiedUptoCard : Claim7 := { stood := { row := isaNamesAsSpecifiedUptoRow, standIns := [], harness := (true, "462bbe3c7682687245f17c355a14ea9f270370da6aa9737712704ca26f8785d8"), looks := false }, kinds := [], alts := [], laidByText := true, laidKinds := [.data], laidTests := true, laidLooks := .later }
def IsaNamesAsSpecifiedUptoCardSaid : Prop := Claim7.holds Tryd.pinned (.plain (OpenSpec.upto isaNamesAsSpecifiedSpec)) isaNamesAsSpecifiedUptoCard

/-- THE SECOND FORM's CARD OF 'simulacrumlaw04.IsaWordsAreOneToOne'. -/
def isaWordsAreOneToOneUptoCard : Claim7 := { stood := { row := isaWordsAreOneToOneUptoRow, standIns := [], harness := (true, "462bbe3c7682687245f17c355a14ea9f270370da6aa9737712704ca26f8785d8"), looks := false }, kinds := [], alts := [], laidByText := true, laidKinds := [.data], laidTests := true, laidLooks := .later }
def IsaWordsAreOneToOneUptoCardSaid : Prop := Claim7.holds Tryd.pinned (.plain (OpenSpec.upto isaWordsAreOneToOneSpec)) isaWordsAreOneToOneUptoCard

/-- THE SECOND FORM's CARD OF 'simulacrumlaw04.IsaNamesAreOneToOne'. -/
def isaNamesAreOneToOneUptoCard : Claim7 := { stood := { row := isaNamesAreOneToOneUptoRow, standIns := [], harness := (true, "462bbe3c7682687245f17c355a14ea9f270370da6aa9737712704ca26f8785d8"), looks := false }, kinds := [], alts := [], laidByText := true, laidKinds := [.data], laidTests := true, laidLooks := .later }
def IsaNamesAreOneToOneUptoCardSaid : Prop := Claim7.holds Tryd.pinned (.plain (OpenSpec.upto isaNamesAreOneToOneSpec)) isaNamesAreOneToOneUptoCard

/-- THE SECOND FORM's CARD OF 'simulacrumlaw04.IsaTargetsTurnBack'. -/
def isaTargetsTurnBackUptoCard : Claim7 := { stood := { row := isaTargetsTurnBackUptoRow, standIns := [], harness := (true, "462bbe3c7682687245f17c355a14ea9f270370da6aa9737712704ca26f8785d8"), looks := false }, kinds := [], alts := [], laidByText := true, laidKinds := [.data], laidTests := true, laidLooks := .later }
def IsaTargetsTurnBackUptoCardSaid : Prop := Claim7.holds Tryd.pinned (.plain (OpenSpec.upto isaTargetsTurnBackSpec)) isaTargetsTurnBackUptoCard
end Rows
end Go.Proofs.YtbnlpkjjdijfmabDoor
