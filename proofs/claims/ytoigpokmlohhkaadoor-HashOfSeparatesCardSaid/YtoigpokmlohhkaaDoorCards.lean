/-
  DERIVED. GIVEN WITH THE SEED: THE CARDS: each row of YtoigpokmlohhkaaDoorRows.lean that lists a variable, with what it lists TIED to the program's text (the seventh form; the later family's looks); each row that meets fmt, with fmt's text TOLD by the authors' own Lean function (tested against real Go, not proved from fmt's source: count such statements apart). THE CARD IS WHAT COUNTS. Prove the row's statement (the work); the ties are given (YtoigpokmlohhkaaDoorTie.lean); close each card by the builder's one call (the guide's Derived/Test/ToyasCard.lean, 'card_holds'). Laid BY PROGRAM, IN A SANDBOX (cutbox-door.mjs). By AI agents, Wed Nov 11 2026. No macro, syntax, notation, axiom, sorry.
-/
import Derived.Test.YtoigpokmlohhkaaDoorRows
import GoSem.ClaimSeven
namespace Go.Proofs.YtoigpokmlohhkaaDoor
namespace Rows

/-- THE TIED CARD OF 'simulacrumlaw02.HashCrcStreams'. -/
def hashCrcStreamsCard : Claim7 := { stood := { row := hashCrcStreamsRow, standIns := [], harness := (true, "f2bb0905e9f1f0cc308fafcaba5b7fe9806f3ec38a10342442269f681e7db3d8"), looks := false }, kinds := [], alts := [], laidByText := true, laidKinds := [.data], laidTests := true, laidLooks := .later }
def HashCrcStreamsCardSaid : Prop := Claim7.holds Tryd.pinned (.plain (OpenSpec.ofChange hashCrcStreamsSpec)) hashCrcStreamsCard

/-- THE TIED CARD OF 'simulacrumlaw02.HashSumMatchesSpec'. -/
def hashSumMatchesSpecCard : Claim7 := { stood := { row := hashSumMatchesSpecRow, standIns := [], harness := (true, "f2bb0905e9f1f0cc308fafcaba5b7fe9806f3ec38a10342442269f681e7db3d8"), looks := false }, kinds := [], alts := [], laidByText := true, laidKinds := [.data, .data], laidTests := true, laidLooks := .later }
def HashSumMatchesSpecCardSaid : Prop := Claim7.holds Tryd.pinned (.plain (OpenSpec.ofChange hashSumMatchesSpecSpec)) hashSumMatchesSpecCard

/-- THE TIED CARD OF 'simulacrumlaw02.HashStreamsAgree'. -/
def hashStreamsAgreeCard : Claim7 := { stood := { row := hashStreamsAgreeRow, standIns := [], harness := (true, "f2bb0905e9f1f0cc308fafcaba5b7fe9806f3ec38a10342442269f681e7db3d8"), looks := false }, kinds := [], alts := [], laidByText := true, laidKinds := [.data], laidTests := true, laidLooks := .later }
def HashStreamsAgreeCardSaid : Prop := Claim7.holds Tryd.pinned (.plain (OpenSpec.ofChange hashStreamsAgreeSpec)) hashStreamsAgreeCard

/-- THE TIED CARD OF 'simulacrumlaw02.HashOfMatchesSpec'. -/
def hashOfMatchesSpecCard : Claim7 := { stood := { row := hashOfMatchesSpecRow, standIns := [], harness := (true, "f2bb0905e9f1f0cc308fafcaba5b7fe9806f3ec38a10342442269f681e7db3d8"), looks := false }, kinds := [], alts := [], laidByText := true, laidKinds := [.data, .data], laidTests := true, laidLooks := .later }
def HashOfMatchesSpecCardSaid : Prop := Claim7.holds Tryd.pinned (.plain (OpenSpec.ofChange hashOfMatchesSpecSpec)) hashOfMatchesSpecCard

/-- THE TIED CARD OF 'simulacrumlaw02.HashOfSeparates'. -/
def hashOfSeparatesCard : Claim7 := { stood := { row := hashOfSeparatesRow, standIns := [], harness := (true, "f2bb0905e9f1f0cc308fafcaba5b7fe9806f3ec38a10342442269f681e7db3d8"), looks := false }, kinds := [], alts := [], laidByText := true, laidKinds := [.data], laidTests := true, laidLooks := .later }
def HashOfSeparatesCardSaid : Prop := Claim7.holds Tryd.pinned (.plain (OpenSpec.ofChange hashOfSeparatesSpec)) hashOfSeparatesCard

/-- THE TIED CARD OF 'simulacrumlaw03.MerkleProofsMatchSpec'. -/
def merkleProofsMatchSpecCard : Claim7 := { stood := { row := merkleProofsMatchSpecRow, standIns := [], harness := (true, "f2bb0905e9f1f0cc308fafcaba5b7fe9806f3ec38a10342442269f681e7db3d8"), looks := false }, kinds := [], alts := [], laidByText := true, laidKinds := [.data, .data], laidTests := true, laidLooks := .later }
def MerkleProofsMatchSpecCardSaid : Prop := Claim7.holds Tryd.pinned (.plain (OpenSpec.ofChange merkleProofsMatchSpecSpec)) merkleProofsMatchSpecCard

/-- THE TIED CARD OF 'simulacrumlaw03.MerkleManyAsSpecified'. -/
def merkleManyAsSpecifiedCard : Claim7 := { stood := { row := merkleManyAsSpecifiedRow, standIns := [], harness := (true, "f2bb0905e9f1f0cc308fafcaba5b7fe9806f3ec38a10342442269f681e7db3d8"), looks := false }, kinds := [], alts := [], laidByText := true, laidKinds := [.data, .data], laidTests := true, laidLooks := .later }
def MerkleManyAsSpecifiedCardSaid : Prop := Claim7.holds Tryd.pinned (.plain (OpenSpec.ofChange merkleManyAsSpecifiedSpec)) merkleManyAsSpecifiedCard

/-- THE TIED CARD OF 'simulacrumlaw03.MerklePeaksMatchSpec'. -/
def merklePeaksMatchSpecCard : Claim7 := { stood := { row := merklePeaksMatchSpecRow, standIns := [], harness := (true, "f2bb0905e9f1f0cc308fafcaba5b7fe9806f3ec38a10342442269f681e7db3d8"), looks := false }, kinds := [], alts := [], laidByText := true, laidKinds := [.data, .data], laidTests := true, laidLooks := .later }
def MerklePeaksMatchSpecCardSaid : Prop := Claim7.holds Tryd.pinned (.plain (OpenSpec.ofChange merklePeaksMatchSpecSpec)) merklePeaksMatchSpecCard

/-- THE TIED CARD OF 'simulacrumlaw03.MerkleProofsAreAccepted'. -/
def merkleProofsAreAcceptedCard : Claim7 := { stood := { row := merkleProofsAreAcceptedRow, standIns := [], harness := (true, "f2bb0905e9f1f0cc308fafcaba5b7fe9806f3ec38a10342442269f681e7db3d8"), looks := false }, kinds := [], alts := [], laidByText := true, laidKinds := [.data, .data], laidTests := true, laidLooks := .later }
def MerkleProofsAreAcceptedCardSaid : Prop := Claim7.holds Tryd.pinned (.plain (OpenSpec.ofChange merkleProofsAreAcceptedSpec)) merkleProofsAreAcceptedCard

/-- THE TIED CARD OF 'simulacrumlaw03.MerklePeaksGrow'. -/
def merklePeaksGrowCard : Claim7 := { stood := { row := merklePeaksGrowRow, standIns := [], harness := (true, "f2bb0905e9f1f0cc308fafcaba5b7fe9806f3ec38a10342442269f681e7db3d8"), looks := false }, kinds := [], alts := [], laidByText := true, laidKinds := [.data, .data], laidTests := true, laidLooks := .later }
def MerklePeaksGrowCardSaid : Prop := Claim7.holds Tryd.pinned (.plain (OpenSpec.ofChange merklePeaksGrowSpec)) merklePeaksGrowCard

/-- THE TIED CARD OF 'simulacrumlaw03.MerkleProofsBind'. -/
def merkleProofsBindCard : Claim7 := { stood := { row := merkleProofsBindRow, standIns := [], harness := (true, "f2bb0905e9f1f0cc308fafcaba5b7fe9806f3ec38a10342442269f681e7db3d8"), looks := false }, kinds := [], alts := [], laidByText := true, laidKinds := [.data, .data], laidTests := true, laidLooks := .later }
def MerkleProofsBindCardSaid : Prop := Claim7.holds Tryd.pinned (.plain (OpenSpec.ofChange merkleProofsBindSpec)) merkleProofsBindCard

/-- THE SECOND FORM's CARD OF 'simulacrumlaw02.HashCrcStreams'. -/
def hashCrcStreamsUptoCard : Claim7 := { stood := { row := hashCrcStreamsUptoRow, standIns := [], harness := (true, "f2bb0905e9f1f0cc308fafcaba5b7fe9806f3ec38a10342442269f681e7db3d8"), looks := false }, kinds := [], alts := [], laidByText := true, laidKinds := [.data], laidTests := true, laidLooks := .later }
def HashCrcStreamsUptoCardSaid : Prop := Claim7.holds Tryd.pinned (.plain (OpenSpec.upto hashCrcStreamsSpec)) hashCrcStreamsUptoCard

/-- THE SECOND FORM's CARD OF 'simulacrumlaw02.HashSumMatchesSpec'. -/
def hashSumMatchesSpecUptoCard : Claim7 := { stood := { row := hashSumMatchesSpecUptoRow, standIns := [], harness := (true, "f2bb0905e9f1f0cc308fafcaba5b7fe9806f3ec38a10342442269f681e7db3d8"), looks := false }, kinds := [], alts := [], laidByText := true, laidKinds := [.data, .data], laidTests := true, laidLooks := .later }
def HashSumMatchesSpecUptoCardSaid : Prop := Claim7.holds Tryd.pinned (.plain (OpenSpec.upto hashSumMatchesSpecSpec)) hashSumMatchesSpecUptoCard

/-- THE SECOND FORM's CARD OF 'simulacrumlaw02.HashStreamsAgree'. -/
def hashStreamsAgreeUptoCard : Claim7 := { stood := { row := hashStreamsAgreeUptoRow, standIns := [], harness := (true, "f2bb0905e9f1f0cc308fafcaba5b7fe9806f3ec38a10342442269f681e7db3d8"), looks := false }, kinds := [], alts := [], laidByText := true, laidKinds := [.data], laidTests := true, laidLooks := .later }
def HashStreamsAgreeUptoCardSaid : Prop := Claim7.holds Tryd.pinned (.plain (OpenSpec.upto hashStreamsAgreeSpec)) hashStreamsAgreeUptoCard

/-- THE SECOND FORM's CARD OF 'simulacrumlaw02.HashOfMatchesSpec'. -/
def hashOfMatchesSpecUptoCard : Claim7 := { stood := { row := hashOfMatchesSpecUptoRow, standIns := [], harness := (true, "f2bb0905e9f1f0cc308fafcaba5b7fe9806f3ec38a10342442269f681e7db3d8"), looks := false }, kinds := [], alts := [], laidByText := true, laidKinds := [.data, .data], laidTests := true, laidLooks := .later }
def HashOfMatchesSpecUptoCardSaid : Prop := Claim7.holds Tryd.pinned (.plain (OpenSpec.upto hashOfMatchesSpecSpec)) hashOfMatchesSpecUptoCard

/-- THE SECOND FORM's CARD OF 'simulacrumlaw02.HashOfSeparates'. -/
def hashOfSeparatesUptoCard : Claim7 := { stood := { row := hashOfSeparatesUptoRow, standIns := [], harness := (true, "f2bb0905e9f1f0cc308fafcaba5b7fe9806f3ec38a10342442269f681e7db3d8"), looks := false }, kinds := [], alts := [], laidByText := true, laidKinds := [.data], laidTests := true, laidLooks := .later }
def HashOfSeparatesUptoCardSaid : Prop := Claim7.holds Tryd.pinned (.plain (OpenSpec.upto hashOfSeparatesSpec)) hashOfSeparatesUptoCard

/-- THE SECOND FORM's CARD OF 'simulacrumlaw03.MerkleProofsMatchSpec'. -/
def merkleProofsMatchSpecUptoCard : Claim7 := { stood := { row := merkleProofsMatchSpecUptoRow, standIns := [], harness := (true, "f2bb0905e9f1f0cc308fafcaba5b7fe9806f3ec38a10342442269f681e7db3d8"), looks := false }, kinds := [], alts := [], laidByText := true, laidKinds := [.data, .data], laidTests := true, laidLooks := .later }
def MerkleProofsMatchSpecUptoCardSaid : Prop := Claim7.holds Tryd.pinned (.plain (OpenSpec.upto merkleProofsMatchSpecSpec)) merkleProofsMatchSpecUptoCard

/-- THE SECOND FORM's CARD OF 'simulacrumlaw03.MerkleManyAsSpecified'. -/
def merkleManyAsSpecifiedUptoCard : Claim7 := { stood := { row := merkleManyAsSpecifiedUptoRow, standIns := [], harness := (true, "f2bb0905e9f1f0cc308fafcaba5b7fe9806f3ec38a10342442269f681e7db3d8"), looks := false }, kinds := [], alts := [], laidByText := true, laidKinds := [.data, .data], laidTests := true, laidLooks := .later }
def MerkleManyAsSpecifiedUptoCardSaid : Prop := Claim7.holds Tryd.pinned (.plain (OpenSpec.upto merkleManyAsSpecifiedSpec)) merkleManyAsSpecifiedUptoCard

/-- THE SECOND FORM's CARD OF 'simulacrumlaw03.MerklePeaksMatchSpec'. -/
def merklePeaksMatchSpecUptoCard : Claim7 := { stood := { row := merklePeaksMatchSpecUptoRow, standIns := [], harness := (true, "f2bb0905e9f1f0cc308fafcaba5b7fe9806f3ec38a10342442269f681e7db3d8"), looks := false }, kinds := [], alts := [], laidByText := true, laidKinds := [.data, .data], laidTests := true, laidLooks := .later }
def MerklePeaksMatchSpecUptoCardSaid : Prop := Claim7.holds Tryd.pinned (.plain (OpenSpec.upto merklePeaksMatchSpecSpec)) merklePeaksMatchSpecUptoCard

/-- THE SECOND FORM's CARD OF 'simulacrumlaw03.MerkleProofsAreAccepted'. -/
def merkleProofsAreAcceptedUptoCard : Claim7 := { stood := { row := merkleProofsAreAcceptedUptoRow, standIns := [], harness := (true, "f2bb0905e9f1f0cc308fafcaba5b7fe9806f3ec38a10342442269f681e7db3d8"), looks := false }, kinds := [], alts := [], laidByText := true, laidKinds := [.data, .data], laidTests := true, laidLooks := .later }
def MerkleProofsAreAcceptedUptoCardSaid : Prop := Claim7.holds Tryd.pinned (.plain (OpenSpec.upto merkleProofsAreAcceptedSpec)) merkleProofsAreAcceptedUptoCard

/-- THE SECOND FORM's CARD OF 'simulacrumlaw03.MerklePeaksGrow'. -/
def merklePeaksGrowUptoCard : Claim7 := { stood := { row := merklePeaksGrowUptoRow, standIns := [], harness := (true, "f2bb0905e9f1f0cc308fafcaba5b7fe9806f3ec38a10342442269f681e7db3d8"), looks := false }, kinds := [], alts := [], laidByText := true, laidKinds := [.data, .data], laidTests := true, laidLooks := .later }
def MerklePeaksGrowUptoCardSaid : Prop := Claim7.holds Tryd.pinned (.plain (OpenSpec.upto merklePeaksGrowSpec)) merklePeaksGrowUptoCard

/-- THE SECOND FORM's CARD OF 'simulacrumlaw03.MerkleProofsBind'. -/
def merkleProofsBindUptoCard : Claim7 := { stood := { row := merkleProofsBindUptoRow, standIns := [], harness := (true, "f2bb0905e9f1f0cc308fafcaba5b7fe9806f3ec38a10342442269f681e7db3d8"), looks := false }, kinds := [], alts := [], laidByText := true, laidKinds := [.data, .data], laidTests := true, laidLooks := .later }
def MerkleProofsBindUptoCardSaid : Prop := Claim7.holds Tryd.pinned (.plain (OpenSpec.upto merkleProofsBindSpec)) merkleProofsBindUptoCard
end Rows
end Go.Proofs.YtoigpokmlohhkaaDoor
