/-
  DERIVED. GIVEN WITH THE SEED: THE CARDS: each row of YtjajnhemgphefaaGreatDoorRows.lean that lists a variable, with what it lists TIED to the program's text (the seventh form; the later family's looks); each row that meets fmt, with fmt's text TOLD by the authors' own Lean function (tested against real Go, not proved from fmt's source: count such statements apart). THE CARD IS WHAT COUNTS. Prove the row's statement (the work); the ties are given (YtjajnhemgphefaaGreatDoorTie.lean); close each card by the builder's one call (the guide's Derived/Test/ToyasCard.lean, 'card_holds'). Laid BY PROGRAM, IN A SANDBOX (cutbox-door.mjs). By AI agents, Wed Nov 11 2026. No macro, syntax, notation, axiom, sorry.
-/
import Derived.Test.YtjajnhemgphefaaGreatDoorRows
import GoSem.ClaimSeven
namespace Go.Proofs.YtjajnhemgphefaaGreatDoor
namespace Rows

/-- THE TIED CARD OF 'ebblaw.Rulings'. -/
def rulingsCard : Claim7 := { stood := { row := rulingsRow, standIns := [], harness := (true, "4f2a9a43c8db5a8da72025d7c1b7473aff768b51e46b7db56cc29e93ea0e3185"), looks := false }, kinds := [], alts := [], laidByText := true, laidKinds := [.data, .data, .data, .data, .pinned], laidTests := true, laidLooks := .later }
def RulingsCardSaid : Prop := Claim7.holds Tryz.pinned (.plain (OpenSpec.ofChange rulingsSpec)) rulingsCard

/-- THE TIED CARD OF 'ebblaw.States'. -/
def statesCard : Claim7 := { stood := { row := statesRow, standIns := [], harness := (true, "4f2a9a43c8db5a8da72025d7c1b7473aff768b51e46b7db56cc29e93ea0e3185"), looks := false }, kinds := [], alts := [], laidByText := true, laidKinds := [.data, .data, .data, .data, .pinned], laidTests := true, laidLooks := .later }
def StatesCardSaid : Prop := Claim7.holds Tryz.pinned (.plain (OpenSpec.ofChange statesSpec)) statesCard

/-- THE TIED CARD OF 'ebblaw.Ends'. -/
def endsCard : Claim7 := { stood := { row := endsRow, standIns := [], harness := (true, "4f2a9a43c8db5a8da72025d7c1b7473aff768b51e46b7db56cc29e93ea0e3185"), looks := false }, kinds := [], alts := [], laidByText := true, laidKinds := [.data, .data, .data, .data, .pinned], laidTests := true, laidLooks := .later }
def EndsCardSaid : Prop := Claim7.holds Tryz.pinned (.plain (OpenSpec.ofChange endsSpec)) endsCard

/-- THE TIED CARD OF 'ebblaw.Feeds'. -/
def feedsCard : Claim7 := { stood := { row := feedsRow, standIns := [], harness := (true, "4f2a9a43c8db5a8da72025d7c1b7473aff768b51e46b7db56cc29e93ea0e3185"), looks := false }, kinds := [], alts := [], laidByText := true, laidKinds := [.data, .data, .data, .data, .pinned], laidTests := true, laidLooks := .later }
def FeedsCardSaid : Prop := Claim7.holds Tryz.pinned (.plain (OpenSpec.ofChange feedsSpec)) feedsCard

/-- THE TIED CARD OF 'ebblaw.All'. -/
def allCard : Claim7 := { stood := { row := allRow, standIns := [], harness := (true, "4f2a9a43c8db5a8da72025d7c1b7473aff768b51e46b7db56cc29e93ea0e3185"), looks := false }, kinds := [], alts := [], laidByText := true, laidKinds := [.data, .data, .data, .data, .pinned], laidTests := true, laidLooks := .later }
def AllCardSaid : Prop := Claim7.holds Tryz.pinned (.plain (OpenSpec.ofChange allSpec)) allCard

/-- THE TIED CARD OF 'ebbkeep.Reached'. -/
def reachedCard : Claim7 := { stood := { row := reachedRow, standIns := [], harness := (true, "4f2a9a43c8db5a8da72025d7c1b7473aff768b51e46b7db56cc29e93ea0e3185"), looks := false }, kinds := [], alts := [], laidByText := true, laidKinds := [.data, .pinned], laidTests := true, laidLooks := .later }
def ReachedCardSaid : Prop := Claim7.holds Tryz.pinned (.plain (OpenSpec.ofChange reachedSpec)) reachedCard

/-- THE TIED CARD OF 'ebbkeep.Lasts'. -/
def lastsCard : Claim7 := { stood := { row := lastsRow, standIns := [], harness := (true, "4f2a9a43c8db5a8da72025d7c1b7473aff768b51e46b7db56cc29e93ea0e3185"), looks := false }, kinds := [], alts := [], laidByText := true, laidKinds := [.data, .pinned], laidTests := true, laidLooks := .later }
def LastsCardSaid : Prop := Claim7.holds Tryz.pinned (.plain (OpenSpec.ofChange lastsSpec)) lastsCard

/-- THE TIED CARD OF 'ebbkeep.Shuffled'. -/
def shuffledCard : Claim7 := { stood := { row := shuffledRow, standIns := [], harness := (true, "4f2a9a43c8db5a8da72025d7c1b7473aff768b51e46b7db56cc29e93ea0e3185"), looks := false }, kinds := [], alts := [], laidByText := true, laidKinds := [.data, .pinned], laidTests := true, laidLooks := .later }
def ShuffledCardSaid : Prop := Claim7.holds Tryz.pinned (.plain (OpenSpec.ofChange shuffledSpec)) shuffledCard

/-- THE TIED CARD OF 'ebbkeep.Folded'. -/
def foldedCard : Claim7 := { stood := { row := foldedRow, standIns := [], harness := (true, "4f2a9a43c8db5a8da72025d7c1b7473aff768b51e46b7db56cc29e93ea0e3185"), looks := false }, kinds := [], alts := [], laidByText := true, laidKinds := [.data, .pinned], laidTests := true, laidLooks := .later }
def FoldedCardSaid : Prop := Claim7.holds Tryz.pinned (.plain (OpenSpec.ofChange foldedSpec)) foldedCard

/-- THE TIED CARD OF 'ebbkeep.Ebbed'. -/
def ebbedCard : Claim7 := { stood := { row := ebbedRow, standIns := [], harness := (true, "4f2a9a43c8db5a8da72025d7c1b7473aff768b51e46b7db56cc29e93ea0e3185"), looks := false }, kinds := [], alts := [], laidByText := true, laidKinds := [.data, .pinned], laidTests := true, laidLooks := .later }
def EbbedCardSaid : Prop := Claim7.holds Tryz.pinned (.plain (OpenSpec.ofChange ebbedSpec)) ebbedCard

/-- THE TIED CARD OF 'ebbkeep.Reset'. -/
def resetCard : Claim7 := { stood := { row := resetRow, standIns := [], harness := (true, "4f2a9a43c8db5a8da72025d7c1b7473aff768b51e46b7db56cc29e93ea0e3185"), looks := false }, kinds := [], alts := [], laidByText := true, laidKinds := [.data, .pinned], laidTests := true, laidLooks := .later }
def ResetCardSaid : Prop := Claim7.holds Tryz.pinned (.plain (OpenSpec.ofChange resetSpec)) resetCard

/-- THE SECOND FORM's CARD OF 'ebblaw.Rulings'. -/
def rulingsUptoCard : Claim7 := { stood := { row := rulingsUptoRow, standIns := [], harness := (true, "4f2a9a43c8db5a8da72025d7c1b7473aff768b51e46b7db56cc29e93ea0e3185"), looks := false }, kinds := [], alts := [], laidByText := true, laidKinds := [.data, .data, .data, .data, .pinned], laidTests := true, laidLooks := .later }
def RulingsUptoCardSaid : Prop := Claim7.holds Tryz.pinned (.plain (OpenSpec.upto rulingsSpec)) rulingsUptoCard

/-- THE SECOND FORM's CARD OF 'ebblaw.States'. -/
def statesUptoCard : Claim7 := { stood := { row := statesUptoRow, standIns := [], harness := (true, "4f2a9a43c8db5a8da72025d7c1b7473aff768b51e46b7db56cc29e93ea0e3185"), looks := false }, kinds := [], alts := [], laidByText := true, laidKinds := [.data, .data, .data, .data, .pinned], laidTests := true, laidLooks := .later }
def StatesUptoCardSaid : Prop := Claim7.holds Tryz.pinned (.plain (OpenSpec.upto statesSpec)) statesUptoCard

/-- THE SECOND FORM's CARD OF 'ebblaw.Ends'. -/
def endsUptoCard : Claim7 := { stood := { row := endsUptoRow, standIns := [], harness := (true, "4f2a9a43c8db5a8da72025d7c1b7473aff768b51e46b7db56cc29e93ea0e3185"), looks := false }, kinds := [], alts := [], laidByText := true, laidKinds := [.data, .data, .data, .data, .pinned], laidTests := true, laidLooks := .later }
def EndsUptoCardSaid : Prop := Claim7.holds Tryz.pinned (.plain (OpenSpec.upto endsSpec)) endsUptoCard

/-- THE SECOND FORM's CARD OF 'ebblaw.Feeds'. -/
def feedsUptoCard : Claim7 := { stood := { row := feedsUptoRow, standIns := [], harness := (true, "4f2a9a43c8db5a8da72025d7c1b7473aff768b51e46b7db56cc29e93ea0e3185"), looks := false }, kinds := [], alts := [], laidByText := true, laidKinds := [.data, .data, .data, .data, .pinned], laidTests := true, laidLooks := .later }
def FeedsUptoCardSaid : Prop := Claim7.holds Tryz.pinned (.plain (OpenSpec.upto feedsSpec)) feedsUptoCard

/-- THE SECOND FORM's CARD OF 'ebblaw.All'. -/
def allUptoCard : Claim7 := { stood := { row := allUptoRow, standIns := [], harness := (true, "4f2a9a43c8db5a8da72025d7c1b7473aff768b51e46b7db56cc29e93ea0e3185"), looks := false }, kinds := [], alts := [], laidByText := true, laidKinds := [.data, .data, .data, .data, .pinned], laidTests := true, laidLooks := .later }
def AllUptoCardSaid : Prop := Claim7.holds Tryz.pinned (.plain (OpenSpec.upto allSpec)) allUptoCard

/-- THE SECOND FORM's CARD OF 'ebbkeep.Reached'. -/
def reachedUptoCard : Claim7 := { stood := { row := reachedUptoRow, standIns := [], harness := (true, "4f2a9a43c8db5a8da72025d7c1b7473aff768b51e46b7db56cc29e93ea0e3185"), looks := false }, kinds := [], alts := [], laidByText := true, laidKinds := [.data, .pinned], laidTests := true, laidLooks := .later }
def ReachedUptoCardSaid : Prop := Claim7.holds Tryz.pinned (.plain (OpenSpec.upto reachedSpec)) reachedUptoCard

/-- THE SECOND FORM's CARD OF 'ebbkeep.Lasts'. -/
def lastsUptoCard : Claim7 := { stood := { row := lastsUptoRow, standIns := [], harness := (true, "4f2a9a43c8db5a8da72025d7c1b7473aff768b51e46b7db56cc29e93ea0e3185"), looks := false }, kinds := [], alts := [], laidByText := true, laidKinds := [.data, .pinned], laidTests := true, laidLooks := .later }
def LastsUptoCardSaid : Prop := Claim7.holds Tryz.pinned (.plain (OpenSpec.upto lastsSpec)) lastsUptoCard

/-- THE SECOND FORM's CARD OF 'ebbkeep.Shuffled'. -/
def shuffledUptoCard : Claim7 := { stood := { row := shuffledUptoRow, standIns := [], harness := (true, "4f2a9a43c8db5a8da72025d7c1b7473aff768b51e46b7db56cc29e93ea0e3185"), looks := false }, kinds := [], alts := [], laidByText := true, laidKinds := [.data, .pinned], laidTests := true, laidLooks := .later }
def ShuffledUptoCardSaid : Prop := Claim7.holds Tryz.pinned (.plain (OpenSpec.upto shuffledSpec)) shuffledUptoCard

/-- THE SECOND FORM's CARD OF 'ebbkeep.Folded'. -/
def foldedUptoCard : Claim7 := { stood := { row := foldedUptoRow, standIns := [], harness := (true, "4f2a9a43c8db5a8da72025d7c1b7473aff768b51e46b7db56cc29e93ea0e3185"), looks := false }, kinds := [], alts := [], laidByText := true, laidKinds := [.data, .pinned], laidTests := true, laidLooks := .later }
def FoldedUptoCardSaid : Prop := Claim7.holds Tryz.pinned (.plain (OpenSpec.upto foldedSpec)) foldedUptoCard

/-- THE SECOND FORM's CARD OF 'ebbkeep.Ebbed'. -/
def ebbedUptoCard : Claim7 := { stood := { row := ebbedUptoRow, standIns := [], harness := (true, "4f2a9a43c8db5a8da72025d7c1b7473aff768b51e46b7db56cc29e93ea0e3185"), looks := false }, kinds := [], alts := [], laidByText := true, laidKinds := [.data, .pinned], laidTests := true, laidLooks := .later }
def EbbedUptoCardSaid : Prop := Claim7.holds Tryz.pinned (.plain (OpenSpec.upto ebbedSpec)) ebbedUptoCard

/-- THE SECOND FORM's CARD OF 'ebbkeep.Reset'. -/
def resetUptoCard : Claim7 := { stood := { row := resetUptoRow, standIns := [], harness := (true, "4f2a9a43c8db5a8da72025d7c1b7473aff768b51e46b7db56cc29e93ea0e3185"), looks := false }, kinds := [], alts := [], laidByText := true, laidKinds := [.data, .pinned], laidTests := true, laidLooks := .later }
def ResetUptoCardSaid : Prop := Claim7.holds Tryz.pinned (.plain (OpenSpec.upto resetSpec)) resetUptoCard
end Rows
end Go.Proofs.YtjajnhemgphefaaGreatDoor
