/-
  DERIVED. GIVEN WITH THE SEED: THE CARDS: each row of YtimfipkbddpdmaaGreatDoorRows.lean that lists a variable, with what it lists TIED to the program's text (the seventh form; the later family's looks); each row that meets fmt, with fmt's text TOLD by the authors' own Lean function (tested against real Go, not proved from fmt's source: count such statements apart). THE CARD IS WHAT COUNTS. Prove the row's statement (the work); the ties are given (YtimfipkbddpdmaaGreatDoorTie.lean); close each card by the builder's one call (the guide's Derived/Test/ToyasCard.lean, 'card_holds'). Laid BY PROGRAM, IN A SANDBOX (cutbox-door.mjs). By AI agents, Wed Nov 11 2026. No macro, syntax, notation, axiom, sorry.
-/
import Derived.Test.YtimfipkbddpdmaaGreatDoorRows
import GoSem.ClaimSeven
namespace Go.Proofs.YtimfipkbddpdmaaGreatDoor
namespace Rows

/-- THE TIED CARD OF 'ferrylaw11.StepKeeps'. -/
def stepKeepsCard : Claim7 := { stood := { row := stepKeepsRow, standIns := [], harness := (true, "0341956c7deed57ee4fae116be01ae0cd4b112d1d3336117b95c5efca1932510"), looks := true }, kinds := [], alts := [], laidByText := true, laidKinds := [.data], laidTests := true, laidLooks := .later }
def StepKeepsCardSaid : Prop := Claim7.holds Tryz.pinned (.plain (OpenSpec.ofChange stepKeepsSpec)) stepKeepsCard

/-- THE TIED CARD OF 'ferrylaw11.StepWithin'. -/
def stepWithinCard : Claim7 := { stood := { row := stepWithinRow, standIns := [], harness := (true, "0341956c7deed57ee4fae116be01ae0cd4b112d1d3336117b95c5efca1932510"), looks := true }, kinds := [], alts := [], laidByText := true, laidKinds := [.data], laidTests := true, laidLooks := .later }
def StepWithinCardSaid : Prop := Claim7.holds Tryz.pinned (.plain (OpenSpec.ofChange stepWithinSpec)) stepWithinCard

/-- THE TIED CARD OF 'ferrylaw11.StepSlots'. -/
def stepSlotsCard : Claim7 := { stood := { row := stepSlotsRow, standIns := [], harness := (true, "0341956c7deed57ee4fae116be01ae0cd4b112d1d3336117b95c5efca1932510"), looks := true }, kinds := [], alts := [], laidByText := true, laidKinds := [.data], laidTests := true, laidLooks := .later }
def StepSlotsCardSaid : Prop := Claim7.holds Tryz.pinned (.plain (OpenSpec.ofChange stepSlotsSpec)) stepSlotsCard

/-- THE SECOND FORM's CARD OF 'ferrylaw11.StepKeeps'. -/
def stepKeepsUptoCard : Claim7 := { stood := { row := stepKeepsUptoRow, standIns := [], harness := (true, "0341956c7deed57ee4fae116be01ae0cd4b112d1d3336117b95c5efca1932510"), looks := true }, kinds := [], alts := [], laidByText := true, laidKinds := [.data], laidTests := true, laidLooks := .later }
def StepKeepsUptoCardSaid : Prop := Claim7.holds Tryz.pinned (.plain (OpenSpec.upto stepKeepsSpec)) stepKeepsUptoCard

/-- THE SECOND FORM's CARD OF 'ferrylaw11.StepWithin'. -/
def stepWithinUptoCard : Claim7 := { stood := { row := stepWithinUptoRow, standIns := [], harness := (true, "0341956c7deed57ee4fae116be01ae0cd4b112d1d3336117b95c5efca1932510"), looks := true }, kinds := [], alts := [], laidByText := true, laidKinds := [.data], laidTests := true, laidLooks := .later }
def StepWithinUptoCardSaid : Prop := Claim7.holds Tryz.pinned (.plain (OpenSpec.upto stepWithinSpec)) stepWithinUptoCard

/-- THE SECOND FORM's CARD OF 'ferrylaw11.StepSlots'. -/
def stepSlotsUptoCard : Claim7 := { stood := { row := stepSlotsUptoRow, standIns := [], harness := (true, "0341956c7deed57ee4fae116be01ae0cd4b112d1d3336117b95c5efca1932510"), looks := true }, kinds := [], alts := [], laidByText := true, laidKinds := [.data], laidTests := true, laidLooks := .later }
def StepSlotsUptoCardSaid : Prop := Claim7.holds Tryz.pinned (.plain (OpenSpec.upto stepSlotsSpec)) stepSlotsUptoCard
end Rows
end Go.Proofs.YtimfipkbddpdmaaGreatDoor
