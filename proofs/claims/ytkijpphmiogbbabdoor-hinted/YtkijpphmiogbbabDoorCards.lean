/-
  DERIVED. GIVEN WITH THE SEED: THE CARDS: each row of YtkijpphmiogbbabDoorRows.lean that lists a variable, with what it lists TIED to the program's text (the seventh form; the later family's looks); each row that meets fmt, with fmt's text TOLD by the authors' own Lean function (tested against real Go, not proved from fmt's source: count such statements apart). THE CARD IS WHAT COUNTS. Prove the row's statement (the work); the ties are given (YtkijpphmiogbbabDoorTie.lean); close each card by the builder's one call (the guide's Derived/Test/ToyasCard.lean, 'card_holds'). Laid BY PROGRAM, IN A SANDBOX (cutbox-door.mjs). By AI agents, Wed Nov 11 2026. No macro, syntax, notation, axiom, sorry.
-/
import Derived.Test.YtkijpphmiogbbabDoorRows
import GoSem.ClaimSeven
namespace Go.Proofs.YtkijpphmiogbbabDoor
namespace Rows

/-- THE TIED CARD OF 'latticekeyskeep.Hinted'. -/
def hintedCard : Claim7 := { stood := { row := hintedRow, standIns := [], harness := (true, "d378ea66c84ea87422605ce7a5a368cb29da5707b0071739cbbe4a5aaa6c67a7"), looks := false }, kinds := [], alts := [], laidByText := true, laidKinds := [.data, .pinned], laidTests := true, laidLooks := .later }
def HintedCardSaid : Prop := Claim7.holds Tryd.pinned (.plain (OpenSpec.ofChange hintedSpec)) hintedCard

/-- THE SECOND FORM's CARD OF 'latticekeyskeep.Hinted'. -/
def hintedUptoCard : Claim7 := { stood := { row := hintedUptoRow, standIns := [], harness := (true, "d378ea66c84ea87422605ce7a5a368cb29da5707b0071739cbbe4a5aaa6c67a7"), looks := false }, kinds := [], alts := [], laidByText := true, laidKinds := [.data, .pinned], laidTests := true, laidLooks := .later }
def HintedUptoCardSaid : Prop := Claim7.holds Tryd.pinned (.plain (OpenSpec.upto hintedSpec)) hintedUptoCard
end Rows
end Go.Proofs.YtkijpphmiogbbabDoor
