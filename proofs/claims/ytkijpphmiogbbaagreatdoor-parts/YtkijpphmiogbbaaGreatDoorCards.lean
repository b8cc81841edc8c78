/-
  DERIVED. GIVEN WITH THE SEED: THE CARDS: each row of YtkijpphmiogbbaaGreatDoorRows.lean that lists a variable, with what it lists TIED to the program's text (the seventh form; the later family's looks); each row that meets fmt, with fmt's text TOLD by the authors' own Lean function (tested against real Go, not proved from fmt's source: count such statements apart). THE CARD IS WHAT COUNTS. Prove the row's statement (the work); the ties are given (YtkijpphmiogbbaaGreatDoorTie.lean); close each card by the builder's one call (the guide's Derived/Test/ToyasCard.lean, 'card_holds'). Laid BY PROGRAM, IN A SANDBOX (cutbox-door.mjs). By AI agents, Wed Nov 11 2026. No macro, syntax, notation, axiom, sorry.
-/
import Derived.Test.YtkijpphmiogbbaaGreatDoorRows
import GoSem.ClaimSeven
namespace Go.Proofs.YtkijpphmiogbbaaGreatDoor
namespace Rows

/-- THE TIED CARD OF 'latticekeyslaw.Hashes'. -/
def hashesCard : Claim7 := { stood := { row := hashesRow, standIns := [], harness := (true, "205e03e9b1bdba3fd37f442cd1e1e7faef039afd10462e2f227b48a5b9e16811"), looks := true }, kinds := [], alts := [], goes := true, laidByText := true, laidKinds := [.data, .data, .data, .data, .handle, .pinned], laidTests := true, laidLooks := .later }
def HashesCardSaid : Prop := Claim7.holds Tryz.pinned (.plain (OpenSpec.ofChange hashesSpec)) hashesCard

/-- THE TIED CARD OF 'latticekeyslaw.Rings'. -/
def ringsCard : Claim7 := { stood := { row := ringsRow, standIns := [], harness := (true, "205e03e9b1bdba3fd37f442cd1e1e7faef039afd10462e2f227b48a5b9e16811"), looks := true }, kinds := [], alts := [], goes := true, laidByText := true, laidKinds := [.data, .data, .data, .data, .handle, .pinned], laidTests := true, laidLooks := .later }
def RingsCardSaid : Prop := Claim7.holds Tryz.pinned (.plain (OpenSpec.ofChange ringsSpec)) ringsCard

/-- THE TIED CARD OF 'latticekeyslaw.Wraps'. -/
def wrapsCard : Claim7 := { stood := { row := wrapsRow, standIns := [], harness := (true, "205e03e9b1bdba3fd37f442cd1e1e7faef039afd10462e2f227b48a5b9e16811"), looks := true }, kinds := [], alts := [], goes := true, laidByText := true, laidKinds := [.data, .data, .data, .data, .handle, .pinned], laidTests := true, laidLooks := .later }
def WrapsCardSaid : Prop := Claim7.holds Tryz.pinned (.plain (OpenSpec.ofChange wrapsSpec)) wrapsCard

/-- THE TIED CARD OF 'latticekeyslaw.Opens'. -/
def opensCard : Claim7 := { stood := { row := opensRow, standIns := [], harness := (true, "205e03e9b1bdba3fd37f442cd1e1e7faef039afd10462e2f227b48a5b9e16811"), looks := true }, kinds := [], alts := [], goes := true, laidByText := true, laidKinds := [.data, .data, .data, .data, .handle, .pinned], laidTests := true, laidLooks := .later }
def OpensCardSaid : Prop := Claim7.holds Tryz.pinned (.plain (OpenSpec.ofChange opensSpec)) opensCard

/-- THE TIED CARD OF 'latticekeyslaw.Parts'. -/
def partsCard : Claim7 := { stood := { row := partsRow, standIns := [], harness := (true, "205e03e9b1bdba3fd37f442cd1e1e7faef039afd10462e2f227b48a5b9e16811"), looks := true }, kinds := [], alts := [], goes := true, laidByText := true, laidKinds := [.data, .data, .data, .data, .handle, .pinned], laidTests := true, laidLooks := .later }
def PartsCardSaid : Prop := Claim7.holds Tryz.pinned (.plain (OpenSpec.ofChange partsSpec)) partsCard

/-- THE TIED CARD OF 'latticekeyslaw.Signkeys'. -/
def signkeysCard : Claim7 := { stood := { row := signkeysRow, standIns := [], harness := (true, "205e03e9b1bdba3fd37f442cd1e1e7faef039afd10462e2f227b48a5b9e16811"), looks := true }, kinds := [], alts := [], goes := true, laidByText := true, laidKinds := [.data, .data, .data, .data, .handle, .pinned], laidTests := true, laidLooks := .later }
def SignkeysCardSaid : Prop := Claim7.holds Tryz.pinned (.plain (OpenSpec.ofChange signkeysSpec)) signkeysCard

/-- THE TIED CARD OF 'latticekeyslaw.Signs'. -/
def signsCard : Claim7 := { stood := { row := signsRow, standIns := [], harness := (true, "205e03e9b1bdba3fd37f442cd1e1e7faef039afd10462e2f227b48a5b9e16811"), looks := true }, kinds := [], alts := [], goes := true, laidByText := true, laidKinds := [.data, .data, .data, .data, .handle, .pinned], laidTests := true, laidLooks := .later }
def SignsCardSaid : Prop := Claim7.holds Tryz.pinned (.plain (OpenSpec.ofChange signsSpec)) signsCard

/-- THE TIED CARD OF 'latticekeyslaw.All'. -/
def allCard : Claim7 := { stood := { row := allRow, standIns := [], harness := (true, "205e03e9b1bdba3fd37f442cd1e1e7faef039afd10462e2f227b48a5b9e16811"), looks := true }, kinds := [], alts := [], goes := true, laidByText := true, laidKinds := [.data, .data, .data, .data, .handle, .pinned], laidTests := true, laidLooks := .later }
def AllCardSaid : Prop := Claim7.holds Tryz.pinned (.plain (OpenSpec.ofChange allSpec)) allCard

/-- THE SECOND FORM's CARD OF 'latticekeyslaw.Hashes'. -/
def hashesUptoCard : Claim7 := { stood := { row := hashesUptoRow, standIns := [], harness := (true, "205e03e9b1bdba3fd37f442cd1e1e7faef039afd10462e2f227b48a5b9e16811"), looks := true }, kinds := [], alts := [], goes := true, laidByText := true, laidKinds := [.data, .data, .data, .data, .handle, .pinned], laidTests := true, laidLooks := .later }
def HashesUptoCardSaid : Prop := Claim7.holds Tryz.pinned (.plain (OpenSpec.upto hashesSpec)) hashesUptoCard

/-- THE SECOND FORM's CARD OF 'latticekeyslaw.Rings'. -/
def ringsUptoCard : Claim7 := { stood := { row := ringsUptoRow, standIns := [], harness := (true, "205e03e9b1bdba3fd37f442cd1e1e7faef039afd10462e2f227b48a5b9e16811"), looks := true }, kinds := [], alts := [], goes := true, laidByText := true, laidKinds := [.data, .data, .data, .data, .handle, .pinned], laidTests := true, laidLooks := .later }
def RingsUptoCardSaid : Prop := Claim7.holds Tryz.pinned (.plain (OpenSpec.upto ringsSpec)) ringsUptoCard

/-- THE SECOND FORM's CARD OF 'latticekeyslaw.Wraps'. -/
def wrapsUptoCard : Claim7 := { stood := { row := wrapsUptoRow, standIns := [], harness := (true, "205e03e9b1bdba3fd37f442cd1e1e7faef039afd10462e2f227b48a5b9e16811"), looks := true }, kinds := [], alts := [], goes := true, laidByText := true, laidKinds := [.data, .data, .data, .data, .handle, .pinned], laidTests := true, laidLooks := .later }
def WrapsUptoCardSaid : Prop := Claim7.holds Tryz.pinned (.plain (OpenSpec.upto wrapsSpec)) wrapsUptoCard

/-- THE SECOND FORM's CARD OF 'latticekeyslaw.Opens'. -/
def opensUptoCard : Claim7 := { stood := { row := opensUptoRow, standIns := [], harness := (true, "205e03e9b1bdba3fd37f442cd1e1e7faef039afd10462e2f227b48a5b9e16811"), looks := true }, kinds := [], alts := [], goes := true, laidByText := true, laidKinds := [.data, .data, .data, .data, .handle, .pinned], laidTests := true, laidLooks := .later }
def OpensUptoCardSaid : Prop := Claim7.holds Tryz.pinned (.plain (OpenSpec.upto opensSpec)) opensUptoCard

/-- THE SECOND FORM's CARD OF 'latticekeyslaw.Parts'. -/
def partsUptoCard : Claim7 := { stood := { row := partsUptoRow, standIns := [], harness := (true, "205e03e9b1bdba3fd37f442cd1e1e7faef039afd10462e2f227b48a5b9e16811"), looks := true }, kinds := [], alts := [], goes := true, laidByText := true, laidKinds := [.data, .data, .data, .data, .handle, .pinned], laidTests := true, laidLooks := .later }
def PartsUptoCardSaid : Prop := Claim7.holds Tryz.pinned (.plain (OpenSpec.upto partsSpec)) partsUptoCard

/-- THE SECOND FORM's CARD OF 'latticekeyslaw.Signkeys'. -/
def signkeysUptoCard : Claim7 := { stood := { row := signkeysUptoRow, standIns := [], harness := (true, "205e03e9b1bdba3fd37f442cd1e1e7faef039afd10462e2f227b48a5b9e16811"), looks := true }, kinds := [], alts := [], goes := true, laidByText := true, laidKinds := [.data, .data, .data, .data, .handle, .pinned], laidTests := true, laidLooks := .later }
def SignkeysUptoCardSaid : Prop := Claim7.holds Tryz.pinned (.plain (OpenSpec.upto signkeysSpec)) signkeysUptoCard

/-- THE SECOND FORM's CARD OF 'latticekeyslaw.Signs'. -/
def signsUptoCard : Claim7 := { stood := { row := signsUptoRow, standIns := [], harness := (true, "205e03e9b1bdba3fd37f442cd1e1e7faef039afd10462e2f227b48a5b9e16811"), looks := true }, kinds := [], alts := [], goes := true, laidByText := true, laidKinds := [.data, .data, .data, .data, .handle, .pinned], laidTests := true, laidLooks := .later }
def SignsUptoCardSaid : Prop := Claim7.holds Tryz.pinned (.plain (OpenSpec.upto signsSpec)) signsUptoCard

/-- THE SECOND FORM's CARD OF 'latticekeyslaw.All'. -/
def allUptoCard : Claim7 := { stood := { row := allUptoRow, standIns := [], harness := (true, "205e03e9b1bdba3fd37f442cd1e1e7faef039afd10462e2f227b48a5b9e16811"), looks := true }, kinds := [], alts := [], goes := true, laidByText := true, laidKinds := [.data, .data, .data, .data, .handle, .pinned], laidTests := true, laidLooks := .later }
def AllUptoCardSaid : Prop := Claim7.holds Tryz.pinned (.plain (OpenSpec.upto allSpec)) allUptoCard
end Rows
end Go.Proofs.YtkijpphmiogbbaaGreatDoor
