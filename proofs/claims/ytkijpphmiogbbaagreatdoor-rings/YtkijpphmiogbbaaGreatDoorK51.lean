import Derived.Test.YtkijpphmiogbbaaGreatDoorRows
import Derived.ProofKit
import Derived.OpenShut
import Derived.ShutString
import Derived.ChangeOld
import Derived.Below
import Derived.LaidMore
import Derived.Lay
import Derived.LaidHandle
import Derived.LaidLaws
namespace Go.Proofs.YtkijpphmiogbbaaGreatDoor
open Go.ChangeShapes Go.WideShapes Go.ChangeAt Go.RowKit

/-- The door's own heap, with the pinned tables, meets the condition. -/
theorem door_met (os : Os) (args : Array Value) : laidMetH Tryz.prog Rows.ringsRow.laid (((World.doorLaid Tryz.prog 400 os).layVars Tryz.prog ((Rows.ringsRow.laid.filter fun x => x.2.handleName?.isNone).filter fun x => ["unicode/utf8.first"].contains x.1)).forCall (fun _ _ => 0) ⟨#[], args, []⟩).memory :=
  laidMetH_of_parts3 (fuel := 8) (laidMet_layVars (w0 := World.doorLaid Tryz.prog 400 os) ["unicode/utf8.first"] [1, 3, 2, 5] (by simp [World.memory, World.forCall, Input.heap]) (by kernel_rfl) (by kernel_rfl) (LaidIn.of_run [1, 3, 2, 5] 8 (by kernel_rfl) (by kernel_rfl) (by kernel_rfl) (by kernel_rfl))) (by kernel_rfl) (by kernel_rfl)
theorem wit_os (os : Os) : ((World.doorLaid Tryz.prog 400 os).layVars Tryz.prog ((Rows.ringsRow.laid.filter fun x => x.2.handleName?.isNone).filter fun x => ["unicode/utf8.first"].contains x.1)).os = os := (World.layVars_os _ _ _)
set_option maxRecDepth 100000 in
theorem wit_sh (os : Os) : (((World.doorLaid Tryz.prog 400 os).layVars Tryz.prog ((Rows.ringsRow.laid.filter fun x => x.2.handleName?.isNone).filter fun x => ["unicode/utf8.first"].contains x.1)).forCall (fun _ _ => 0) ⟨#[], #[.slice none 0 0], []⟩).Shaped Tryz.prog := World.shaped_of_ZipB (by kernel_rfl) (by kernel_rfl)
set_option maxRecDepth 100000 in
theorem wit_all {H : Type} (enc : TypeId × Value → H) (os : Os) : ∃ w0 : World, w0.os = os ∧ (w0.forCall (fun _ _ => 0) ⟨#[], #[.slice none 0 0], []⟩).Shaped Tryz.prog ∧ Input.okWideB Tryz.prog (w0.forCall (fun _ _ => 0) ⟨#[], #[.slice none 0 0], []⟩) 4 ⟨#[], #[.slice none 0 0], []⟩ = true ∧
    Rows.ringsSpec.preB enc Tryz.prog Tryz.f4 [] false (w0.forCall (fun _ _ => 0) ⟨#[], #[.slice none 0 0], []⟩).memory #[.slice none 0 0] 8 = true ∧ Rows.ringsSpec.sizedB enc Tryz.prog Tryz.f4 false (w0.forCall (fun _ _ => 0) ⟨#[], #[.slice none 0 0], []⟩).memory #[.slice none 0 0] 8 = true ∧
    laidMetH Tryz.prog Rows.ringsRow.laid (w0.forCall (fun _ _ => 0) ⟨#[], #[.slice none 0 0], []⟩).memory :=
  ⟨_, wit_os os, wit_sh os, by kernel_rfl, by kernel_rfl, by kernel_rfl, door_met os _⟩
end Go.Proofs.YtkijpphmiogbbaaGreatDoor
