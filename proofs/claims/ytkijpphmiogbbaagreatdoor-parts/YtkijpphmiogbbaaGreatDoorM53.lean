import Derived.Test.YtkijpphmiogbbaaGreatDoorRows
import Derived.Test.YtkijpphmiogbbaaGreatDoorCards
import Derived.Test.YtkijpphmiogbbaaGreatDoorTie
import Derived.SevenTiedAt
import Derived.Test.YtkijpphmiogbbaaGreatDoorM49
namespace Go.Proofs.YtkijpphmiogbbaaGreatDoor
open Go

/-- It can start goroutines: by the way to the go statement (the whole closure outgrows the lid). -/
theorem parts_goes : Rows.partsCard.goes = Rows.partsCard.stood.row.goesBy Tryz.pinned.checked.prog :=
  Cl.goesBy_of (f := 7) (by kernel_rfl) (Cl.way _ (by kernel_rfl))
end Go.Proofs.YtkijpphmiogbbaaGreatDoor
