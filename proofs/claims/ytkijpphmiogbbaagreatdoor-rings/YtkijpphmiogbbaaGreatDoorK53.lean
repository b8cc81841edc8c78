import Derived.Test.YtkijpphmiogbbaaGreatDoorRows
import Derived.Test.YtkijpphmiogbbaaGreatDoorCards
import Derived.Test.YtkijpphmiogbbaaGreatDoorTie
import Derived.SevenTiedAt
import Derived.Test.YtkijpphmiogbbaaGreatDoorK49
namespace Go.Proofs.YtkijpphmiogbbaaGreatDoor
open Go

/-- It can start goroutines: by the way to the go statement (the whole closure outgrows the lid). -/
theorem rings_goes : Rows.ringsCard.goes = Rows.ringsCard.stood.row.goesBy Tryz.pinned.checked.prog :=
  Cl.goesBy_of (f := 4) (by kernel_rfl) (Cl.way _ (by kernel_rfl))
end Go.Proofs.YtkijpphmiogbbaaGreatDoor
