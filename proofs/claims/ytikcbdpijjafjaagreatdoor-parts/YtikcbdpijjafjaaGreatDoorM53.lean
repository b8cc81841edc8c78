import Derived.Test.YtikcbdpijjafjaaGreatDoorRows
import Derived.Test.YtikcbdpijjafjaaGreatDoorCards
import Derived.Test.YtikcbdpijjafjaaGreatDoorTie
import Derived.SevenTiedAt
import Derived.Test.YtikcbdpijjafjaaGreatDoorM49
namespace Go.Proofs.YtikcbdpijjafjaaGreatDoor
open Go

/-- It can start goroutines: by the way to the go statement (the whole closure outgrows the lid). -/
theorem parts_goes : Rows.partsCard.goes = Rows.partsCard.stood.row.goesBy Tryz.pinned.checked.prog :=
  Cl.goesBy_of (f := 7) (by kernel_rfl) (Cl.way _ (by kernel_rfl))
end Go.Proofs.YtikcbdpijjafjaaGreatDoor
