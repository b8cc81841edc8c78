import Derived.Test.YtikcbdpijjafjaaGreatDoorRows
import Derived.Test.YtikcbdpijjafjaaGreatDoorCards
import Derived.Test.YtikcbdpijjafjaaGreatDoorTie
import Derived.SevenTiedAt
namespace Go.Proofs.YtikcbdpijjafjaaGreatDoor
open Go

/-- A closed fact by itself: together with the others it outgrows the lid. -/
theorem rings_goes : Rows.ringsCard.goes = Rows.ringsCard.stood.row.goesBy Tryz.pinned.checked.prog := by kernel_rfl
end Go.Proofs.YtikcbdpijjafjaaGreatDoor
