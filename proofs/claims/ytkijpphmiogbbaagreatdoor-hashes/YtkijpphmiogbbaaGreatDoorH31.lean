import Derived.Test.YtkijpphmiogbbaaGreatDoorH30
namespace Go.Proofs.YtkijpphmiogbbaaGreatDoor
open Go.RowKit

/-- The bodies of a code's loops, outer ones first. -/
def loopsOf : Code → List Code
  | .loop c => c :: loopsOf c
  | .seq a b => loopsOf a ++ loopsOf b
  | .block _ c => loopsOf c
  | .cond _ a b => loopsOf a ++ loopsOf b
  | _ => []
end Go.Proofs.YtkijpphmiogbbaaGreatDoor
