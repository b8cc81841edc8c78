import Derived.Test.YtikcbdpijjafjaaGreatDoorRows
import Derived.ProofKit
import Derived.JoinedOf
namespace Go.Proofs.YtikcbdpijjafjaaGreatDoor
open Go

theorem parts_named : Tryz.pinned.checked.prog.funcNamed Rows.partsRow.func = some 7 := by kernel_rfl
set_option maxHeartbeats 40000000 in
theorem parts_cells : joinedFacts Tryz.pinned.checked.prog 7 Tryz.f7 Rows.partsSpec Rows.partsRow = true := by
  unfold joinedFacts
  simp only [Bool.and_eq_true]
  repeat' refine And.intro ?_ ?_
  all_goals as_aux_lemma => kernel_rfl
end Go.Proofs.YtikcbdpijjafjaaGreatDoor
