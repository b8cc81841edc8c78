import Derived.Test.YtikcbdpijjafjaaGreatDoorRows
import Derived.ProofKit
import Derived.JoinedOf
namespace Go.Proofs.YtikcbdpijjafjaaGreatDoor
open Go

theorem rings_named : Tryz.pinned.checked.prog.funcNamed Rows.ringsRow.func = some 4 := by kernel_rfl
set_option maxHeartbeats 40000000 in
theorem rings_cells : joinedFacts Tryz.pinned.checked.prog 4 Tryz.f4 Rows.ringsSpec Rows.ringsRow = true := by
  unfold joinedFacts
  simp only [Bool.and_eq_true]
  repeat' refine And.intro ?_ ?_
  all_goals as_aux_lemma => kernel_rfl
end Go.Proofs.YtikcbdpijjafjaaGreatDoor
