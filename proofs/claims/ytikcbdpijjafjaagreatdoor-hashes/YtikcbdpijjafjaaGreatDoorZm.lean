import Derived.Test.YtikcbdpijjafjaaGreatDoorRows
import Derived.ProofKit
import Derived.JoinedOf
namespace Go.Proofs.YtikcbdpijjafjaaGreatDoor
open Go

theorem hashes_named : Tryz.pinned.checked.prog.funcNamed Rows.hashesRow.func = some 3 := by kernel_rfl
set_option maxHeartbeats 40000000 in
theorem hashes_cells : joinedFacts Tryz.pinned.checked.prog 3 Tryz.f3 Rows.hashesSpec Rows.hashesRow = true := by
  unfold joinedFacts
  simp only [Bool.and_eq_true]
  repeat' refine And.intro ?_ ?_
  all_goals as_aux_lemma => kernel_rfl
end Go.Proofs.YtikcbdpijjafjaaGreatDoor
