import Derived.Test.YtikcbdpijjafjaaGreatDoorH53
import Derived.Test.YtikcbdpijjafjaaGreatDoorCards
import Derived.Test.YtikcbdpijjafjaaGreatDoorTie
import Derived.SevenTiedAt
namespace Go.Proofs.YtikcbdpijjafjaaGreatDoor
open Go

theorem hashes_main : Tryz.pinned.checked.prog.mainIs = some (true, "11685ae0c82c85d833ee6927e01c151c9a4c9a936fae26b831c54b472377a0cd".toList) := by kernel_rfl
theorem hashes_looks : true = Tryz.pinned.checked.prog.looks [] := by kernel_rfl
set_option maxHeartbeats 4000000 in
theorem hashes_card : Rows.HashesCardSaid := by
  have h1 := Claim7.tied_new_at .later [.data, .data, .data, .data, .handle, .pinned] true (Claim7.new_of_sixth hashes_said (true, "11685ae0c82c85d833ee6927e01c151c9a4c9a936fae26b831c54b472377a0cd") true rfl ⟨rfl, rfl⟩ hashes_main rfl
    (fun f fn hf hfn => by
      obtain rfl : f = 3 := Option.some.inj ((show Tryz.prog.funcNamed "latticekeys/latticekeyslaw.Hashes" = some 3 by kernel_rfl).symm.trans hf) |>.symm
      obtain rfl : fn = Tryz.f3 := (Option.some.inj (Tryz.func3.symm.trans hfn)).symm
      exact ⟨hashes_looks, fun j t ht => by
        rw [Tryz.params3] at ht
        have hm : t ∈ [22] := by simpa using Array.mem_of_getElem? ht
        have hall : ([22].all fun u => !Tryz.prog.wantsStandIn u) = true := by kernel_rfl
        exact (show Tryz.prog.wantsStandIn t = false by simpa using List.all_eq_true.1 hall t hm)⟩)) (by kernel_rfl)
  exact ⟨h1, (fun D hD => by cases hD), hashes_row_tie, (fun h => by cases h), hashes_goes⟩
#print axioms hashes_card
end Go.Proofs.YtikcbdpijjafjaaGreatDoor
