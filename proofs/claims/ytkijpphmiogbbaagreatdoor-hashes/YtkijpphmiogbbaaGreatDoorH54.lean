import Derived.Test.YtkijpphmiogbbaaGreatDoorH53
import Derived.Test.YtkijpphmiogbbaaGreatDoorCards
import Derived.Test.YtkijpphmiogbbaaGreatDoorTie
import Derived.SevenTiedAt
namespace Go.Proofs.YtkijpphmiogbbaaGreatDoor
open Go

theorem hashes_main : Tryz.pinned.checked.prog.mainIs = some (true, "205e03e9b1bdba3fd37f442cd1e1e7faef039afd10462e2f227b48a5b9e16811".toList) := by kernel_rfl
theorem hashes_looks : true = Tryz.pinned.checked.prog.looks [] := by kernel_rfl
set_option maxHeartbeats 4000000 in
theorem hashes_card : Rows.HashesCardSaid := by
  have h1 := Claim7.tied_new_at .later [.data, .data, .data, .data, .handle, .pinned] true (Claim7.new_of_sixth hashes_said (true, "205e03e9b1bdba3fd37f442cd1e1e7faef039afd10462e2f227b48a5b9e16811") true rfl ⟨rfl, rfl⟩ hashes_main rfl
    (fun f fn hf hfn => by
      obtain rfl : f = 3 := Option.some.inj ((show Tryz.prog.funcNamed "latticekeys/latticekeyslaw.Hashes" = some 3 by kernel_rfl).symm.trans hf) |>.symm
      obtain rfl : fn = Tryz.f3 := (Option.some.inj (Tryz.func3.symm.trans hfn)).symm
      exact ⟨hashes_looks, fun j t ht => by
        rw [Tryz.params3] at ht
        have hm : t ∈ [22] := by simpa using Array.mem_of_getElem? ht
        have hall : ([22].all fun u => !Tryz.prog.wantsStandIn u) = true := by kernel_rfl
        exact (show Tryz.prog.wantsStandIn t = false by simpa using List.all_eq_true.1 hall t hm)⟩)) (by kernel_rfl)
  exact ⟨h1, (fun D hD => by cases hD), hashes_row_tie, (fun h => by cases h), hashes_goes⟩
#print axioms hashes_card
end Go.Proofs.YtkijpphmiogbbaaGreatDoor
