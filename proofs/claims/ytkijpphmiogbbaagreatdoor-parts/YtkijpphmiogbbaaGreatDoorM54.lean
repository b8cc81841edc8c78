import Derived.Test.YtkijpphmiogbbaaGreatDoorM52
import Derived.Test.YtkijpphmiogbbaaGreatDoorCards
import Derived.Test.YtkijpphmiogbbaaGreatDoorM53
import Derived.Test.YtkijpphmiogbbaaGreatDoorTie
import Derived.SevenTiedAt
namespace Go.Proofs.YtkijpphmiogbbaaGreatDoor
open Go

theorem parts_main : Tryz.pinned.checked.prog.mainIs = some (true, "205e03e9b1bdba3fd37f442cd1e1e7faef039afd10462e2f227b48a5b9e16811".toList) := by kernel_rfl
theorem parts_looks : true = Tryz.pinned.checked.prog.looks [] := by kernel_rfl
set_option maxHeartbeats 4000000 in
theorem parts_card : Rows.PartsCardSaid := by
  have h1 := Claim7.tied_new_at .later [.data, .data, .data, .data, .handle, .pinned] true (Claim7.new_of_sixth parts_said (true, "205e03e9b1bdba3fd37f442cd1e1e7faef039afd10462e2f227b48a5b9e16811") true rfl ⟨rfl, rfl⟩ parts_main rfl
    (fun f fn hf hfn => by
      obtain rfl : f = 7 := Option.some.inj ((show Tryz.prog.funcNamed "latticekeys/latticekeyslaw.Parts" = some 7 by kernel_rfl).symm.trans hf) |>.symm
      obtain rfl : fn = Tryz.f7 := (Option.some.inj (Tryz.func7.symm.trans hfn)).symm
      exact ⟨parts_looks, fun j t ht => by
        rw [Tryz.params7] at ht
        have hm : t ∈ [22] := by simpa using Array.mem_of_getElem? ht
        have hall : ([22].all fun u => !Tryz.prog.wantsStandIn u) = true := by kernel_rfl
        exact (show Tryz.prog.wantsStandIn t = false by simpa using List.all_eq_true.1 hall t hm)⟩)) (by kernel_rfl)
  exact ⟨h1, (fun D hD => by cases hD), parts_row_tie, (fun h => by cases h), parts_goes⟩
#print axioms parts_card
end Go.Proofs.YtkijpphmiogbbaaGreatDoor
