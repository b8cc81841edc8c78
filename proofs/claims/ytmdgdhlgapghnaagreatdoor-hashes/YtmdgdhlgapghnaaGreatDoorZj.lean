import Derived.Test.YtmdgdhlgapghnaaGreatDoorZi
import Derived.Test.YtmdgdhlgapghnaaGreatDoorCards
import Derived.Test.YtmdgdhlgapghnaaGreatDoorTie
import Derived.SevenTiedAt
namespace Go.Proofs.YtmdgdhlgapghnaaGreatDoor
open Go

theorem hashes_card : Rows.HashesCardSaid := by
  have h1 := Claim7.tied_new_at .later [.data, .data, .data, .data, .handle, .pinned] true (Claim7.new_of_sixth hashes_said (true, "a790df38f307cd384c5bdb036a483df70529b8fb2d7dc07c9c3d50047c3c10e2") true rfl ⟨rfl, rfl⟩ (by kernel_rfl) rfl
    (fun f fn hf hfn => by
      obtain rfl : f = 3 := Option.some.inj ((show Tryz.prog.funcNamed "latticekeys/latticekeyslaw.Hashes" = some 3 by kernel_rfl).symm.trans hf) |>.symm
      obtain rfl : fn = Tryz.f3 := (Option.some.inj (Tryz.func3.symm.trans hfn)).symm
      exact ⟨by kernel_rfl, fun j t ht => by
        rw [Tryz.params3] at ht
        have hm : t ∈ [22] := by simpa using Array.mem_of_getElem? ht
        have hall : ([22].all fun u => !Tryz.prog.wantsStandIn u) = true := by kernel_rfl
        exact (show Tryz.prog.wantsStandIn t = false by simpa using List.all_eq_true.1 hall t hm)⟩)) (by kernel_rfl)
  exact ⟨h1, (fun D hD => by cases hD), hashes_row_tie, (fun h => by cases h), by kernel_rfl⟩
#print axioms hashes_card
end Go.Proofs.YtmdgdhlgapghnaaGreatDoor
