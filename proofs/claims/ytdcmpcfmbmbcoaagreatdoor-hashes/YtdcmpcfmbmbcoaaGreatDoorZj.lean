import Derived.Test.YtdcmpcfmbmbcoaaGreatDoorZi
import Derived.Test.YtdcmpcfmbmbcoaaGreatDoorCards
import Derived.Test.YtdcmpcfmbmbcoaaGreatDoorTie
import Derived.SevenTiedAt
namespace Go.Proofs.YtdcmpcfmbmbcoaaGreatDoor
open Go

theorem hashes_card : Rows.HashesCardSaid := by
  have h1 := Claim7.tied_new_at .later [.data, .data, .data, .handle] true (Claim7.new_of_sixth hashes_said (true, "114d8f41846306a71fae581f1fb98a1305e9cd2208ef16aa8661d3f2e1459778") true rfl ⟨rfl, rfl⟩ (by kernel_rfl) rfl
    (fun f fn hf hfn => by
      obtain rfl : f = 3 := Option.some.inj ((show Tryz.prog.funcNamed "latticekeys/latticekeyslaw.Hashes" = some 3 by kernel_rfl).symm.trans hf) |>.symm
      obtain rfl : fn = Tryz.f3 := (Option.some.inj (Tryz.func3.symm.trans hfn)).symm
      exact ⟨by kernel_rfl, fun j t ht => by
        rw [Tryz.params3] at ht
        have hm : t ∈ [22] := by simpa using Array.mem_of_getElem? ht
        have hall : ([22].all fun u => !Tryz.prog.wantsStandIn u) = true := by kernel_rfl
        exact (show Tryz.prog.wantsStandIn t = false by simpa using List.all_eq_true.1 hall t hm)⟩)) (by kernel_rfl)
  exact ⟨h1, (fun D hD => by cases hD), hashes_row_tie, (fun h => by cases h), by kernel_rfl⟩
#print axioms hashes_card
end Go.Proofs.YtdcmpcfmbmbcoaaGreatDoor
