import Derived.Test.YtkijpphmiogbbaaDoorP
import Derived.Test.YtkijpphmiogbbaaDoorCards
import Derived.Test.YtkijpphmiogbbaaDoorTie
import Derived.SevenTiedAt
namespace Go.Proofs.YtkijpphmiogbbaaDoor
open Go

theorem streams_card : Rows.StreamsCardSaid :=
  Claim7.holds_tied_plain_at .later [] [.data, .data, .data, .handle] true (true, "1e288083d424a21917a419defd8c430baa90ee7945ae52ead23fb30d551a8019") true
    streams_said (fun _ h => by cases h) (by kernel_rfl) (fun _ h => by cases h) streams_row_tie rfl ⟨rfl, rfl⟩ (by kernel_rfl) rfl
    (fun f fn hf hfn => by
      obtain rfl : f = 3 := Option.some.inj ((show Tryd.prog.funcNamed "latticekeys/latticekeyskeep.Streams" = some 3 by kernel_rfl).symm.trans hf) |>.symm
      obtain rfl : fn = Tryd.f3 := (Option.some.inj (Tryd.func3.symm.trans hfn)).symm
      exact ⟨by kernel_rfl, fun j t ht => by
        rw [Tryd.params3] at ht
        have hm : t ∈ [3, 9, 22] := by simpa using Array.mem_of_getElem? ht
        have hall : ([3, 9, 22].all fun u => !Tryd.prog.wantsStandIn u) = true := by kernel_rfl
        exact (show Tryd.prog.wantsStandIn t = false by simpa using List.all_eq_true.1 hall t hm)⟩)
    (by kernel_rfl)
#print axioms streams_card
end Go.Proofs.YtkijpphmiogbbaaDoor
