import Derived.Test.YtkijpphmiogbbaaGreatDoorH20
namespace Go.Proofs.YtkijpphmiogbbaaGreatDoor
open Go.RowKit
attribute [local go_sem ↓] Go.wp_at_zero Go.wp_at_succ

def roundF (L : Nat → Int) : Nat → Int := mixRowsF (turnLanesF (mixColumnsF L))
def permTo (L : Nat → Int) : Nat → (Nat → Int)
  | 0 => L
  | t + 1 => upd (roundF (permTo L t)) 0 (bits BinOp.xor IntKind.u64 (roundF (permTo L t) 0) (rbs t))
def permF (L : Nat → Int) : Nat → Int := permTo L 24

set_option maxHeartbeats 1000000 in
theorem permute_any (b : Nat) (hb4 : 4 ≤ b) (L : Nat → Int) (w : World) (hL : Row w b 25 L) (hG : Globs w) :
    Calls Tryz.prog 275 #[.pointer (some ⟨b, 0, none⟩)] w fun e w' => e = .returned (.tuple #[]) ∧ Keep b w w' ∧ Row w' b 25 (permF L) := by
  go_enter Tryz.func275, Tryz.ntmps275
  go_wp2
  go_loopw [3] (fun i wr => ∃ t : Nat, t ≤ 24 ∧ i = .int .i64 t ∧ Keep b w wr ∧ Row wr b 25 (permTo L t)) (fun i _ => 24 - (intOf i).toNat)
  case atStart => exact ⟨0, by omega, rfl, Keep.refl b w, hL⟩
  case round =>
    obtain ⟨t, ht, rfl, hK, hR⟩ := hrel
    by_cases hlt : t < 24
    · have b0 : (0 : Int) ≤ (t : Int) := by omega
      have b1 : (t : Int) < 24 := by omega
      go_wp2_with fail
      refine (mixColumns_any b _ _ hR).mono ?_
      rintro e w1 ⟨rfl, hK1, hR1⟩
      go_wp2_with fail
      refine (turnLanes_any b hb4 _ _ hR1 (hG.keep (hK.trans hK1) hb4)).mono ?_
      rintro e w2 ⟨rfl, hK2, hR2⟩
      go_wp2_with fail
      refine (mixRows_any b _ _ hR2).mono ?_
      rintro e w3 ⟨rfl, hK3, hR3⟩
      have HK := ((hK.trans hK1).trans hK2).trans hK3
      have r0 := (hG.keep HK hb4).rb t hlt
      have c0 := (hR3 0 (by omega)).1
      have f0 := (hR3 0 (by omega)).2
      clear hK hK1 hK2 hK3 hR hR1 hR2
      have hne : ¬ b = 1 := by omega
      go_wp2
      go_region
      go_wp2
      go_roundw
      case rel => exact ⟨t + 1, by omega, by go_num, (HK.set (by omega) _).drew, (hR3.set (i := 0) (by omega) _).drew⟩
      case measure => simp [intOf]; omega
    · have ht4 : t = 24 := by omega
      subst ht4
      go_wp2
      go_end0
      exact ⟨rfl, hK, hR⟩
end Go.Proofs.YtkijpphmiogbbaaGreatDoor
