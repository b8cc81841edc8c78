import Derived.Test.YtkijpphmiogbbaaGreatDoorProg
import Derived.Test.YtkijpphmiogbbaaGreatDoorH02
import Derived.WalkKit
import Derived.WalkLawsBesides
import Derived.WalkSpells
import Derived.BigQuiet
import Derived.Deep.QuietTactic
import Derived.Deep.RegionHeld3
import Derived.Deep.DrawnRows
import Derived.BigRegion
import Derived.Deep.RegionWith
namespace Go.Proofs.YtkijpphmiogbbaaGreatDoor
open Go.RowKit

theorem and63 (k : Int) (h0 : 0 ≤ k) (h1 : k < 64) : bits BinOp.and IntKind.u64 k 63 = k := by
  have h : ∀ n : Fin 64, bits BinOp.and IntKind.u64 ((n.val : Nat) : Int) 63 = ((n.val : Nat) : Int) := by decide +kernel
  have := h ⟨k.toNat, by omega⟩
  simpa [Int.toNat_of_nonneg h0] using this

set_option maxHeartbeats 400000 in
theorem shift_any (i : Int) (w : World) (h0 : 0 ≤ i) (h1 : i < 200) :
    Calls Tryz.prog 274 #[.int .i64 i] w fun e w' => e = .returned (.int .i64 (i % 8 * 8)) ∧ w' = w := by
  go_enter Tryz.func274, Tryz.ntmps274
  go_wp2
  go_ret
  exact ⟨rfl, rfl⟩

def rotI (x k : Int) : Int := bits BinOp.or IntKind.u64 (IntKind.u64.wrap (x * 2 ^ k.toNat)) (x / 2 ^ (64 - k).toNat)
set_option maxHeartbeats 400000 in
theorem rot_any (x k : Int) (w : World) (h0 : 0 ≤ k) (h1 : k < 64) :
    Calls Tryz.prog 370 #[.int .u64 x, .int .i64 k] w fun e w' => e = .returned (.int .u64 (rotI x k)) ∧ w' = w := by
  have hk := and63 k h0 h1
  go_enter Tryz.func370, Tryz.ntmps370
  go_wp2
  go_ret
  exact ⟨rfl, rfl⟩

attribute [local go_sem ↓] Go.wp_at_zero Go.wp_at_succ
/-- What 'mix' stores: the lane v with byte c at place n of the state. -/
def mixI (v c : Int) (n : Nat) : Int := bits BinOp.xor IntKind.u64 v (IntKind.u64.wrap (IntKind.u64.wrap c * 2 ^ ((n : Int) % 8 * 8).toNat))
set_option maxHeartbeats 400000 in
theorem mix_any (b n q : Nat) (c v : Int) (w : World) (h1 : n < 200) (hq : (n : Int) / 8 = (q : Int)) (hL : w.cell? ⟨b, q, none⟩ = some (.int .u64 v)) (hf : w.frozen? ⟨b, q, none⟩ = false) :
    Calls Tryz.prog 186 #[.pointer (some ⟨b, 0, none⟩), .int .i64 n, .int .u8 c] w fun e w' => e = .returned (.tuple #[]) ∧ w' = (w.setCell ⟨b, q, none⟩ (.int .u64 (mixI v c n))).drew := by
  have b1 : (0 : Int) ≤ (q : Int) := by omega
  have b2 : (q : Int) < 25 := by omega
  have hq2 : (n : Int).tdiv 8 = (q : Int) := by rw [Int.tdiv_eq_ediv_of_nonneg (by omega)]; exact hq
  have hq3 : IntKind.i64.wrap (q : Int) = q := by rw [IntKind.wrap_i64] <;> omega
  have hq4 : wrap64 (q : Int) = q := by unfold wrap64; omega
  go_enter Tryz.func186, Tryz.ntmps186
  go_region_with (first | (go_at_call 274; refine (shift_any _ _ (by omega) (by omega)).mono ?_; rintro e w' ⟨rfl, rfl⟩))
  all_goals go_end0
  all_goals exact ⟨rfl, rfl⟩
end Go.Proofs.YtkijpphmiogbbaaGreatDoor
