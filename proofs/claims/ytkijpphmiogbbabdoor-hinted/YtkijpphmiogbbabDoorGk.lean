import Derived.Test.YtkijpphmiogbbabDoorL1k
import Derived.Test.YtkijpphmiogbbabDoorDe
namespace Go.Proofs.YtkijpphmiogbbabDoor
open Go.RowKit
attribute [local go_sem ↓] Go.wp_at_zero Go.wp_at_succ
attribute [local go_sem] Tryd.zv24 Tryd.zv51

/-- Which of n things c speaks of. -/
def pickI (c n : Int) : Nat := ((if c < 0 then -(c + 1) else c) % n).toNat
theorem pickI_lt (c n : Int) (hn : 0 < n) : (pickI c n : Int) < n := by
  unfold pickI
  have h2 := Int.emod_nonneg (if c < 0 then -(c + 1) else c) (show n ≠ 0 by omega)
  have h3 := Int.emod_lt_of_pos (if c < 0 then -(c + 1) else c) hn
  omega
theorem pick_det (c n : Int) (w : World) (hc : -9223372036854775808 ≤ c) (hc' : c ≤ 9223372036854775807) (hn : 0 < n) (hn' : n ≤ 9223372036854775807) :
    Calls Tryd.prog 10 #[.int .i64 c, .int .i64 n] w fun e w' => e = .returned (.int .i64 (pickI c n)) ∧ w' = w := by
  unfold pickI
  by_cases h : c < 0
  · have h1 : -((c + 1).tmod n) = (-(c + 1)) % n := by rw [← Int.neg_tmod, Int.tmod_eq_emod_of_nonneg (by omega)]
    have h2 := Int.emod_nonneg (-(c + 1)) (show n ≠ 0 by omega)
    have h3 := Int.emod_lt_of_pos (-(c + 1)) hn
    have HK : Hid (-((c + 1).tmod n) = (((-(c + 1)) % n).toNat : Int)) := by show _ = _; rw [h1]; omega
    clear h1
    rw [if_pos h]
    go_enter Tryd.func10, Tryd.ntmps10
    go_wp2
    go_ret
    refine ⟨?_, rfl⟩
    show Ending.returned (.int .i64 (-((c + 1).tmod n))) = _
    rw [HK.out]
  · have h2 := Int.emod_nonneg c (show n ≠ 0 by omega)
    have h3 := Int.emod_lt_of_pos c hn
    obtain ⟨r, hr⟩ : ∃ r : Nat, r = (c % n).toNat := ⟨_, rfl⟩
    have HK : Hid (c % n = (r : Int)) := by show _ = _; omega
    rw [if_neg h, ← hr]
    clear hr
    go_enter Tryd.func10, Tryd.ntmps10
    go_wp2
    go_ret
    refine ⟨?_, rfl⟩
    show Ending.returned (.int .i64 (c % n)) = _
    rw [HK.out]
/-- The p-th set. -/
def PSet (p : Nat) (n g : Int) (k o : Nat) : Prop := (p = 0 ∧ n = 44 ∧ g = 95232 ∧ k = 4 ∧ o = 80) ∨ (p = 1 ∧ n = 65 ∧ g = 261888 ∧ k = 6 ∧ o = 55) ∨ (p = 2 ∧ n = 87 ∧ g = 261888 ∧ k = 8 ∧ o = 75)
theorem PSet.is {p : Nat} {n g : Int} {k o : Nat} (h : PSet p n g k o) : IsSet n g k o := by unfold PSet at h; unfold IsSet; omega
theorem pset_ex (p : Nat) (h : p < 3) : ∃ n g k o, PSet p n g k o := by
  have h3 : p = 0 ∨ p = 1 ∨ p = 2 := by omega
  rcases h3 with rfl | rfl | rfl
  · exact ⟨44, 95232, 4, 80, Or.inl ⟨rfl, rfl, rfl, rfl, rfl⟩⟩
  · exact ⟨65, 261888, 6, 55, Or.inr (Or.inl ⟨rfl, rfl, rfl, rfl, rfl⟩)⟩
  · exact ⟨87, 261888, 8, 75, Or.inr (Or.inr ⟨rfl, rfl, rfl, rfl, rfl⟩)⟩
set_option maxHeartbeats 400000 in
theorem signing_det (c : Int) (p : Nat) (n g : Int) (k o : Nat) (w : World) (hc : -9223372036854775808 ≤ c) (hc' : c ≤ 9223372036854775807) (hp : pickI c 3 = p) (hs : PSet p n g k o) :
    Calls Tryd.prog 4 #[.int .i64 c] w fun e w' => e = .returned (.int .i64 n) ∧ w.grownBy w' none := by
  go_enter Tryd.func4, Tryd.ntmps4
  go_wp2_with fail
  refine (pick_det c 3 _ hc hc' (by omega) (by omega)).mono ?_
  rw [hp]
  rintro e w' ⟨rfl, hw⟩
  rw [hw]
  clear hw w' hp
  rcases hs with ⟨rfl, rfl, rfl, rfl, rfl⟩ | ⟨rfl, rfl, rfl, rfl, rfl⟩ | ⟨rfl, rfl, rfl, rfl, rfl⟩
  all_goals (
    go_wp2
    go_ret
    exact ⟨rfl, World.grownBy_alloc _ _ _⟩)
theorem gamma_det (n g k o : Int) (w : World) (h : IsSet n g k o) :
    Calls Tryd.prog 5 #[.int .i64 n] w fun e w' => e = .returned (.int .i64 g) ∧ w' = w := by
  rcases h with ⟨rfl, rfl, rfl, rfl⟩ | ⟨rfl, rfl, rfl, rfl⟩ | ⟨rfl, rfl, rfl, rfl⟩
  all_goals (
    go_enter Tryd.func5, Tryd.ntmps5
    go_wp2
    go_ret
    exact ⟨rfl, rfl⟩)
/-- The number of polynomials, out of the literal. -/
theorem kay_at (p : Nat) (n g : Int) (k o : Nat) (hs : PSet p n g k o) (W : World) (T : TypeId) : (W.alloc (.cells #[.int .i64 4, .int .i64 6, .int .i64 8] T)).cell? ⟨W.heap.size, p, none⟩ = some (.int .i64 (k : Int)) := by
  rw [World.cell?_alloc_new]
  rcases hs with ⟨rfl, rfl, rfl, rfl, rfl⟩ | ⟨rfl, rfl, rfl, rfl, rfl⟩ | ⟨rfl, rfl, rfl, rfl, rfl⟩ <;> rfl
end Go.Proofs.YtkijpphmiogbbabDoor
