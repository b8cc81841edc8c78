import Derived.Test.YtkijpphmiogbbabDe
import Derived.Test.YtkijpphmiogbbabL1k
namespace Go.Proofs.Ytkijpphmiogbbab
open Go.RowKit
attribute [local go_sem ↓] Go.wp_at_zero Go.wp_at_succ
attribute [local go_sem] Try.zv24 Try.zv42

set_option maxHeartbeats 400000 in
theorem signing_any (c : Int) (w : World) (hc : -9223372036854775808 ≤ c) (hc' : c ≤ 9223372036854775807) :
    Calls Try.prog 10 #[.int .i64 c] w fun e w' => ∃ n g k o : Int, IsSet n g k o ∧ e = .returned (.int .i64 n) ∧ w.grownBy w' none := by
  go_enter Try.func10, Try.ntmps10
  go_wp2_with fail
  refine (pick_any c 3 _ hc hc' (by omega) (by omega)).mono ?_
  rintro e w' ⟨k, hk, rfl, hw⟩
  rw [hw]
  clear hw w'
  have h3 : k = 0 ∨ k = 1 ∨ k = 2 := by omega
  clear hk
  rcases h3 with rfl | rfl | rfl
  · go_wp2
    go_ret
    exact ⟨44, 95232, 4, 80, Or.inl ⟨rfl, rfl, rfl, rfl⟩, rfl, World.grownBy_alloc _ _ _⟩
  · go_wp2
    go_ret
    exact ⟨65, 261888, 6, 55, Or.inr (Or.inl ⟨rfl, rfl, rfl, rfl⟩), rfl, World.grownBy_alloc _ _ _⟩
  · go_wp2
    go_ret
    exact ⟨87, 261888, 8, 75, Or.inr (Or.inr ⟨rfl, rfl, rfl, rfl⟩), rfl, World.grownBy_alloc _ _ _⟩
theorem gamma_any (n g k o : Int) (w : World) (h : IsSet n g k o) :
    Calls Try.prog 13 #[.int .i64 n] w fun e w' => e = .returned (.int .i64 g) ∧ w' = w := by
  rcases h with ⟨rfl, rfl, rfl, rfl⟩ | ⟨rfl, rfl, rfl, rfl⟩ | ⟨rfl, rfl, rfl, rfl⟩
  all_goals (
    go_enter Try.func13, Try.ntmps13
    go_wp2
    go_ret
    exact ⟨rfl, rfl⟩)
end Go.Proofs.Ytkijpphmiogbbab
