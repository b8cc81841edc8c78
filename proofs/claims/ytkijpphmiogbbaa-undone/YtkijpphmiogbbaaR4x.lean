import Derived.Test.YtkijpphmiogbbaaR1x
import Derived.Test.YtkijpphmiogbbaaS1x
import Derived.Lib.Tables
import Derived.Laws.BitsAllLaws
namespace Go.Proofs.Ytkijpphmiogbbaa
open Go.RowKit
attribute [local go_sem ↓] Go.wp_at_zero Go.wp_at_succ

theorem rev8_lib (i : Nat) (h : i < 256) : Lib.rev8 (i : Int) = ((rev8 i : Nat) : Int) := by
  have : ∀ i : Fin 256, Lib.rev8 ((i.val : Nat) : Int) = ((rev8 i.val : Nat) : Int) := by decide +kernel
  exact this ⟨i, h⟩
theorem rev8_lt (i : Nat) (h : i < 256) : rev8 i < 256 := by
  have : ∀ i : Fin 256, rev8 i.val < 256 := by decide +kernel
  exact this ⟨i, h⟩
set_option maxHeartbeats 1000000 in
theorem reverse16_any (i : Nat) (w : World) (h : i < 256) :
    Calls Try.prog 72 #[.int .u16 i] w fun e w' => e = .returned (.int .u16 ((rev8 i * 256 : Nat) : Int)) ∧ w.grownBy w' none := by
  have hr := rev8_lib i h
  have hl := rev8_lt i h
  have e0 : (i : Int) / 256 = 0 := by omega
  have e1 : bits BinOp.and IntKind.u16 (i : Int) 255 = (i : Int) := by
    have : ∀ i : Fin 256, bits BinOp.and IntKind.u16 ((i.val : Nat) : Int) 255 = ((i.val : Nat) : Int) := by decide +kernel
    exact this ⟨i, h⟩
  have e2 : Lib.rev8 0 = 0 := by decide +kernel
  have i0 : (0 : Int) ≤ (i : Int) := by omega
  have i1 : (i : Int) ≤ 255 := by omega
  generalize rev8 i = r at *
  have e3 : bits BinOp.or IntKind.u16 0 ((r : Int) * 256) = (r : Int) * 256 := by
    have : ∀ r : Fin 256, bits BinOp.or IntKind.u16 0 (((r.val : Nat) : Int) * 256) = ((r.val : Nat) : Int) * 256 := by decide +kernel
    exact this ⟨r, hl⟩
  go_enter Try.func72, Try.ntmps72
  go_wp2
  go_region
  all_goals (
    go_wp2
    go_ret
    refine ⟨?_, grown_drew (World.grownBy.refl _ _)⟩
    show Ending.returned (.int .u16 ((r : Int) * 256)) = _
    simp)
set_option maxHeartbeats 400000 in
set_option maxRecDepth 100000 in
theorem len_128 (w : World) : Calls Try.prog 63 #[.int .u64 128] w fun e w' => e = .returned (.int .i64 8) ∧ w.grownBy w' none := by
  have l1 : Lib.len8 128 = 8 := by decide +kernel
  go_enter Try.func63, Try.ntmps63
  go_wp2_with go_in
  go_ret
  exact ⟨rfl, World.grownBy.refl _ _⟩
set_option maxHeartbeats 400000 in
set_option maxRecDepth 100000 in
theorem len_256 (w : World) : Calls Try.prog 63 #[.int .u64 256] w fun e w' => e = .returned (.int .i64 9) ∧ w.grownBy w' none := by
  have l1 : Lib.len8 1 = 1 := by decide +kernel
  go_enter Try.func63, Try.ntmps63
  go_wp2_with go_in
  go_ret
  exact ⟨rfl, World.grownBy.refl _ _⟩
set_option maxHeartbeats 400000 in
theorem reversed_7 (i : Nat) (w : World) (h : i < 128) :
    Calls Try.prog 64 #[.int .i64 i, .int .i64 7] w fun e w' => e = .returned (.int .i64 ((rev8 i / 2 : Nat) : Int)) ∧ w.grownBy w' none := by
  have hl := rev8_lt i (by omega)
  have HC := hid_of (reverse16_any i w (by omega))
  have e1 : (rev8 i * 256) / 512 = rev8 i / 2 := by omega
  rw [← e1]
  generalize rev8 i = r at *
  have e2 : (((r * 256 : Nat) : Int)) / 512 = (((r * 256) / 512 : Nat) : Int) := by omega
  obtain ⟨x, hx⟩ : ∃ x, x = r * 256 := ⟨_, rfl⟩
  rw [← hx] at HC e2 ⊢
  have hx1 : x < 65536 := by omega
  clear hx e1
  generalize x / 512 = y at *
  go_enter Try.func64, Try.ntmps64
  go_wp2_with (first | (go_at_call 72; refine HC.out.mono ?_; rintro e w1 ⟨rfl, g1⟩))
  go_ret
  exact ⟨rfl, g1⟩
set_option maxHeartbeats 400000 in
theorem reversed_8 (i : Nat) (w : World) (h : i < 256) :
    Calls Try.prog 64 #[.int .i64 i, .int .i64 8] w fun e w' => e = .returned (.int .i64 ((rev8 i : Nat) : Int)) ∧ w.grownBy w' none := by
  have hl := rev8_lt i (by omega)
  have HC := hid_of (reverse16_any i w (by omega))
  have e1 : (rev8 i * 256) / 256 = rev8 i := by omega
  rw [← e1]
  generalize rev8 i = r at *
  have e2 : (((r * 256 : Nat) : Int)) / 256 = (((r * 256) / 256 : Nat) : Int) := by omega
  obtain ⟨x, hx⟩ : ∃ x, x = r * 256 := ⟨_, rfl⟩
  rw [← hx] at HC e2 ⊢
  have hx1 : x < 65536 := by omega
  clear hx e1
  generalize x / 256 = y at *
  go_enter Try.func64, Try.ntmps64
  go_wp2_with (first | (go_at_call 72; refine HC.out.mono ?_; rintro e w1 ⟨rfl, g1⟩))
  go_ret
  exact ⟨rfl, g1⟩
end Go.Proofs.Ytkijpphmiogbbaa
