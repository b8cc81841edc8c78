import Derived.Test.YtkijpphmiogbbabDoorGg
namespace Go.Proofs.YtkijpphmiogbbabDoor
open Go.RowKit
attribute [local go_sem ↓] Go.wp_at_zero Go.wp_at_succ
attribute [local go_sem] Tryd.zv24 Tryd.zv51

theorem bytes_none (t : ByteArray) (h : t.size = 0) : t = ByteArray.mk #[] := by
  cases t with
  | mk d => have : d.size = 0 := h
            rw [Array.size_eq_zero_iff] at this
            rw [this]
set_option maxHeartbeats 1000000 in
theorem trimR_any (s : ByteArray) (w : World) (hs : s.size ≤ 1000) (hz : ∀ j, j < s.size → txH s j = 0) :
    Calls Tryd.prog 34 #[.string s, .int .u8 0] w fun e w' => e = .returned (.string (ByteArray.mk #[])) ∧ w.grownBy w' none := by
  have HZ : Hid (∀ j, j < s.size → txH s j = 0) := hz
  clear hz
  go_enter Tryd.func34, Tryd.ntmps34
  go_wp2
  go_loopw [0] (fun v wr => ∃ t : ByteArray, v = .string t ∧ t.size ≤ 1000 ∧ Hid (∀ j, j < t.size → txH t j = 0) ∧ w.grownBy wr none) (fun v _ => match v with | .string t => t.size | _ => 0)
  case atStart => exact ⟨s, rfl, hs, HZ, World.grownBy.refl _ _⟩
  case round =>
    clear HZ
    obtain ⟨t, rfl, ht, HZ, hg⟩ := hrel
    by_cases h0 : 0 < t.size
    · have b0 : (0 : Int) < (t.size : Int) := by omega
      have x1 : ∀ W, (Instr.index 9 (.string t) (.int .i64 ((t.size : Int) - 1))).run Tryd.prog W = .ok (.int .u8 0) W := fun W => by
        have h := run_ixH t (t.size - 1) (by omega) W
        rw [HZ.out (t.size - 1) (by omega), Int.ofNat_sub (by omega)] at h
        exact h
      go_wp2
      go_roundw
      case rel =>
        refine ⟨t.extract 0 (t.size - 1), ?_, by simp; omega, fun j hj => ?_, hg⟩
        · congr 2 <;> omega
        · have hj' : j < t.size - 1 := by simpa using hj
          rw [txH_ext t 0 (t.size - 1) j (by omega) (by omega), Nat.zero_add]
          exact HZ.out j (by omega)
      case measure => simp; omega
    · have e0 : t = ByteArray.mk #[] := bytes_none t (by omega)
      subst e0
      go_wp2
      go_ret
      exact ⟨rfl, hg⟩
set_option maxHeartbeats 1000000 in
theorem trimL_none (w : World) :
    Calls Tryd.prog 33 #[.string (ByteArray.mk #[]), .int .u8 0] w fun e w' => e = .returned (.string (ByteArray.mk #[])) ∧ w.grownBy w' none := by
  go_enter Tryd.func33, Tryd.ntmps33
  go_wp2
  go_loopw [0] (fun v wr => v = .string (ByteArray.mk #[]) ∧ w.grownBy wr none) (fun _ _ => 0)
  case atStart => exact ⟨rfl, World.grownBy.refl _ _⟩
  case round =>
    obtain ⟨rfl, hg⟩ := hrel
    go_wp2
    go_ret
    exact ⟨rfl, hg⟩
set_option maxHeartbeats 1000000 in
set_option maxRecDepth 20000 in
theorem trim_any (s : ByteArray) (w : World) (hs : s.size ≤ 1000) (hz : ∀ j, j < s.size → txH s j = 0) :
    Calls Tryd.prog 30 #[.string s, .string (ByteArray.mk #[0])] w fun e w' => e = .returned (.string (ByteArray.mk #[])) ∧ w.grownBy w' none := by
  by_cases h0 : s.size = 0
  · have e0 := bytes_none s h0
    subst e0
    go_enter Tryd.func30, Tryd.ntmps30
    go_wp2
    go_ret
    exact ⟨rfl, World.grownBy.refl _ _⟩
  · have HT : Hid (∀ W, Calls Tryd.prog 34 #[.string s, .int .u8 0] W fun e w' => e = .returned (.string (ByteArray.mk #[])) ∧ W.grownBy w' none) := fun W => trimR_any s W hs hz
    have HL : Hid (∀ W, Calls Tryd.prog 33 #[.string (ByteArray.mk #[]), .int .u8 0] W fun e w' => e = .returned (.string (ByteArray.mk #[])) ∧ W.grownBy w' none) := fun W => trimL_none W
    have d0 : s.toList.isEmpty = false := by
      rw [ByteArray.toList_eq]
      cases h : s.data.toList with
      | nil =>
        exfalso; apply h0
        have h2 := congrArg List.length h
        rw [Array.length_toList] at h2
        exact h2
      | cons a l => rfl
    clear hz h0
    go_enter Tryd.func30, Tryd.ntmps30
    go_wp2_with fail
    go_region_with (first | (go_at_call 34; refine (HT.out _).mono ?_; rintro e w5 ⟨rfl, g5⟩) | (go_at_call 33; refine (HL.out _).mono ?_; rintro e w6 ⟨rfl, g6⟩))
    all_goals (
      go_wp2
      go_ret
      exact ⟨rfl, grownBy_trans (grown_drew (World.grownBy.refl w none)) (grownBy_trans g5 g6)⟩)
end Go.Proofs.YtkijpphmiogbbabDoor
