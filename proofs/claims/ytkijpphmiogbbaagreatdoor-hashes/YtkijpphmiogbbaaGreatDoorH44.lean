import Derived.Test.YtkijpphmiogbbaaGreatDoorH27
namespace Go.Proofs.YtkijpphmiogbbaaGreatDoor
open Go.RowKit
attribute [local go_sem ↓] Go.wp_at_zero Go.wp_at_succ

set_option maxHeartbeats 1000000 in
theorem sum_none (bits : Int) (s : ByteArray) (w : World) (h1 : (bits != 256) = true) (h2 : (bits != 512) = true) :
    Calls Tryz.prog 43 #[.int .i64 bits, .string s] w fun e w' => e = .returned (.tuple #[.string ByteArray.empty, .iface 138 (.int .i64 1)]) ∧ w' = w := by
  go_enter Tryz.func43, Tryz.ntmps43
  go_wp2
  go_ret2
  exact ⟨rfl, rfl⟩
theorem Globs.alloc' {w : World} (h : Globs w) (o : Obj) : Globs (w.alloc o) :=
  ⟨fun i hi => (World.grownBy_alloc w o none).cell (h.tg i hi) (by simp), fun i hi => (World.grownBy_alloc w o none).cell (h.tn i hi) (by simp), fun i hi => (World.grownBy_alloc w o none).cell (h.rb i hi) (by simp), (World.grownBy_alloc w o none).cell h.et (by simp)⟩
set_option maxHeartbeats 1000000 in
theorem spSum_256 (s : ByteArray) (hs : s.size ≤ maxLen) (w : World) (hG : Globs w) (h4 : 4 ≤ w.heap.size) :
    Calls Tryz.prog 93 #[.int .i64 256, .string s] w fun e w' => e = .returned (.string (outStr (finishS (absorbS (startS 136 6) s.data.toList)) 32)) ∧ w.grownBy w' none := by
  have hT : Takes (startS 136 6) := ⟨by decide, by decide, by decide⟩
  have hA := absorbS_takes s.data.toList hT
  go_enter Tryz.func93, Tryz.ntmps93
  go_wp2_with fail
  refine (rateOf_any _ _ (by omega) (by omega)).mono ?_
  rintro e w' ⟨rfl, hw⟩
  rw [hw]
  clear hw w'
  go_wp2_with fail
  refine (start_any w.heap.size 136 6 ⟨fun _ => 0, 0, 0, 0, false⟩ _ (new_sp w 147)).mono ?_
  rintro e w1 ⟨rfl, hg1, hS1⟩
  have hg01 : w.grownBy w1 none := grown_new (World.grownBy_alloc w _ none) hg1 (Nat.le_refl _)
  have hG1 : Globs w1 := (hG.alloc' _).grown hg1 h4
  clear hg1
  go_wp2_with fail
  refine (spAbsorb_any w.heap.size h4 s hs _ hT _ hS1 hG1).mono ?_
  rintro e w2 ⟨rfl, hg2, hS2⟩
  have hg02 := grown_new hg01 hg2 (Nat.le_refl _)
  have hG2 := hG1.grown hg2 h4
  clear hg01 hg2 hS1 hG1
  go_wp2_with fail
  refine (spSqueeze_fresh w.heap.size h4 32 (by omega) _ hA.1 hA.2.2.2 _ hS2 hG2).mono ?_
  rintro e w3 ⟨H, hH, rfl, hg3, hS3, hO⟩
  have hcv := run_str H 32 _ w3 hO
  have hg03 := grown_new hg02 hg3 (Nat.le_refl _)
  clear hg02 hg3 hS2 hG2 hA
  go_wp2
  go_ret
  exact ⟨rfl, hg03⟩
set_option maxHeartbeats 1000000 in
theorem sum_256 (s : ByteArray) (hs : s.size ≤ maxLen) (w : World) (hG : Globs w) (h4 : 4 ≤ w.heap.size) :
    Calls Tryz.prog 43 #[.int .i64 256, .string s] w fun e w' => e = .returned (.tuple #[.string (outStr (finishS (absorbS (startS 136 6) s.data.toList)) 32), .nilIface]) ∧ w.grownBy w' none := by
  go_enter Tryz.func43, Tryz.ntmps43
  go_wp2_with fail
  refine (spSum_256 s hs _ hG h4).mono ?_
  rintro e w1 ⟨rfl, hg1⟩
  go_wp2
  go_ret2
  exact ⟨rfl, hg1⟩
set_option maxHeartbeats 1000000 in
theorem spSum_512 (s : ByteArray) (hs : s.size ≤ maxLen) (w : World) (hG : Globs w) (h4 : 4 ≤ w.heap.size) :
    Calls Tryz.prog 93 #[.int .i64 512, .string s] w fun e w' => e = .returned (.string (outStr (finishS (absorbS (startS 72 6) s.data.toList)) 64)) ∧ w.grownBy w' none := by
  have hT : Takes (startS 72 6) := ⟨by decide, by decide, by decide⟩
  have hA := absorbS_takes s.data.toList hT
  go_enter Tryz.func93, Tryz.ntmps93
  go_wp2_with fail
  refine (rateOf_any _ _ (by omega) (by omega)).mono ?_
  rintro e w' ⟨rfl, hw⟩
  rw [hw]
  clear hw w'
  go_wp2_with fail
  refine (start_any w.heap.size 72 6 ⟨fun _ => 0, 0, 0, 0, false⟩ _ (new_sp w 147)).mono ?_
  rintro e w1 ⟨rfl, hg1, hS1⟩
  have hg01 : w.grownBy w1 none := grown_new (World.grownBy_alloc w _ none) hg1 (Nat.le_refl _)
  have hG1 : Globs w1 := (hG.alloc' _).grown hg1 h4
  clear hg1
  go_wp2_with fail
  refine (spAbsorb_any w.heap.size h4 s hs _ hT _ hS1 hG1).mono ?_
  rintro e w2 ⟨rfl, hg2, hS2⟩
  have hg02 := grown_new hg01 hg2 (Nat.le_refl _)
  have hG2 := hG1.grown hg2 h4
  clear hg01 hg2 hS1 hG1
  go_wp2_with fail
  refine (spSqueeze_fresh w.heap.size h4 64 (by omega) _ hA.1 hA.2.2.2 _ hS2 hG2).mono ?_
  rintro e w3 ⟨H, hH, rfl, hg3, hS3, hO⟩
  have hcv := run_str H 64 _ w3 hO
  have hg03 := grown_new hg02 hg3 (Nat.le_refl _)
  clear hg02 hg3 hS2 hG2 hA
  go_wp2
  go_ret
  exact ⟨rfl, hg03⟩
set_option maxHeartbeats 1000000 in
theorem sum_512 (s : ByteArray) (hs : s.size ≤ maxLen) (w : World) (hG : Globs w) (h4 : 4 ≤ w.heap.size) :
    Calls Tryz.prog 43 #[.int .i64 512, .string s] w fun e w' => e = .returned (.tuple #[.string (outStr (finishS (absorbS (startS 72 6) s.data.toList)) 64), .nilIface]) ∧ w.grownBy w' none := by
  go_enter Tryz.func43, Tryz.ntmps43
  go_wp2_with fail
  refine (spSum_512 s hs _ hG h4).mono ?_
  rintro e w1 ⟨rfl, hg1⟩
  go_wp2
  go_ret2
  exact ⟨rfl, hg1⟩
set_option maxHeartbeats 1000000 in
theorem told_err (k : Int) (w : World) (hG : Globs w) :
    Calls Tryz.prog 95 #[.iface 138 (.int .i64 k)] w fun e w' => e = .returned (.int .i64 k) ∧ w.grownBy w' none := by
  have hlt : 0 < w.heap.size := by have := cell_lt hG.et; simpa using this
  have hg : (w.alloc (.cells #[.int .i64 0] 138)).cell? ⟨0, 0, none⟩ = some (.iface 370 (.agg #[.pointer (some ⟨7, 73, none⟩)])) := by
    rw [World.cell?_alloc_lt _ _ ⟨0, 0, none⟩ hlt]; exact hG.et
  go_enter Tryz.func95, Tryz.ntmps95
  go_wp2_with fail
  refine (as_hit k ⟨w.heap.size, 0, none⟩ (.int .i64 0) _ hg (by simp) (World.frozen?_alloc_at _ _ _ _ rfl)).mono ?_
  rintro e w1 ⟨rfl, hw1⟩
  have g1 : w.grownBy w1 none := by
    rw [hw1]
    refine grown_new (h := w.heap.size) ?_ (grown_set _ _ _ _) (Nat.le_refl _)
    exact grownBy_trans (grownBy_trans (grownBy_trans (grownBy_trans (World.grownBy_alloc _ _ _) (World.grownBy_alloc _ _ _)) (World.grownBy_alloc _ _ _)) (World.grownBy_alloc _ _ _)) (World.grownBy_alloc _ _ _)
  have c1 : w1.cell? ⟨w.heap.size, 0, none⟩ = some (.int .i64 k) := by
    rw [hw1]
    refine cell_same (u := .int .i64 0) ?_
    rw [World.cell?_alloc_lt _ _ ⟨w.heap.size, 0, none⟩ (by simp; omega), World.cell?_alloc_lt _ _ ⟨w.heap.size, 0, none⟩ (by simp; omega), World.cell?_alloc_lt _ _ ⟨w.heap.size, 0, none⟩ (by simp; omega), World.cell?_alloc_lt _ _ ⟨w.heap.size, 0, none⟩ (by simp)]
    simp
  clear hw1 hg
  go_wp2
  go_ret
  exact ⟨rfl, g1⟩
set_option maxHeartbeats 1000000 in
theorem told_nil (w : World) :
    Calls Tryz.prog 95 #[.nilIface] w fun e w' => e = .returned (.int .i64 0) ∧ w' = w := by
  go_enter Tryz.func95, Tryz.ntmps95
  go_wp2
  go_ret
  exact ⟨rfl, rfl⟩
theorem num_any (k : Int) (w : World) :
    Calls Tryz.prog 96 #[.int .i64 k] w fun e w' => e = .returned (.int .i64 k) ∧ w' = w := by
  go_enter Tryz.func96, Tryz.ntmps96
  go_wp2
  go_ret
  exact ⟨rfl, rfl⟩
set_option maxHeartbeats 1000000 in
/-- The law's 'told': an error has this number. -/
theorem ltold_err (k : Int) (w : World) (hG : Globs w) (hk : (k == 0) = false) :
    Calls Tryz.prog 45 #[.iface 138 (.int .i64 k), .int .i64 k] w fun e w' => e = .returned (.bool true) ∧ w.grownBy w' none := by
  go_enter Tryz.func45, Tryz.ntmps45
  go_wp2_with fail
  refine (told_err k _ hG).mono ?_
  rintro e w1 ⟨rfl, hg1⟩
  go_wp2_with (first | (go_at_call 96; refine (num_any _ _).mono ?_; rintro e w' ⟨rfl, rfl⟩))
  go_ret
  exact ⟨rfl, hg1⟩
set_option maxHeartbeats 1000000 in
theorem ltold_nil (w : World) :
    Calls Tryz.prog 45 #[.nilIface, .int .i64 0] w fun e w' => e = .returned (.bool true) ∧ w' = w := by
  go_enter Tryz.func45, Tryz.ntmps45
  go_wp2_with (first | (go_at_call 95; refine (told_nil _).mono ?_; rintro e w' ⟨rfl, rfl⟩) | (go_at_call 96; refine (num_any _ _).mono ?_; rintro e w' ⟨rfl, rfl⟩))
  go_ret
  exact ⟨rfl, rfl⟩
end Go.Proofs.YtkijpphmiogbbaaGreatDoor
