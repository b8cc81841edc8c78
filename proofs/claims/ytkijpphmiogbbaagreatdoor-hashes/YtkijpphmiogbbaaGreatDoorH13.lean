import Derived.Test.YtkijpphmiogbbaaGreatDoorH10
import Derived.Test.YtkijpphmiogbbaaGreatDoorH12
namespace Go.Proofs.YtkijpphmiogbbaaGreatDoor.Z
open Go.RowKit
attribute [local go_sem ↓] Go.wp_at_zero Go.wp_at_succ
variable {X : Side} {B c : Nat} {w : World}

theorem owner_own (hX : X.Local) (hc : c ≤ 40000) (o : OpV) (ho : OpOK o) (h1 : 1 ≤ o.kind) (h7 : o.kind ≤ 7) (h : SW X B c w) :
    Calls Tryz.prog 15 #[.pointer (some ⟨B, 0, none⟩), opVal o] w fun e w' => e = .returned (.bool true) ∧ SW X B (c + 1) w' := by
  have hk : o.kind = 1 ∨ o.kind = 2 ∨ o.kind = 3 ∨ o.kind = 4 ∨ o.kind = 5 ∨ o.kind = 6 ∨ o.kind = 7 := by omega
  rcases hk with hk | hk | hk | hk | hk | hk | hk
  · exact owner_1 hX hc o ho hk h
  · exact owner_2 hX hc o ho hk h
  · exact owner_3 hX hc o ho hk h
  · exact owner_4 hX hc o ho hk h
  · exact owner_5 hX hc o ho hk h
  · exact owner_6 hX hc o ho hk h
  · exact owner_7 hX hc o ho hk h

set_option maxHeartbeats 2000000 in
set_option maxRecDepth 20000 in
theorem step_own (hX : X.Local) (hc : c ≤ 40000) (o : OpV) (ho : OpOK o) (h1 : 1 ≤ o.kind) (h7 : o.kind ≤ 7) (h : SW X B c w) :
    Calls Tryz.prog 14 #[.pointer (some ⟨B, 0, none⟩), opVal o] w fun e w' => e = .returned (.bool true) ∧ SW X B (c + 2) w' := by
  have hB : SW X B c (opBox w o) := h.keep hX (World.grownBy_alloc w _ none)
  go_enter Tryz.func14, Tryz.ntmps14
  go_wp2_with fail
  refine (owner_own hX hc o ho h1 h7 hB).mono ?_
  rintro e w1 ⟨rfl, h2⟩
  clear hB
  go_wp2
  go_ret
  exact ⟨rfl, SW.more hX h2 (by omega)⟩
set_option maxHeartbeats 2000000 in
set_option maxRecDepth 20000 in
theorem step_none (hX : X.Local) (hc : c + 1 ≤ 40000) (o : OpV) (ho : OpOK o) (hk : o.kind < 1) (h : SW X B c w) :
    Calls Tryz.prog 14 #[.pointer (some ⟨B, 0, none⟩), opVal o] w fun e w' => e = .returned (.bool true) ∧ SW X B (c + 2) w' := by
  have hB : SW X B c (opBox w o) := h.keep hX (World.grownBy_alloc w _ none)
  have hO := opAt_new w o
  have k8 : ¬ (8 : Int) ≤ o.kind := by omega
  have k12 : ¬ (12 : Int) ≤ o.kind := by omega
  have k18 : ¬ (18 : Int) ≤ o.kind := by omega
  go_enter Tryz.func14, Tryz.ntmps14
  go_wp2_with fail
  refine (owner_none hX (by omega) o ho (Or.inl hk) hB).mono ?_
  rintro e w1 ⟨rfl, hg1⟩
  have h2 := hB.keep hX hg1
  have hO1 := hO.far hg1 (by simp)
  clear hB hO h
  generalize w.heap.size = b at *
  have q0 := hO1.kind
  have q1 := hO1.x
  have q2 := hO1.y
  have q3 := hO1.z
  have q4 := hO1.w
  have q5 := hO1.a
  have q6 := hO1.b
  have q7 := hO1.s
  go_wp2_with fail
  refine (heavy_any hX (by omega) o ho hk h2).mono ?_
  rintro e w2 ⟨rfl, h3⟩
  clear q0 q1 q2 q3 q4 q5 q6 q7 hO1
  obtain ⟨vT, vP, vS, ts, nP, ps, Φ, h3⟩ := h3
  go_wp2_with fail
  refine (hX.looks _ _ _ _ _ _ _ _ _ _ h3 (by omega)).mono ?_
  rintro e w' ⟨rfl, hw⟩
  have h4 := h3.keep hX hw
  clear h3 hw
  go_wp2
  go_ret
  exact ⟨rfl, SW.more hX ⟨_, _, _, _, _, _, _, h4⟩ (by omega)⟩
set_option maxHeartbeats 2000000 in
set_option maxRecDepth 20000 in
theorem step_hash (hX : X.Local) (hc : c + 1 ≤ 40000) (o : OpV) (ho : OpOK o) (h8 : 8 ≤ o.kind) (h11 : o.kind ≤ 11) (hH : Hid (∀ W, SW X B c W → Calls Tryz.prog 16 #[.pointer (some ⟨B, 0, none⟩), opVal o] W fun e W' => e = .returned (.bool true) ∧ SW X B (c + 1) W')) (h : SW X B c w) :
    Calls Tryz.prog 14 #[.pointer (some ⟨B, 0, none⟩), opVal o] w fun e w' => e = .returned (.bool true) ∧ SW X B (c + 2) w' := by
  have hB : SW X B c (opBox w o) := h.keep hX (World.grownBy_alloc w _ none)
  have hO := opAt_new w o
  go_enter Tryz.func14, Tryz.ntmps14
  go_wp2_with fail
  refine (owner_none hX (by omega) o ho (Or.inr (by omega)) hB).mono ?_
  rintro e w1 ⟨rfl, hg1⟩
  have h2 := hB.keep hX hg1
  have hO1 := hO.far hg1 (by simp)
  clear hB hO h
  generalize w.heap.size = b at *
  have q0 := hO1.kind
  have q1 := hO1.x
  have q2 := hO1.y
  have q3 := hO1.z
  have q4 := hO1.w
  have q5 := hO1.a
  have q6 := hO1.b
  have q7 := hO1.s
  go_wp2_with fail
  refine (hH.out _ h2).mono ?_
  rintro e w2 ⟨rfl, h3⟩
  clear q0 q1 q2 q3 q4 q5 q6 q7 hO1
  obtain ⟨vT, vP, vS, ts, nP, ps, Φ, h3⟩ := h3
  go_wp2_with fail
  refine (hX.looks _ _ _ _ _ _ _ _ _ _ h3 (by omega)).mono ?_
  rintro e w' ⟨rfl, hw⟩
  have h4 := h3.keep hX hw
  clear h3 hw
  go_wp2
  go_ret
  exact ⟨rfl, SW.more hX ⟨_, _, _, _, _, _, _, h4⟩ (by omega)⟩
set_option maxHeartbeats 2000000 in
set_option maxRecDepth 20000 in
theorem step_ring (hX : X.Local) (hc : c + 1 ≤ 40000) (o : OpV) (ho : OpOK o) (h12 : 12 ≤ o.kind) (h14 : o.kind ≤ 14) (hH : Hid (∀ W, SW X B c W → Calls Tryz.prog 17 #[.pointer (some ⟨B, 0, none⟩), opVal o] W fun e W' => e = .returned (.bool true) ∧ SW X B (c + 2) W')) (h : SW X B c w) :
    Calls Tryz.prog 14 #[.pointer (some ⟨B, 0, none⟩), opVal o] w fun e w' => e = .returned (.bool true) ∧ SW X B (c + 2) w' := by
  have hB : SW X B c (opBox w o) := h.keep hX (World.grownBy_alloc w _ none)
  have hO := opAt_new w o
  have k8 : ¬ o.kind ≤ 11 := by omega
  have k9 : (8 : Int) ≤ o.kind := by omega
  go_enter Tryz.func14, Tryz.ntmps14
  go_wp2_with fail
  refine (owner_none hX (by omega) o ho (Or.inr (by omega)) hB).mono ?_
  rintro e w1 ⟨rfl, hg1⟩
  have h2 := hB.keep hX hg1
  have hO1 := hO.far hg1 (by simp)
  clear hB hO h
  generalize w.heap.size = b at *
  have q0 := hO1.kind
  have q1 := hO1.x
  have q2 := hO1.y
  have q3 := hO1.z
  have q4 := hO1.w
  have q5 := hO1.a
  have q6 := hO1.b
  have q7 := hO1.s
  go_wp2_with fail
  refine (hH.out _ h2).mono ?_
  rintro e w2 ⟨rfl, h3⟩
  clear q0 q1 q2 q3 q4 q5 q6 q7 hO1
  obtain ⟨vT, vP, vS, ts, nP, ps, Φ, h3⟩ := h3
  go_wp2_with fail
  refine (hX.looks _ _ _ _ _ _ _ _ _ _ h3 (by omega)).mono ?_
  rintro e w' ⟨rfl, hw⟩
  have h4 := h3.keep hX hw
  clear h3 hw
  go_wp2
  go_ret
  exact ⟨rfl, SW.more hX ⟨_, _, _, _, _, _, _, h4⟩ (by omega)⟩
set_option maxHeartbeats 2000000 in
set_option maxRecDepth 20000 in
theorem step_parts (hX : X.Local) (hc : c + 1 ≤ 40000) (o : OpV) (ho : OpOK o) (h18 : 18 ≤ o.kind) (h22 : o.kind ≤ 22) (hH : Hid (∀ W, SW X B c W → Calls Tryz.prog 17 #[.pointer (some ⟨B, 0, none⟩), opVal o] W fun e W' => e = .returned (.bool true) ∧ SW X B (c + 2) W')) (h : SW X B c w) :
    Calls Tryz.prog 14 #[.pointer (some ⟨B, 0, none⟩), opVal o] w fun e w' => e = .returned (.bool true) ∧ SW X B (c + 2) w' := by
  have hB : SW X B c (opBox w o) := h.keep hX (World.grownBy_alloc w _ none)
  have hO := opAt_new w o
  have k8 : ¬ o.kind ≤ 11 := by omega
  have k9 : (8 : Int) ≤ o.kind := by omega
  have k12 : (12 : Int) ≤ o.kind := by omega
  have k14 : ¬ o.kind ≤ 14 := by omega
  go_enter Tryz.func14, Tryz.ntmps14
  go_wp2_with fail
  refine (owner_none hX (by omega) o ho (Or.inr (by omega)) hB).mono ?_
  rintro e w1 ⟨rfl, hg1⟩
  have h2 := hB.keep hX hg1
  have hO1 := hO.far hg1 (by simp)
  clear hB hO h
  generalize w.heap.size = b at *
  have q0 := hO1.kind
  have q1 := hO1.x
  have q2 := hO1.y
  have q3 := hO1.z
  have q4 := hO1.w
  have q5 := hO1.a
  have q6 := hO1.b
  have q7 := hO1.s
  go_wp2_with fail
  refine (hH.out _ h2).mono ?_
  rintro e w2 ⟨rfl, h3⟩
  clear q0 q1 q2 q3 q4 q5 q6 q7 hO1
  obtain ⟨vT, vP, vS, ts, nP, ps, Φ, h3⟩ := h3
  go_wp2_with fail
  refine (hX.looks _ _ _ _ _ _ _ _ _ _ h3 (by omega)).mono ?_
  rintro e w' ⟨rfl, hw⟩
  have h4 := h3.keep hX hw
  clear h3 hw
  go_wp2
  go_ret
  exact ⟨rfl, SW.more hX ⟨_, _, _, _, _, _, _, h4⟩ (by omega)⟩
end Go.Proofs.YtkijpphmiogbbaaGreatDoor.Z
