import Derived.Test.YtkijpphmiogbbaaGreatDoorM26
namespace Go.Proofs.YtkijpphmiogbbaaGreatDoor.Z
open Go.RowKit
attribute [local go_sem ↓] Go.wp_at_zero Go.wp_at_succ
variable {X : Side} {B c : Nat} {vT vP : Value} {vS : SV} {ts : List ByteArray} {nP : Nat} {ps : List Value} {Φ : Nat → Prop} {w : World}
theorem wrap_in (z : Int) : InI (wrap64 z) := by
  unfold InI wrap64
  omega
theorem tmod_in {z : Int} (m : Int) (h : InI z) : InI (z.tmod m) := by
  unfold InI at h ⊢
  have h1 : (z.tmod m).natAbs ≤ z.natAbs := by rw [Int.natAbs_tmod]; exact Nat.mod_le _ _
  rcases Int.le_total 0 z with h2 | h2
  · have := Int.tmod_nonneg m h2
    omega
  · have h3 : 0 ≤ (-z).tmod m := Int.tmod_nonneg m (by omega)
    rw [Int.neg_tmod] at h3
    omega
theorem upd_upd (L : Nat → Int) (k : Nat) (y z : Int) (j : Nat) : upd (upd L k y) k z j = upd L k z j := by unfold upd; split <;> rfl
attribute [local go_sem ↓] ld_hide st_hide bs_hide ap_hide
set_option maxHeartbeats 2000000 in
set_option maxRecDepth 20000 in
theorem owner_5 (hX : X.Local) (hc : c ≤ 40000) (o : OpV) (ho : OpOK o) (hk : Hid (o.kind = 5)) (h : SW X B c w) :
    Calls Tryz.prog 15 #[.pointer (some ⟨B, 0, none⟩), opVal o] w fun e w' => e = .returned (.bool true) ∧ SW X B (c + 1) w' := by
  go_enter Tryz.func15, Tryz.ntmps15
  go_wp2_with fail
  obtain ⟨vT, vP, vS, ts, nP, ps, Φ, h⟩ := h
  have hO := opAt_new w o
  have h1 : SWd X B c vT vP vS ts nP ps Φ (opBox w o) := h.keep hX (World.grownBy_alloc w _ none)
  refine (text_any hc _ ho.x h1).mono ?_
  rintro e w1 ⟨t, rfl, ht, hg1⟩
  have h2 := h1.keep hX hg1
  have hO1 := hO.far hg1 (by simp)
  have blt : w.heap.size < w1.heap.size := Nat.lt_of_lt_of_le (by simp) hg1.size
  generalize w.heap.size = b at *
  have qk := hO1.kind
  clear h h1 hO hg1
  rw [hk.out] at qk
  have n1 := new_alloc .i64 w1 (fun _ => 0) 43
  rw [← Tryz.zY] at n1
  clear hk
  go_wp2
  generalize hw2 : w1.alloc (.cells Tryz.zeroCells43 43) = w2 at *
  clear hw2
  go_loopw [13] (fun i wr => ∃ (k : Nat) (L : Nat → Int), k ≤ 256 ∧ i = .int .i64 k ∧ w1.grownBy wr none ∧ PRow .i64 wr w1.heap.size 0 L ∧ ∀ j, j < 256 → InI (L j)) (fun i _ => 256 - (intOf i).toNat)
  case atStart => exact ⟨0, _, by omega, rfl, n1.g, n1.r, fun j _ => ⟨by show (-9223372036854775808 : Int) ≤ 0; decide, by show (0 : Int) ≤ 9223372036854775807; decide⟩⟩
  case round =>
    obtain ⟨k, L, hk, rfl, hg, hr, hL⟩ := hrel
    by_cases hlt : k < 256
    · have k0 : (0 : Int) ≤ (k : Int) := Int.natCast_nonneg k
      have k1 : (k : Int) < 256 := by omega
      have hOr := hO1.far hg (by simp)
      have qa := hOr.a
      have qb := hOr.b
      have qw := hOr.w
      have r0 := (hr.at0 k hlt).1
      have r1 := (hr.at0 k hlt).2
      have bn : ¬ b = w1.heap.size := by omega
      have bn' : ¬ w1.heap.size = b := by omega
      have HU : ∀ z, InI z → ∀ j, j < 256 → InI (upd L k z j) := fun z hz j hj => by
        unfold upd
        split
        · exact hz
        · exact hL j hj
      by_cases hw0 : o.w = 0
      · have z0 : (o.w != 0) = false := by simp [hw0]
        clear hw0
        go_wp2
        exact ⟨⟨k + 1, upd L k (wrap64 (o.a + wrap64 (o.b * k))), by omega, by go_num, grown_setNew hg (Nat.le_refl _) _, hr.set0 hlt _, HU _ (wrap_in _)⟩, by simp [intOf]; omega⟩
      · have z0 : (o.w != 0) = true := by simpa using hw0
        have z1 : (o.w == 0) = false := by simpa using hw0
        go_wp2
        obtain ⟨z, hz⟩ : ∃ z, z = wrap64 (o.a + wrap64 (o.b * (k : Int))) := ⟨_, rfl⟩
        rw [← hz]
        have hzi : InI z := by rw [hz]; exact wrap_in _
        clear hz
        have q0 : (wr.setCell ⟨w1.heap.size, k, none⟩ (.int .i64 z)).cell? ⟨w1.heap.size, k, none⟩ = some (.int .i64 z) := cell_same r0
        have q1 : (wr.setCell ⟨w1.heap.size, k, none⟩ (.int .i64 z)).frozen? ⟨w1.heap.size, k, none⟩ = false := by rw [frozen_set]; exact r1
        have q2 : (wr.setCell ⟨w1.heap.size, k, none⟩ (.int .i64 z)).cell? ⟨b, 4, none⟩ = some (.int .i64 o.w) := by rw [cell_other _ _ _ _ (Or.inl bn)]; exact qw
        have gz := grown_setNew hg (p := ⟨w1.heap.size, k, none⟩) (Nat.le_refl w1.heap.size) (.int .i64 z)
        have rz := hr.set0 hlt z
        generalize wr.setCell ⟨w1.heap.size, k, none⟩ (.int .i64 z) = W3 at *
        clear qa qb qw r0 r1
        go_region
        have g4 := grown_drew (grown_setNew gz (p := ⟨w1.heap.size, k, none⟩) (Nat.le_refl w1.heap.size) (.int .i64 (z.tmod o.w)))
        have r4 := (rz.set0 hlt (z.tmod o.w)).drew
        generalize (W3.setCell ⟨w1.heap.size, k, none⟩ (.int .i64 (z.tmod o.w))).drew = W4 at *
        clear q0 q1 q2 gz rz hOr
        go_wp2
        exact ⟨⟨k + 1, upd L k (z.tmod o.w), by omega, by go_num, g4, r4.ext (fun j _ => upd_upd L k z _ j), HU _ (tmod_in _ hzi)⟩, by simp [intOf]; omega⟩
    · have hk6 : k = 256 := by omega
      subst hk6
      have hS : SWd X B c vT vP vS ts nP ps Φ wr.drew := h2.keep hX (grown_drew hg)
      obtain ⟨g, cap, w3, hap, d1, d2, HF⟩ := app_poly hX hc hS L hL
      have ld := run_hidLd wr.drew w1.heap.size 0 L hr.drew
      have bs := run_hidBS L
      have c1 : wr.cell? ⟨B, 1, none⟩ = some vP := hS.c1
      have c2 : (wr.alloc (.cells (polyA .i64 L) 43)).cell? ⟨B, 1, none⟩ = some vP := (World.grownBy_alloc wr _ none).cell c1 (by simp)
      have hap2 : (hidAp #[vP, .slice (some ⟨wr.heap.size, 0, none⟩) 1 1]).run Tryz.prog (wr.alloc (.cells (polyA .i64 L) 43)).drew = .ok (.slice (some ⟨g, 0, none⟩) (nP + 1) cap) w3 := hap
      clear hS h2 hO1 n1 hr hg
      go_wp2
      go_region
      clear hap hap2 ld bs c1 c2 d1 d2
      go_wp2
      go_ret
      exact ⟨rfl, HF.out⟩
set_option maxHeartbeats 2000000 in
set_option maxRecDepth 20000 in
theorem owner_6 (hX : X.Local) (hc : c ≤ 40000) (o : OpV) (ho : OpOK o) (hk : Hid (o.kind = 6)) (h : SW X B c w) :
    Calls Tryz.prog 15 #[.pointer (some ⟨B, 0, none⟩), opVal o] w fun e w' => e = .returned (.bool true) ∧ SW X B (c + 1) w' := by
  go_enter Tryz.func15, Tryz.ntmps15
  go_wp2_with fail
  obtain ⟨vT, vP, vS, ts, nP, ps, Φ, h⟩ := h
  have hO := opAt_new w o
  have h1 : SWd X B c vT vP vS ts nP ps Φ (opBox w o) := h.keep hX (World.grownBy_alloc w _ none)
  refine (text_any hc _ ho.x h1).mono ?_
  rintro e w1 ⟨t, rfl, ht, hg1⟩
  have h2 := h1.keep hX hg1
  have hO1 := hO.far hg1 (by simp)
  have blt : w.heap.size < w1.heap.size := Nat.lt_of_lt_of_le (by simp) hg1.size
  generalize w.heap.size = b at *
  have qk := hO1.kind
  clear h h1 hO hg1
  rw [hk.out] at qk
  have qx := hO1.x
  clear hk
  go_wp2_with fail
  refine (poly_any hX hc _ ho.x h2).mono ?_
  rintro e w2 ⟨L, rfl, hL, hg2⟩
  have h3 := h2.keep hX hg2
  have hO2 := hO1.far hg2 (by simp)
  have blt2 : b < w2.heap.size := Nat.lt_of_lt_of_le blt hg2.size
  have n3 := new_alloc .i64 w2 (fun _ => 0) 43
  rw [← Tryz.zY] at n3
  have st := run_hidSt (w2.alloc (.cells Tryz.zeroCells43 43)) w2.heap.size L _ n3.r
  have p6 := put_cells .i64 (w2.alloc (.cells Tryz.zeroCells43 43)) w2.heap.size 0 L (n3.r.there .i64 _)
  have g4 := grown_new n3.g p6.g (Nat.le_refl _)
  clear qk qx h2 hO1 hg2
  go_wp2
  have r4 := p6.r
  generalize (w2.alloc (.cells Tryz.zeroCells43 43)).setCells w2.heap.size 0 (polyA .i64 L).toList = w4 at *
  have hO4 := hO2.far g4 (by simp)
  have qa := hO4.a
  have qb := hO4.b
  have bn : ¬ b = w2.heap.size := by omega
  have HR : Hid (∀ k : Nat, (k : Int) < 256 → w4.cell? ⟨w2.heap.size, k, none⟩ = some (.int .i64 (L k)) ∧ w4.frozen? ⟨w2.heap.size, k, none⟩ = false) := fun k hk => r4.at0 k (by omega)
  clear st p6 n3 hO2
  go_region_with (first | (go_at_call 22; refine (pick_any _ _ _ ho.a (by omega) (by omega)).mono ?_; rintro e w' ⟨k, hk, rfl, rfl⟩; have hu1 := (HR.out k hk).1; have hu2 := (HR.out k hk).2; have k0 : (0 : Int) ≤ (k : Int) := Int.natCast_nonneg k))
  all_goals
    have r5 := (r4.set0 (i := k) (by omega) o.b).drew
    have g5 := grown_drew (grown_setNew g4 (p := ⟨w2.heap.size, k, none⟩) (Nat.le_refl w2.heap.size) (.int .i64 o.b))
    have hL5 : ∀ j, j < 256 → InI (upd L k o.b j) := fun j hj => by
      unfold upd
      split
      · exact ho.b
      · exact hL j hj
    generalize (w4.setCell ⟨w2.heap.size, k, none⟩ (.int .i64 o.b)).drew = wr at *
    generalize upd L k o.b = M at *
    have hS : SWd X B c vT vP vS ts nP ps Φ wr.drew := h3.keep hX (grown_drew g5)
    obtain ⟨g, cap, w3, hap, d1, d2, HF⟩ := app_poly hX hc hS M hL5
    have ld := run_hidLd wr.drew w2.heap.size 0 M r5.drew
    have bs := run_hidBS M
    have c1 : wr.cell? ⟨B, 1, none⟩ = some vP := hS.c1
    have c2 : (wr.alloc (.cells (polyA .i64 M) 43)).cell? ⟨B, 1, none⟩ = some vP := (World.grownBy_alloc wr _ none).cell c1 (by simp)
    have hap2 : (hidAp #[vP, .slice (some ⟨wr.heap.size, 0, none⟩) 1 1]).run Tryz.prog (wr.alloc (.cells (polyA .i64 M) 43)).drew = .ok (.slice (some ⟨g, 0, none⟩) (nP + 1) cap) w3 := hap
    clear hS h3 hO4 r4 g4 r5 g5 HR qa qb hu1 hu2
    go_wp2
    go_region
    clear hap hap2 ld bs c1 c2 d1 d2
    go_wp2
    go_ret
    exact ⟨rfl, HF.out⟩
end Go.Proofs.YtkijpphmiogbbaaGreatDoor.Z

namespace Go.Proofs.YtkijpphmiogbbaaGreatDoor.Z
open Go.RowKit
attribute [local go_sem ↓] Go.wp_at_zero Go.wp_at_succ
variable {X : Side} {B c : Nat} {w : World}

theorem owner_own (hX : X.Local) (hc : c ≤ 40000) (o : OpV) (ho : OpOK o) (h1 : 1 ≤ o.kind) (h7 : o.kind ≤ 7) (h : SW X B c w) :
    Calls Tryz.prog 15 #[.pointer (some ⟨B, 0, none⟩), opVal o] w fun e w' => e = .returned (.bool true) ∧ SW X B (c + 1) w' := by
  have hk : o.kind = 1 ∨ o.kind = 2 ∨ o.kind = 3 ∨ o.kind = 4 ∨ o.kind = 5 ∨ o.kind = 6 ∨ o.kind = 7 := by omega
  rcases hk with hk | hk | hk | hk | hk | hk | hk
  · exact owner_1 hX hc o ho hk h
  · exact owner_2 hX hc o ho hk h
  · exact owner_3 hX hc o ho hk h
  · exact owner_4 hX hc o ho hk h
  · exact owner_5 hX hc o ho hk h
  · exact owner_6 hX hc o ho hk h
  · exact owner_7 hX hc o ho hk h

set_option maxHeartbeats 2000000 in
set_option maxRecDepth 20000 in
theorem step_own (hX : X.Local) (hc : c ≤ 40000) (o : OpV) (ho : OpOK o) (h1 : 1 ≤ o.kind) (h7 : o.kind ≤ 7) (h : SW X B c w) :
    Calls Tryz.prog 14 #[.pointer (some ⟨B, 0, none⟩), opVal o] w fun e w' => e = .returned (.bool true) ∧ SW X B (c + 2) w' := by
  have hB : SW X B c (opBox w o) := h.keep hX (World.grownBy_alloc w _ none)
  go_enter Tryz.func14, Tryz.ntmps14
  go_wp2_with fail
  refine (owner_own hX hc o ho h1 h7 hB).mono ?_
  rintro e w1 ⟨rfl, h2⟩
  clear hB
  go_wp2
  go_ret
  exact ⟨rfl, SW.more hX h2 (by omega)⟩
set_option maxHeartbeats 2000000 in
set_option maxRecDepth 20000 in
theorem step_none (hX : X.Local) (hc : c + 1 ≤ 40000) (o : OpV) (ho : OpOK o) (hk : o.kind < 1) (h : SW X B c w) :
    Calls Tryz.prog 14 #[.pointer (some ⟨B, 0, none⟩), opVal o] w fun e w' => e = .returned (.bool true) ∧ SW X B (c + 2) w' := by
  have hB : SW X B c (opBox w o) := h.keep hX (World.grownBy_alloc w _ none)
  have hO := opAt_new w o
  have k8 : ¬ (8 : Int) ≤ o.kind := by omega
  have k12 : ¬ (12 : Int) ≤ o.kind := by omega
  have k18 : ¬ (18 : Int) ≤ o.kind := by omega
  go_enter Tryz.func14, Tryz.ntmps14
  go_wp2_with fail
  refine (owner_none hX (by omega) o ho (Or.inl hk) hB).mono ?_
  rintro e w1 ⟨rfl, hg1⟩
  have h2 := hB.keep hX hg1
  have hO1 := hO.far hg1 (by simp)
  clear hB hO h
  generalize w.heap.size = b at *
  have q0 := hO1.kind
  have q1 := hO1.x
  have q2 := hO1.y
  have q3 := hO1.z
  have q4 := hO1.w
  have q5 := hO1.a
  have q6 := hO1.b
  have q7 := hO1.s
  go_wp2_with fail
  refine (heavy_any hX (by omega) o ho hk h2).mono ?_
  rintro e w2 ⟨rfl, h3⟩
  clear q0 q1 q2 q3 q4 q5 q6 q7 hO1
  obtain ⟨vT, vP, vS, ts, nP, ps, Φ, h3⟩ := h3
  go_wp2_with fail
  refine (hX.looks _ _ _ _ _ _ _ _ _ _ h3 (by omega)).mono ?_
  rintro e w' ⟨rfl, hw⟩
  have h4 := h3.keep hX hw
  clear h3 hw
  go_wp2
  go_ret
  exact ⟨rfl, SW.more hX ⟨_, _, _, _, _, _, _, h4⟩ (by omega)⟩
set_option maxHeartbeats 2000000 in
set_option maxRecDepth 20000 in
theorem step_hash (hX : X.Local) (hc : c + 1 ≤ 40000) (o : OpV) (ho : OpOK o) (h8 : 8 ≤ o.kind) (h11 : o.kind ≤ 11) (hH : Hid (∀ W, SW X B c W → Calls Tryz.prog 16 #[.pointer (some ⟨B, 0, none⟩), opVal o] W fun e W' => e = .returned (.bool true) ∧ SW X B (c + 1) W')) (h : SW X B c w) :
    Calls Tryz.prog 14 #[.pointer (some ⟨B, 0, none⟩), opVal o] w fun e w' => e = .returned (.bool true) ∧ SW X B (c + 2) w' := by
  have hB : SW X B c (opBox w o) := h.keep hX (World.grownBy_alloc w _ none)
  have hO := opAt_new w o
  go_enter Tryz.func14, Tryz.ntmps14
  go_wp2_with fail
  refine (owner_none hX (by omega) o ho (Or.inr (by omega)) hB).mono ?_
  rintro e w1 ⟨rfl, hg1⟩
  have h2 := hB.keep hX hg1
  have hO1 := hO.far hg1 (by simp)
  clear hB hO h
  generalize w.heap.size = b at *
  have q0 := hO1.kind
  have q1 := hO1.x
  have q2 := hO1.y
  have q3 := hO1.z
  have q4 := hO1.w
  have q5 := hO1.a
  have q6 := hO1.b
  have q7 := hO1.s
  go_wp2_with fail
  refine (hH.out _ h2).mono ?_
  rintro e w2 ⟨rfl, h3⟩
  clear q0 q1 q2 q3 q4 q5 q6 q7 hO1
  obtain ⟨vT, vP, vS, ts, nP, ps, Φ, h3⟩ := h3
  go_wp2_with fail
  refine (hX.looks _ _ _ _ _ _ _ _ _ _ h3 (by omega)).mono ?_
  rintro e w' ⟨rfl, hw⟩
  have h4 := h3.keep hX hw
  clear h3 hw
  go_wp2
  go_ret
  exact ⟨rfl, SW.more hX ⟨_, _, _, _, _, _, _, h4⟩ (by omega)⟩
set_option maxHeartbeats 2000000 in
set_option maxRecDepth 20000 in
theorem step_ring (hX : X.Local) (hc : c + 1 ≤ 40000) (o : OpV) (ho : OpOK o) (h12 : 12 ≤ o.kind) (h14 : o.kind ≤ 14) (hH : Hid (∀ W, SW X B c W → Calls Tryz.prog 17 #[.pointer (some ⟨B, 0, none⟩), opVal o] W fun e W' => e = .returned (.bool true) ∧ SW X B (c + 2) W')) (h : SW X B c w) :
    Calls Tryz.prog 14 #[.pointer (some ⟨B, 0, none⟩), opVal o] w fun e w' => e = .returned (.bool true) ∧ SW X B (c + 2) w' := by
  have hB : SW X B c (opBox w o) := h.keep hX (World.grownBy_alloc w _ none)
  have hO := opAt_new w o
  have k8 : ¬ o.kind ≤ 11 := by omega
  have k9 : (8 : Int) ≤ o.kind := by omega
  go_enter Tryz.func14, Tryz.ntmps14
  go_wp2_with fail
  refine (owner_none hX (by omega) o ho (Or.inr (by omega)) hB).mono ?_
  rintro e w1 ⟨rfl, hg1⟩
  have h2 := hB.keep hX hg1
  have hO1 := hO.far hg1 (by simp)
  clear hB hO h
  generalize w.heap.size = b at *
  have q0 := hO1.kind
  have q1 := hO1.x
  have q2 := hO1.y
  have q3 := hO1.z
  have q4 := hO1.w
  have q5 := hO1.a
  have q6 := hO1.b
  have q7 := hO1.s
  go_wp2_with fail
  refine (hH.out _ h2).mono ?_
  rintro e w2 ⟨rfl, h3⟩
  clear q0 q1 q2 q3 q4 q5 q6 q7 hO1
  obtain ⟨vT, vP, vS, ts, nP, ps, Φ, h3⟩ := h3
  go_wp2_with fail
  refine (hX.looks _ _ _ _ _ _ _ _ _ _ h3 (by omega)).mono ?_
  rintro e w' ⟨rfl, hw⟩
  have h4 := h3.keep hX hw
  clear h3 hw
  go_wp2
  go_ret
  exact ⟨rfl, SW.more hX ⟨_, _, _, _, _, _, _, h4⟩ (by omega)⟩
set_option maxHeartbeats 2000000 in
set_option maxRecDepth 20000 in
theorem step_parts (hX : X.Local) (hc : c + 1 ≤ 40000) (o : OpV) (ho : OpOK o) (h18 : 18 ≤ o.kind) (h22 : o.kind ≤ 22) (hH : Hid (∀ W, SW X B c W → Calls Tryz.prog 17 #[.pointer (some ⟨B, 0, none⟩), opVal o] W fun e W' => e = .returned (.bool true) ∧ SW X B (c + 2) W')) (h : SW X B c w) :
    Calls Tryz.prog 14 #[.pointer (some ⟨B, 0, none⟩), opVal o] w fun e w' => e = .returned (.bool true) ∧ SW X B (c + 2) w' := by
  have hB : SW X B c (opBox w o) := h.keep hX (World.grownBy_alloc w _ none)
  have hO := opAt_new w o
  have k8 : ¬ o.kind ≤ 11 := by omega
  have k9 : (8 : Int) ≤ o.kind := by omega
  have k12 : (12 : Int) ≤ o.kind := by omega
  have k14 : ¬ o.kind ≤ 14 := by omega
  go_enter Tryz.func14, Tryz.ntmps14
  go_wp2_with fail
  refine (owner_none hX (by omega) o ho (Or.inr (by omega)) hB).mono ?_
  rintro e w1 ⟨rfl, hg1⟩
  have h2 := hB.keep hX hg1
  have hO1 := hO.far hg1 (by simp)
  clear hB hO h
  generalize w.heap.size = b at *
  have q0 := hO1.kind
  have q1 := hO1.x
  have q2 := hO1.y
  have q3 := hO1.z
  have q4 := hO1.w
  have q5 := hO1.a
  have q6 := hO1.b
  have q7 := hO1.s
  go_wp2_with fail
  refine (hH.out _ h2).mono ?_
  rintro e w2 ⟨rfl, h3⟩
  clear q0 q1 q2 q3 q4 q5 q6 q7 hO1
  obtain ⟨vT, vP, vS, ts, nP, ps, Φ, h3⟩ := h3
  go_wp2_with fail
  refine (hX.looks _ _ _ _ _ _ _ _ _ _ h3 (by omega)).mono ?_
  rintro e w' ⟨rfl, hw⟩
  have h4 := h3.keep hX hw
  clear h3 hw
  go_wp2
  go_ret
  exact ⟨rfl, SW.more hX ⟨_, _, _, _, _, _, _, h4⟩ (by omega)⟩
end Go.Proofs.YtkijpphmiogbbaaGreatDoor.Z
