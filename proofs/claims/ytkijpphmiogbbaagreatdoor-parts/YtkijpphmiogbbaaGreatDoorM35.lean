import Derived.Test.YtkijpphmiogbbaaGreatDoorM34
import Derived.Test.YtkijpphmiogbbaaGreatDoorM30
import Derived.Test.YtkijpphmiogbbaaGreatDoorM24
import Derived.Test.YtkijpphmiogbbaaGreatDoorM32
namespace Go.Proofs.YtkijpphmiogbbaaGreatDoor
open Go.RowKit
attribute [local go_sem ↓] Go.wp_at_zero Go.wp_at_succ

set_option maxHeartbeats 400000 in
theorem New_none (n : Int) (w : World) (h1 : (n == 44) = false) (h2 : (n == 65) = false) (h3 : (n == 87) = false) : Calls Tryz.prog 129 #[.int .i64 n] w fun e w' => e = .returned (.tuple #[.agg #[.int .i64 0, .int .i64 0, .int .i64 0], .iface 138 (.int .i64 1)]) ∧ w.grownBy w' none := by
  go_enter Tryz.func129, Tryz.ntmps129
  go_wp2
  refine bodyPost_ret (res_set rfl _ _ w.heap.size 0 0 0 _ rfl rfl (by rw [World.cell?_alloc_new]; rfl) (by rw [World.cell?_alloc_new]; rfl) (by rw [World.cell?_alloc_new]; rfl) ⟨_, Tryz.underlying176, rfl⟩ (by kernel_rfl)) rfl ⟨rfl, World.grownBy_alloc _ _ _⟩
set_option maxHeartbeats 2000000 in
set_option maxRecDepth 20000 in
theorem lparted_bad (fv : Value) (L : Nat → Int) (w : World) (hb : Bad L 8380417) :
    Calls Tryz.prog 127 #[fv, .agg (polyA .i64 L)] w fun e w' => e = .returned (.tuple #[.agg (polyA .i64 (fun _ => 0)), .agg (polyA .i64 (fun _ => 0)), .iface 138 (.int .i64 5)]) ∧ w.grownBy w' none := by
  have HN : Hid (∀ W, Calls Tryz.prog 122 #[.agg (polyA .i64 L), .int .i64 8380417] W fun e w' => e = .returned (.tuple #[.agg (polyA .u32 (fun _ => 0)), .iface 138 (.int .i64 5)]) ∧ W.grownBy w' none) := fun W => by
    obtain ⟨k0, hk0, h1, h2⟩ := hb
    exact narrow32_bad L 8380417 W k0 hk0 h1 h2 (by omega)
  clear hb
  have t1 := thr_mk w 71 .i64 L
  rw [← Tryz.z24] at t1
  go_enter Tryz.func127, Tryz.ntmps127
  go_wp2_with (first | (refine wpL_load rfl .i64 71 _ rfl w.heap.size 0 rfl L t1.r ⟨_, Tryz.uP⟩ Tryz.sP ?_))
  refine (HN.out _).mono ?_
  rintro e w2 ⟨rfl, g2⟩
  have hg2 := grownBy_trans t1.g g2
  have z2 := t1.z.new g2
  have z2' := t1.z'.new g2
  clear t1 g2
  have n3 := new_alloc .u32 w2 (fun _ => 0) 166
  rw [← Tryz.zQ32] at n3
  have l2 := hg2.size
  have zl' := z2'.lt
  have z3 := z2.new n3.g
  have z3' := z2'.new n3.g
  go_wp2_with (first | (refine wpL_store rfl .u32 166 _ _ rfl w2.heap.size 0 rfl _ rfl .u32 _ n3.r Tryz.sQ32 ?_; intro w3 p3; have z4 := z3.far p3.g (by simp; omega); have z4' := z3'.far p3.g (by simp; omega)) | (refine wpL_store rfl .i64 71 _ _ rfl (w.heap.size + 1) 0 rfl (fun _ => 0) (by rw [← Tryz.z24]; rfl) .i64 _ z4 Tryz.sP ?_; intro w4 p4) | (refine wpL_store rfl .i64 71 _ _ rfl (w.heap.size + 1 + 1) 0 rfl (fun _ => 0) (by rw [← Tryz.z24]; rfl) .i64 _ (z4'.far p4.g (by simp)) Tryz.sP ?_; intro w5 p5))
  refine bodyPost_ret (res3 rfl .i64 _ w5 (w.heap.size + 1) (w.heap.size + 1 + 1) _ _ _ rfl rfl rfl (p4.r.far p5.g (by simp)) p5.r ⟨_, Tryz.uP⟩ Tryz.sP) rfl ⟨rfl, grown_new (grown_new (grown_new (grownBy_trans hg2 n3.g) p3.g (by omega)) p4.g (by omega)) p5.g (by omega)⟩
set_option maxHeartbeats 2000000 in
set_option maxRecDepth 20000 in
theorem Halve_bad (L : Nat → Int) (w : World) (hb : Bad L 8380417) :
    Calls Tryz.prog 65 #[.agg (polyA .i64 L)] w fun e w' => e = .returned (.tuple #[.agg (polyA .i64 (fun _ => 0)), .agg (polyA .i64 (fun _ => 0)), .iface 138 (.int .i64 5)]) ∧ w.grownBy w' none := by
  have HP : Hid (∀ fv W, Calls Tryz.prog 127 #[fv, .agg (polyA .i64 L)] W fun e w' => e = .returned (.tuple #[.agg (polyA .i64 (fun _ => 0)), .agg (polyA .i64 (fun _ => 0)), .iface 138 (.int .i64 5)]) ∧ W.grownBy w' none) := fun fv W => lparted_bad fv L W hb
  clear hb
  have t1 := thr_mk w 71 .i64 L
  rw [← Tryz.z24] at t1
  go_enter Tryz.func65, Tryz.ntmps65
  go_wp2_with (first | (refine wpL_load rfl .i64 71 _ rfl w.heap.size 0 rfl L t1.r ⟨_, Tryz.uP⟩ Tryz.sP ?_))
  refine (HP.out _ _).mono ?_
  rintro e w2 ⟨rfl, g2⟩
  go_wp2_with (first | (refine wpL_store rfl .i64 71 _ _ rfl (w.heap.size + 1) 0 rfl _ rfl .i64 _ (t1.z.new g2) Tryz.sP ?_; intro w4 p4) | (refine wpL_store rfl .i64 71 _ _ rfl (w.heap.size + 1 + 1) 0 rfl _ rfl .i64 _ ((t1.z'.new g2).far p4.g (by simp)) Tryz.sP ?_; intro w5 p5))
  refine bodyPost_ret (res3 rfl .i64 _ w5 (w.heap.size + 1) (w.heap.size + 1 + 1) _ _ _ rfl rfl rfl (p4.r.far p5.g (by simp)) p5.r ⟨_, Tryz.uP⟩ Tryz.sP) rfl ⟨rfl, grown_new (grown_new (grownBy_trans t1.g g2) p4.g (by omega)) p5.g (by omega)⟩
set_option maxHeartbeats 2000000 in
set_option maxRecDepth 20000 in
theorem Decompose_none (L : Nat → Int) (n : Int) (w : World) (h1 : (n == 44) = false) (h2 : (n == 65) = false) (h3 : (n == 87) = false) :
    Calls Tryz.prog 66 #[.int .i64 n, .agg (polyA .i64 L)] w fun e w' => e = .returned (.tuple #[.agg (polyA .i64 (fun _ => 0)), .agg (polyA .i64 (fun _ => 0)), .iface 138 (.int .i64 1)]) ∧ w.grownBy w' none := by
  have HN : Hid (∀ W, Calls Tryz.prog 129 #[.int .i64 n] W fun e w' => e = .returned (.tuple #[.agg #[.int .i64 0, .int .i64 0, .int .i64 0], .iface 138 (.int .i64 1)]) ∧ W.grownBy w' none) := fun W => New_none n W h1 h2 h3
  have t1 := thr_mk w 71 .i64 L
  rw [← Tryz.z24] at t1
  go_enter Tryz.func66, Tryz.ntmps66
  go_wp2_with fail
  refine (HN.out _).mono ?_
  rintro e w2 ⟨rfl, g2⟩
  have g3 := World.grownBy_alloc w2 (.cells #[.int .i64 0, .int .i64 0, .int .i64 0] 176) none
  have hS := setAt_new w2 0 0 0 176
  have hg3 := grownBy_trans t1.g (grownBy_trans g2 g3)
  have z3 := (t1.z.new g2).new g3
  have z3' := (t1.z'.new g2).new g3
  have r3 := (t1.r.new g2).new g3
  have c0 := hS.g
  have c1 := hS.k
  have c2 := hS.o
  clear t1 g2 g3
  go_wp2_with (first | (refine wpL_store rfl .i64 71 _ _ rfl (w.heap.size + 1) 0 rfl (fun _ => 0) (by rw [← Tryz.z24]; rfl) .i64 _ z3 Tryz.sP ?_; intro w4 p4) | (refine wpL_store rfl .i64 71 _ _ rfl (w.heap.size + 1 + 1) 0 rfl (fun _ => 0) (by rw [← Tryz.z24]; rfl) .i64 _ (z3'.far p4.g (by simp)) Tryz.sP ?_; intro w5 p5))
  refine bodyPost_ret (res3 rfl .i64 _ w5 (w.heap.size + 1) (w.heap.size + 1 + 1) _ _ _ rfl rfl rfl (p4.r.far p5.g (by simp)) p5.r ⟨_, Tryz.uP⟩ Tryz.sP) rfl ⟨rfl, grown_new (grown_new hg3 p4.g (by omega)) p5.g (by omega)⟩
set_option maxHeartbeats 2000000 in
set_option maxRecDepth 20000 in
theorem Decompose_bad (L : Nat → Int) (n : Int) (w : World) (g kk o : Int) (hs : IsSet n g kk o) (hb : Bad L 8380417) :
    Calls Tryz.prog 66 #[.int .i64 n, .agg (polyA .i64 L)] w fun e w' => e = .returned (.tuple #[.agg (polyA .i64 (fun _ => 0)), .agg (polyA .i64 (fun _ => 0)), .iface 138 (.int .i64 5)]) ∧ w.grownBy w' none := by
  have HN : Hid (∀ W, Calls Tryz.prog 129 #[.int .i64 n] W fun e w' => e = .returned (.tuple #[.agg #[.int .i64 g, .int .i64 kk, .int .i64 o], .nilIface]) ∧ W.grownBy w' none) := fun W => New_any n g kk o W hs
  have HP : Hid (∀ fv W, Calls Tryz.prog 127 #[fv, .agg (polyA .i64 L)] W fun e w' => e = .returned (.tuple #[.agg (polyA .i64 (fun _ => 0)), .agg (polyA .i64 (fun _ => 0)), .iface 138 (.int .i64 5)]) ∧ W.grownBy w' none) := fun fv W => lparted_bad fv L W hb
  clear hs hb
  have t1 := thr_mk w 71 .i64 L
  rw [← Tryz.z24] at t1
  go_enter Tryz.func66, Tryz.ntmps66
  go_wp2_with fail
  refine (HN.out _).mono ?_
  rintro e w2 ⟨rfl, g2⟩
  have g3 := World.grownBy_alloc w2 (.cells #[.int .i64 g, .int .i64 kk, .int .i64 o] 176) none
  have hS := setAt_new w2 g kk o 176
  have hg3 := grownBy_trans t1.g (grownBy_trans g2 g3)
  have z3 := (t1.z.new g2).new g3
  have z3' := (t1.z'.new g2).new g3
  have r3 := (t1.r.new g2).new g3
  have c0 := hS.g
  have c1 := hS.k
  have c2 := hS.o
  clear t1 g2 g3
  go_wp2_with (first | (refine wpL_load rfl .i64 71 _ rfl w.heap.size 0 rfl L r3 ⟨_, Tryz.uP⟩ Tryz.sP ?_))
  refine (HP.out _ _).mono ?_
  rintro e w6 ⟨rfl, g6⟩
  go_wp2_with (first | (refine wpL_store rfl .i64 71 _ _ rfl (w.heap.size + 1) 0 rfl _ rfl .i64 _ (z3.new g6) Tryz.sP ?_; intro w4 p4) | (refine wpL_store rfl .i64 71 _ _ rfl (w.heap.size + 1 + 1) 0 rfl _ rfl .i64 _ ((z3'.new g6).far p4.g (by simp)) Tryz.sP ?_; intro w5 p5))
  refine bodyPost_ret (res3 rfl .i64 _ w5 (w.heap.size + 1) (w.heap.size + 1 + 1) _ _ _ rfl rfl rfl (p4.r.far p5.g (by simp)) p5.r ⟨_, Tryz.uP⟩ Tryz.sP) rfl ⟨rfl, grown_new (grown_new (grownBy_trans hg3 g6) p4.g (by omega)) p5.g (by omega)⟩
set_option maxHeartbeats 2000000 in
set_option maxRecDepth 20000 in
theorem Hint_none (Hh R : Nat → Int) (n : Int) (w : World) (h1 : (n == 44) = false) (h2 : (n == 65) = false) (h3 : (n == 87) = false) :
    Calls Tryz.prog 69 #[.int .i64 n, .agg (polyA .i64 Hh), .agg (polyA .i64 R)] w fun e w' => e = .returned (.tuple #[.agg (polyA .i64 (fun _ => 0)), .int .i64 0, .iface 138 (.int .i64 1)]) ∧ w.grownBy w' none := by
  have HN : Hid (∀ W, Calls Tryz.prog 129 #[.int .i64 n] W fun e w' => e = .returned (.tuple #[.agg #[.int .i64 0, .int .i64 0, .int .i64 0], .iface 138 (.int .i64 1)]) ∧ W.grownBy w' none) := fun W => New_none n W h1 h2 h3
  have t1 := bbz_mk w 71 Hh R
  rw [← Tryz.z24] at t1
  go_enter Tryz.func69, Tryz.ntmps69
  go_wp2_with fail
  refine (HN.out _).mono ?_
  rintro e w2 ⟨rfl, g2⟩
  have g3 := World.grownBy_alloc w2 (.cells #[.int .i64 0, .int .i64 0, .int .i64 0] 176) none
  have hg3 := grownBy_trans t1.g (grownBy_trans g2 g3)
  have z3 := (t1.z.new g2).new g3
  clear t1 g2 g3
  go_wp2_with (first | (refine wpL_store rfl .i64 71 _ _ rfl (w.heap.size + 1 + 1) 0 rfl (fun _ => 0) (by rw [← Tryz.z24]; rfl) .i64 _ z3 Tryz.sP ?_; intro w4 p4))
  refine bodyPost_ret (res_p2 rfl .i64 _ w4 (w.heap.size + 1 + 1) _ _ _ rfl rfl rfl p4.r ⟨_, Tryz.uP⟩ Tryz.sP) rfl ⟨rfl, grown_new hg3 p4.g (by omega)⟩
set_option maxHeartbeats 2000000 in
set_option maxRecDepth 20000 in
theorem UseHint_none (Hh R : Nat → Int) (n : Int) (w : World) (h1 : (n == 44) = false) (h2 : (n == 65) = false) (h3 : (n == 87) = false) :
    Calls Tryz.prog 71 #[.int .i64 n, .agg (polyA .i64 Hh), .agg (polyA .i64 R)] w fun e w' => e = .returned (.tuple #[.agg (polyA .i64 (fun _ => 0)), .iface 138 (.int .i64 1)]) ∧ w.grownBy w' none := by
  have HN : Hid (∀ W, Calls Tryz.prog 129 #[.int .i64 n] W fun e w' => e = .returned (.tuple #[.agg #[.int .i64 0, .int .i64 0, .int .i64 0], .iface 138 (.int .i64 1)]) ∧ W.grownBy w' none) := fun W => New_none n W h1 h2 h3
  have t1 := bbz_mk w 71 Hh R
  rw [← Tryz.z24] at t1
  go_enter Tryz.func71, Tryz.ntmps71
  go_wp2_with fail
  refine (HN.out _).mono ?_
  rintro e w2 ⟨rfl, g2⟩
  have g3 := World.grownBy_alloc w2 (.cells #[.int .i64 0, .int .i64 0, .int .i64 0] 176) none
  have hg3 := grownBy_trans t1.g (grownBy_trans g2 g3)
  have z3 := (t1.z.new g2).new g3
  clear t1 g2 g3
  go_wp2_with (first | (refine wpL_store rfl .i64 71 _ _ rfl (w.heap.size + 1 + 1) 0 rfl (fun _ => 0) (by rw [← Tryz.z24]; rfl) .i64 _ z3 Tryz.sP ?_; intro w4 p4))
  refine bodyPost_ret (res2 rfl .i64 _ w4 (w.heap.size + 1 + 1) _ _ rfl rfl p4.r ⟨_, Tryz.uP⟩ Tryz.sP) rfl ⟨rfl, grown_new hg3 p4.g (by omega)⟩
set_option maxHeartbeats 2000000 in
set_option maxRecDepth 20000 in
theorem Hint_bad (F G : Nat → Int) (n g kk o : Int) (w : World) (hs : IsSet n g kk o) (s0 : Nat) (hs0 : s0 < 2) (hF : 0 < s0 → ∀ i, i < 256 → 0 ≤ F i ∧ F i < 8380417) (hb : Bad (if s0 = 0 then F else G) 8380417) :
    Calls Tryz.prog 69 #[.int .i64 n, .agg (polyA .i64 F), .agg (polyA .i64 G)] w fun e w' => e = .returned (.tuple #[.agg (polyA .i64 (fun _ => 0)), .int .i64 0, .iface 138 (.int .i64 5)]) ∧ w.grownBy w' none := by
  have HN : Hid (∀ W, Calls Tryz.prog 129 #[.int .i64 n] W fun e w' => e = .returned (.tuple #[.agg #[.int .i64 g, .int .i64 kk, .int .i64 o], .nilIface]) ∧ W.grownBy w' none) := fun W => New_any n g kk o W hs
  have HW : Hid (∀ W b, PRow .i64 W b (256 * 0) F → PRow .i64 W b (256 * 1) G → Calls Tryz.prog 133 #[.int .i64 8380417, .slice (some ⟨b, 0, none⟩) 2 2] W fun e w' => e = .returned (.tuple #[.slice none 0 0, .iface 138 (.int .i64 5)]) ∧ W.grownBy w' none) := fun W b h1 h2 => by
    obtain ⟨k0, hk0, h3, h4⟩ := hb
    refine narrowed32_bad (fun s => if s = 0 then F else G) 8380417 b 2 2 W (by omega) (by omega) s0 hs0 (fun s hs i hi => ?_) (two_rows h1 h2) k0 hk0 h3 h4
    have e0 : s = 0 := by omega
    show 0 ≤ (if s = 0 then F else G) i ∧ (if s = 0 then F else G) i < 8380417
    rw [if_pos e0]
    exact hF (by omega) i hi
  clear hs hF hb
  have t1 := bbz_mk w 71 F G
  rw [← Tryz.z24] at t1
  go_enter Tryz.func69, Tryz.ntmps69
  go_wp2_with fail
  refine (HN.out _).mono ?_
  rintro e w2 ⟨rfl, g2⟩
  have g3 := World.grownBy_alloc w2 (.cells #[.int .i64 g, .int .i64 kk, .int .i64 o] 176) none
  have hg3 := grownBy_trans t1.g (grownBy_trans g2 g3)
  have z3 := (t1.z.new g2).new g3
  have r3 := (t1.r.new g2).new g3
  have r3' := (t1.r'.new g2).new g3
  clear t1 g2 g3
  go_wp2_with (first | (refine wpL_load rfl .i64 71 _ rfl w.heap.size 0 rfl F r3 ⟨_, Tryz.uP⟩ Tryz.sP ?_) | (refine wpL_load rfl .i64 71 _ rfl (w.heap.size + 1) 0 rfl G r3' ⟨_, Tryz.uP⟩ Tryz.sP ?_) | (refine wpL_bs2h rfl _ _ rfl F G rfl rfl ?_; intro w5 g5 b5 b5'))
  rw [World.size_alloc] at b5 b5'
  refine (HW.out _ _ b5 b5').mono ?_
  rintro e w6 ⟨rfl, g6⟩
  have z6 := (z3.new g5).new g6
  have hg6 := grownBy_trans (grownBy_trans hg3 g5) g6
  clear z3 hg3 r3 r3' b5 b5' g5 g6
  go_wp2_with (first | (refine wpL_store rfl .i64 71 _ _ rfl (w.heap.size + 1 + 1) 0 rfl (fun _ => 0) (by rw [← Tryz.z24]; rfl) .i64 _ z6 Tryz.sP ?_; intro w4 p4))
  refine bodyPost_ret (res_p2 rfl .i64 _ w4 (w.heap.size + 1 + 1) _ _ _ rfl rfl rfl p4.r ⟨_, Tryz.uP⟩ Tryz.sP) rfl ⟨rfl, grown_new hg6 p4.g (by omega)⟩
set_option maxHeartbeats 2000000 in
set_option maxRecDepth 20000 in
theorem UseHint_badh (Hh R : Nat → Int) (n g kk o : Int) (w : World) (hs : IsSet n g kk o) (hb : Bad Hh 2) :
    Calls Tryz.prog 71 #[.int .i64 n, .agg (polyA .i64 Hh), .agg (polyA .i64 R)] w fun e w' => e = .returned (.tuple #[.agg (polyA .i64 (fun _ => 0)), .iface 138 (.int .i64 5)]) ∧ w.grownBy w' none := by
  have HN : Hid (∀ W, Calls Tryz.prog 129 #[.int .i64 n] W fun e w' => e = .returned (.tuple #[.agg #[.int .i64 g, .int .i64 kk, .int .i64 o], .nilIface]) ∧ W.grownBy w' none) := fun W => New_any n g kk o W hs
  have HW : Hid (∀ W, Calls Tryz.prog 122 #[.agg (polyA .i64 Hh), .int .i64 2] W fun e w' => e = .returned (.tuple #[.agg (polyA .u32 (fun _ => 0)), .iface 138 (.int .i64 5)]) ∧ W.grownBy w' none) := fun W => by
    obtain ⟨k0, hk0, h1, h2⟩ := hb
    exact narrow32_bad Hh 2 W k0 hk0 h1 h2 (by omega)
  clear hs hb
  have t1 := bbz_mk w 71 Hh R
  rw [← Tryz.z24] at t1
  go_enter Tryz.func71, Tryz.ntmps71
  go_wp2_with fail
  refine (HN.out _).mono ?_
  rintro e w2 ⟨rfl, g2⟩
  have g3 := World.grownBy_alloc w2 (.cells #[.int .i64 g, .int .i64 kk, .int .i64 o] 176) none
  have h3 := (t1.r.new g2).new g3
  have r3 := (t1.r'.new g2).new g3
  have z3 := (t1.z.new g2).new g3
  have q3 := grownBy_trans (grownBy_trans t1.g g2) g3
  clear t1 g2 g3
  go_wp2_with (first | (refine wpL_load rfl .i64 71 _ rfl w.heap.size 0 rfl Hh h3 ⟨_, Tryz.uP⟩ Tryz.sP ?_))
  refine (HW.out _).mono ?_
  rintro e w4 ⟨rfl, g4⟩
  have r4 := r3.new g4
  have z4 := z3.new g4
  have q4 := grownBy_trans q3 g4
  have l4 := z4.lt
  clear h3 r3 z3 q3 g4
  have n5 := new_alloc .u32 w4 (fun _ => 0) 166
  rw [← Tryz.zQ32] at n5
  go_wp2_with (first | (refine wpL_store rfl .u32 166 _ _ rfl w4.heap.size 0 rfl _ rfl .u32 _ n5.r Tryz.sQ32 ?_; intro w6 p6; have z6 := (z4.new n5.g).far p6.g (by simp; omega)) | (refine wpL_store rfl .i64 71 _ _ rfl (w.heap.size + 1 + 1) 0 rfl (fun _ => 0) (by rw [← Tryz.z24]; rfl) .i64 _ z6 Tryz.sP ?_; intro w9 p9))
  refine bodyPost_ret (res2 rfl .i64 _ w9 (w.heap.size + 1 + 1) _ _ rfl rfl p9.r ⟨_, Tryz.uP⟩ Tryz.sP) rfl ⟨rfl, grown_new (grown_new (grownBy_trans q4 n5.g) p6.g (by omega)) p9.g (by omega)⟩
set_option maxHeartbeats 2000000 in
set_option maxRecDepth 20000 in
theorem UseHint_badr (Hh R : Nat → Int) (n g kk o : Int) (w : World) (hs : IsSet n g kk o) (hH : ∀ i, i < 256 → 0 ≤ Hh i ∧ Hh i < 2) (hb : Bad R 8380417) :
    Calls Tryz.prog 71 #[.int .i64 n, .agg (polyA .i64 Hh), .agg (polyA .i64 R)] w fun e w' => e = .returned (.tuple #[.agg (polyA .i64 (fun _ => 0)), .iface 138 (.int .i64 5)]) ∧ w.grownBy w' none := by
  have HN : Hid (∀ W, Calls Tryz.prog 129 #[.int .i64 n] W fun e w' => e = .returned (.tuple #[.agg #[.int .i64 g, .int .i64 kk, .int .i64 o], .nilIface]) ∧ W.grownBy w' none) := fun W => New_any n g kk o W hs
  have HW : Hid (∀ W, Calls Tryz.prog 122 #[.agg (polyA .i64 Hh), .int .i64 2] W fun e w' => e = .returned (.tuple #[.agg (polyA .u32 Hh), .nilIface]) ∧ W.grownBy w' none) := fun W => narrow32_ok Hh 2 W hH (by omega)
  have HC : Hid (∀ W u cap p, PRow .i64 W p 0 R → Calls Tryz.prog 135 #[.int .i64 8380417, .func (.func u) #[] cap, .slice (some ⟨p, 0, none⟩) 1 1] W fun e w' => e = .returned (.tuple #[.agg (polyA .i64 (fun _ => 0)), .iface 138 (.int .i64 5)]) ∧ W.grownBy w' none) := fun W u cap p h1 => by
    obtain ⟨k0, hk0, h3, h4⟩ := hb
    exact calc32_bad (fun _ => R) 8380417 p 1 u cap W (by omega) (by omega) 0 (by omega) (fun s hs => absurd hs (by omega)) (one_row h1) k0 hk0 h3 h4
  clear hs hH hb
  have t1 := bbz_mk w 71 Hh R
  rw [← Tryz.z24] at t1
  go_enter Tryz.func71, Tryz.ntmps71
  go_wp2_with fail
  refine (HN.out _).mono ?_
  rintro e w2 ⟨rfl, g2⟩
  have g3 := World.grownBy_alloc w2 (.cells #[.int .i64 g, .int .i64 kk, .int .i64 o] 176) none
  have h3 := (t1.r.new g2).new g3
  have r3 := (t1.r'.new g2).new g3
  have z3 := (t1.z.new g2).new g3
  have q3 := grownBy_trans (grownBy_trans t1.g g2) g3
  clear t1 g2 g3
  go_wp2_with (first | (refine wpL_load rfl .i64 71 _ rfl w.heap.size 0 rfl Hh h3 ⟨_, Tryz.uP⟩ Tryz.sP ?_))
  refine (HW.out _).mono ?_
  rintro e w4 ⟨rfl, g4⟩
  have r4 := r3.new g4
  have z4 := z3.new g4
  have q4 := grownBy_trans q3 g4
  have l4 := z4.lt
  clear h3 r3 z3 q3 g4
  have n5 := new_alloc .u32 w4 (fun _ => 0) 166
  rw [← Tryz.zQ32] at n5
  go_wp2_with (first | (refine wpL_store rfl .u32 166 _ _ rfl w4.heap.size 0 rfl _ rfl .u32 _ n5.r Tryz.sQ32 ?_; intro w6 p6; have r6 := (r4.new n5.g).far p6.g (by simp; omega)) | (refine wpL_load rfl .i64 71 _ rfl (w.heap.size + 1) 0 rfl R r6 ⟨_, Tryz.uP⟩ Tryz.sP ?_) | (refine wpL_bs1 rfl _ rfl R rfl ?_; intro w7 n7))
  have z7 := ((z4.new n5.g).far p6.g (by simp; omega)).new n7.g
  have q7 := grownBy_trans (grown_new (grownBy_trans q4 n5.g) p6.g (by omega)) n7.g
  have r7 := n7.r
  refine (HC.out w7 _ _ w6.heap.size r7).mono ?_
  rintro e w8 ⟨rfl, g8⟩
  clear r4 z4 q4 n5 p6 n7 r6
  go_wp2_with (first | (refine wpL_store rfl .i64 71 _ _ rfl (w.heap.size + 1 + 1) 0 rfl _ rfl .i64 _ (z7.new g8) Tryz.sP ?_; intro w9 p9))
  refine bodyPost_ret (res2 rfl .i64 _ w9 (w.heap.size + 1 + 1) _ _ rfl rfl p9.r ⟨_, Tryz.uP⟩ Tryz.sP) rfl ⟨rfl, grown_new (grownBy_trans q7 g8) p9.g (by omega)⟩
end Go.Proofs.YtkijpphmiogbbaaGreatDoor

namespace Go.Proofs.YtkijpphmiogbbaaGreatDoor.Z
open Go.RowKit

theorem IsSg.set {n : Int} {s : Sg} (h : IsSg n s) : IsSet n s.g s.k s.o := by
  rcases h with ⟨rfl, rfl⟩ | ⟨rfl, rfl⟩ | ⟨rfl, rfl⟩ <;> simp [IsSet]
theorem sg_or (n : Int) : (∃ s, IsSg n s ∧ (n == 0) = false) ∨ ((n == 44) = false ∧ (n == 65) = false ∧ (n == 87) = false) := by
  by_cases h1 : n = 44
  · exact Or.inl ⟨_, Or.inl ⟨h1, rfl⟩, by rw [h1]; rfl⟩
  · by_cases h2 : n = 65
    · exact Or.inl ⟨_, Or.inr (Or.inl ⟨h2, rfl⟩), by rw [h2]; rfl⟩
    · by_cases h3 : n = 87
      · exact Or.inl ⟨_, Or.inr (Or.inr ⟨h3, rfl⟩), by rw [h3]; rfl⟩
      · exact Or.inr ⟨by simpa using h1, by simpa using h2, by simpa using h3⟩
theorem ini_halH {L : Nat → Int} (hL : InB L 8380417) (j : Nat) (hj : j < 256) : InI (halH (L j)) := by
  have h := hal_bounds (L j) (hL j hj).1 (hL j hj).2
  unfold InI; omega
theorem ini_halL {L : Nat → Int} (hL : InB L 8380417) (j : Nat) (hj : j < 256) : InI (cenI (L j) 8192) := by
  have h := hal_bounds (L j) (hL j hj).1 (hL j hj).2
  unfold InI; omega
theorem ini_decH {g : Int} (hg : g = 95232 ∨ g = 261888) {L : Nat → Int} (hL : InB L 8380417) (j : Nat) (hj : j < 256) : InI (decH g (L j)) := by
  have h := dec_bounds g (L j) hg (hL j hj).1 (hL j hj).2
  rcases hg with rfl | rfl <;> (unfold InI; omega)
theorem ini_decL {g : Int} (hg : g = 95232 ∨ g = 261888) {L : Nat → Int} (hL : InB L 8380417) (j : Nat) (hj : j < 256) : InI (decL g (L j)) := by
  have h := dec_bounds g (L j) hg (hL j hj).1 (hL j hj).2
  rcases hg with rfl | rfl <;> (unfold InI; omega)
/-- What law.go's halved gives. -/
abbrev HaOK (d : Int) (L : Nat → Int) (w : World) : Prop := ∃ X Z : Nat → Int, (∀ j, j < 256 → InI (X j)) ∧ (∀ j, j < 256 → InI (Z j)) ∧ Calls Tryz.prog 31 #[.int .i64 d, .agg (polyA .i64 L)] w fun e w' => e = .returned (.tuple #[.agg (polyA .i64 X), .agg (polyA .i64 Z), .bool true]) ∧ w.grownBy w' none
theorem halved_law (d : Int) (L : Nat → Int) (w : World) (hE : Et w) : HaOK d L w := by
  by_cases h0 : d = 0
  · subst h0
    by_cases hL : InB L 8380417
    · exact ⟨fun i => halH (L i), fun i => cenI (L i) 8192, ini_halH hL, ini_halL hL,
        hal_0k L sg0 _ _ _ _ (fun _ _ => rfl) (fun _ _ => rfl) hL (fun W => rset_none 0 rfl rfl rfl W) (fun W => Halve_any L W hL) (fun W => rhalve_any L W hL) w⟩
    · exact ⟨fun _ => 0, fun _ => 0, fun _ _ => ini_zero, fun _ _ => ini_zero, hal_0b L sg0 hL (fun W => rset_none 0 rfl rfl rfl W) (fun W => Halve_bad L W (bad_of hL)) w hE⟩
  · rcases sg_or d with ⟨s, hs, hd⟩ | ⟨h1, h2, h3⟩
    · have hg := hs.is.1
      by_cases hL : InB L 8380417
      · exact ⟨fun i => decH s.g (L i), fun i => decL s.g (L i), ini_decH hg hL, ini_decL hg hL,
          hal_sk d hd L s _ _ _ _ (fun _ _ => rfl) (fun _ _ => rfl) hL (fun W => rset_any d s W hs) (fun W => Decompose_any L d s.g s.k s.o W hs.set hL) (fun W => rdecom_any s L W (by omega) (by omega) hL) w⟩
      · exact ⟨fun _ => 0, fun _ => 0, fun _ _ => ini_zero, fun _ _ => ini_zero, hal_sb d hd L s hL (fun W => rset_any d s W hs) (fun W => Decompose_bad L d W s.g s.k s.o hs.set (bad_of hL)) w hE⟩
    · exact ⟨fun _ => 0, fun _ => 0, fun _ _ => ini_zero, fun _ _ => ini_zero, hal_n d (by simpa using h0) L sg0 (fun W => rset_none d h1 h2 h3 W) (fun W => Decompose_none L d W h1 h2 h3) w hE⟩
end Go.Proofs.YtkijpphmiogbbaaGreatDoor.Z
