import Derived.Test.YtkijpphmiogbbaaGreatDoorK14
namespace Go.Proofs.YtkijpphmiogbbaaGreatDoor.Z
open Go.RowKit
attribute [local go_sem ↓] Go.wp_at_zero Go.wp_at_succ

theorem pow_23 (d : Nat) (h : d ≤ 23) : IntKind.i64.wrap (2 ^ d) = 2 ^ d := by
  have h1 : (2 : Nat) ^ d ≤ 2 ^ 23 := Nat.pow_le_pow_right (by omega) h
  have e : (2 : Int) ^ d = ((2 ^ d : Nat) : Int) := by rw [Int.natCast_pow]; rfl
  rw [e]
  generalize (2 : Nat) ^ d = x at *
  rw [IntKind.wrap_i64] <;> omega
set_option maxHeartbeats 4000000 in
set_option maxRecDepth 20000 in
theorem un_low (d : Int) (s : ByteArray) (hd : d < 1)
    (HU : Hid (∀ W, Calls Tryz.prog 62 #[.int .i64 d, .string s] W fun e w' => e = .returned (.tuple #[.agg (polyA .i64 (fun _ => 0)), .iface 138 (.int .i64 1)]) ∧ W.grownBy w' none))
    (w : World) (hE : Et w) : Calls Tryz.prog 30 #[.int .i64 d, .string s] w fun e w' => e = .returned (.tuple #[.agg (polyA .i64 (fun _ => 0)), .bool true]) ∧ w.grownBy w' none := by
  have n0 := new_alloc .i64 w (fun _ => 0) 43
  rw [← Tryz.zY] at n0
  go_enter Tryz.func30, Tryz.ntmps30
  go_wp2_with fail
  refine (HU.out _).mono ?_
  rintro e v1 ⟨rfl, y1⟩
  have g1 := grownBy_trans n0.g y1
  have r1 := n0.r.new y1
  have l1 := r1.lt
  clear n0 y1
  have m1 := new_alloc .i64 v1 (fun _ => 0) 71
  rw [← Tryz.zA] at m1
  have g1b := grownBy_trans g1 m1.g
  have r1b := r1.new m1.g
  go_wp2_with (first | (refine wpL_store rfl .i64 71 _ _ rfl v1.heap.size 0 rfl _ rfl .i64 _ m1.r Tryz.sA ?_; intro v2 p2; have n2 := new_alloc .i64 v2 (fun _ => 0) 43; rw [← Tryz.zY] at n2; have s2 := p2.s; rw [m1.s] at s2; have c2 := p2.r.new n2.g; have g2 := grownBy_trans (grown_new g1b p2.g g1.size) n2.g; have r2 := (r1b.far p2.g (by simp; omega)).new n2.g))
  have d2 := n2.r
  rw [s2] at d2
  obtain ⟨x, hx⟩ : ∃ x, x = v1.heap.size := ⟨_, rfl⟩
  rw [← hx] at c2 d2 l1 ⊢
  clear hx m1 g1b r1b n2 p2 g1 r1 s2
  have hE2 := hE.new g2
  refine (ltold_err 1 _ hE2 (by decide)).mono ?_
  rintro e v4 ⟨rfl, y4⟩
  have g4 := grownBy_trans g2 y4
  have r4 := r2.new y4
  have c4 := c2.new y4
  have d4 := d2.new y4
  clear g2 r2 c2 d2 y4 hE2
  go_wp2_with (first | (refine wpL_load rfl .i64 71 _ rfl x 0 rfl _ c4 ⟨_, Tryz.uA⟩ Tryz.sA ?_) | (refine wpL_load rfl .i64 43 _ rfl (x + 1) 0 rfl _ d4 ⟨_, Tryz.uY⟩ Tryz.sY ?_))
  refine (is_same _ _ (fun _ _ => rfl) _).mono ?_
  rintro e v5 ⟨rfl, y5⟩
  have g5 := grownBy_trans g4 y5
  have r5 := r4.new y5
  have d5 := d4.new y5
  clear g4 r4 c4 d4 y5
  go_wp2_with (first | (refine wpL_load rfl .i64 43 _ rfl (x + 1) 0 rfl _ d5 ⟨_, Tryz.uY⟩ Tryz.sY ?_) | (refine wpL_store rfl .i64 43 _ _ rfl w.heap.size 0 rfl _ rfl .i64 _ r5 Tryz.sY ?_; intro v6 p6))
  refine bodyPost_ret (res2 Tryz.results30 .i64 _ v6 w.heap.size _ _ rfl rfl p6.r ⟨_, Tryz.uY⟩ Tryz.sY) rfl ⟨rfl, grown_new g5 p6.g (Nat.le_refl _)⟩
set_option maxHeartbeats 4000000 in
set_option maxRecDepth 20000 in
theorem un_high (d : Int) (s : ByteArray) (hd : 23 < d)
    (HU : Hid (∀ W, Calls Tryz.prog 62 #[.int .i64 d, .string s] W fun e w' => e = .returned (.tuple #[.agg (polyA .i64 (fun _ => 0)), .iface 138 (.int .i64 1)]) ∧ W.grownBy w' none))
    (w : World) (hE : Et w) : Calls Tryz.prog 30 #[.int .i64 d, .string s] w fun e w' => e = .returned (.tuple #[.agg (polyA .i64 (fun _ => 0)), .bool true]) ∧ w.grownBy w' none := by
  have n0 := new_alloc .i64 w (fun _ => 0) 43
  rw [← Tryz.zY] at n0
  go_enter Tryz.func30, Tryz.ntmps30
  go_wp2_with fail
  refine (HU.out _).mono ?_
  rintro e v1 ⟨rfl, y1⟩
  have g1 := grownBy_trans n0.g y1
  have r1 := n0.r.new y1
  have l1 := r1.lt
  clear n0 y1
  have m1 := new_alloc .i64 v1 (fun _ => 0) 71
  rw [← Tryz.zA] at m1
  have g1b := grownBy_trans g1 m1.g
  have r1b := r1.new m1.g
  go_wp2_with (first | (refine wpL_store rfl .i64 71 _ _ rfl v1.heap.size 0 rfl _ rfl .i64 _ m1.r Tryz.sA ?_; intro v2 p2; have n2 := new_alloc .i64 v2 (fun _ => 0) 43; rw [← Tryz.zY] at n2; have s2 := p2.s; rw [m1.s] at s2; have c2 := p2.r.new n2.g; have g2 := grownBy_trans (grown_new g1b p2.g g1.size) n2.g; have r2 := (r1b.far p2.g (by simp; omega)).new n2.g))
  have d2 := n2.r
  rw [s2] at d2
  obtain ⟨x, hx⟩ : ∃ x, x = v1.heap.size := ⟨_, rfl⟩
  rw [← hx] at c2 d2 l1 ⊢
  clear hx m1 g1b r1b n2 p2 g1 r1 s2
  have hE2 := hE.new g2
  refine (ltold_err 1 _ hE2 (by decide)).mono ?_
  rintro e v4 ⟨rfl, y4⟩
  have g4 := grownBy_trans g2 y4
  have r4 := r2.new y4
  have c4 := c2.new y4
  have d4 := d2.new y4
  clear g2 r2 c2 d2 y4 hE2
  go_wp2_with (first | (refine wpL_load rfl .i64 71 _ rfl x 0 rfl _ c4 ⟨_, Tryz.uA⟩ Tryz.sA ?_) | (refine wpL_load rfl .i64 43 _ rfl (x + 1) 0 rfl _ d4 ⟨_, Tryz.uY⟩ Tryz.sY ?_))
  refine (is_same _ _ (fun _ _ => rfl) _).mono ?_
  rintro e v5 ⟨rfl, y5⟩
  have g5 := grownBy_trans g4 y5
  have r5 := r4.new y5
  have d5 := d4.new y5
  clear g4 r4 c4 d4 y5
  go_wp2_with (first | (refine wpL_load rfl .i64 43 _ rfl (x + 1) 0 rfl _ d5 ⟨_, Tryz.uY⟩ Tryz.sY ?_) | (refine wpL_store rfl .i64 43 _ _ rfl w.heap.size 0 rfl _ rfl .i64 _ r5 Tryz.sY ?_; intro v6 p6))
  refine bodyPost_ret (res2 Tryz.results30 .i64 _ v6 w.heap.size _ _ rfl rfl p6.r ⟨_, Tryz.uY⟩ Tryz.sY) rfl ⟨rfl, grown_new g5 p6.g (Nat.le_refl _)⟩
set_option maxHeartbeats 4000000 in
set_option maxRecDepth 20000 in
theorem un_len (d : Nat) (s : ByteArray) (hd0 : 1 ≤ d) (hd1 : d ≤ 23) (hs : ¬ s.size = 32 * d) (_hs2 : s.size ≤ 1000000)
    (HU : Hid (∀ W, Calls Tryz.prog 62 #[.int .i64 (d : Int), .string s] W fun e w' => e = .returned (.tuple #[.agg (polyA .i64 (fun _ => 0)), .iface 138 (.int .i64 2)]) ∧ W.grownBy w' none))
    (w : World) (hE : Et w) : Calls Tryz.prog 30 #[.int .i64 (d : Int), .string s] w fun e w' => e = .returned (.tuple #[.agg (polyA .i64 (fun _ => 0)), .bool true]) ∧ w.grownBy w' none := by
  have d0 : (1 : Int) ≤ (d : Int) := by omega
  have d1 : (d : Int) ≤ 23 := by omega
  have sz : ((s.size : Int) != 32 * (d : Int)) = true := by simp; omega
  have n0 := new_alloc .i64 w (fun _ => 0) 43
  rw [← Tryz.zY] at n0
  go_enter Tryz.func30, Tryz.ntmps30
  go_wp2_with fail
  refine (HU.out _).mono ?_
  rintro e v1 ⟨rfl, y1⟩
  have g1 := grownBy_trans n0.g y1
  have r1 := n0.r.new y1
  have l1 := r1.lt
  clear n0 y1
  have m1 := new_alloc .i64 v1 (fun _ => 0) 71
  rw [← Tryz.zA] at m1
  have g1b := grownBy_trans g1 m1.g
  have r1b := r1.new m1.g
  go_wp2_with (first | (refine wpL_store rfl .i64 71 _ _ rfl v1.heap.size 0 rfl _ rfl .i64 _ m1.r Tryz.sA ?_; intro v2 p2; have n2 := new_alloc .i64 v2 (fun _ => 0) 43; rw [← Tryz.zY] at n2; have s2 := p2.s; rw [m1.s] at s2; have c2 := p2.r.new n2.g; have g2 := grownBy_trans (grown_new g1b p2.g g1.size) n2.g; have r2 := (r1b.far p2.g (by simp; omega)).new n2.g))
  have d2 := n2.r
  rw [s2] at d2
  obtain ⟨x, hx⟩ : ∃ x, x = v1.heap.size := ⟨_, rfl⟩
  rw [← hx] at c2 d2 l1 ⊢
  clear hx m1 g1b r1b n2 p2 g1 r1 s2
  have hE2 := hE.new g2
  refine (ltold_err 2 _ hE2 (by decide)).mono ?_
  rintro e v4 ⟨rfl, y4⟩
  have g4 := grownBy_trans g2 y4
  have r4 := r2.new y4
  have c4 := c2.new y4
  have d4 := d2.new y4
  clear g2 r2 c2 d2 y4 hE2
  go_wp2_with (first | (refine wpL_load rfl .i64 71 _ rfl x 0 rfl _ c4 ⟨_, Tryz.uA⟩ Tryz.sA ?_) | (refine wpL_load rfl .i64 43 _ rfl (x + 1) 0 rfl _ d4 ⟨_, Tryz.uY⟩ Tryz.sY ?_))
  refine (is_same _ _ (fun _ _ => rfl) _).mono ?_
  rintro e v5 ⟨rfl, y5⟩
  have g5 := grownBy_trans g4 y5
  have r5 := r4.new y5
  have d5 := d4.new y5
  clear g4 r4 c4 d4 y5
  go_wp2_with (first | (refine wpL_load rfl .i64 43 _ rfl (x + 1) 0 rfl _ d5 ⟨_, Tryz.uY⟩ Tryz.sY ?_) | (refine wpL_store rfl .i64 43 _ _ rfl w.heap.size 0 rfl _ rfl .i64 _ r5 Tryz.sY ?_; intro v6 p6))
  refine bodyPost_ret (res2 Tryz.results30 .i64 _ v6 w.heap.size _ _ rfl rfl p6.r ⟨_, Tryz.uY⟩ Tryz.sY) rfl ⟨rfl, grown_new g5 p6.g (Nat.le_refl _)⟩
set_option maxHeartbeats 4000000 in
set_option maxRecDepth 20000 in
theorem un_k (d : Nat) (s : ByteArray) (H1 H : Nat → Int) (hH : ∀ j, j < 256 → H1 j = H j) (hd0 : 1 ≤ d) (hd1 : d ≤ 23) (hs : s.size = 32 * d)
    (HU : Hid (∀ W, Calls Tryz.prog 62 #[.int .i64 (d : Int), .string s] W fun e w' => e = .returned (.tuple #[.agg (polyA .i64 H1), .nilIface]) ∧ W.grownBy w' none))
    (HW : Hid (∀ W, Calls Tryz.prog 63 #[.int .i64 (d : Int), .string s] W fun e w' => e = .returned (.agg (polyA .i64 H)) ∧ W.grownBy w' none))
    (w : World) : Calls Tryz.prog 30 #[.int .i64 (d : Int), .string s] w fun e w' => e = .returned (.tuple #[.agg (polyA .i64 H), .bool true]) ∧ w.grownBy w' none := by
  have HH : Hid (∀ j, j < 256 → H1 j = H j) := hH
  clear hH
  have d0 : (1 : Int) ≤ (d : Int) := by omega
  have d1 : (d : Int) ≤ 23 := by omega
  have sz : (s.size : Int) = 32 * (d : Int) := by omega
  have n0 := new_alloc .i64 w (fun _ => 0) 43
  rw [← Tryz.zY] at n0
  go_enter Tryz.func30, Tryz.ntmps30
  go_wp2_with fail
  refine (HU.out _).mono ?_
  rintro e v1 ⟨rfl, y1⟩
  have g1 := grownBy_trans n0.g y1
  have r1 := n0.r.new y1
  have l1 := r1.lt
  clear n0 y1
  have m1 := new_alloc .i64 v1 (fun _ => 0) 71
  rw [← Tryz.zA] at m1
  have g1b := grownBy_trans g1 m1.g
  have r1b := r1.new m1.g
  go_wp2_with (first | (refine wpL_store rfl .i64 71 _ _ rfl v1.heap.size 0 rfl _ rfl .i64 _ m1.r Tryz.sA ?_; intro v2 p2; have n2 := new_alloc .i64 v2 (fun _ => 0) 43; rw [← Tryz.zY] at n2; have s2 := p2.s; rw [m1.s] at s2; have c2 := p2.r.new n2.g; have g2 := grownBy_trans (grown_new g1b p2.g g1.size) n2.g; have r2 := (r1b.far p2.g (by simp; omega)).new n2.g))
  have d2 := n2.r
  rw [s2] at d2
  obtain ⟨x, hx⟩ : ∃ x, x = v1.heap.size := ⟨_, rfl⟩
  rw [← hx] at c2 d2 l1 ⊢
  clear hx m1 g1b r1b n2 p2 g1 r1 s2
  refine (HW.out _).mono ?_
  rintro e v3 ⟨rfl, y3⟩
  have g3 := grownBy_trans g2 y3
  have r3 := r2.new y3
  have c3 := c2.new y3
  have d3 := d2.new y3
  have lw := (show w.heap.size ≤ x + 1 by omega)
  clear g2 r2 c2 d2 y3
  go_wp2_with (first | (refine wpL_store rfl .i64 43 _ _ rfl (x + 1) 0 rfl _ rfl .i64 _ d3 Tryz.sY ?_; intro v4 p4; have g4 := grown_new g3 p4.g lw; have r4 := r3.far p4.g (by simp; omega); have c4 := c3.far p4.g (by simp)))
  have d4 := p4.r
  refine (ltold_nil _).mono ?_
  rintro e w' ⟨rfl, hw⟩
  rw [hw]
  clear hw w' g3 r3 c3 d3 p4
  go_wp2_with (first | (refine wpL_load rfl .i64 71 _ rfl x 0 rfl _ c4 ⟨_, Tryz.uA⟩ Tryz.sA ?_) | (refine wpL_load rfl .i64 43 _ rfl (x + 1) 0 rfl _ d4 ⟨_, Tryz.uY⟩ Tryz.sY ?_))
  refine (is_same _ _ HH.out _).mono ?_
  rintro e v5 ⟨rfl, y5⟩
  have g5 := grownBy_trans g4 y5
  have r5 := r4.new y5
  have d5 := d4.new y5
  clear g4 r4 c4 d4 y5
  go_wp2_with (first | (refine wpL_load rfl .i64 43 _ rfl (x + 1) 0 rfl _ d5 ⟨_, Tryz.uY⟩ Tryz.sY ?_) | (refine wpL_store rfl .i64 43 _ _ rfl w.heap.size 0 rfl _ rfl .i64 _ r5 Tryz.sY ?_; intro v6 p6))
  refine bodyPost_ret (res2 Tryz.results30 .i64 _ v6 w.heap.size _ _ rfl rfl p6.r ⟨_, Tryz.uY⟩ Tryz.sY) rfl ⟨rfl, grown_new g5 p6.g (Nat.le_refl _)⟩
set_option maxHeartbeats 4000000 in
set_option maxRecDepth 20000 in
theorem pk_low (d : Int) (L : Nat → Int) (hd : d < 1)
    (HP : Hid (∀ W, Calls Tryz.prog 60 #[.int .i64 d, .agg (polyA .i64 L)] W fun e w' => e = .returned (.tuple #[.string ByteArray.empty, .iface 138 (.int .i64 1)]) ∧ W.grownBy w' none))
    (w : World) (hE : Et w) : Calls Tryz.prog 29 #[.int .i64 d, .agg (polyA .i64 L)] w fun e w' => e = .returned (.tuple #[.string ByteArray.empty, .bool true]) ∧ w.grownBy w' none := by
  have n0 := new_alloc .i64 w L 43
  go_enter Tryz.func29, Tryz.ntmps29
  go_wp2_with (first | (refine wpL_load rfl .i64 43 _ rfl w.heap.size 0 rfl L n0.r ⟨_, Tryz.uY⟩ Tryz.sY ?_))
  refine (lpoly_any L _).mono ?_
  rintro e v1 ⟨rfl, y1⟩
  have g1 := grownBy_trans n0.g y1
  have r1 := n0.r.new y1
  clear n0 y1
  go_wp2_with fail
  refine (HP.out _).mono ?_
  rintro e v2 ⟨rfl, y2⟩
  have g2 := grownBy_trans g1 y2
  have r2 := r1.new y2
  clear g1 r1 y2
  have hE3 := hE.new g2
  go_wp2_with fail
  refine (ltold_err 1 _ hE3 (by decide)).mono ?_
  rintro e v4 ⟨rfl, y4⟩
  have g4 := grownBy_trans g2 y4
  clear g2 r2 y4 hE3
  go_wp2
  go_ret2
  exact ⟨rfl, g4⟩
set_option maxHeartbeats 4000000 in
set_option maxRecDepth 20000 in
theorem pk_high (d : Int) (L : Nat → Int) (hd : 23 < d)
    (HP : Hid (∀ W, Calls Tryz.prog 60 #[.int .i64 d, .agg (polyA .i64 L)] W fun e w' => e = .returned (.tuple #[.string ByteArray.empty, .iface 138 (.int .i64 1)]) ∧ W.grownBy w' none))
    (w : World) (hE : Et w) : Calls Tryz.prog 29 #[.int .i64 d, .agg (polyA .i64 L)] w fun e w' => e = .returned (.tuple #[.string ByteArray.empty, .bool true]) ∧ w.grownBy w' none := by
  have n0 := new_alloc .i64 w L 43
  go_enter Tryz.func29, Tryz.ntmps29
  go_wp2_with (first | (refine wpL_load rfl .i64 43 _ rfl w.heap.size 0 rfl L n0.r ⟨_, Tryz.uY⟩ Tryz.sY ?_))
  refine (lpoly_any L _).mono ?_
  rintro e v1 ⟨rfl, y1⟩
  have g1 := grownBy_trans n0.g y1
  have r1 := n0.r.new y1
  clear n0 y1
  go_wp2_with fail
  refine (HP.out _).mono ?_
  rintro e v2 ⟨rfl, y2⟩
  have g2 := grownBy_trans g1 y2
  have r2 := r1.new y2
  clear g1 r1 y2
  have hE3 := hE.new g2
  go_wp2_with fail
  refine (ltold_err 1 _ hE3 (by decide)).mono ?_
  rintro e v4 ⟨rfl, y4⟩
  have g4 := grownBy_trans g2 y4
  clear g2 r2 y4 hE3
  go_wp2
  go_ret2
  exact ⟨rfl, g4⟩
attribute [local go_sem ↓] ld_hide
set_option maxHeartbeats 4000000 in
set_option maxRecDepth 20000 in
theorem pk_bad (d : Nat) (L : Nat → Int) (hd0 : 1 ≤ d) (hd1 : d ≤ 23) (hL : ¬ InB L (2 ^ d))
    (HP : Hid (∀ W, Calls Tryz.prog 60 #[.int .i64 (d : Int), .agg (polyA .i64 L)] W fun e w' => e = .returned (.tuple #[.string ByteArray.empty, .iface 138 (.int .i64 5)]) ∧ W.grownBy w' none))
    (w : World) (hE : Et w) : Calls Tryz.prog 29 #[.int .i64 (d : Int), .agg (polyA .i64 L)] w fun e w' => e = .returned (.tuple #[.string ByteArray.empty, .bool true]) ∧ w.grownBy w' none := by
  have d0 : (1 : Int) ≤ (d : Int) := by omega
  have d1 : (d : Int) ≤ 23 := by omega
  have dn : (0 : Int) ≤ (d : Int) := by omega
  have E1 : Hid (IntKind.i64.wrap (2 ^ d) = 2 ^ d) := pow_23 d hd1
  have n0 := new_alloc .i64 w L 43
  go_enter Tryz.func29, Tryz.ntmps29
  go_wp2_with (first | (refine wpL_load rfl .i64 43 _ rfl w.heap.size 0 rfl L n0.r ⟨_, Tryz.uY⟩ Tryz.sY ?_))
  refine (lpoly_any L _).mono ?_
  rintro e v1 ⟨rfl, y1⟩
  have g1 := grownBy_trans n0.g y1
  have r1 := n0.r.new y1
  clear n0 y1
  go_wp2_with fail
  refine (HP.out _).mono ?_
  rintro e v2 ⟨rfl, y2⟩
  have g2 := grownBy_trans g1 y2
  have r2 := r1.new y2
  clear g1 r1 y2
  have HR : Hid (PRow .i64 v2 w.heap.size 0 L) := r2
  have HG : Hid (w.grownBy v2 none) := g2
  have L1 := run_hidLd v2 w.heap.size 0 L r2
  have L2 := run_hidLd v2.drew w.heap.size 0 L r2.drew
  have HBd : Hid (∀ W, Calls Tryz.prog 52 #[.agg (polyA .i64 L), .int .i64 (IntKind.i64.wrap (2 ^ d))] W fun e w' => e = .returned (.bool false) ∧ W.grownBy w' none) := fun W => by
    rw [E1.out]
    refine (bound_any L (2 ^ d) W).mono ?_
    rintro e w' ⟨b, rfl, hb, hg⟩
    have hbf : b = false := by
      cases b
      · rfl
      · exact absurd (hb.1 rfl) hL
    subst hbf
    exact ⟨rfl, hg⟩
  clear g2 r2
  go_wp2_with fail
  go_region_with (first | (go_at_call 52; refine (HBd.out _).mono ?_; rintro e v3 ⟨rfl, y3⟩))
  have y23 : v2.grownBy v3 none := grownBy_trans (grown_drew (World.grownBy.refl v2 none)) y3
  have g3 := grownBy_trans HG.out y23
  have r3 := HR.out.new y23
  clear L1 L2 HR HG y23 y3
  have hE3 := hE.new g3
  go_wp2_with fail
  refine (ltold_err 5 _ hE3 (by decide)).mono ?_
  rintro e v4 ⟨rfl, y4⟩
  have g4 := grownBy_trans g3 y4
  clear g3 r3 y4 hE3
  go_wp2
  go_ret2
  exact ⟨rfl, g4⟩
set_option maxHeartbeats 4000000 in
set_option maxRecDepth 20000 in
theorem pk_k (d : Nat) (L : Nat → Int) (t : ByteArray) (hd0 : 1 ≤ d) (hd1 : d ≤ 23) (hL : InB L (2 ^ d))
    (HP : Hid (∀ W, Calls Tryz.prog 60 #[.int .i64 (d : Int), .agg (polyA .i64 L)] W fun e w' => e = .returned (.tuple #[.string t, .nilIface]) ∧ W.grownBy w' none))
    (HW : Hid (∀ W, Calls Tryz.prog 61 #[.int .i64 (d : Int), .agg (polyA .i64 L)] W fun e w' => e = .returned (.string t) ∧ W.grownBy w' none))
    (w : World) : Calls Tryz.prog 29 #[.int .i64 (d : Int), .agg (polyA .i64 L)] w fun e w' => e = .returned (.tuple #[.string t, .bool true]) ∧ w.grownBy w' none := by
  have d0 : (1 : Int) ≤ (d : Int) := by omega
  have d1 : (d : Int) ≤ 23 := by omega
  have dn : (0 : Int) ≤ (d : Int) := by omega
  have E1 : Hid (IntKind.i64.wrap (2 ^ d) = 2 ^ d) := pow_23 d hd1
  have n0 := new_alloc .i64 w L 43
  go_enter Tryz.func29, Tryz.ntmps29
  go_wp2_with (first | (refine wpL_load rfl .i64 43 _ rfl w.heap.size 0 rfl L n0.r ⟨_, Tryz.uY⟩ Tryz.sY ?_))
  refine (lpoly_any L _).mono ?_
  rintro e v1 ⟨rfl, y1⟩
  have g1 := grownBy_trans n0.g y1
  have r1 := n0.r.new y1
  clear n0 y1
  go_wp2_with fail
  refine (HP.out _).mono ?_
  rintro e v2 ⟨rfl, y2⟩
  have g2 := grownBy_trans g1 y2
  have r2 := r1.new y2
  clear g1 r1 y2
  have HR : Hid (PRow .i64 v2 w.heap.size 0 L) := r2
  have HG : Hid (w.grownBy v2 none) := g2
  have L1 := run_hidLd v2 w.heap.size 0 L r2
  have L2 := run_hidLd v2.drew w.heap.size 0 L r2.drew
  have HBd : Hid (∀ W, Calls Tryz.prog 52 #[.agg (polyA .i64 L), .int .i64 (IntKind.i64.wrap (2 ^ d))] W fun e w' => e = .returned (.bool true) ∧ W.grownBy w' none) := fun W => by
    rw [E1.out]
    refine (bound_any L (2 ^ d) W).mono ?_
    rintro e w' ⟨b, rfl, hb, hg⟩
    obtain rfl : b = true := hb.2 hL
    exact ⟨rfl, hg⟩
  clear g2 r2
  go_wp2_with fail
  go_region_with (first | (go_at_call 52; refine (HBd.out _).mono ?_; rintro e v3 ⟨rfl, y3⟩))
  have y23 : v2.grownBy v3 none := grownBy_trans (grown_drew (World.grownBy.refl v2 none)) y3
  have g3 := grownBy_trans HG.out y23
  have r3 := HR.out.new y23
  clear L1 L2 HR HG y23 y3
  go_wp2_with (first | (refine wpL_load rfl .i64 43 _ rfl w.heap.size 0 rfl L r3 ⟨_, Tryz.uY⟩ Tryz.sY ?_))
  refine (HW.out _).mono ?_
  rintro e v4 ⟨rfl, y4⟩
  have g4 := grownBy_trans g3 y4
  clear g3 r3 y4
  go_wp2_with fail
  refine (ltold_nil _).mono ?_
  rintro e w' ⟨rfl, hw⟩
  rw [hw]
  clear hw w'
  go_wp2
  go_ret2
  exact ⟨rfl, g4⟩
end Go.Proofs.YtkijpphmiogbbaaGreatDoor.Z
