import Derived.Test.YtikcbdpijjafjaaGreatDoorK09
namespace Go.Proofs.YtikcbdpijjafjaaGreatDoor.Z
open Go.RowKit
attribute [local go_sem ↓] Go.wp_at_zero Go.wp_at_succ
attribute [local go_sem ↓] ld_hide st_hide bs_hide ldA_hide stA_hide Hf.ld_hide Hf.st_hide

theorem acc_val (g f p q : Int) (g0 : 0 ≤ g) (g1 : g < q) (f0 : 0 ≤ f) (f1 : f < q) (p0 : 0 ≤ p) (p1 : p < q) (hq : q ≤ 8380417) :
    IntKind.i64.wrap (f * p) = f * p ∧ IntKind.i64.wrap (g + f * p) = g + f * p ∧ (g + f * p).tmod q = (g + f * p) % q := by
  obtain ⟨h0, h1⟩ := mul_bd f p q f0 f1 p0 p1 hq
  exact ⟨by rw [IntKind.wrap_i64] <;> omega, by rw [IntKind.wrap_i64] <;> omega, Int.tmod_eq_emod_of_nonneg (by omega)⟩
theorem two_facts (k : Nat) (h : k < 128) : (2 * (k : Int)).toNat = 2 * k ∧ (2 * (k : Int) + 1).toNat = 2 * k + 1 ∧ IntKind.i64.wrap (2 * (k : Int)) = 2 * (k : Int) ∧ IntKind.i64.wrap (2 * (k : Int) + 1) = 2 * (k : Int) + 1 :=
  ⟨by omega, by omega, by rw [IntKind.wrap_i64] <;> omega, by rw [IntKind.wrap_i64] <;> omega⟩
/-- The sum of the first t products. -/
def fwPart (L : Nat → Int) (k t r : Nat) : Int := sm t (fun t => L (2 * t + r) * (yS k ^ t % 3329)) % 3329
theorem fwPart_range (L : Nat → Int) (k t r : Nat) : 0 ≤ fwPart L k t r ∧ fwPart L k t r < 3329 := ⟨Int.emod_nonneg _ (by omega), Int.emod_lt_of_pos _ (by omega)⟩
theorem fwPart_step (L : Nat → Int) (k t r : Nat) : (fwPart L k t r + L (2 * t + r) * (yS k ^ t % 3329)) % 3329 = fwPart L k (t + 1) r := by
  unfold fwPart
  rw [sm, Int.emod_add_emod]
def fwRow (L : Nat → Int) (k t e : Nat) : Nat → Int := fun j => if j / 2 < k then rFwdS L j else if j = 2 * k then fwPart L k (t + e) 0 else if j = 2 * k + 1 then fwPart L k t 1 else 0
theorem fwRow_even (L : Nat → Int) (k t : Nat) (j : Nat) : upd (fwRow L k t 0) (2 * k) (fwPart L k (t + 1) 0) j = fwRow L k t 1 j := by
  unfold upd fwRow
  by_cases e : j = 2 * k
  · rw [if_pos e, if_neg (by omega), if_pos e]
  · simp only [if_neg e]
theorem fwRow_odd (L : Nat → Int) (k t : Nat) (j : Nat) : upd (fwRow L k t 1) (2 * k + 1) (fwPart L k (t + 1) 1) j = fwRow L k (t + 1) 0 j := by
  unfold upd fwRow
  by_cases e : j = 2 * k + 1
  · rw [if_pos e, if_neg (by omega), if_neg (by omega), if_pos e]
  · simp only [if_neg e, Nat.add_zero]
theorem fwRow_at (L : Nat → Int) (k t e : Nat) : fwRow L k t e (2 * k) = fwPart L k (t + e) 0 ∧ fwRow L k t e (2 * k + 1) = fwPart L k t 1 := by
  unfold fwRow
  exact ⟨by rw [if_neg (by omega), if_pos rfl], by rw [if_neg (by omega), if_neg (by omega), if_pos rfl]⟩
theorem fwRow_zero (L : Nat → Int) (k : Nat) (j : Nat) : (if j / 2 < k then rFwdS L j else 0) = fwRow L k 0 0 j := by
  unfold fwRow
  by_cases e : j / 2 < k
  · rw [if_pos e, if_pos e]
  · rw [if_neg e, if_neg e]
    by_cases e1 : j = 2 * k
    · rw [if_pos e1]; rfl
    · rw [if_neg e1]
      by_cases e2 : j = 2 * k + 1
      · rw [if_pos e2]; rfl
      · rw [if_neg e2]
theorem fwRow_all (L : Nat → Int) (k : Nat) (j : Nat) : fwRow L k 128 0 j = if j / 2 < k + 1 then rFwdS L j else 0 := by
  unfold fwRow
  by_cases e : j / 2 < k
  · rw [if_pos e, if_pos (by omega)]
  · rw [if_neg e]
    by_cases e1 : j = 2 * k
    · rw [if_pos e1, if_pos (by omega), e1]
      unfold fwPart rFwdS
      rw [Nat.mul_mod_right, Nat.mul_div_cancel_left _ (by omega)]
    · rw [if_neg e1]
      by_cases e2 : j = 2 * k + 1
      · rw [if_pos e2, if_pos (by omega), e2]
        unfold fwPart rFwdS
        rw [show (2 * k + 1) % 2 = 1 by omega, show (2 * k + 1) / 2 = k by omega]
      · rw [if_neg e2, if_neg (by omega)]
set_option maxHeartbeats 4000000 in
set_option maxRecDepth 20000 in
theorem rfwd_any (L : Nat → Int) (hL : InB L 3329) (w : World) :
    Calls Tryz.prog 113 #[.agg (polyA .i64 L)] w fun e w' => e = .returned (.agg (polyA .i64 (rFwdS L))) ∧ w.grownBy w' none := by
  have n1 := new_alloc .i64 w L 43
  generalize hw1 : w.alloc (.cells (polyA .i64 L) 43) = w1 at n1
  have n2 := new_alloc .i64 w1 (fun _ => 0) 43
  rw [← Tryz.zY] at n2
  have s1 := n1.s
  have g3 : w.grownBy (w1.alloc (.cells Tryz.zeroCells43 43)) none := grownBy_trans n1.g n2.g
  have r1 := n1.r.new n2.g
  have r2 := n2.r
  rw [s1] at r2
  have HL : Hid (InB L 3329) := hL
  have HRt := hidz roots_any
  clear hL
  go_enter Tryz.func113, Tryz.ntmps113
  go_wp2_with fail
  generalize (w.alloc (.cells (polyA .i64 L) 43)) = w9 at *
  subst hw1
  generalize w9.alloc (.cells Tryz.zeroCells43 43) = W3 at *
  clear n1 n2 s1
  refine (HRt.out W3).mono ?_
  rintro e w4 ⟨rfl, g4⟩
  have z1 := r1.new g4
  have z2 := r2.new g4
  have z3 := grownBy_trans g3 g4
  have z4 : w.heap.size + 1 < w4.heap.size := z2.lt
  clear g3 g4 r1 r2
  have m5 := Hf.new_alloc .i64 w4 (fun _ => 0) 243
  rw [← Hf.Tryz.zR] at m5
  have mr := m5.r
  have ms := m5.s
  have mg := m5.g
  clear m5
  generalize hb : w4.heap.size = bR at *
  have st := Hf.run_hidSt _ bR yS _ mr
  have p5 := Hf.put_cells .i64 _ bR 0 yS (mr.there .i64 _)
  have s5 : ((w4.alloc (.cells Tryz.zeroCells243 243)).setCells bR 0 (Hf.polyA .i64 yS).toList).heap.size = bR + 1 := by rw [p5.s, ms]
  have y1 := ((z1.new mg).far p5.g (by intro h; injection h; omega))
  have y2 := ((z2.new mg).far p5.g (by intro h; injection h; omega))
  have y3 := grown_new (grownBy_trans z3 mg) p5.g (by omega)
  have y4 := p5.r
  go_wp2
  generalize ((w4.alloc (.cells Tryz.zeroCells243 243)).setCells bR 0 (Hf.polyA .i64 yS).toList) = w5 at *
  clear mr ms mg st p5 hb z1 z2 z3 HRt
  have n6 := new_alloc .i64 w5 (fun _ => 0) 43
  rw [← Tryz.zY] at n6
  have x1 := y1.new n6.g
  have x2 := y2.new n6.g
  have x3 := grownBy_trans y3 n6.g
  have x4 : Hf.PRow .i64 _ bR 0 yS := y4.new n6.g
  have x5 := n6.r
  rw [s5] at x5
  generalize w5.alloc (.cells Tryz.zeroCells43 43) = w6 at *
  clear n6 y1 y2 y3 y4
  go_loopw [5] (fun i wr => ∃ k : Nat, k ≤ 128 ∧ i = .int .i64 k ∧ w.grownBy wr none ∧ PRow .i64 wr w.heap.size 0 L ∧ PRow .i64 wr (w.heap.size + 1) 0 (fun _ => 0) ∧ Hf.PRow .i64 wr bR 0 yS ∧ PRow .i64 wr (bR + 1) 0 (fun j => if j / 2 < k then rFwdS L j else 0)) (fun i _ => 128 - (intOf i).toNat)
  case atStart => exact ⟨0, by omega, rfl, x3, x1, x2, x4, x5.ext (fun j _ => by simp)⟩
  case round =>
    clear x1 x2 x3 x4 x5
    obtain ⟨k, hk, rfl, x3, x1, x2, x4, x5⟩ := hrel
    by_cases hlt : k < 128
    · have k0 : (0 : Int) ≤ (k : Int) := Int.natCast_nonneg k
      have k1 : (k : Int) < 128 := by omega
      obtain ⟨f1, f2, f3, f4⟩ := two_facts k hlt
      go_wp2
      go_loopw [6, 7] (fun p j wr => ∃ (t : Nat) (v : Int), t ≤ 128 ∧ j = .int .i64 t ∧ p = .int .i64 v ∧ Hid (v = yS k ^ t % 3329) ∧ w.grownBy wr none ∧ PRow .i64 wr w.heap.size 0 L ∧ PRow .i64 wr (w.heap.size + 1) 0 (fun _ => 0) ∧ Hf.PRow .i64 wr bR 0 yS ∧ PRow .i64 wr (bR + 1) 0 (fwRow L k t 0)) (fun _ j _ => 128 - (intOf j).toNat)
      case atStart => exact ⟨0, 1, by omega, rfl, rfl, (by show (1 : Int) = yS k ^ 0 % 3329; simp), x3, x1, x2, x4, x5.ext (fun j _ => fwRow_zero L k j)⟩
      case round =>
        clear x1 x2 x3 x4 x5
        obtain ⟨t, v, ht, rfl, rfl, HV, x3, x1, x2, x4, x5⟩ := hrel
        by_cases hlt2 : t < 128
        · have t0 : (0 : Int) ≤ (t : Int) := Int.natCast_nonneg t
          have t1 : (t : Int) < 128 := by omega
          obtain ⟨h1, h2, h3, h4⟩ := two_facts t hlt2
          have v0 : 0 ≤ v := by rw [HV.out]; exact Int.emod_nonneg _ (by omega)
          have v1 : v < 3329 := by rw [HV.out]; exact Int.emod_lt_of_pos _ (by omega)
          have c1 := (x1.at0 (2 * t) (by omega)).1
          have c2 := (x5.at0 (2 * k) (by omega)).1
          have c3 := (x5.at0 (2 * k) (by omega)).2
          rw [(fwRow_at L k t 0).1] at c2
          obtain ⟨a0, a1⟩ := HL.out (2 * t) (by omega)
          obtain ⟨b0, b1⟩ := fwPart_range L k (t + 0) 0
          obtain ⟨e1, e2, e3⟩ := acc_val (fwPart L k (t + 0) 0) (L (2 * t)) v 3329 b0 b1 a0 a1 v0 v1 (by omega)
          have HS : Hid ((fwPart L k (t + 0) 0 + L (2 * t) * v) % 3329 = fwPart L k (t + 1) 0) := by
            show _ = _
            rw [HV.out]; exact fwPart_step L k t 0
          obtain ⟨F, hF⟩ : ∃ F, F = L (2 * t) := ⟨_, rfl⟩
          obtain ⟨G, hG⟩ : ∃ G, G = fwPart L k (t + 0) 0 := ⟨_, rfl⟩
          rw [← hF] at c1 e1 e2 e3 a0 a1 HS
          rw [← hG] at c2 e2 e3 b0 b1 HS
          clear hF hG
          go_wp2
          go_region
          rw [HS.out]
          have q3 := grown_drew (grown_setNew x3 (p := ⟨bR + 1, 2 * k, none⟩) (by show w.heap.size ≤ bR + 1; omega) (.int .i64 (fwPart L k (t + 1) 0)))
          have q1 := (x1.set_other (p := ⟨bR + 1, 2 * k, none⟩) (by show bR + 1 ≠ w.heap.size; omega) (.int .i64 (fwPart L k (t + 1) 0))).drew
          have q2 := (x2.set_other (p := ⟨bR + 1, 2 * k, none⟩) (by show bR + 1 ≠ w.heap.size + 1; omega) (.int .i64 (fwPart L k (t + 1) 0))).drew
          have q4 := (x4.set_other (p := ⟨bR + 1, 2 * k, none⟩) (by show bR + 1 ≠ bR; omega) (.int .i64 (fwPart L k (t + 1) 0))).drew
          have q5 := ((x5.set0 (show 2 * k < 256 by omega) (fwPart L k (t + 1) 0)).ext (fun j _ => fwRow_even L k t j)).drew
          generalize (wr.setCell ⟨bR + 1, 2 * k, none⟩ (.int .i64 (fwPart L k (t + 1) 0))).drew = W7 at *
          clear c1 c2 c3 e1 e2 e3 a0 a1 b0 b1 HS x1 x2 x3 x4 x5
          have c1 := (q1.at0 (2 * t + 1) (by omega)).1
          have c2 := (q5.at0 (2 * k + 1) (by omega)).1
          have c3 := (q5.at0 (2 * k + 1) (by omega)).2
          rw [(fwRow_at L k t 1).2] at c2
          obtain ⟨a0, a1⟩ := HL.out (2 * t + 1) (by omega)
          obtain ⟨b0, b1⟩ := fwPart_range L k t 1
          obtain ⟨e1, e2, e3⟩ := acc_val (fwPart L k t 1) (L (2 * t + 1)) v 3329 b0 b1 a0 a1 v0 v1 (by omega)
          have HS : Hid ((fwPart L k t 1 + L (2 * t + 1) * v) % 3329 = fwPart L k (t + 1) 1) := by
            show _ = _
            rw [HV.out]; exact fwPart_step L k t 1
          obtain ⟨F, hF⟩ : ∃ F, F = L (2 * t + 1) := ⟨_, rfl⟩
          obtain ⟨G, hG⟩ : ∃ G, G = fwPart L k t 1 := ⟨_, rfl⟩
          rw [← hF] at c1 e1 e2 e3 a0 a1 HS
          rw [← hG] at c2 e2 e3 b0 b1 HS
          clear hF hG
          go_wp2
          go_region
          rw [HS.out]
          have x3 := grown_drew (grown_setNew q3 (p := ⟨bR + 1, 2 * k + 1, none⟩) (by show w.heap.size ≤ bR + 1; omega) (.int .i64 (fwPart L k (t + 1) 1)))
          have x1 := (q1.set_other (p := ⟨bR + 1, 2 * k + 1, none⟩) (by show bR + 1 ≠ w.heap.size; omega) (.int .i64 (fwPart L k (t + 1) 1))).drew
          have x2 := (q2.set_other (p := ⟨bR + 1, 2 * k + 1, none⟩) (by show bR + 1 ≠ w.heap.size + 1; omega) (.int .i64 (fwPart L k (t + 1) 1))).drew
          have x4 := (q4.set_other (p := ⟨bR + 1, 2 * k + 1, none⟩) (by show bR + 1 ≠ bR; omega) (.int .i64 (fwPart L k (t + 1) 1))).drew
          have x5 := ((q5.set0 (show 2 * k + 1 < 256 by omega) (fwPart L k (t + 1) 1)).ext (fun j _ => fwRow_odd L k t j)).drew
          generalize (W7.setCell ⟨bR + 1, 2 * k + 1, none⟩ (.int .i64 (fwPart L k (t + 1) 1))).drew = W8 at *
          clear c1 c2 c3 e1 e2 e3 a0 a1 b0 b1 HS q1 q2 q3 q4 q5
          have c1 := (x4.at0 k hlt).1
          obtain ⟨y0, y1⟩ := yS_range k hlt
          obtain ⟨e1, e2, e3⟩ := mulmod_val v (yS k) 3329 v0 v1 y0 y1 (by omega)
          have HS : Hid (v * yS k % 3329 = yS k ^ (t + 1) % 3329) := by
            show _ = _
            rw [HV.out]; exact pow_step _ _ _
          generalize hy : yS k = Y at c1 e1 e2 e3 y0 y1
          rw [hy] at HS
          go_wp2
          exact ⟨⟨t + 1, _, by omega, by go_num, rfl, (by rw [hy]; exact HS), x3, x1, x2, x4, x5⟩, by simp [intOf]; omega⟩
        · have hk6 : t = 128 := by omega
          subst hk6
          go_wp2
          exact ⟨⟨k + 1, by omega, by go_num, x3, x1, x2, x4, x5.ext (fun j _ => fwRow_all L k j)⟩, by simp [intOf]; omega⟩
    · have hk6 : k = 128 := by omega
      subst hk6
      have r3 : PRow .i64 wr (bR + 1) 0 (rFwdS L) := x5.ext (fun j hj => by rw [if_pos (by omega)])
      have ld := run_hidLd wr (bR + 1) 0 _ r3
      have st := run_hidSt wr (w.heap.size + 1) (rFwdS L) _ x2
      have p6 := put_cells .i64 wr (w.heap.size + 1) 0 (rFwdS L) (x2.there .i64 _)
      clear x1 x2 x4 x5
      go_wp2
      refine bodyPost_ret (v := .agg (polyA .i64 (rFwdS L))) ?_ rfl ⟨rfl, grown_new x3 p6.g (Nat.le_succ _)⟩
      exact res1 Tryz.results113 .i64 _ _ (w.heap.size + 1) _ rfl p6.r ⟨_, Tryz.uY⟩ Tryz.sY
end Go.Proofs.YtikcbdpijjafjaaGreatDoor.Z
