import Derived.Test.YtkijpphmiogbbaaGreatDoorK08
namespace Go.Proofs.YtkijpphmiogbbaaGreatDoor.Z
open Go.RowKit
attribute [local go_sem ↓] Go.wp_at_zero Go.wp_at_succ
attribute [local go_sem ↓] ld_hide st_hide bs_hide ldA_hide stA_hide Hf.ld_hide Hf.st_hide

theorem acc_val (g f p q : Int) (g0 : 0 ≤ g) (g1 : g < q) (f0 : 0 ≤ f) (f1 : f < q) (p0 : 0 ≤ p) (p1 : p < q) (hq : q ≤ 8380417) :
    IntKind.i64.wrap (f * p) = f * p ∧ IntKind.i64.wrap (g + f * p) = g + f * p ∧ (g + f * p).tmod q = (g + f * p) % q := by
  obtain ⟨h0, h1⟩ := mul_bd f p q f0 f1 p0 p1 hq
  exact ⟨by rw [IntKind.wrap_i64] <;> omega, by rw [IntKind.wrap_i64] <;> omega, Int.tmod_eq_emod_of_nonneg (by omega)⟩
theorem two_facts (k : Nat) (h : k < 128) : (2 * (k : Int)).toNat = 2 * k ∧ (2 * (k : Int) + 1).toNat = 2 * k + 1 ∧ IntKind.i64.wrap (2 * (k : Int)) = 2 * (k : Int) ∧ IntKind.i64.wrap (2 * (k : Int) + 1) = 2 * (k : Int) + 1 :=
  ⟨by omega, by omega, by rw [IntKind.wrap_i64] <;> omega, by rw [IntKind.wrap_i64] <;> omega⟩
/-- The sum of the first t products. -/
def fwPart (L : Nat → Int) (k t r : Nat) : Int := sm t (fun t => L (2 * t + r) * (yS k ^ t % 3329)) % 3329
theorem fwPart_range (L : Nat → Int) (k t r : Nat) : 0 ≤ fwPart L k t r ∧ fwPart L k t r < 3329 := ⟨Int.emod_nonneg _ (by omega), Int.emod_lt_of_pos _ (by omega)⟩
theorem fwPart_step (L : Nat → Int) (k t r : Nat) : (fwPart L k t r + L (2 * t + r) * (yS k ^ t % 3329)) % 3329 = fwPart L k (t + 1) r := by
  unfold fwPart
  rw [sm, Int.emod_add_emod]
def fwRow (L : Nat → Int) (k t e : Nat) : Nat → Int := fun j => if j / 2 < k then rFwdS L j else if j = 2 * k then fwPart L k (t + e) 0 else if j = 2 * k + 1 then fwPart L k t 1 else 0
theorem fwRow_even (L : Nat → Int) (k t : Nat) (j : Nat) : upd (fwRow L k t 0) (2 * k) (fwPart L k (t + 1) 0) j = fwRow L k t 1 j := by
  unfold upd fwRow
  by_cases e : j = 2 * k
  · rw [if_pos e, if_neg (by omega), if_pos e]
  · simp only [if_neg e]
theorem fwRow_odd (L : Nat → Int) (k t : Nat) (j : Nat) : upd (fwRow L k t 1) (2 * k + 1) (fwPart L k (t + 1) 1) j = fwRow L k (t + 1) 0 j := by
  unfold upd fwRow
  by_cases e : j = 2 * k + 1
  · rw [if_pos e, if_neg (by omega), if_neg (by omega), if_pos e]
  · simp only [if_neg e, Nat.add_zero]
theorem fwRow_at (L : Nat → Int) (k t e : Nat) : fwRow L k t e (2 * k) = fwPart L k (t + e) 0 ∧ fwRow L k t e (2 * k + 1) = fwPart L k t 1 := by
  unfold fwRow
  exact ⟨by rw [if_neg (by omega), if_pos rfl], by rw [if_neg (by omega), if_neg (by omega), if_pos rfl]⟩
theorem fwRow_zero (L : Nat → Int) (k : Nat) (j : Nat) : (if j / 2 < k then rFwdS L j else 0) = fwRow L k 0 0 j := by
  unfold fwRow
  by_cases e : j / 2 < k
  · rw [if_pos e, if_pos e]
  · rw [if_neg e, if_neg e]
    by_cases e1 : j = 2 * k
    · rw [if_pos e1]; rfl
    · rw [if_neg e1]
      by_cases e2 : j = 2 * k + 1
      · rw [if_pos e2]; rfl
      · rw [if_neg e2]
theorem fwRow_all (L : Nat → Int) (k : Nat) (j : Nat) : fwRow L k 128 0 j = if j / 2 < k + 1 then rFwdS L j else 0 := by
  unfold fwRow
  by_cases e : j / 2 < k
  · rw [if_pos e, if_pos (by omega)]
  · rw [if_neg e]
    by_cases e1 : j = 2 * k
    · rw [if_pos e1, if_pos (by omega), e1]
      unfold fwPart rFwdS
      rw [Nat.mul_mod_right, Nat.mul_div_cancel_left _ (by omega)]
    · rw [if_neg e1]
      by_cases e2 : j = 2 * k + 1
      · rw [if_pos e2, if_pos (by omega), e2]
        unfold fwPart rFwdS
        rw [show (2 * k + 1) % 2 = 1 by omega, show (2 * k + 1) / 2 = k by omega]
      · rw [if_neg e2, if_neg (by omega)]
set_option maxHeartbeats 4000000 in
set_option maxRecDepth 20000 in
theorem rfwd_any (L : Nat → Int) (hL : InB L 3329) (w : World) :
    Calls Tryz.prog 115 #[.agg (polyA .i64 L)] w fun e w' => e = .returned (.agg (polyA .i64 (rFwdS L))) ∧ w.grownBy w' none := by
  have n1 := new_alloc .i64 w L 43
  generalize hw1 : w.alloc (.cells (polyA .i64 L) 43) = w1 at n1
  have n2 := new_alloc .i64 w1 (fun _ => 0) 43
  rw [← Tryz.zY] at n2
  have s1 := n1.s
  have g3 : w.grownBy (w1.alloc (.cells Tryz.zeroCells43 43)) none := grownBy_trans n1.g n2.g
  have r1 := n1.r.new n2.g
  have r2 := n2.r
  rw [s1] at r2
  have HL : Hid (InB L 3329) := hL
  have HRt := hidz roots_any
  clear hL
  go_enter Tryz.func115, Tryz.ntmps115
  go_wp2_with fail
  generalize (w.alloc (.cells (polyA .i64 L) 43)) = w9 at *
  subst hw1
  generalize w9.alloc (.cells Tryz.zeroCells43 43) = W3 at *
  clear n1 n2 s1
  refine (HRt.out W3).mono ?_
  rintro e w4 ⟨rfl, g4⟩
  have z1 := r1.new g4
  have z2 := r2.new g4
  have z3 := grownBy_trans g3 g4
  have z4 : w.heap.size + 1 < w4.heap.size := z2.lt
  clear g3 g4 r1 r2
  have m5 := Hf.new_alloc .i64 w4 (fun _ => 0) 245
  rw [← Hf.Tryz.zR] at m5
  have mr := m5.r
  have ms := m5.s
  have mg := m5.g
  clear m5
  generalize hb : w4.heap.size = bR at *
  have st := Hf.run_hidSt _ bR yS _ mr
  have p5 := Hf.put_cells .i64 _ bR 0 yS (mr.there .i64 _)
  have s5 : ((w4.alloc (.cells Tryz.zeroCells245 245)).setCells bR 0 (Hf.polyA .i64 yS).toList).heap.size = bR + 1 := by rw [p5.s, ms]
  have y1 := ((z1.new mg).far p5.g (by intro h; injection h; omega))
  have y2 := ((z2.new mg).far p5.g (by intro h; injection h; omega))
  have y3 := grown_new (grownBy_trans z3 mg) p5.g (by omega)
  have y4 := p5.r
  go_wp2
  generalize ((w4.alloc (.cells Tryz.zeroCells245 245)).setCells bR 0 (Hf.polyA .i64 yS).toList) = w5 at *
  clear mr ms mg st p5 hb z1 z2 z3 HRt
  have n6 := new_alloc .i64 w5 (fun _ => 0) 43
  rw [← Tryz.zY] at n6
  have x1 := y1.new n6.g
  have x2 := y2.new n6.g
  have x3 := grownBy_trans y3 n6.g
  have x4 : Hf.PRow .i64 _ bR 0 yS := y4.new n6.g
  have x5 := n6.r
  rw [s5] at x5
  generalize w5.alloc (.cells Tryz.zeroCells43 43) = w6 at *
  clear n6 y1 y2 y3 y4
  go_loopw [5] (fun i wr => ∃ k : Nat, k ≤ 128 ∧ i = .int .i64 k ∧ w.grownBy wr none ∧ PRow .i64 wr w.heap.size 0 L ∧ PRow .i64 wr (w.heap.size + 1) 0 (fun _ => 0) ∧ Hf.PRow .i64 wr bR 0 yS ∧ PRow .i64 wr (bR + 1) 0 (fun j => if j / 2 < k then rFwdS L j else 0)) (fun i _ => 128 - (intOf i).toNat)
  case atStart => exact ⟨0, by omega, rfl, x3, x1, x2, x4, x5.ext (fun j _ => by simp)⟩
  case round =>
    clear x1 x2 x3 x4 x5
    obtain ⟨k, hk, rfl, x3, x1, x2, x4, x5⟩ := hrel
    by_cases hlt : k < 128
    · have k0 : (0 : Int) ≤ (k : Int) := Int.natCast_nonneg k
      have k1 : (k : Int) < 128 := by omega
      obtain ⟨f1, f2, f3, f4⟩ := two_facts k hlt
      go_wp2
      go_loopw [6, 7] (fun p j wr => ∃ (t : Nat) (v : Int), t ≤ 128 ∧ j = .int .i64 t ∧ p = .int .i64 v ∧ Hid (v = yS k ^ t % 3329) ∧ w.grownBy wr none ∧ PRow .i64 wr w.heap.size 0 L ∧ PRow .i64 wr (w.heap.size + 1) 0 (fun _ => 0) ∧ Hf.PRow .i64 wr bR 0 yS ∧ PRow .i64 wr (bR + 1) 0 (fwRow L k t 0)) (fun _ j _ => 128 - (intOf j).toNat)
      case atStart => exact ⟨0, 1, by omega, rfl, rfl, (by show (1 : Int) = yS k ^ 0 % 3329; simp), x3, x1, x2, x4, x5.ext (fun j _ => fwRow_zero L k j)⟩
      case round =>
        clear x1 x2 x3 x4 x5
        obtain ⟨t, v, ht, rfl, rfl, HV, x3, x1, x2, x4, x5⟩ := hrel
        by_cases hlt2 : t < 128
        · have t0 : (0 : Int) ≤ (t : Int) := Int.natCast_nonneg t
          have t1 : (t : Int) < 128 := by omega
          obtain ⟨h1, h2, h3, h4⟩ := two_facts t hlt2
          have v0 : 0 ≤ v := by rw [HV.out]; exact Int.emod_nonneg _ (by omega)
          have v1 : v < 3329 := by rw [HV.out]; exact Int.emod_lt_of_pos _ (by omega)
          have c1 := (x1.at0 (2 * t) (by omega)).1
          have c2 := (x5.at0 (2 * k) (by omega)).1
          have c3 := (x5.at0 (2 * k) (by omega)).2
          rw [(fwRow_at L k t 0).1] at c2
          obtain ⟨a0, a1⟩ := HL.out (2 * t) (by omega)
          obtain ⟨b0, b1⟩ := fwPart_range L k (t + 0) 0
          obtain ⟨e1, e2, e3⟩ := acc_val (fwPart L k (t + 0) 0) (L (2 * t)) v 3329 b0 b1 a0 a1 v0 v1 (by omega)
          have HS : Hid ((fwPart L k (t + 0) 0 + L (2 * t) * v) % 3329 = fwPart L k (t + 1) 0) := by
            show _ = _
            rw [HV.out]; exact fwPart_step L k t 0
          obtain ⟨F, hF⟩ : ∃ F, F = L (2 * t) := ⟨_, rfl⟩
          obtain ⟨G, hG⟩ : ∃ G, G = fwPart L k (t + 0) 0 := ⟨_, rfl⟩
          rw [← hF] at c1 e1 e2 e3 a0 a1 HS
          rw [← hG] at c2 e2 e3 b0 b1 HS
          clear hF hG
          go_wp2
          go_region
          rw [HS.out]
          have q3 := grown_drew (grown_setNew x3 (p := ⟨bR + 1, 2 * k, none⟩) (by show w.heap.size ≤ bR + 1; omega) (.int .i64 (fwPart L k (t + 1) 0)))
          have q1 := (x1.set_other (p := ⟨bR + 1, 2 * k, none⟩) (by show bR + 1 ≠ w.heap.size; omega) (.int .i64 (fwPart L k (t + 1) 0))).drew
          have q2 := (x2.set_other (p := ⟨bR + 1, 2 * k, none⟩) (by show bR + 1 ≠ w.heap.size + 1; omega) (.int .i64 (fwPart L k (t + 1) 0))).drew
          have q4 := (x4.set_other (p := ⟨bR + 1, 2 * k, none⟩) (by show bR + 1 ≠ bR; omega) (.int .i64 (fwPart L k (t + 1) 0))).drew
          have q5 := ((x5.set0 (show 2 * k < 256 by omega) (fwPart L k (t + 1) 0)).ext (fun j _ => fwRow_even L k t j)).drew
          generalize (wr.setCell ⟨bR + 1, 2 * k, none⟩ (.int .i64 (fwPart L k (t + 1) 0))).drew = W7 at *
          clear c1 c2 c3 e1 e2 e3 a0 a1 b0 b1 HS x1 x2 x3 x4 x5
          have c1 := (q1.at0 (2 * t + 1) (by omega)).1
          have c2 := (q5.at0 (2 * k + 1) (by omega)).1
          have c3 := (q5.at0 (2 * k + 1) (by omega)).2
          rw [(fwRow_at L k t 1).2] at c2
          obtain ⟨a0, a1⟩ := HL.out (2 * t + 1) (by omega)
          obtain ⟨b0, b1⟩ := fwPart_range L k t 1
          obtain ⟨e1, e2, e3⟩ := acc_val (fwPart L k t 1) (L (2 * t + 1)) v 3329 b0 b1 a0 a1 v0 v1 (by omega)
          have HS : Hid ((fwPart L k t 1 + L (2 * t + 1) * v) % 3329 = fwPart L k (t + 1) 1) := by
            show _ = _
            rw [HV.out]; exact fwPart_step L k t 1
          obtain ⟨F, hF⟩ : ∃ F, F = L (2 * t + 1) := ⟨_, rfl⟩
          obtain ⟨G, hG⟩ : ∃ G, G = fwPart L k t 1 := ⟨_, rfl⟩
          rw [← hF] at c1 e1 e2 e3 a0 a1 HS
          rw [← hG] at c2 e2 e3 b0 b1 HS
          clear hF hG
          go_wp2
          go_region
          rw [HS.out]
          have x3 := grown_drew (grown_setNew q3 (p := ⟨bR + 1, 2 * k + 1, none⟩) (by show w.heap.size ≤ bR + 1; omega) (.int .i64 (fwPart L k (t + 1) 1)))
          have x1 := (q1.set_other (p := ⟨bR + 1, 2 * k + 1, none⟩) (by show bR + 1 ≠ w.heap.size; omega) (.int .i64 (fwPart L k (t + 1) 1))).drew
          have x2 := (q2.set_other (p := ⟨bR + 1, 2 * k + 1, none⟩) (by show bR + 1 ≠ w.heap.size + 1; omega) (.int .i64 (fwPart L k (t + 1) 1))).drew
          have x4 := (q4.set_other (p := ⟨bR + 1, 2 * k + 1, none⟩) (by show bR + 1 ≠ bR; omega) (.int .i64 (fwPart L k (t + 1) 1))).drew
          have x5 := ((q5.set0 (show 2 * k + 1 < 256 by omega) (fwPart L k (t + 1) 1)).ext (fun j _ => fwRow_odd L k t j)).drew
          generalize (W7.setCell ⟨bR + 1, 2 * k + 1, none⟩ (.int .i64 (fwPart L k (t + 1) 1))).drew = W8 at *
          clear c1 c2 c3 e1 e2 e3 a0 a1 b0 b1 HS q1 q2 q3 q4 q5
          have c1 := (x4.at0 k hlt).1
          obtain ⟨y0, y1⟩ := yS_range k hlt
          obtain ⟨e1, e2, e3⟩ := mulmod_val v (yS k) 3329 v0 v1 y0 y1 (by omega)
          have HS : Hid (v * yS k % 3329 = yS k ^ (t + 1) % 3329) := by
            show _ = _
            rw [HV.out]; exact pow_step _ _ _
          generalize hy : yS k = Y at c1 e1 e2 e3 y0 y1
          rw [hy] at HS
          go_wp2
          exact ⟨⟨t + 1, _, by omega, by go_num, rfl, (by rw [hy]; exact HS), x3, x1, x2, x4, x5⟩, by simp [intOf]; omega⟩
        · have hk6 : t = 128 := by omega
          subst hk6
          go_wp2
          exact ⟨⟨k + 1, by omega, by go_num, x3, x1, x2, x4, x5.ext (fun j _ => fwRow_all L k j)⟩, by simp [intOf]; omega⟩
    · have hk6 : k = 128 := by omega
      subst hk6
      have r3 : PRow .i64 wr (bR + 1) 0 (rFwdS L) := x5.ext (fun j hj => by rw [if_pos (by omega)])
      have ld := run_hidLd wr (bR + 1) 0 _ r3
      have st := run_hidSt wr (w.heap.size + 1) (rFwdS L) _ x2
      have p6 := put_cells .i64 wr (w.heap.size + 1) 0 (rFwdS L) (x2.there .i64 _)
      clear x1 x2 x4 x5
      go_wp2
      refine bodyPost_ret (v := .agg (polyA .i64 (rFwdS L))) ?_ rfl ⟨rfl, grown_new x3 p6.g (Nat.le_succ _)⟩
      exact res1 Tryz.results115 .i64 _ _ (w.heap.size + 1) _ rfl p6.r ⟨_, Tryz.uY⟩ Tryz.sY
end Go.Proofs.YtkijpphmiogbbaaGreatDoor.Z

namespace Go.Proofs.YtkijpphmiogbbaaGreatDoor.Z
open Go.RowKit
attribute [local go_sem ↓] Go.wp_at_zero Go.wp_at_succ
attribute [local go_sem ↓] ld_hide st_hide bs_hide ldA_hide stA_hide Hf.ld_hide Hf.st_hide

set_option maxHeartbeats 2000000 in
set_option maxRecDepth 20000 in
theorem rprodG_any (L M : Nat → Int) (hL : InB L 8380417) (hM : InB M 8380417) (w : World) :
    Calls Tryz.prog 118 #[.agg (polyA .i64 L), .agg (polyA .i64 M)] w fun e w' => e = .returned (.agg (polyA .i64 (prodG L M))) ∧ w.grownBy w' none := by
  have n1 := new_alloc .i64 w L 43
  generalize hw1 : w.alloc (.cells (polyA .i64 L) 43) = w1 at n1
  have n2 := new_alloc .i64 w1 M 43
  generalize hw2 : w1.alloc (.cells (polyA .i64 M) 43) = w2 at n2
  have n3 := new_alloc .i64 w2 (fun _ => 0) 43
  rw [← Tryz.zY] at n3
  have s1 := n1.s
  have s2 := n2.s
  have g3 : w.grownBy (w2.alloc (.cells Tryz.zeroCells43 43)) none := grownBy_trans n1.g (grownBy_trans n2.g n3.g)
  have r1 := (n1.r.new n2.g).new n3.g
  have r2 := n2.r.new n3.g
  have r3 := n3.r
  rw [s2, s1] at r3
  rw [s1] at r2
  have HL : Hid (InB L 8380417) := hL
  have HM : Hid (InB M 8380417) := hM
  clear hL hM
  go_enter Tryz.func118, Tryz.ntmps118
  go_wp2
  generalize w2.alloc (.cells Tryz.zeroCells43 43) = W3 at *
  clear n1 n2 n3 s1 s2
  go_loopw [5] (fun i wr => ∃ k : Nat, k ≤ 256 ∧ i = .int .i64 k ∧ w.grownBy wr none ∧ PRow .i64 wr w.heap.size 0 (fun j => if j < k then prodG L M j else L j) ∧ PRow .i64 wr (w.heap.size + 1) 0 M ∧ PRow .i64 wr (w.heap.size + 1 + 1) 0 (fun _ => 0)) (fun i _ => 256 - (intOf i).toNat)
  case atStart => exact ⟨0, by omega, rfl, g3, r1.ext (fun j _ => by simp), r2, r3⟩
  case round =>
    clear g3 r1 r2 r3
    obtain ⟨k, hk, rfl, hg, h1, h2, h3⟩ := hrel
    by_cases hlt : k < 256
    · have k0 : (0 : Int) ≤ (k : Int) := Int.natCast_nonneg k
      have k1 : (k : Int) < 256 := by omega
      have c1 := (h1.at0 k hlt).1
      have c2 := (h1.at0 k hlt).2
      have c3 := (h2.at0 k hlt).1
      rw [if_neg (Nat.lt_irrefl k)] at c1
      obtain ⟨a0, a1⟩ := HL.out k hlt
      obtain ⟨b0, b1⟩ := HM.out k hlt
      obtain ⟨e1, e2, e3⟩ := mulmod_val (L k) (M k) 8380417 a0 a1 b0 b1 (by omega)
      have HS : Hid (L k * M k % 8380417 = prodG L M k) := rfl
      obtain ⟨F, hF⟩ : ∃ F, F = L k := ⟨_, rfl⟩
      obtain ⟨G, hG⟩ : ∃ G, G = M k := ⟨_, rfl⟩
      rw [← hF] at c1 e1 e2 e3 a0 a1 HS
      rw [← hG] at c3 e1 e2 e3 b0 b1 HS
      clear hF hG
      go_wp2
      go_region
      rw [HS.out]
      have r4 := ((h1.set0 hlt (prodG L M k)).ext (fun j _ => mix_step (prodG L M) L k j)).drew
      have g4 := grown_drew (grown_setNew hg (p := ⟨w.heap.size, k, none⟩) (Nat.le_refl _) (.int .i64 (prodG L M k)))
      have o4 := (h2.set_other (p := ⟨w.heap.size, k, none⟩) (by show w.heap.size ≠ w.heap.size + 1; omega) (.int .i64 (prodG L M k))).drew
      have o5 := (h3.set_other (p := ⟨w.heap.size, k, none⟩) (by show w.heap.size ≠ w.heap.size + 1 + 1; omega) (.int .i64 (prodG L M k))).drew
      generalize (wr.setCell ⟨w.heap.size, k, none⟩ (.int .i64 (prodG L M k))).drew = W4 at *
      clear c1 c2 c3
      go_wp2
      exact ⟨⟨k + 1, by omega, by go_num, g4, r4, o4, o5⟩, by simp [intOf]; omega⟩
    · have hk6 : k = 256 := by omega
      subst hk6
      have r3 : PRow .i64 wr w.heap.size 0 (prodG L M) := h1.ext (fun j hj => by rw [if_pos hj])
      have ld := run_hidLd wr w.heap.size 0 _ r3
      have st := run_hidSt wr (w.heap.size + 1 + 1) (prodG L M) _ h3
      have p6 := put_cells .i64 wr (w.heap.size + 1 + 1) 0 (prodG L M) (h3.there .i64 _)
      clear h1 h2 h3
      go_wp2
      refine bodyPost_ret (v := .agg (polyA .i64 (prodG L M))) ?_ rfl ⟨rfl, grown_new hg p6.g (by omega)⟩
      exact res1 Tryz.results118 .i64 _ _ (w.heap.size + 1 + 1) _ rfl p6.r ⟨_, Tryz.uY⟩ Tryz.sY

theorem sm_head (f : Nat → Int) : ∀ n, sm (n + 1) f = f 0 + sm n (fun u => f (u + 1))
  | 0 => by simp [sm]
  | n + 1 => by
    have h := sm_head f n
    show sm (n + 1) f + f (n + 1) = f 0 + (sm n (fun u => f (u + 1)) + f (n + 1))
    omega
/-- Horner's sum from the coefficient t on. -/
def hor (L : Nat → Int) (y : Int) (t : Nat) : Int := sm (256 - t) (fun u => L (t + u) * y ^ u) % 8380417
theorem hor_range (L : Nat → Int) (y : Int) (t : Nat) : 0 ≤ hor L y t ∧ hor L y t < 8380417 := ⟨Int.emod_nonneg _ (by omega), Int.emod_lt_of_pos _ (by omega)⟩
theorem hor_step (L : Nat → Int) (y : Int) (t : Nat) (ht : t < 256) : (hor L y (t + 1) * y + L t) % 8380417 = hor L y t := by
  unfold hor
  rw [show 256 - t = (256 - (t + 1)) + 1 by omega, sm_head]
  have e : sm (256 - (t + 1)) (fun u => L (t + (u + 1)) * y ^ (u + 1)) = y * sm (256 - (t + 1)) (fun u => L (t + 1 + u) * y ^ u) := by
    rw [sm_mul]
    exact sm_ext _ _ _ fun u _ => by rw [show t + (u + 1) = t + 1 + u by omega, Int.pow_succ]; grind
  rw [e]
  generalize sm (256 - (t + 1)) (fun u => L (t + 1 + u) * y ^ u) = S
  refine Cg.mod_eq ?_
  exact (((cg_mod _ S).mul (Cg.refl _ y)).add (Cg.refl _ (L t))).trans (.of_eq (by simp; grind))
theorem hor_all (L : Nat → Int) (j : Nat) : hor L (yG j) 0 = rFwdG L j := by
  unfold hor rFwdG
  simp only [Nat.sub_zero, Nat.zero_add]
theorem hor_val (v y f : Int) (v0 : 0 ≤ v) (v1 : v < 8380417) (y0 : 0 ≤ y) (y1 : y < 8380417) (f0 : 0 ≤ f) (f1 : f < 8380417) :
    IntKind.i64.wrap (v * y) = v * y ∧ IntKind.i64.wrap (v * y + f) = v * y + f ∧ (v * y + f).tmod 8380417 = (v * y + f) % 8380417 := by
  obtain ⟨h0, h1⟩ := mul_bd v y 8380417 v0 v1 y0 y1 (by omega)
  exact ⟨by rw [IntKind.wrap_i64] <;> omega, by rw [IntKind.wrap_i64] <;> omega, Int.tmod_eq_emod_of_nonneg (by omega)⟩
theorem yG_range (b : Nat) (h : b < 256) : 0 ≤ yG b ∧ yG b < 8380417 := by
  have := yG_doc b h
  rw [this]
  omega
set_option maxHeartbeats 4000000 in
set_option maxRecDepth 20000 in
theorem rfwdG_any (L : Nat → Int) (hL : InB L 8380417) (w : World) :
    Calls Tryz.prog 114 #[.agg (polyA .i64 L)] w fun e w' => e = .returned (.agg (polyA .i64 (rFwdG L))) ∧ w.grownBy w' none := by
  have n1 := new_alloc .i64 w L 43
  generalize hw1 : w.alloc (.cells (polyA .i64 L) 43) = w1 at n1
  have n2 := new_alloc .i64 w1 (fun _ => 0) 43
  rw [← Tryz.zY] at n2
  generalize hw2 : w1.alloc (.cells Tryz.zeroCells43 43) = w2 at n2
  have n3 := new_alloc .i64 w2 (fun _ => 0) 43
  rw [← Tryz.zY] at n3
  have s1 := n1.s
  have s2 := n2.s
  have g3 : w.grownBy (w2.alloc (.cells Tryz.zeroCells43 43)) none := grownBy_trans n1.g (grownBy_trans n2.g n3.g)
  have r1 := (n1.r.new n2.g).new n3.g
  have r2 := n2.r.new n3.g
  have r3 := n3.r
  rw [s2, s1] at r3
  rw [s1] at r2
  have HL : Hid (InB L 8380417) := hL
  have HRt := hidz rootOf_any
  clear hL
  go_enter Tryz.func114, Tryz.ntmps114
  go_wp2
  generalize w2.alloc (.cells Tryz.zeroCells43 43) = W3 at *
  clear n1 n2 n3 s1 s2
  go_loopw [4] (fun i wr => ∃ k : Nat, k ≤ 256 ∧ i = .int .i64 k ∧ w.grownBy wr none ∧ PRow .i64 wr w.heap.size 0 L ∧ PRow .i64 wr (w.heap.size + 1) 0 (fun _ => 0) ∧ PRow .i64 wr (w.heap.size + 1 + 1) 0 (fun j => if j < k then rFwdG L j else 0)) (fun i _ => 256 - (intOf i).toNat)
  case atStart => exact ⟨0, by omega, rfl, g3, r1, r2, r3.ext (fun j _ => by simp)⟩
  case round =>
    clear g3 r1 r2 r3
    obtain ⟨k, hk, rfl, hg, h1, h2, h3⟩ := hrel
    by_cases hlt : k < 256
    · have k0 : (0 : Int) ≤ (k : Int) := Int.natCast_nonneg k
      have k1 : (k : Int) < 256 := by omega
      obtain ⟨y0, y1⟩ := yG_range k hlt
      have HC := hidz (HRt.out k hlt wr)
      go_wp2_with fail
      refine HC.out.mono ?_
      rintro e w8 ⟨rfl, rfl⟩
      clear HC
      obtain ⟨Y, HY⟩ : ∃ Y, Hid (Y = yG k) := ⟨_, rfl⟩
      rw [← HY.out] at y0 y1 ⊢
      go_wp2
      go_loopw [6, 7] (fun v j wr => ∃ (t : Nat) (v' : Int), t ≤ 256 ∧ j = .int .i64 ((t : Int) - 1) ∧ v = .int .i64 v' ∧ Hid (v' = hor L Y t) ∧ wr = w8) (fun _ j _ => (intOf j + 1).toNat)
      case atStart => exact ⟨256, 0, by omega, rfl, rfl, (by show (0 : Int) = hor L Y 256; rfl), rfl⟩
      case round =>
        obtain ⟨t, v, ht, rfl, rfl, HV, rfl⟩ := hrel
        by_cases hlt2 : 0 < t
        · obtain ⟨u, rfl⟩ : ∃ u, t = u + 1 := ⟨t - 1, by omega⟩
          rw [show ((u + 1 : Nat) : Int) - 1 = (u : Int) by omega]
          have u0 : (0 : Int) ≤ (u : Int) := Int.natCast_nonneg u
          have u1 : (u : Int) < 256 := by omega
          have hu : u < 256 := by omega
          have u2 : IntKind.i64.wrap ((u : Int) - 1) = (u : Int) - 1 := by rw [IntKind.wrap_i64] <;> omega
          have c1 := (h1.at0 u hu).1
          obtain ⟨a0, a1⟩ := HL.out u hu
          have v0 : 0 ≤ v := by rw [HV.out]; exact (hor_range L Y (u + 1)).1
          have v1 : v < 8380417 := by rw [HV.out]; exact (hor_range L Y (u + 1)).2
          obtain ⟨e1, e2, e3⟩ := hor_val v Y (L u) v0 v1 y0 y1 a0 a1
          have HS : Hid ((v * Y + L u) % 8380417 = hor L Y u) := by
            show _ = _
            rw [HV.out]; exact hor_step L Y u hu
          obtain ⟨F, hF⟩ : ∃ F, F = L u := ⟨_, rfl⟩
          rw [← hF] at c1 e2 e3 a0 a1 HS
          clear hF
          go_wp2
          exact ⟨⟨u, _, by omega, rfl, rfl, HS, trivial⟩, by simp [intOf]⟩
        · obtain rfl : t = 0 := by omega
          have HS : Hid (v = rFwdG L k) := by
            show _ = _
            rw [HV.out, HY.out]; exact hor_all L k
          have c1 := (h3.at0 k hlt).1
          have c2 := (h3.at0 k hlt).2
          rw [show ((0 : Nat) : Int) - 1 = -1 by omega]
          go_wp2
          have r4 := (h3.set0 hlt (rFwdG L k)).ext (fun j _ => mix_step (rFwdG L) (fun _ => 0) k j)
          rw [← HS.out] at r4
          exact ⟨⟨k + 1, by omega, by go_num, grown_setNew hg (by show w.heap.size ≤ w.heap.size + 1 + 1; omega) _, h1.set_other (by show w.heap.size + 1 + 1 ≠ w.heap.size; omega) _, h2.set_other (by show w.heap.size + 1 + 1 ≠ w.heap.size + 1; omega) _, r4⟩, by simp [intOf]; omega⟩
    · have hk6 : k = 256 := by omega
      subst hk6
      have r3 : PRow .i64 wr (w.heap.size + 1 + 1) 0 (rFwdG L) := h3.ext (fun j hj => by rw [if_pos hj])
      have ld := run_hidLd wr (w.heap.size + 1 + 1) 0 _ r3
      have st := run_hidSt wr (w.heap.size + 1) (rFwdG L) _ h2
      have p6 := put_cells .i64 wr (w.heap.size + 1) 0 (rFwdG L) (h2.there .i64 _)
      clear h1 h2 h3
      go_wp2
      refine bodyPost_ret (v := .agg (polyA .i64 (rFwdG L))) ?_ rfl ⟨rfl, grown_new hg p6.g (by omega)⟩
      exact res1 Tryz.results114 .i64 _ _ (w.heap.size + 1) _ rfl p6.r ⟨_, Tryz.uY⟩ Tryz.sY
end Go.Proofs.YtkijpphmiogbbaaGreatDoor.Z
