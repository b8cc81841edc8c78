import Derived.Test.YtkijpphmiogbbaaGreatDoorM06
namespace Go.Proofs.YtkijpphmiogbbaaGreatDoor.Z
open Go.RowKit
attribute [local go_sem ↓] Go.wp_at_zero Go.wp_at_succ
attribute [local go_sem ↓] ld_hide st_hide bs_hide ldA_hide stA_hide Hf.ld_hide Hf.st_hide

theorem power_part (w : World) : Calls Tryz.prog 206 #[.int .i64 128, .int .i64 3327] w fun e w' => e = .returned (.int .i64 3303) ∧ w' = w := by
  have h : Calls Tryz.prog 206 #[.int .i64 128, .int .i64 3327] w fun e w' => e = .returned (.int .i64 ((128 : Int) ^ 3327 % 3329)) ∧ w' = w := power_any 128 3327 (by omega) (by omega) (by omega) w
  have e : (128 : Int) ^ 3327 % 3329 = 3303 := (cast_pow 128 3327 3329).symm.trans part_S
  rw [e] at h
  exact h
theorem part_step (c b q : Int) (t : Nat) : c * b ^ t % q * b % q = c * b ^ (t + 1) % q := by
  rw [Int.pow_succ, ← Int.mul_assoc, Int.mul_emod, Int.emod_emod_of_dvd _ (Int.dvd_refl q), ← Int.mul_emod]
/-- The sums of the first k pairs. -/
def ivPart (G : Nat → Int) (k j : Nat) : Int := sm k (fun b => G (2 * b + j % 2) * (3303 * bkS b ^ (j / 2) % 3329)) % 3329
theorem ivPart_range (G : Nat → Int) (k j : Nat) : 0 ≤ ivPart G k j ∧ ivPart G k j < 3329 := ⟨Int.emod_nonneg _ (by omega), Int.emod_lt_of_pos _ (by omega)⟩
theorem ivPart_step (G : Nat → Int) (k j : Nat) : (ivPart G k j + G (2 * k + j % 2) * (3303 * bkS k ^ (j / 2) % 3329)) % 3329 = ivPart G (k + 1) j := by
  unfold ivPart
  rw [sm, Int.emod_add_emod]
def ivRow (G : Nat → Int) (k s : Nat) : Nat → Int := fun j => if j < s then ivPart G (k + 1) j else ivPart G k j
theorem ivRow_at (G : Nat → Int) (k s : Nat) : ivRow G k s s = ivPart G k s := if_neg (by omega)
theorem ivRow_step (G : Nat → Int) (k s j : Nat) : upd (ivRow G k s) s (ivPart G (k + 1) s) j = ivRow G k (s + 1) j := mix_step (ivPart G (k + 1)) (ivPart G k) s j
set_option maxHeartbeats 4000000 in
set_option maxRecDepth 20000 in
theorem rinv_any (L : Nat → Int) (hL : InB L 3329) (w : World) :
    Calls Tryz.prog 117 #[.agg (polyA .i64 L)] w fun e w' => e = .returned (.agg (polyA .i64 (rInvS L))) ∧ w.grownBy w' none := by
  have n1 := new_alloc .i64 w L 43
  generalize hw1 : w.alloc (.cells (polyA .i64 L) 43) = w1 at n1
  have n2 := new_alloc .i64 w1 (fun _ => 0) 43
  rw [← Tryz.zY] at n2
  have s1 := n1.s
  have g3 : w.grownBy (w1.alloc (.cells Tryz.zeroCells43 43)) none := grownBy_trans n1.g n2.g
  have r1 := n1.r.new n2.g
  have r2 := n2.r
  rw [s1] at r2
  have HL : Hid (InB L 3329) := hL
  have HRt := hidz roots_any
  have HPw := hidz power_any
  have HPp := hidz power_part
  clear hL
  go_enter Tryz.func117, Tryz.ntmps117
  go_wp2_with fail
  generalize (w.alloc (.cells (polyA .i64 L) 43)) = w9 at *
  subst hw1
  generalize w9.alloc (.cells Tryz.zeroCells43 43) = W3 at *
  clear n1 n2 s1
  refine (HRt.out W3).mono ?_
  rintro e w4 ⟨rfl, g4⟩
  have z1 := r1.new g4
  have z2 := r2.new g4
  have z3 := grownBy_trans g3 g4
  have z4 : w.heap.size + 1 < w4.heap.size := z2.lt
  clear g3 g4 r1 r2
  have m5 := Hf.new_alloc .i64 w4 (fun _ => 0) 245
  rw [← Hf.Tryz.zR] at m5
  have mr := m5.r
  have ms := m5.s
  have mg := m5.g
  clear m5
  generalize hb : w4.heap.size = bR at *
  have st := Hf.run_hidSt _ bR yS _ mr
  have p5 := Hf.put_cells .i64 _ bR 0 yS (mr.there .i64 _)
  have s5 : ((w4.alloc (.cells Tryz.zeroCells245 245)).setCells bR 0 (Hf.polyA .i64 yS).toList).heap.size = bR + 1 := by rw [p5.s, ms]
  have y1 := ((z1.new mg).far p5.g (by intro h; injection h; omega))
  have y2 := ((z2.new mg).far p5.g (by intro h; injection h; omega))
  have y3 := grown_new (grownBy_trans z3 mg) p5.g (by omega)
  have y4 := p5.r
  go_wp2
  generalize ((w4.alloc (.cells Tryz.zeroCells245 245)).setCells bR 0 (Hf.polyA .i64 yS).toList) = w5 at *
  clear mr ms mg st p5 hb z1 z2 z3 HRt
  have n6 := new_alloc .i64 w5 (fun _ => 0) 43
  rw [← Tryz.zY] at n6
  have x1 := y1.new n6.g
  have x2 := y2.new n6.g
  have x3 := grownBy_trans y3 n6.g
  have x4 : Hf.PRow .i64 _ bR 0 yS := y4.new n6.g
  have x5 := n6.r
  rw [s5] at x5
  generalize w5.alloc (.cells Tryz.zeroCells43 43) = w6 at *
  clear n6 y1 y2 y3 y4
  go_loopw [5] (fun i wr => ∃ k : Nat, k ≤ 128 ∧ i = .int .i64 k ∧ w.grownBy wr none ∧ PRow .i64 wr w.heap.size 0 L ∧ PRow .i64 wr (w.heap.size + 1) 0 (fun _ => 0) ∧ Hf.PRow .i64 wr bR 0 yS ∧ PRow .i64 wr (bR + 1) 0 (ivPart L k)) (fun i _ => 128 - (intOf i).toNat)
  case atStart => exact ⟨0, by omega, rfl, x3, x1, x2, x4, x5.ext (fun j _ => rfl)⟩
  case round =>
    clear x1 x2 x3 x4 x5
    obtain ⟨k, hk, rfl, x3, x1, x2, x4, x5⟩ := hrel
    by_cases hlt : k < 128
    · have k0 : (0 : Int) ≤ (k : Int) := Int.natCast_nonneg k
      have k1 : (k : Int) < 128 := by omega
      obtain ⟨f1, f2, f3, f4⟩ := two_facts k hlt
      have c1 := (x4.at0 k hlt).1
      obtain ⟨y0, y1⟩ := yS_range k hlt
      have HC : Hid (Calls Tryz.prog 206 #[.int .i64 (yS k), .int .i64 3327] wr fun e w' => e = .returned (.int .i64 (bkS k)) ∧ w' = wr) := HPw.out (yS k) 3327 y0 y1 (by omega) wr
      obtain ⟨b0, b1⟩ : 0 ≤ bkS k ∧ bkS k < 3329 := ⟨Int.emod_nonneg _ (by omega), Int.emod_lt_of_pos _ (by omega)⟩
      obtain ⟨B, HB⟩ : ∃ B, Hid (B = bkS k) := ⟨_, rfl⟩
      rw [← HB.out] at HC b0 b1
      generalize yS k = Y at c1 HC
      clear y0 y1
      go_wp2_with fail
      refine HC.out.mono ?_
      rintro e w8 ⟨rfl, rfl⟩
      go_wp2_with fail
      refine (HPp.out _).mono ?_
      rintro e w7 ⟨rfl, rfl⟩
      clear HC
      go_wp2
      go_loopw [7, 8] (fun p j wr => ∃ (t : Nat) (v : Int), t ≤ 128 ∧ j = .int .i64 t ∧ p = .int .i64 v ∧ Hid (v = 3303 * bkS k ^ t % 3329) ∧ w.grownBy wr none ∧ PRow .i64 wr w.heap.size 0 L ∧ PRow .i64 wr (w.heap.size + 1) 0 (fun _ => 0) ∧ Hf.PRow .i64 wr bR 0 yS ∧ PRow .i64 wr (bR + 1) 0 (ivRow L k (2 * t))) (fun _ j _ => 128 - (intOf j).toNat)
      case atStart => exact ⟨0, 3303, by omega, rfl, rfl, (by show (3303 : Int) = 3303 * bkS k ^ 0 % 3329; simp), x3, x1, x2, x4, x5.ext (fun j _ => (if_neg (by omega)).symm)⟩
      case round =>
        clear x1 x2 x3 x4 x5
        obtain ⟨t, v, ht, rfl, rfl, HV, x3, x1, x2, x4, x5⟩ := hrel
        by_cases hlt2 : t < 128
        · have t0 : (0 : Int) ≤ (t : Int) := Int.natCast_nonneg t
          have t1 : (t : Int) < 128 := by omega
          obtain ⟨h1, h2, h3, h4⟩ := two_facts t hlt2
          have v0 : 0 ≤ v := by rw [HV.out]; exact Int.emod_nonneg _ (by omega)
          have v1 : v < 3329 := by rw [HV.out]; exact Int.emod_lt_of_pos _ (by omega)
          have c1 := (x1.at0 (2 * k) (by omega)).1
          have c2 := (x5.at0 (2 * t) (by omega)).1
          have c3 := (x5.at0 (2 * t) (by omega)).2
          rw [ivRow_at L k (2 * t)] at c2
          obtain ⟨a0, a1⟩ := HL.out (2 * k) (by omega)
          obtain ⟨m0, m1⟩ := ivPart_range L k (2 * t)
          obtain ⟨e1, e2, e3⟩ := acc_val (ivPart L k (2 * t)) (L (2 * k)) v 3329 m0 m1 a0 a1 v0 v1 (by omega)
          have HS : Hid ((ivPart L k (2 * t) + L (2 * k) * v) % 3329 = ivPart L (k + 1) (2 * t)) := by
            show _ = _
            rw [HV.out]
            have h := ivPart_step L k (2 * t)
            rw [show (2 * t) % 2 = 0 by omega, show (2 * t) / 2 = t by omega] at h
            exact h
          obtain ⟨F, hF⟩ : ∃ F, F = L (2 * k) := ⟨_, rfl⟩
          obtain ⟨G, hG⟩ : ∃ G, G = ivPart L k (2 * t) := ⟨_, rfl⟩
          rw [← hF] at c1 e1 e2 e3 a0 a1 HS
          rw [← hG] at c2 e2 e3 m0 m1 HS
          clear hF hG
          go_wp2
          go_region
          rw [HS.out]
          have q3 := grown_drew (grown_setNew x3 (p := ⟨bR + 1, 2 * t, none⟩) (by show w.heap.size ≤ bR + 1; omega) (.int .i64 (ivPart L (k + 1) (2 * t))))
          have q1 := (x1.set_other (p := ⟨bR + 1, 2 * t, none⟩) (by show bR + 1 ≠ w.heap.size; omega) (.int .i64 (ivPart L (k + 1) (2 * t)))).drew
          have q2 := (x2.set_other (p := ⟨bR + 1, 2 * t, none⟩) (by show bR + 1 ≠ w.heap.size + 1; omega) (.int .i64 (ivPart L (k + 1) (2 * t)))).drew
          have q4 := (x4.set_other (p := ⟨bR + 1, 2 * t, none⟩) (by show bR + 1 ≠ bR; omega) (.int .i64 (ivPart L (k + 1) (2 * t)))).drew
          have q5 := ((x5.set0 (show 2 * t < 256 by omega) (ivPart L (k + 1) (2 * t))).ext (fun j _ => ivRow_step L k (2 * t) j)).drew
          generalize (wr.setCell ⟨bR + 1, 2 * t, none⟩ (.int .i64 (ivPart L (k + 1) (2 * t)))).drew = W7 at *
          clear c1 c2 c3 e1 e2 e3 a0 a1 m0 m1 HS x1 x2 x3 x4 x5
          have c1 := (q1.at0 (2 * k + 1) (by omega)).1
          have c2 := (q5.at0 (2 * t + 1) (by omega)).1
          have c3 := (q5.at0 (2 * t + 1) (by omega)).2
          rw [ivRow_at L k (2 * t + 1)] at c2
          obtain ⟨a0, a1⟩ := HL.out (2 * k + 1) (by omega)
          obtain ⟨m0, m1⟩ := ivPart_range L k (2 * t + 1)
          obtain ⟨e1, e2, e3⟩ := acc_val (ivPart L k (2 * t + 1)) (L (2 * k + 1)) v 3329 m0 m1 a0 a1 v0 v1 (by omega)
          have HS : Hid ((ivPart L k (2 * t + 1) + L (2 * k + 1) * v) % 3329 = ivPart L (k + 1) (2 * t + 1)) := by
            show _ = _
            rw [HV.out]
            have h := ivPart_step L k (2 * t + 1)
            rw [show (2 * t + 1) % 2 = 1 by omega, show (2 * t + 1) / 2 = t by omega] at h
            exact h
          obtain ⟨F, hF⟩ : ∃ F, F = L (2 * k + 1) := ⟨_, rfl⟩
          obtain ⟨G, hG⟩ : ∃ G, G = ivPart L k (2 * t + 1) := ⟨_, rfl⟩
          rw [← hF] at c1 e1 e2 e3 a0 a1 HS
          rw [← hG] at c2 e2 e3 m0 m1 HS
          clear hF hG
          go_wp2
          go_region
          rw [HS.out]
          have x3 := grown_drew (grown_setNew q3 (p := ⟨bR + 1, 2 * t + 1, none⟩) (by show w.heap.size ≤ bR + 1; omega) (.int .i64 (ivPart L (k + 1) (2 * t + 1))))
          have x1 := (q1.set_other (p := ⟨bR + 1, 2 * t + 1, none⟩) (by show bR + 1 ≠ w.heap.size; omega) (.int .i64 (ivPart L (k + 1) (2 * t + 1)))).drew
          have x2 := (q2.set_other (p := ⟨bR + 1, 2 * t + 1, none⟩) (by show bR + 1 ≠ w.heap.size + 1; omega) (.int .i64 (ivPart L (k + 1) (2 * t + 1)))).drew
          have x4 := (q4.set_other (p := ⟨bR + 1, 2 * t + 1, none⟩) (by show bR + 1 ≠ bR; omega) (.int .i64 (ivPart L (k + 1) (2 * t + 1)))).drew
          have x5 := ((q5.set0 (show 2 * t + 1 < 256 by omega) (ivPart L (k + 1) (2 * t + 1))).ext (fun j _ => ivRow_step L k (2 * t + 1) j)).drew
          generalize (W7.setCell ⟨bR + 1, 2 * t + 1, none⟩ (.int .i64 (ivPart L (k + 1) (2 * t + 1)))).drew = W8 at *
          clear c1 c2 c3 e1 e2 e3 a0 a1 m0 m1 HS q1 q2 q3 q4 q5
          obtain ⟨e1, e2, e3⟩ := mulmod_val v B 3329 v0 v1 b0 b1 (by omega)
          have HS : Hid (v * B % 3329 = 3303 * bkS k ^ (t + 1) % 3329) := by
            show _ = _
            rw [HV.out, HB.out]; exact part_step 3303 (bkS k) 3329 t
          go_wp2
          exact ⟨⟨t + 1, _, by omega, by go_num, rfl, HS, x3, x1, x2, x4, x5⟩, by simp [intOf]; omega⟩
        · have hk6 : t = 128 := by omega
          subst hk6
          go_wp2
          exact ⟨⟨k + 1, by omega, by go_num, x3, x1, x2, x4, x5.ext (fun j hj => if_pos (by omega))⟩, by simp [intOf]; omega⟩
    · have hk6 : k = 128 := by omega
      subst hk6
      have r3 : PRow .i64 wr (bR + 1) 0 (rInvS L) := x5
      have ld := run_hidLd wr (bR + 1) 0 _ r3
      have st := run_hidSt wr (w.heap.size + 1) (rInvS L) _ x2
      have p6 := put_cells .i64 wr (w.heap.size + 1) 0 (rInvS L) (x2.there .i64 _)
      clear x1 x2 x4 x5
      go_wp2
      refine bodyPost_ret (v := .agg (polyA .i64 (rInvS L))) ?_ rfl ⟨rfl, grown_new x3 p6.g (Nat.le_succ _)⟩
      exact res1 Tryz.results117 .i64 _ _ (w.heap.size + 1) _ rfl p6.r ⟨_, Tryz.uY⟩ Tryz.sY
end Go.Proofs.YtkijpphmiogbbaaGreatDoor.Z

namespace Go.Proofs.YtkijpphmiogbbaaGreatDoor.Z
open Go.RowKit
attribute [local go_sem ↓] Go.wp_at_zero Go.wp_at_succ
attribute [local go_sem ↓] ld_hide st_hide bs_hide ldA_hide stA_hide Hf.ld_hide Hf.st_hide

set_option exponentiation.threshold 100000000 in
theorem part_G : ((256 ^ 8380415 % 8380417 : Nat) : Int) = 8347681 := by decide +kernel
theorem powerGreat_part (w : World) : Calls Tryz.prog 205 #[.int .i64 256, .int .i64 8380415] w fun e w' => e = .returned (.int .i64 8347681) ∧ w' = w := by
  have h : Calls Tryz.prog 205 #[.int .i64 256, .int .i64 8380415] w fun e w' => e = .returned (.int .i64 ((256 : Int) ^ 8380415 % 8380417)) ∧ w' = w := powerGreat_any 256 8380415 (by omega) (by omega) (by omega) w
  have e : (256 : Int) ^ 8380415 % 8380417 = 8347681 := (cast_pow 256 8380415 8380417).symm.trans part_G
  rw [e] at h
  exact h
/-- The sums of the first k places. -/
def igPart (G : Nat → Int) (k j : Nat) : Int := sm k (fun b => G b * 8347681 % 8380417 * bkG b ^ j % 8380417) % 8380417
theorem igPart_range (G : Nat → Int) (k j : Nat) : 0 ≤ igPart G k j ∧ igPart G k j < 8380417 := ⟨Int.emod_nonneg _ (by omega), Int.emod_lt_of_pos _ (by omega)⟩
theorem igPart_step (G : Nat → Int) (k j : Nat) : (igPart G k j + G k * 8347681 % 8380417 * bkG k ^ j % 8380417) % 8380417 = igPart G (k + 1) j := by
  unfold igPart
  rw [sm, Int.emod_add_emod]
set_option maxHeartbeats 4000000 in
set_option maxRecDepth 20000 in
theorem rinvG_any (L : Nat → Int) (hL : InB L 8380417) (w : World) :
    Calls Tryz.prog 116 #[.agg (polyA .i64 L)] w fun e w' => e = .returned (.agg (polyA .i64 (rInvG L))) ∧ w.grownBy w' none := by
  have n1 := new_alloc .i64 w L 43
  generalize hw1 : w.alloc (.cells (polyA .i64 L) 43) = w1 at n1
  have n2 := new_alloc .i64 w1 (fun _ => 0) 43
  rw [← Tryz.zY] at n2
  generalize hw2 : w1.alloc (.cells Tryz.zeroCells43 43) = w2 at n2
  have n3 := new_alloc .i64 w2 (fun _ => 0) 43
  rw [← Tryz.zY] at n3
  have s1 := n1.s
  have s2 := n2.s
  have g3 : w.grownBy (w2.alloc (.cells Tryz.zeroCells43 43)) none := grownBy_trans n1.g (grownBy_trans n2.g n3.g)
  have r1 := (n1.r.new n2.g).new n3.g
  have r2 := n2.r.new n3.g
  have r3 := n3.r
  rw [s2, s1] at r3
  rw [s1] at r2
  have HL : Hid (InB L 8380417) := hL
  have HRt := hidz rootOf_any
  have HPw := hidz powerGreat_any
  have HPp := hidz powerGreat_part
  clear hL
  go_enter Tryz.func116, Tryz.ntmps116
  go_wp2_with fail
  generalize w2.alloc (.cells Tryz.zeroCells43 43) = W3 at *
  clear n1 n2 n3 s1 s2
  refine (HPp.out _).mono ?_
  rintro e w7 ⟨rfl, rfl⟩
  go_wp2
  go_loopw [5] (fun i wr => ∃ k : Nat, k ≤ 256 ∧ i = .int .i64 k ∧ w.grownBy wr none ∧ PRow .i64 wr w.heap.size 0 L ∧ PRow .i64 wr (w.heap.size + 1) 0 (fun _ => 0) ∧ PRow .i64 wr (w.heap.size + 1 + 1) 0 (igPart L k)) (fun i _ => 256 - (intOf i).toNat)
  case atStart => exact ⟨0, by omega, rfl, g3, r1, r2, r3.ext (fun j _ => rfl)⟩
  case round =>
    clear g3 r1 r2 r3
    obtain ⟨k, hk, rfl, hg, h1, h2, h3⟩ := hrel
    by_cases hlt : k < 256
    · have k0 : (0 : Int) ≤ (k : Int) := Int.natCast_nonneg k
      have k1 : (k : Int) < 256 := by omega
      obtain ⟨y0, y1⟩ := yG_range k hlt
      have HC := hidz (HRt.out k hlt wr)
      go_wp2_with fail
      refine HC.out.mono ?_
      rintro e w8 ⟨rfl, rfl⟩
      clear HC
      have HC : Hid (Calls Tryz.prog 205 #[.int .i64 (yG k), .int .i64 8380415] w8 fun e w' => e = .returned (.int .i64 (bkG k)) ∧ w' = w8) := HPw.out (yG k) 8380415 y0 y1 (by omega) w8
      obtain ⟨b0, b1⟩ : 0 ≤ bkG k ∧ bkG k < 8380417 := ⟨Int.emod_nonneg _ (by omega), Int.emod_lt_of_pos _ (by omega)⟩
      obtain ⟨B, HB⟩ : ∃ B, Hid (B = bkG k) := ⟨_, rfl⟩
      rw [← HB.out] at HC b0 b1
      generalize yG k = Y at *
      clear y0 y1
      go_wp2_with fail
      refine HC.out.mono ?_
      rintro e w9 ⟨rfl, rfl⟩
      clear HC
      have c1 := (h1.at0 k hlt).1
      obtain ⟨a0, a1⟩ := HL.out k hlt
      obtain ⟨e1, e2, e3⟩ := mulmod_val (L k) 8347681 8380417 a0 a1 (by omega) (by omega) (by omega)
      obtain ⟨P, HP⟩ : ∃ P, Hid (P = L k * 8347681 % 8380417) := ⟨_, rfl⟩
      obtain ⟨F, HF⟩ : ∃ F, Hid (F = L k) := ⟨_, rfl⟩
      rw [← HF.out] at c1 e1 e2 e3 a0 a1
      go_wp2
      go_loopw [8, 9] (fun p j wr => ∃ (t : Nat) (v : Int), t ≤ 256 ∧ j = .int .i64 t ∧ p = .int .i64 v ∧ Hid (v = P * bkG k ^ t % 8380417) ∧ w.grownBy wr none ∧ PRow .i64 wr w.heap.size 0 L ∧ PRow .i64 wr (w.heap.size + 1) 0 (fun _ => 0) ∧ PRow .i64 wr (w.heap.size + 1 + 1) 0 (fun j => if j < t then igPart L (k + 1) j else igPart L k j)) (fun _ j _ => 256 - (intOf j).toNat)
      case atStart => exact ⟨0, _, by omega, rfl, rfl, (by show F * 8347681 % 8380417 = P * bkG k ^ 0 % 8380417; rw [HP.out, HF.out]; simp), hg, h1, h2, h3.ext (fun j _ => (if_neg (by omega)).symm)⟩
      case round =>
        clear hg h1 h2 h3 c1 e1 e2 e3
        obtain ⟨t, v, ht, rfl, rfl, HV, hg, h1, h2, h3⟩ := hrel
        by_cases hlt2 : t < 256
        · have t0 : (0 : Int) ≤ (t : Int) := Int.natCast_nonneg t
          have t1 : (t : Int) < 256 := by omega
          have v0 : 0 ≤ v := by rw [HV.out]; exact Int.emod_nonneg _ (by omega)
          have v1 : v < 8380417 := by rw [HV.out]; exact Int.emod_lt_of_pos _ (by omega)
          have c1 := (h3.at0 t hlt2).1
          have c2 := (h3.at0 t hlt2).2
          rw [if_neg (Nat.lt_irrefl t)] at c1
          obtain ⟨m0, m1⟩ := igPart_range L k t
          have e4 : (igPart L k t + v).tmod 8380417 = (igPart L k t + v) % 8380417 := Int.tmod_eq_emod_of_nonneg (by omega)
          obtain ⟨e1, e2, e3⟩ := mulmod_val v B 8380417 v0 v1 b0 b1 (by omega)
          have HS : Hid ((igPart L k t + v) % 8380417 = igPart L (k + 1) t) := by
            show _ = _
            rw [HV.out, HP.out]; exact igPart_step L k t
          have HW : Hid (v * B % 8380417 = P * bkG k ^ (t + 1) % 8380417) := by
            show _ = _
            rw [HV.out, HB.out]; exact part_step P (bkG k) 8380417 t
          obtain ⟨G, hG⟩ : ∃ G, G = igPart L k t := ⟨_, rfl⟩
          rw [← hG] at c1 e4 m0 m1 HS
          clear hG
          go_wp2
          rw [HS.out]
          exact ⟨⟨t + 1, _, by omega, by go_num, rfl, HW, grown_setNew hg (by show w.heap.size ≤ w.heap.size + 1 + 1; omega) _, h1.set_other (by show w.heap.size + 1 + 1 ≠ w.heap.size; omega) _, h2.set_other (by show w.heap.size + 1 + 1 ≠ w.heap.size + 1; omega) _, (h3.set0 hlt2 (igPart L (k + 1) t)).ext (fun j _ => mix_step (igPart L (k + 1)) (igPart L k) t j)⟩, by simp [intOf]; omega⟩
        · obtain rfl : t = 256 := by omega
          go_wp2
          exact ⟨⟨k + 1, by omega, by go_num, hg, h1, h2, h3.ext (fun j hj => if_pos hj)⟩, by simp [intOf]; omega⟩
    · have hk6 : k = 256 := by omega
      subst hk6
      have r3 : PRow .i64 wr (w.heap.size + 1 + 1) 0 (rInvG L) := h3
      have ld := run_hidLd wr (w.heap.size + 1 + 1) 0 _ r3
      have st := run_hidSt wr (w.heap.size + 1) (rInvG L) _ h2
      have p6 := put_cells .i64 wr (w.heap.size + 1) 0 (rInvG L) (h2.there .i64 _)
      clear h1 h2 h3
      go_wp2
      refine bodyPost_ret (v := .agg (polyA .i64 (rInvG L))) ?_ rfl ⟨rfl, grown_new hg p6.g (by omega)⟩
      exact res1 Tryz.results116 .i64 _ _ (w.heap.size + 1) _ rfl p6.r ⟨_, Tryz.uY⟩ Tryz.sY
end Go.Proofs.YtkijpphmiogbbaaGreatDoor.Z
