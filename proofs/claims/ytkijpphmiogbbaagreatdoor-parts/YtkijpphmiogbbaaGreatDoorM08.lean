import Derived.Test.YtkijpphmiogbbaaGreatDoorM06
import Derived.Test.YtkijpphmiogbbaaGreatDoorM02
import Derived.Test.YtkijpphmiogbbaaGreatDoorM07
namespace Go.Proofs.YtkijpphmiogbbaaGreatDoor.Z
open Go.RowKit
attribute [local go_sem ↓] Go.wp_at_zero Go.wp_at_succ
attribute [local go_sem ↓] ld_hide st_hide bs_hide ldA_hide stA_hide Hf.ld_hide Hf.st_hide

theorem pair_val (A B C D Y : Int) (a0 : 0 ≤ A) (a1 : A < 3329) (a2 : 0 ≤ B) (a3 : B < 3329) (b0 : 0 ≤ C) (b1 : C < 3329) (b2 : 0 ≤ D) (b3 : D < 3329) (y0 : 0 ≤ Y) (y1 : Y < 3329) :
    IntKind.i64.wrap (A * C) = A * C ∧ IntKind.i64.wrap (B * D) = B * D ∧ (B * D).tmod 3329 = B * D % 3329 ∧ IntKind.i64.wrap (B * D % 3329 * Y) = B * D % 3329 * Y ∧
    IntKind.i64.wrap (A * C + B * D % 3329 * Y) = A * C + B * D % 3329 * Y ∧ (A * C + B * D % 3329 * Y).tmod 3329 = (A * C + B * D % 3329 * Y) % 3329 := by
  obtain ⟨h0, h1⟩ := mul_bd A C 3329 a0 a1 b0 b1 (by omega)
  obtain ⟨h2, h3⟩ := mul_bd B D 3329 a2 a3 b2 b3 (by omega)
  obtain ⟨h4, h5⟩ := mul_bd (B * D % 3329) Y 3329 (by omega) (by omega) y0 y1 (by omega)
  exact ⟨by rw [IntKind.wrap_i64] <;> omega, by rw [IntKind.wrap_i64] <;> omega, Int.tmod_eq_emod_of_nonneg h2, by rw [IntKind.wrap_i64] <;> omega, by rw [IntKind.wrap_i64] <;> omega, Int.tmod_eq_emod_of_nonneg (by omega)⟩
theorem cross_val (A B C D : Int) (a0 : 0 ≤ A) (a1 : A < 3329) (a2 : 0 ≤ B) (a3 : B < 3329) (b0 : 0 ≤ C) (b1 : C < 3329) (b2 : 0 ≤ D) (b3 : D < 3329) :
    IntKind.i64.wrap (A * D) = A * D ∧ IntKind.i64.wrap (B * C) = B * C ∧ IntKind.i64.wrap (A * D + B * C) = A * D + B * C ∧ (A * D + B * C).tmod 3329 = (A * D + B * C) % 3329 := by
  obtain ⟨h0, h1⟩ := mul_bd A D 3329 a0 a1 b2 b3 (by omega)
  obtain ⟨h2, h3⟩ := mul_bd B C 3329 a2 a3 b0 b1 (by omega)
  exact ⟨by rw [IntKind.wrap_i64] <;> omega, by rw [IntKind.wrap_i64] <;> omega, by rw [IntKind.wrap_i64] <;> omega, Int.tmod_eq_emod_of_nonneg (by omega)⟩
set_option maxHeartbeats 4000000 in
set_option maxRecDepth 20000 in
theorem rprod_any (L M : Nat → Int) (hL : InB L 3329) (hM : InB M 3329) (w : World) :
    Calls Tryz.prog 119 #[.agg (polyA .i64 L), .agg (polyA .i64 M)] w fun e w' => e = .returned (.agg (polyA .i64 (prodS L M))) ∧ w.grownBy w' none := by
  have n1 := new_alloc .i64 w L 43
  generalize hw1 : w.alloc (.cells (polyA .i64 L) 43) = w1 at n1
  have n2 := new_alloc .i64 w1 M 43
  generalize hw2 : w1.alloc (.cells (polyA .i64 M) 43) = w2 at n2
  have n3 := new_alloc .i64 w2 (fun _ => 0) 43
  rw [← Tryz.zY] at n3
  have s1 := n1.s
  have s2 := n2.s
  have g3 : w.grownBy (w2.alloc (.cells Tryz.zeroCells43 43)) none := grownBy_trans n1.g (grownBy_trans n2.g n3.g)
  have r1 := (n1.r.new n2.g).new n3.g
  have ra := n2.r.new n3.g
  have r2 := n3.r
  rw [s2, s1] at r2
  rw [s1] at ra
  have HM : Hid (InB M 3329) := hM
  have HL : Hid (InB L 3329) := hL
  have HRt := hidz roots_any
  clear hL hM
  go_enter Tryz.func119, Tryz.ntmps119
  go_wp2_with fail
  generalize w2.alloc (.cells Tryz.zeroCells43 43) = W3 at *
  clear n1 n2 n3 s1 s2
  refine (HRt.out W3).mono ?_
  rintro e w4 ⟨rfl, g4⟩
  have z1 := r1.new g4
  have z2 := r2.new g4
  have za := ra.new g4
  have z3 := grownBy_trans g3 g4
  have z4 : w.heap.size + 1 + 1 < w4.heap.size := z2.lt
  clear g3 g4 r1 r2 ra
  have m5 := Hf.new_alloc .i64 w4 (fun _ => 0) 245
  rw [← Hf.Tryz.zR] at m5
  have mr := m5.r
  have ms := m5.s
  have mg := m5.g
  clear m5
  generalize hb : w4.heap.size = bR at *
  have st := Hf.run_hidSt _ bR yS _ mr
  have p5 := Hf.put_cells .i64 _ bR 0 yS (mr.there .i64 _)
  have s5 : ((w4.alloc (.cells Tryz.zeroCells245 245)).setCells bR 0 (Hf.polyA .i64 yS).toList).heap.size = bR + 1 := by rw [p5.s, ms]
  have y1 := ((z1.new mg).far p5.g (by intro h; injection h; omega))
  have y2 := ((z2.new mg).far p5.g (by intro h; injection h; omega))
  have ya := ((za.new mg).far p5.g (by intro h; injection h; omega))
  have y3 := grown_new (grownBy_trans z3 mg) p5.g (by omega)
  have y4 := p5.r
  go_wp2
  generalize ((w4.alloc (.cells Tryz.zeroCells245 245)).setCells bR 0 (Hf.polyA .i64 yS).toList) = w5 at *
  clear mr ms mg st p5 hb z1 z2 za z3 HRt
  have n6 := new_alloc .i64 w5 (fun _ => 0) 43
  rw [← Tryz.zY] at n6
  have x1 := y1.new n6.g
  have x2 := y2.new n6.g
  have xa := ya.new n6.g
  have x3 := grownBy_trans y3 n6.g
  have x4 : Hf.PRow .i64 _ bR 0 yS := y4.new n6.g
  have x5 := n6.r
  rw [s5] at x5
  generalize w5.alloc (.cells Tryz.zeroCells43 43) = w6 at *
  clear n6 y1 y2 ya y3 y4
  go_loopw [7] (fun i wr => ∃ k : Nat, k ≤ 128 ∧ i = .int .i64 k ∧ w.grownBy wr none ∧ PRow .i64 wr w.heap.size 0 L ∧ PRow .i64 wr (w.heap.size + 1) 0 M ∧ PRow .i64 wr (w.heap.size + 1 + 1) 0 (fun _ => 0) ∧ Hf.PRow .i64 wr bR 0 yS ∧ PRow .i64 wr (bR + 1) 0 (fun j => if j < 2 * k then prodS L M j else 0)) (fun i _ => 128 - (intOf i).toNat)
  case atStart => exact ⟨0, by omega, rfl, x3, x1, xa, x2, x4, x5.ext (fun j _ => by simp)⟩
  case round =>
    clear x1 x2 xa x3 x4 x5
    obtain ⟨k, hk, rfl, x3, x1, xa, x2, x4, x5⟩ := hrel
    by_cases hlt : k < 128
    · have k0 : (0 : Int) ≤ (k : Int) := Int.natCast_nonneg k
      have k1 : (k : Int) < 128 := by omega
      obtain ⟨f1, f2, f3, f4⟩ := two_facts k hlt
      have l1 : (2 : Int) * k < 256 := by omega
      have l2 : (2 : Int) * k + 1 < 256 := by omega
      have l3 : (0 : Int) ≤ 2 * k := by omega
      have l4 : (0 : Int) ≤ 2 * k + 1 := by omega
      have d1 : ¬ bR + 1 = w.heap.size := by omega
      have d2 : ¬ bR + 1 = w.heap.size + 1 := by omega
      have d3 : ¬ w.heap.size = bR + 1 := by omega
      have d4 : ¬ w.heap.size + 1 = bR + 1 := by omega
      have d7 : ¬ bR = w.heap.size := by omega
      have d8 : ¬ w.heap.size = bR := by omega
      have d5 : ¬ bR + 1 = bR := by omega
      have d6 : ¬ bR = bR + 1 := by omega
      have c1 := (x1.at0 (2 * k) (by omega)).1
      have c2 := (x1.at0 (2 * k + 1) (by omega)).1
      have c3 := (xa.at0 (2 * k) (by omega)).1
      have c4 := (xa.at0 (2 * k + 1) (by omega)).1
      have c5 := (x4.at0 k hlt).1
      have c6 := (x5.at0 (2 * k) (by omega)).1
      have c7 := (x5.at0 (2 * k) (by omega)).2
      obtain ⟨a0, a1⟩ := HL.out (2 * k) (by omega)
      obtain ⟨a2, a3⟩ := HL.out (2 * k + 1) (by omega)
      obtain ⟨b0, b1⟩ := HM.out (2 * k) (by omega)
      obtain ⟨b2, b3⟩ := HM.out (2 * k + 1) (by omega)
      obtain ⟨y0, y1⟩ := yS_range k hlt
      have HS : Hid ((L (2 * k) * M (2 * k) + L (2 * k + 1) * M (2 * k + 1) % 3329 * yS k) % 3329 = prodS L M (2 * k)) := by
        show _ = _
        unfold prodS
        rw [if_pos (by omega), Nat.mul_div_cancel_left _ (by omega)]
      have HT : Hid ((L (2 * k) * M (2 * k + 1) + L (2 * k + 1) * M (2 * k)) % 3329 = prodS L M (2 * k + 1)) := by
        show _ = _
        unfold prodS
        rw [if_neg (by omega), show 2 * k + 1 - 1 = 2 * k by omega]
      obtain ⟨A, HA⟩ : ∃ A, Hid (A = L (2 * k)) := ⟨_, rfl⟩
      obtain ⟨B, HB⟩ : ∃ B, Hid (B = L (2 * k + 1)) := ⟨_, rfl⟩
      obtain ⟨C, HC⟩ : ∃ C, Hid (C = M (2 * k)) := ⟨_, rfl⟩
      obtain ⟨D, HD⟩ : ∃ D, Hid (D = M (2 * k + 1)) := ⟨_, rfl⟩
      obtain ⟨Y, HY⟩ : ∃ Y, Hid (Y = yS k) := ⟨_, rfl⟩
      rw [← HA.out] at c1 a0 a1 HS HT
      rw [← HB.out] at c2 a2 a3 HS HT
      rw [← HC.out] at c3 b0 b1 HS HT
      rw [← HD.out] at c4 b2 b3 HS HT
      rw [← HY.out] at c5 y0 y1 HS
      obtain ⟨e1, e2, e3, e4, e5, e6⟩ := pair_val A B C D Y a0 a1 a2 a3 b0 b1 b2 b3 y0 y1
      obtain ⟨g1, g2, g3, g4⟩ := cross_val A B C D a0 a1 a2 a3 b0 b1 b2 b3
      go_wp2
      go_region_held3 (fun w' => w'.cell? ⟨w.heap.size, 2 * k, none⟩ = some (.int .i64 A) ∧ w'.cell? ⟨w.heap.size, 2 * k + 1, none⟩ = some (.int .i64 B) ∧ w'.cell? ⟨w.heap.size + 1, 2 * k, none⟩ = some (.int .i64 C) ∧ w'.cell? ⟨w.heap.size + 1, 2 * k + 1, none⟩ = some (.int .i64 D) ∧ w'.cell? ⟨bR, k, none⟩ = some (.int .i64 Y)) (go_keep) (fail)
      rw [HS.out]
      have q3 := grown_drew (grown_setNew x3 (p := ⟨bR + 1, 2 * k, none⟩) (by show w.heap.size ≤ bR + 1; omega) (.int .i64 (prodS L M (2 * k))))
      have q1 := (x1.set_other (p := ⟨bR + 1, 2 * k, none⟩) (by show bR + 1 ≠ w.heap.size; omega) (.int .i64 (prodS L M (2 * k)))).drew
      have qa := (xa.set_other (p := ⟨bR + 1, 2 * k, none⟩) (by show bR + 1 ≠ w.heap.size + 1; omega) (.int .i64 (prodS L M (2 * k)))).drew
      have q2 := (x2.set_other (p := ⟨bR + 1, 2 * k, none⟩) (by show bR + 1 ≠ w.heap.size + 1 + 1; omega) (.int .i64 (prodS L M (2 * k)))).drew
      have q4 := (x4.set_other (p := ⟨bR + 1, 2 * k, none⟩) (by show bR + 1 ≠ bR; omega) (.int .i64 (prodS L M (2 * k)))).drew
      have q5 := ((x5.set0 (show 2 * k < 256 by omega) (prodS L M (2 * k))).ext (fun j _ => mix_step (prodS L M) (fun _ => 0) (2 * k) j)).drew
      generalize (wr.setCell ⟨bR + 1, 2 * k, none⟩ (.int .i64 (prodS L M (2 * k)))).drew = W7 at *
      clear c1 c2 c3 c4 c5 c6 c7 e1 e2 e3 e4 e5 e6 x1 xa x2 x3 x4 x5 HS
      have c1 := (q1.at0 (2 * k) (by omega)).1
      have c2 := (q1.at0 (2 * k + 1) (by omega)).1
      have c3 := (qa.at0 (2 * k) (by omega)).1
      have c4 := (qa.at0 (2 * k + 1) (by omega)).1
      have c6 := (q5.at0 (2 * k + 1) (by omega)).1
      have c7 := (q5.at0 (2 * k + 1) (by omega)).2
      rw [← HA.out] at c1
      rw [← HB.out] at c2
      rw [← HC.out] at c3
      rw [← HD.out] at c4
      go_wp2
      go_region_held3 (fun w' => w'.cell? ⟨w.heap.size, 2 * k, none⟩ = some (.int .i64 A) ∧ w'.cell? ⟨w.heap.size, 2 * k + 1, none⟩ = some (.int .i64 B) ∧ w'.cell? ⟨w.heap.size + 1, 2 * k, none⟩ = some (.int .i64 C) ∧ w'.cell? ⟨w.heap.size + 1, 2 * k + 1, none⟩ = some (.int .i64 D)) (go_keep) (fail)
      rw [HT.out]
      have x3 := grown_drew (grown_setNew q3 (p := ⟨bR + 1, 2 * k + 1, none⟩) (by show w.heap.size ≤ bR + 1; omega) (.int .i64 (prodS L M (2 * k + 1))))
      have x1 := (q1.set_other (p := ⟨bR + 1, 2 * k + 1, none⟩) (by show bR + 1 ≠ w.heap.size; omega) (.int .i64 (prodS L M (2 * k + 1)))).drew
      have xa := (qa.set_other (p := ⟨bR + 1, 2 * k + 1, none⟩) (by show bR + 1 ≠ w.heap.size + 1; omega) (.int .i64 (prodS L M (2 * k + 1)))).drew
      have x2 := (q2.set_other (p := ⟨bR + 1, 2 * k + 1, none⟩) (by show bR + 1 ≠ w.heap.size + 1 + 1; omega) (.int .i64 (prodS L M (2 * k + 1)))).drew
      have x4 := (q4.set_other (p := ⟨bR + 1, 2 * k + 1, none⟩) (by show bR + 1 ≠ bR; omega) (.int .i64 (prodS L M (2 * k + 1)))).drew
      have x5 := ((q5.set0 (show 2 * k + 1 < 256 by omega) (prodS L M (2 * k + 1))).ext (fun j _ => mix_step (prodS L M) (fun _ => 0) (2 * k + 1) j)).drew
      generalize (W7.setCell ⟨bR + 1, 2 * k + 1, none⟩ (.int .i64 (prodS L M (2 * k + 1)))).drew = W8 at *
      clear c1 c2 c3 c4 c6 c7 q1 qa q2 q3 q4 q5
      go_wp2
      exact ⟨⟨k + 1, by omega, by go_num, x3, x1, xa, x2, x4, x5⟩, by simp [intOf]; omega⟩
    · have hk6 : k = 128 := by omega
      subst hk6
      have r3 : PRow .i64 wr (bR + 1) 0 (prodS L M) := x5.ext (fun j hj => by rw [if_pos (by omega)])
      have ld := run_hidLd wr (bR + 1) 0 _ r3
      have st := run_hidSt wr (w.heap.size + 1 + 1) (prodS L M) _ x2
      have p6 := put_cells .i64 wr (w.heap.size + 1 + 1) 0 (prodS L M) (x2.there .i64 _)
      clear x1 xa x2 x4 x5
      go_wp2
      refine bodyPost_ret (v := .agg (polyA .i64 (prodS L M))) ?_ rfl ⟨rfl, grown_new x3 p6.g (by omega)⟩
      exact res1 Tryz.results119 .i64 _ _ (w.heap.size + 1 + 1) _ rfl p6.r ⟨_, Tryz.uY⟩ Tryz.sY
end Go.Proofs.YtkijpphmiogbbaaGreatDoor.Z

namespace Go.Proofs.YtkijpphmiogbbaaGreatDoor
def compI (n a : Nat) : Nat := (a * 2 ^ (n + 1) + 3329) / 6658 % 2 ^ n
def decI (n b : Nat) : Nat := (b * 3329 + 2 ^ (n - 1)) / 2 ^ n
def farI (a b : Nat) : Nat := cond (Nat.blt (3329 - (a + 3329 - b) % 3329) ((a + 3329 - b) % 3329)) (3329 - (a + 3329 - b) % 3329) ((a + 3329 - b) % 3329)
def fine (n a : Nat) : Bool := (Nat.blt (compI n a) (2 ^ n)).and ((Nat.blt (decI n (compI n a)) 3329).and ((Nat.beq (compI n (decI n (compI n a))) (compI n a)).and (Nat.ble (farI a (decI n (compI n a))) ((3329 + 2 ^ n) / 2 ^ (n + 1)))))
def fineTo (n : Nat) : Nat → Bool
  | 0 => true
  | a + 1 => (fine n a).and (fineTo n a)
set_option maxRecDepth 1000000 in
theorem all_fine : ∀ n : Fin 11, fineTo (n.val + 1) 3329 = true := by decide +kernel
theorem fineTo_at (n : Nat) : ∀ m a, fineTo n m = true → a < m → fine n a = true
  | 0, a, _, h => by omega
  | m + 1, a, h, ha => by
    have h' : ((fine n m).and (fineTo n m)) = true := h
    rw [Bool.and_eq_true] at h'
    by_cases e : a = m
    · subst e; exact h'.1
    · exact fineTo_at n m a h'.2 (by omega)
theorem fine_at (n a : Nat) (h0 : 1 ≤ n) (h1 : n ≤ 11) (ha : a < 3329) : compI n a < 2 ^ n ∧ decI n (compI n a) < 3329 ∧ compI n (decI n (compI n a)) = compI n a ∧ farI a (decI n (compI n a)) ≤ (3329 + 2 ^ n) / 2 ^ (n + 1) := by
  have h := all_fine ⟨n - 1, by omega⟩
  simp only [] at h
  rw [Nat.sub_add_cancel h0] at h
  have f := fineTo_at n 3329 a h ha
  unfold fine at f
  rw [Bool.and_eq_true, Bool.and_eq_true, Bool.and_eq_true] at f
  exact ⟨Nat.blt_eq.mp f.1, Nat.blt_eq.mp f.2.1, Nat.eq_of_beq_eq_true f.2.2.1, Nat.le_of_ble_eq_true f.2.2.2⟩
end Go.Proofs.YtkijpphmiogbbaaGreatDoor

namespace Go.Proofs.YtkijpphmiogbbaaGreatDoor.Z
open Go.RowKit
attribute [local go_sem ↓] Go.wp_at_zero Go.wp_at_succ
attribute [local go_sem ↓] ld_hide st_hide bs_hide ldA_hide stA_hide Hf.ld_hide Hf.st_hide

theorem rComp_is (d a : Nat) : rComp d (a : Int) = ((compI d a : Nat) : Int) := by
  unfold rComp compI
  rw [Int.natCast_emod, Int.natCast_ediv, Int.natCast_add, Int.natCast_mul, Int.natCast_pow, Int.natCast_pow]
  rfl
theorem rDeco_is (d b : Nat) (hd : 1 ≤ d) : rDeco d (b : Int) = ((decI d b : Nat) : Int) := by
  obtain ⟨e, rfl⟩ : ∃ e, d = e + 1 := ⟨d - 1, by omega⟩
  unfold rDeco decI
  have h : ((b : Int) * 3329 * 2 + 2 ^ (e + 1)) / 2 ^ (e + 1 + 1) = (((b * 3329 * 2 + 2 ^ (e + 1)) / 2 ^ (e + 1 + 1) : Nat) : Int) := by rw [Int.natCast_ediv, Int.natCast_add, Int.natCast_mul, Int.natCast_mul, Int.natCast_pow, Int.natCast_pow]; rfl
  rw [h]
  congr 1
  rw [Nat.add_sub_cancel, Nat.pow_succ 2 (e + 1), show b * 3329 * 2 + 2 ^ (e + 1) = (b * 3329 + 2 ^ e) * 2 by rw [Nat.pow_succ]; omega, Nat.mul_div_mul_right _ _ (by omega)]
set_option maxHeartbeats 2000000 in
set_option maxRecDepth 20000 in
theorem wanted_f16 (L M : Nat → Int) (hL : InB L 3329) (w : World) :
    Calls Tryz.prog 58 #[.int .i64 0, .int .i64 3329, .agg (polyA .i64 L), .agg (polyA .i64 M)] w fun e w' => e = .returned (.agg (polyA .i64 (rFwdS L))) ∧ w.grownBy w' none := by
  have n1 := new_alloc .i64 w L 43
  generalize hw1 : w.alloc (.cells (polyA .i64 L) 43) = w1 at n1
  have n2 := new_alloc .i64 w1 M 43
  generalize hw2 : w1.alloc (.cells (polyA .i64 M) 43) = w2 at n2
  have n3 := new_alloc .i64 w2 (fun _ => 0) 43
  rw [← Tryz.zY] at n3
  have s1 := n1.s
  have s2 := n2.s
  have g3 : w.grownBy (w2.alloc (.cells Tryz.zeroCells43 43)) none := grownBy_trans n1.g (grownBy_trans n2.g n3.g)
  have r1 := (n1.r.new n2.g).new n3.g
  have ra := n2.r.new n3.g
  have r2 := n3.r
  rw [s2, s1] at r2
  rw [s1] at ra
  have HC := hidz (fun W => rfwd_any L hL W)
  have ld1 := run_hidLd _ w.heap.size 0 _ r1
  have ld2 := run_hidLd _ (w.heap.size + 1) 0 _ ra
  go_enter Tryz.func58, Tryz.ntmps58
  go_wp2_with fail
  generalize w2.alloc (.cells Tryz.zeroCells43 43) = W3 at *
  refine (HC.out W3).mono ?_
  rintro e w4 ⟨rfl, g4⟩
  have z2 := r2.new g4
  have z3 := grownBy_trans g3 g4
  have st := run_hidSt w4 (w.heap.size + 1 + 1) (rFwdS L) _ z2
  have p6 := put_cells .i64 w4 (w.heap.size + 1 + 1) 0 (rFwdS L) (z2.there .i64 _)
  clear n1 n2 n3 s1 s2 ld1 ld2 r1 ra r2 HC z2 g3 g4
  go_wp2
  refine bodyPost_ret (v := .agg (polyA .i64 (rFwdS L))) ?_ rfl ⟨rfl, grown_new z3 p6.g (by omega)⟩
  exact res1 Tryz.results58 .i64 _ _ (w.heap.size + 1 + 1) _ rfl p6.r ⟨_, Tryz.uY⟩ Tryz.sY
set_option maxHeartbeats 2000000 in
set_option maxRecDepth 20000 in
theorem wanted_f32 (L M : Nat → Int) (hL : InB L 8380417) (w : World) :
    Calls Tryz.prog 58 #[.int .i64 0, .int .i64 8380417, .agg (polyA .i64 L), .agg (polyA .i64 M)] w fun e w' => e = .returned (.agg (polyA .i64 (rFwdG L))) ∧ w.grownBy w' none := by
  have n1 := new_alloc .i64 w L 43
  generalize hw1 : w.alloc (.cells (polyA .i64 L) 43) = w1 at n1
  have n2 := new_alloc .i64 w1 M 43
  generalize hw2 : w1.alloc (.cells (polyA .i64 M) 43) = w2 at n2
  have n3 := new_alloc .i64 w2 (fun _ => 0) 43
  rw [← Tryz.zY] at n3
  have s1 := n1.s
  have s2 := n2.s
  have g3 : w.grownBy (w2.alloc (.cells Tryz.zeroCells43 43)) none := grownBy_trans n1.g (grownBy_trans n2.g n3.g)
  have r1 := (n1.r.new n2.g).new n3.g
  have ra := n2.r.new n3.g
  have r2 := n3.r
  rw [s2, s1] at r2
  rw [s1] at ra
  have HC := hidz (fun W => rfwdG_any L hL W)
  have ld1 := run_hidLd _ w.heap.size 0 _ r1
  have ld2 := run_hidLd _ (w.heap.size + 1) 0 _ ra
  go_enter Tryz.func58, Tryz.ntmps58
  go_wp2_with fail
  generalize w2.alloc (.cells Tryz.zeroCells43 43) = W3 at *
  refine (HC.out W3).mono ?_
  rintro e w4 ⟨rfl, g4⟩
  have z2 := r2.new g4
  have z3 := grownBy_trans g3 g4
  have st := run_hidSt w4 (w.heap.size + 1 + 1) (rFwdG L) _ z2
  have p6 := put_cells .i64 w4 (w.heap.size + 1 + 1) 0 (rFwdG L) (z2.there .i64 _)
  clear n1 n2 n3 s1 s2 ld1 ld2 r1 ra r2 HC z2 g3 g4
  go_wp2
  refine bodyPost_ret (v := .agg (polyA .i64 (rFwdG L))) ?_ rfl ⟨rfl, grown_new z3 p6.g (by omega)⟩
  exact res1 Tryz.results58 .i64 _ _ (w.heap.size + 1 + 1) _ rfl p6.r ⟨_, Tryz.uY⟩ Tryz.sY
set_option maxHeartbeats 2000000 in
set_option maxRecDepth 20000 in
theorem wanted_i16 (L M : Nat → Int) (hL : InB L 3329) (w : World) :
    Calls Tryz.prog 58 #[.int .i64 1, .int .i64 3329, .agg (polyA .i64 L), .agg (polyA .i64 M)] w fun e w' => e = .returned (.agg (polyA .i64 (rInvS L))) ∧ w.grownBy w' none := by
  have n1 := new_alloc .i64 w L 43
  generalize hw1 : w.alloc (.cells (polyA .i64 L) 43) = w1 at n1
  have n2 := new_alloc .i64 w1 M 43
  generalize hw2 : w1.alloc (.cells (polyA .i64 M) 43) = w2 at n2
  have n3 := new_alloc .i64 w2 (fun _ => 0) 43
  rw [← Tryz.zY] at n3
  have s1 := n1.s
  have s2 := n2.s
  have g3 : w.grownBy (w2.alloc (.cells Tryz.zeroCells43 43)) none := grownBy_trans n1.g (grownBy_trans n2.g n3.g)
  have r1 := (n1.r.new n2.g).new n3.g
  have ra := n2.r.new n3.g
  have r2 := n3.r
  rw [s2, s1] at r2
  rw [s1] at ra
  have HC := hidz (fun W => rinv_any L hL W)
  have ld1 := run_hidLd _ w.heap.size 0 _ r1
  have ld2 := run_hidLd _ (w.heap.size + 1) 0 _ ra
  go_enter Tryz.func58, Tryz.ntmps58
  go_wp2_with fail
  generalize w2.alloc (.cells Tryz.zeroCells43 43) = W3 at *
  refine (HC.out W3).mono ?_
  rintro e w4 ⟨rfl, g4⟩
  have z2 := r2.new g4
  have z3 := grownBy_trans g3 g4
  have st := run_hidSt w4 (w.heap.size + 1 + 1) (rInvS L) _ z2
  have p6 := put_cells .i64 w4 (w.heap.size + 1 + 1) 0 (rInvS L) (z2.there .i64 _)
  clear n1 n2 n3 s1 s2 ld1 ld2 r1 ra r2 HC z2 g3 g4
  go_wp2
  refine bodyPost_ret (v := .agg (polyA .i64 (rInvS L))) ?_ rfl ⟨rfl, grown_new z3 p6.g (by omega)⟩
  exact res1 Tryz.results58 .i64 _ _ (w.heap.size + 1 + 1) _ rfl p6.r ⟨_, Tryz.uY⟩ Tryz.sY
set_option maxHeartbeats 2000000 in
set_option maxRecDepth 20000 in
theorem wanted_i32 (L M : Nat → Int) (hL : InB L 8380417) (w : World) :
    Calls Tryz.prog 58 #[.int .i64 1, .int .i64 8380417, .agg (polyA .i64 L), .agg (polyA .i64 M)] w fun e w' => e = .returned (.agg (polyA .i64 (rInvG L))) ∧ w.grownBy w' none := by
  have n1 := new_alloc .i64 w L 43
  generalize hw1 : w.alloc (.cells (polyA .i64 L) 43) = w1 at n1
  have n2 := new_alloc .i64 w1 M 43
  generalize hw2 : w1.alloc (.cells (polyA .i64 M) 43) = w2 at n2
  have n3 := new_alloc .i64 w2 (fun _ => 0) 43
  rw [← Tryz.zY] at n3
  have s1 := n1.s
  have s2 := n2.s
  have g3 : w.grownBy (w2.alloc (.cells Tryz.zeroCells43 43)) none := grownBy_trans n1.g (grownBy_trans n2.g n3.g)
  have r1 := (n1.r.new n2.g).new n3.g
  have ra := n2.r.new n3.g
  have r2 := n3.r
  rw [s2, s1] at r2
  rw [s1] at ra
  have HC := hidz (fun W => rinvG_any L hL W)
  have ld1 := run_hidLd _ w.heap.size 0 _ r1
  have ld2 := run_hidLd _ (w.heap.size + 1) 0 _ ra
  go_enter Tryz.func58, Tryz.ntmps58
  go_wp2_with fail
  generalize w2.alloc (.cells Tryz.zeroCells43 43) = W3 at *
  refine (HC.out W3).mono ?_
  rintro e w4 ⟨rfl, g4⟩
  have z2 := r2.new g4
  have z3 := grownBy_trans g3 g4
  have st := run_hidSt w4 (w.heap.size + 1 + 1) (rInvG L) _ z2
  have p6 := put_cells .i64 w4 (w.heap.size + 1 + 1) 0 (rInvG L) (z2.there .i64 _)
  clear n1 n2 n3 s1 s2 ld1 ld2 r1 ra r2 HC z2 g3 g4
  go_wp2
  refine bodyPost_ret (v := .agg (polyA .i64 (rInvG L))) ?_ rfl ⟨rfl, grown_new z3 p6.g (by omega)⟩
  exact res1 Tryz.results58 .i64 _ _ (w.heap.size + 1 + 1) _ rfl p6.r ⟨_, Tryz.uY⟩ Tryz.sY
set_option maxHeartbeats 2000000 in
set_option maxRecDepth 20000 in
theorem wanted_p16 (L M : Nat → Int) (hL : InB L 3329) (hM : InB M 3329) (w : World) :
    Calls Tryz.prog 58 #[.int .i64 2, .int .i64 3329, .agg (polyA .i64 L), .agg (polyA .i64 M)] w fun e w' => e = .returned (.agg (polyA .i64 (prodS L M))) ∧ w.grownBy w' none := by
  have n1 := new_alloc .i64 w L 43
  generalize hw1 : w.alloc (.cells (polyA .i64 L) 43) = w1 at n1
  have n2 := new_alloc .i64 w1 M 43
  generalize hw2 : w1.alloc (.cells (polyA .i64 M) 43) = w2 at n2
  have n3 := new_alloc .i64 w2 (fun _ => 0) 43
  rw [← Tryz.zY] at n3
  have s1 := n1.s
  have s2 := n2.s
  have g3 : w.grownBy (w2.alloc (.cells Tryz.zeroCells43 43)) none := grownBy_trans n1.g (grownBy_trans n2.g n3.g)
  have r1 := (n1.r.new n2.g).new n3.g
  have ra := n2.r.new n3.g
  have r2 := n3.r
  rw [s2, s1] at r2
  rw [s1] at ra
  have HC := hidz (fun W => rprod_any L M hL hM W)
  have ld1 := run_hidLd _ w.heap.size 0 _ r1
  have ld2 := run_hidLd _ (w.heap.size + 1) 0 _ ra
  go_enter Tryz.func58, Tryz.ntmps58
  go_wp2_with fail
  generalize w2.alloc (.cells Tryz.zeroCells43 43) = W3 at *
  refine (HC.out W3).mono ?_
  rintro e w4 ⟨rfl, g4⟩
  have z2 := r2.new g4
  have z3 := grownBy_trans g3 g4
  have st := run_hidSt w4 (w.heap.size + 1 + 1) (prodS L M) _ z2
  have p6 := put_cells .i64 w4 (w.heap.size + 1 + 1) 0 (prodS L M) (z2.there .i64 _)
  clear n1 n2 n3 s1 s2 ld1 ld2 r1 ra r2 HC z2 g3 g4
  go_wp2
  refine bodyPost_ret (v := .agg (polyA .i64 (prodS L M))) ?_ rfl ⟨rfl, grown_new z3 p6.g (by omega)⟩
  exact res1 Tryz.results58 .i64 _ _ (w.heap.size + 1 + 1) _ rfl p6.r ⟨_, Tryz.uY⟩ Tryz.sY
set_option maxHeartbeats 2000000 in
set_option maxRecDepth 20000 in
theorem wanted_p32 (L M : Nat → Int) (hL : InB L 8380417) (hM : InB M 8380417) (w : World) :
    Calls Tryz.prog 58 #[.int .i64 2, .int .i64 8380417, .agg (polyA .i64 L), .agg (polyA .i64 M)] w fun e w' => e = .returned (.agg (polyA .i64 (prodG L M))) ∧ w.grownBy w' none := by
  have n1 := new_alloc .i64 w L 43
  generalize hw1 : w.alloc (.cells (polyA .i64 L) 43) = w1 at n1
  have n2 := new_alloc .i64 w1 M 43
  generalize hw2 : w1.alloc (.cells (polyA .i64 M) 43) = w2 at n2
  have n3 := new_alloc .i64 w2 (fun _ => 0) 43
  rw [← Tryz.zY] at n3
  have s1 := n1.s
  have s2 := n2.s
  have g3 : w.grownBy (w2.alloc (.cells Tryz.zeroCells43 43)) none := grownBy_trans n1.g (grownBy_trans n2.g n3.g)
  have r1 := (n1.r.new n2.g).new n3.g
  have ra := n2.r.new n3.g
  have r2 := n3.r
  rw [s2, s1] at r2
  rw [s1] at ra
  have HC := hidz (fun W => rprodG_any L M hL hM W)
  have ld1 := run_hidLd _ w.heap.size 0 _ r1
  have ld2 := run_hidLd _ (w.heap.size + 1) 0 _ ra
  go_enter Tryz.func58, Tryz.ntmps58
  go_wp2_with fail
  generalize w2.alloc (.cells Tryz.zeroCells43 43) = W3 at *
  refine (HC.out W3).mono ?_
  rintro e w4 ⟨rfl, g4⟩
  have z2 := r2.new g4
  have z3 := grownBy_trans g3 g4
  have st := run_hidSt w4 (w.heap.size + 1 + 1) (prodG L M) _ z2
  have p6 := put_cells .i64 w4 (w.heap.size + 1 + 1) 0 (prodG L M) (z2.there .i64 _)
  clear n1 n2 n3 s1 s2 ld1 ld2 r1 ra r2 HC z2 g3 g4
  go_wp2
  refine bodyPost_ret (v := .agg (polyA .i64 (prodG L M))) ?_ rfl ⟨rfl, grown_new z3 p6.g (by omega)⟩
  exact res1 Tryz.results58 .i64 _ _ (w.heap.size + 1 + 1) _ rfl p6.r ⟨_, Tryz.uY⟩ Tryz.sY
set_option maxHeartbeats 2000000 in
set_option maxRecDepth 20000 in
theorem wanted_c (d : Nat) (hd : 1 ≤ d) (hd1 : d ≤ 11) (L M : Nat → Int) (hL : InB L 3329) (w : World) :
    Calls Tryz.prog 58 #[.int .i64 3, .int .i64 d, .agg (polyA .i64 L), .agg (polyA .i64 M)] w fun e w' => e = .returned (.agg (polyA .i64 (fun j => rComp d (L j)))) ∧ w.grownBy w' none := by
  have n1 := new_alloc .i64 w L 43
  generalize hw1 : w.alloc (.cells (polyA .i64 L) 43) = w1 at n1
  have n2 := new_alloc .i64 w1 M 43
  generalize hw2 : w1.alloc (.cells (polyA .i64 M) 43) = w2 at n2
  have n3 := new_alloc .i64 w2 (fun _ => 0) 43
  rw [← Tryz.zY] at n3
  have s1 := n1.s
  have s2 := n2.s
  have g3 : w.grownBy (w2.alloc (.cells Tryz.zeroCells43 43)) none := grownBy_trans n1.g (grownBy_trans n2.g n3.g)
  have r1 := (n1.r.new n2.g).new n3.g
  have ra := n2.r.new n3.g
  have r2 := n3.r
  rw [s2, s1] at r2
  rw [s1] at ra
  have HC := hidz (fun W => rcomp_any d hd hd1 L hL W)
  have ld1 := run_hidLd _ w.heap.size 0 _ r1
  have ld2 := run_hidLd _ (w.heap.size + 1) 0 _ ra
  have e0 : ((d : Int) == 8380417) = false := by simp; omega
  go_enter Tryz.func58, Tryz.ntmps58
  go_wp2_with fail
  generalize w2.alloc (.cells Tryz.zeroCells43 43) = W3 at *
  refine (HC.out W3).mono ?_
  rintro e w4 ⟨rfl, g4⟩
  have z2 := r2.new g4
  have z3 := grownBy_trans g3 g4
  have st := run_hidSt w4 (w.heap.size + 1 + 1) (fun j => rComp d (L j)) _ z2
  have p6 := put_cells .i64 w4 (w.heap.size + 1 + 1) 0 (fun j => rComp d (L j)) (z2.there .i64 _)
  clear n1 n2 n3 s1 s2 ld1 ld2 r1 ra r2 HC z2 g3 g4
  go_wp2
  refine bodyPost_ret (v := .agg (polyA .i64 (fun j => rComp d (L j)))) ?_ rfl ⟨rfl, grown_new z3 p6.g (by omega)⟩
  exact res1 Tryz.results58 .i64 _ _ (w.heap.size + 1 + 1) _ rfl p6.r ⟨_, Tryz.uY⟩ Tryz.sY
set_option maxHeartbeats 2000000 in
set_option maxRecDepth 20000 in
theorem wanted_d (d : Nat) (hd : 1 ≤ d) (hd1 : d ≤ 11) (L M : Nat → Int) (hL : InB L (2 ^ d)) (w : World) :
    Calls Tryz.prog 58 #[.int .i64 4, .int .i64 d, .agg (polyA .i64 L), .agg (polyA .i64 M)] w fun e w' => e = .returned (.agg (polyA .i64 (fun j => rDeco d (L j)))) ∧ w.grownBy w' none := by
  have n1 := new_alloc .i64 w L 43
  generalize hw1 : w.alloc (.cells (polyA .i64 L) 43) = w1 at n1
  have n2 := new_alloc .i64 w1 M 43
  generalize hw2 : w1.alloc (.cells (polyA .i64 M) 43) = w2 at n2
  have n3 := new_alloc .i64 w2 (fun _ => 0) 43
  rw [← Tryz.zY] at n3
  have s1 := n1.s
  have s2 := n2.s
  have g3 : w.grownBy (w2.alloc (.cells Tryz.zeroCells43 43)) none := grownBy_trans n1.g (grownBy_trans n2.g n3.g)
  have r1 := (n1.r.new n2.g).new n3.g
  have ra := n2.r.new n3.g
  have r2 := n3.r
  rw [s2, s1] at r2
  rw [s1] at ra
  have HC := hidz (fun W => rdeco_any d hd hd1 L hL W)
  have ld1 := run_hidLd _ w.heap.size 0 _ r1
  have ld2 := run_hidLd _ (w.heap.size + 1) 0 _ ra
  have e0 : ((d : Int) == 8380417) = false := by simp; omega
  go_enter Tryz.func58, Tryz.ntmps58
  go_wp2_with fail
  generalize w2.alloc (.cells Tryz.zeroCells43 43) = W3 at *
  refine (HC.out W3).mono ?_
  rintro e w4 ⟨rfl, g4⟩
  have z2 := r2.new g4
  have z3 := grownBy_trans g3 g4
  have st := run_hidSt w4 (w.heap.size + 1 + 1) (fun j => rDeco d (L j)) _ z2
  have p6 := put_cells .i64 w4 (w.heap.size + 1 + 1) 0 (fun j => rDeco d (L j)) (z2.there .i64 _)
  clear n1 n2 n3 s1 s2 ld1 ld2 r1 ra r2 HC z2 g3 g4
  go_wp2
  refine bodyPost_ret (v := .agg (polyA .i64 (fun j => rDeco d (L j)))) ?_ rfl ⟨rfl, grown_new z3 p6.g (by omega)⟩
  exact res1 Tryz.results58 .i64 _ _ (w.heap.size + 1 + 1) _ rfl p6.r ⟨_, Tryz.uY⟩ Tryz.sY
end Go.Proofs.YtkijpphmiogbbaaGreatDoor.Z
