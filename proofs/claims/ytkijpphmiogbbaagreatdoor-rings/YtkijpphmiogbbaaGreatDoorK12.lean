import Derived.Test.YtkijpphmiogbbaaGreatDoorK04
import Derived.Test.YtkijpphmiogbbaaGreatDoorK10
import Derived.Test.YtkijpphmiogbbaaGreatDoorK11
namespace Go.Proofs.YtkijpphmiogbbaaGreatDoor.Z
open Go.RowKit
attribute [local go_sem ↓] Go.wp_at_zero Go.wp_at_succ
attribute [local go_sem ↓] ld_hide st_hide bs_hide ldA_hide stA_hide Hf.ld_hide Hf.st_hide

theorem rComp_is (d a : Nat) : rComp d (a : Int) = ((compI d a : Nat) : Int) := by
  unfold rComp compI
  rw [Int.natCast_emod, Int.natCast_ediv, Int.natCast_add, Int.natCast_mul, Int.natCast_pow, Int.natCast_pow]
  rfl
theorem rDeco_is (d b : Nat) (hd : 1 ≤ d) : rDeco d (b : Int) = ((decI d b : Nat) : Int) := by
  obtain ⟨e, rfl⟩ : ∃ e, d = e + 1 := ⟨d - 1, by omega⟩
  unfold rDeco decI
  have h : ((b : Int) * 3329 * 2 + 2 ^ (e + 1)) / 2 ^ (e + 1 + 1) = (((b * 3329 * 2 + 2 ^ (e + 1)) / 2 ^ (e + 1 + 1) : Nat) : Int) := by rw [Int.natCast_ediv, Int.natCast_add, Int.natCast_mul, Int.natCast_mul, Int.natCast_pow, Int.natCast_pow]; rfl
  rw [h]
  congr 1
  rw [Nat.add_sub_cancel, Nat.pow_succ 2 (e + 1), show b * 3329 * 2 + 2 ^ (e + 1) = (b * 3329 + 2 ^ e) * 2 by rw [Nat.pow_succ]; omega, Nat.mul_div_mul_right _ _ (by omega)]
set_option maxHeartbeats 2000000 in
set_option maxRecDepth 20000 in
theorem wanted_f16 (L M : Nat → Int) (hL : InB L 3329) (w : World) :
    Calls Tryz.prog 58 #[.int .i64 0, .int .i64 3329, .agg (polyA .i64 L), .agg (polyA .i64 M)] w fun e w' => e = .returned (.agg (polyA .i64 (rFwdS L))) ∧ w.grownBy w' none := by
  have n1 := new_alloc .i64 w L 43
  generalize hw1 : w.alloc (.cells (polyA .i64 L) 43) = w1 at n1
  have n2 := new_alloc .i64 w1 M 43
  generalize hw2 : w1.alloc (.cells (polyA .i64 M) 43) = w2 at n2
  have n3 := new_alloc .i64 w2 (fun _ => 0) 43
  rw [← Tryz.zY] at n3
  have s1 := n1.s
  have s2 := n2.s
  have g3 : w.grownBy (w2.alloc (.cells Tryz.zeroCells43 43)) none := grownBy_trans n1.g (grownBy_trans n2.g n3.g)
  have r1 := (n1.r.new n2.g).new n3.g
  have ra := n2.r.new n3.g
  have r2 := n3.r
  rw [s2, s1] at r2
  rw [s1] at ra
  have HC := hidz (fun W => rfwd_any L hL W)
  have ld1 := run_hidLd _ w.heap.size 0 _ r1
  have ld2 := run_hidLd _ (w.heap.size + 1) 0 _ ra
  go_enter Tryz.func58, Tryz.ntmps58
  go_wp2_with fail
  generalize w2.alloc (.cells Tryz.zeroCells43 43) = W3 at *
  refine (HC.out W3).mono ?_
  rintro e w4 ⟨rfl, g4⟩
  have z2 := r2.new g4
  have z3 := grownBy_trans g3 g4
  have st := run_hidSt w4 (w.heap.size + 1 + 1) (rFwdS L) _ z2
  have p6 := put_cells .i64 w4 (w.heap.size + 1 + 1) 0 (rFwdS L) (z2.there .i64 _)
  clear n1 n2 n3 s1 s2 ld1 ld2 r1 ra r2 HC z2 g3 g4
  go_wp2
  refine bodyPost_ret (v := .agg (polyA .i64 (rFwdS L))) ?_ rfl ⟨rfl, grown_new z3 p6.g (by omega)⟩
  exact res1 Tryz.results58 .i64 _ _ (w.heap.size + 1 + 1) _ rfl p6.r ⟨_, Tryz.uY⟩ Tryz.sY
set_option maxHeartbeats 2000000 in
set_option maxRecDepth 20000 in
theorem wanted_f32 (L M : Nat → Int) (hL : InB L 8380417) (w : World) :
    Calls Tryz.prog 58 #[.int .i64 0, .int .i64 8380417, .agg (polyA .i64 L), .agg (polyA .i64 M)] w fun e w' => e = .returned (.agg (polyA .i64 (rFwdG L))) ∧ w.grownBy w' none := by
  have n1 := new_alloc .i64 w L 43
  generalize hw1 : w.alloc (.cells (polyA .i64 L) 43) = w1 at n1
  have n2 := new_alloc .i64 w1 M 43
  generalize hw2 : w1.alloc (.cells (polyA .i64 M) 43) = w2 at n2
  have n3 := new_alloc .i64 w2 (fun _ => 0) 43
  rw [← Tryz.zY] at n3
  have s1 := n1.s
  have s2 := n2.s
  have g3 : w.grownBy (w2.alloc (.cells Tryz.zeroCells43 43)) none := grownBy_trans n1.g (grownBy_trans n2.g n3.g)
  have r1 := (n1.r.new n2.g).new n3.g
  have ra := n2.r.new n3.g
  have r2 := n3.r
  rw [s2, s1] at r2
  rw [s1] at ra
  have HC := hidz (fun W => rfwdG_any L hL W)
  have ld1 := run_hidLd _ w.heap.size 0 _ r1
  have ld2 := run_hidLd _ (w.heap.size + 1) 0 _ ra
  go_enter Tryz.func58, Tryz.ntmps58
  go_wp2_with fail
  generalize w2.alloc (.cells Tryz.zeroCells43 43) = W3 at *
  refine (HC.out W3).mono ?_
  rintro e w4 ⟨rfl, g4⟩
  have z2 := r2.new g4
  have z3 := grownBy_trans g3 g4
  have st := run_hidSt w4 (w.heap.size + 1 + 1) (rFwdG L) _ z2
  have p6 := put_cells .i64 w4 (w.heap.size + 1 + 1) 0 (rFwdG L) (z2.there .i64 _)
  clear n1 n2 n3 s1 s2 ld1 ld2 r1 ra r2 HC z2 g3 g4
  go_wp2
  refine bodyPost_ret (v := .agg (polyA .i64 (rFwdG L))) ?_ rfl ⟨rfl, grown_new z3 p6.g (by omega)⟩
  exact res1 Tryz.results58 .i64 _ _ (w.heap.size + 1 + 1) _ rfl p6.r ⟨_, Tryz.uY⟩ Tryz.sY
set_option maxHeartbeats 2000000 in
set_option maxRecDepth 20000 in
theorem wanted_i16 (L M : Nat → Int) (hL : InB L 3329) (w : World) :
    Calls Tryz.prog 58 #[.int .i64 1, .int .i64 3329, .agg (polyA .i64 L), .agg (polyA .i64 M)] w fun e w' => e = .returned (.agg (polyA .i64 (rInvS L))) ∧ w.grownBy w' none := by
  have n1 := new_alloc .i64 w L 43
  generalize hw1 : w.alloc (.cells (polyA .i64 L) 43) = w1 at n1
  have n2 := new_alloc .i64 w1 M 43
  generalize hw2 : w1.alloc (.cells (polyA .i64 M) 43) = w2 at n2
  have n3 := new_alloc .i64 w2 (fun _ => 0) 43
  rw [← Tryz.zY] at n3
  have s1 := n1.s
  have s2 := n2.s
  have g3 : w.grownBy (w2.alloc (.cells Tryz.zeroCells43 43)) none := grownBy_trans n1.g (grownBy_trans n2.g n3.g)
  have r1 := (n1.r.new n2.g).new n3.g
  have ra := n2.r.new n3.g
  have r2 := n3.r
  rw [s2, s1] at r2
  rw [s1] at ra
  have HC := hidz (fun W => rinv_any L hL W)
  have ld1 := run_hidLd _ w.heap.size 0 _ r1
  have ld2 := run_hidLd _ (w.heap.size + 1) 0 _ ra
  go_enter Tryz.func58, Tryz.ntmps58
  go_wp2_with fail
  generalize w2.alloc (.cells Tryz.zeroCells43 43) = W3 at *
  refine (HC.out W3).mono ?_
  rintro e w4 ⟨rfl, g4⟩
  have z2 := r2.new g4
  have z3 := grownBy_trans g3 g4
  have st := run_hidSt w4 (w.heap.size + 1 + 1) (rInvS L) _ z2
  have p6 := put_cells .i64 w4 (w.heap.size + 1 + 1) 0 (rInvS L) (z2.there .i64 _)
  clear n1 n2 n3 s1 s2 ld1 ld2 r1 ra r2 HC z2 g3 g4
  go_wp2
  refine bodyPost_ret (v := .agg (polyA .i64 (rInvS L))) ?_ rfl ⟨rfl, grown_new z3 p6.g (by omega)⟩
  exact res1 Tryz.results58 .i64 _ _ (w.heap.size + 1 + 1) _ rfl p6.r ⟨_, Tryz.uY⟩ Tryz.sY
set_option maxHeartbeats 2000000 in
set_option maxRecDepth 20000 in
theorem wanted_i32 (L M : Nat → Int) (hL : InB L 8380417) (w : World) :
    Calls Tryz.prog 58 #[.int .i64 1, .int .i64 8380417, .agg (polyA .i64 L), .agg (polyA .i64 M)] w fun e w' => e = .returned (.agg (polyA .i64 (rInvG L))) ∧ w.grownBy w' none := by
  have n1 := new_alloc .i64 w L 43
  generalize hw1 : w.alloc (.cells (polyA .i64 L) 43) = w1 at n1
  have n2 := new_alloc .i64 w1 M 43
  generalize hw2 : w1.alloc (.cells (polyA .i64 M) 43) = w2 at n2
  have n3 := new_alloc .i64 w2 (fun _ => 0) 43
  rw [← Tryz.zY] at n3
  have s1 := n1.s
  have s2 := n2.s
  have g3 : w.grownBy (w2.alloc (.cells Tryz.zeroCells43 43)) none := grownBy_trans n1.g (grownBy_trans n2.g n3.g)
  have r1 := (n1.r.new n2.g).new n3.g
  have ra := n2.r.new n3.g
  have r2 := n3.r
  rw [s2, s1] at r2
  rw [s1] at ra
  have HC := hidz (fun W => rinvG_any L hL W)
  have ld1 := run_hidLd _ w.heap.size 0 _ r1
  have ld2 := run_hidLd _ (w.heap.size + 1) 0 _ ra
  go_enter Tryz.func58, Tryz.ntmps58
  go_wp2_with fail
  generalize w2.alloc (.cells Tryz.zeroCells43 43) = W3 at *
  refine (HC.out W3).mono ?_
  rintro e w4 ⟨rfl, g4⟩
  have z2 := r2.new g4
  have z3 := grownBy_trans g3 g4
  have st := run_hidSt w4 (w.heap.size + 1 + 1) (rInvG L) _ z2
  have p6 := put_cells .i64 w4 (w.heap.size + 1 + 1) 0 (rInvG L) (z2.there .i64 _)
  clear n1 n2 n3 s1 s2 ld1 ld2 r1 ra r2 HC z2 g3 g4
  go_wp2
  refine bodyPost_ret (v := .agg (polyA .i64 (rInvG L))) ?_ rfl ⟨rfl, grown_new z3 p6.g (by omega)⟩
  exact res1 Tryz.results58 .i64 _ _ (w.heap.size + 1 + 1) _ rfl p6.r ⟨_, Tryz.uY⟩ Tryz.sY
set_option maxHeartbeats 2000000 in
set_option maxRecDepth 20000 in
theorem wanted_p16 (L M : Nat → Int) (hL : InB L 3329) (hM : InB M 3329) (w : World) :
    Calls Tryz.prog 58 #[.int .i64 2, .int .i64 3329, .agg (polyA .i64 L), .agg (polyA .i64 M)] w fun e w' => e = .returned (.agg (polyA .i64 (prodS L M))) ∧ w.grownBy w' none := by
  have n1 := new_alloc .i64 w L 43
  generalize hw1 : w.alloc (.cells (polyA .i64 L) 43) = w1 at n1
  have n2 := new_alloc .i64 w1 M 43
  generalize hw2 : w1.alloc (.cells (polyA .i64 M) 43) = w2 at n2
  have n3 := new_alloc .i64 w2 (fun _ => 0) 43
  rw [← Tryz.zY] at n3
  have s1 := n1.s
  have s2 := n2.s
  have g3 : w.grownBy (w2.alloc (.cells Tryz.zeroCells43 43)) none := grownBy_trans n1.g (grownBy_trans n2.g n3.g)
  have r1 := (n1.r.new n2.g).new n3.g
  have ra := n2.r.new n3.g
  have r2 := n3.r
  rw [s2, s1] at r2
  rw [s1] at ra
  have HC := hidz (fun W => rprod_any L M hL hM W)
  have ld1 := run_hidLd _ w.heap.size 0 _ r1
  have ld2 := run_hidLd _ (w.heap.size + 1) 0 _ ra
  go_enter Tryz.func58, Tryz.ntmps58
  go_wp2_with fail
  generalize w2.alloc (.cells Tryz.zeroCells43 43) = W3 at *
  refine (HC.out W3).mono ?_
  rintro e w4 ⟨rfl, g4⟩
  have z2 := r2.new g4
  have z3 := grownBy_trans g3 g4
  have st := run_hidSt w4 (w.heap.size + 1 + 1) (prodS L M) _ z2
  have p6 := put_cells .i64 w4 (w.heap.size + 1 + 1) 0 (prodS L M) (z2.there .i64 _)
  clear n1 n2 n3 s1 s2 ld1 ld2 r1 ra r2 HC z2 g3 g4
  go_wp2
  refine bodyPost_ret (v := .agg (polyA .i64 (prodS L M))) ?_ rfl ⟨rfl, grown_new z3 p6.g (by omega)⟩
  exact res1 Tryz.results58 .i64 _ _ (w.heap.size + 1 + 1) _ rfl p6.r ⟨_, Tryz.uY⟩ Tryz.sY
set_option maxHeartbeats 2000000 in
set_option maxRecDepth 20000 in
theorem wanted_p32 (L M : Nat → Int) (hL : InB L 8380417) (hM : InB M 8380417) (w : World) :
    Calls Tryz.prog 58 #[.int .i64 2, .int .i64 8380417, .agg (polyA .i64 L), .agg (polyA .i64 M)] w fun e w' => e = .returned (.agg (polyA .i64 (prodG L M))) ∧ w.grownBy w' none := by
  have n1 := new_alloc .i64 w L 43
  generalize hw1 : w.alloc (.cells (polyA .i64 L) 43) = w1 at n1
  have n2 := new_alloc .i64 w1 M 43
  generalize hw2 : w1.alloc (.cells (polyA .i64 M) 43) = w2 at n2
  have n3 := new_alloc .i64 w2 (fun _ => 0) 43
  rw [← Tryz.zY] at n3
  have s1 := n1.s
  have s2 := n2.s
  have g3 : w.grownBy (w2.alloc (.cells Tryz.zeroCells43 43)) none := grownBy_trans n1.g (grownBy_trans n2.g n3.g)
  have r1 := (n1.r.new n2.g).new n3.g
  have ra := n2.r.new n3.g
  have r2 := n3.r
  rw [s2, s1] at r2
  rw [s1] at ra
  have HC := hidz (fun W => rprodG_any L M hL hM W)
  have ld1 := run_hidLd _ w.heap.size 0 _ r1
  have ld2 := run_hidLd _ (w.heap.size + 1) 0 _ ra
  go_enter Tryz.func58, Tryz.ntmps58
  go_wp2_with fail
  generalize w2.alloc (.cells Tryz.zeroCells43 43) = W3 at *
  refine (HC.out W3).mono ?_
  rintro e w4 ⟨rfl, g4⟩
  have z2 := r2.new g4
  have z3 := grownBy_trans g3 g4
  have st := run_hidSt w4 (w.heap.size + 1 + 1) (prodG L M) _ z2
  have p6 := put_cells .i64 w4 (w.heap.size + 1 + 1) 0 (prodG L M) (z2.there .i64 _)
  clear n1 n2 n3 s1 s2 ld1 ld2 r1 ra r2 HC z2 g3 g4
  go_wp2
  refine bodyPost_ret (v := .agg (polyA .i64 (prodG L M))) ?_ rfl ⟨rfl, grown_new z3 p6.g (by omega)⟩
  exact res1 Tryz.results58 .i64 _ _ (w.heap.size + 1 + 1) _ rfl p6.r ⟨_, Tryz.uY⟩ Tryz.sY
set_option maxHeartbeats 2000000 in
set_option maxRecDepth 20000 in
theorem wanted_c (d : Nat) (hd : 1 ≤ d) (hd1 : d ≤ 11) (L M : Nat → Int) (hL : InB L 3329) (w : World) :
    Calls Tryz.prog 58 #[.int .i64 3, .int .i64 d, .agg (polyA .i64 L), .agg (polyA .i64 M)] w fun e w' => e = .returned (.agg (polyA .i64 (fun j => rComp d (L j)))) ∧ w.grownBy w' none := by
  have n1 := new_alloc .i64 w L 43
  generalize hw1 : w.alloc (.cells (polyA .i64 L) 43) = w1 at n1
  have n2 := new_alloc .i64 w1 M 43
  generalize hw2 : w1.alloc (.cells (polyA .i64 M) 43) = w2 at n2
  have n3 := new_alloc .i64 w2 (fun _ => 0) 43
  rw [← Tryz.zY] at n3
  have s1 := n1.s
  have s2 := n2.s
  have g3 : w.grownBy (w2.alloc (.cells Tryz.zeroCells43 43)) none := grownBy_trans n1.g (grownBy_trans n2.g n3.g)
  have r1 := (n1.r.new n2.g).new n3.g
  have ra := n2.r.new n3.g
  have r2 := n3.r
  rw [s2, s1] at r2
  rw [s1] at ra
  have HC := hidz (fun W => rcomp_any d hd hd1 L hL W)
  have ld1 := run_hidLd _ w.heap.size 0 _ r1
  have ld2 := run_hidLd _ (w.heap.size + 1) 0 _ ra
  have e0 : ((d : Int) == 8380417) = false := by simp; omega
  go_enter Tryz.func58, Tryz.ntmps58
  go_wp2_with fail
  generalize w2.alloc (.cells Tryz.zeroCells43 43) = W3 at *
  refine (HC.out W3).mono ?_
  rintro e w4 ⟨rfl, g4⟩
  have z2 := r2.new g4
  have z3 := grownBy_trans g3 g4
  have st := run_hidSt w4 (w.heap.size + 1 + 1) (fun j => rComp d (L j)) _ z2
  have p6 := put_cells .i64 w4 (w.heap.size + 1 + 1) 0 (fun j => rComp d (L j)) (z2.there .i64 _)
  clear n1 n2 n3 s1 s2 ld1 ld2 r1 ra r2 HC z2 g3 g4
  go_wp2
  refine bodyPost_ret (v := .agg (polyA .i64 (fun j => rComp d (L j)))) ?_ rfl ⟨rfl, grown_new z3 p6.g (by omega)⟩
  exact res1 Tryz.results58 .i64 _ _ (w.heap.size + 1 + 1) _ rfl p6.r ⟨_, Tryz.uY⟩ Tryz.sY
set_option maxHeartbeats 2000000 in
set_option maxRecDepth 20000 in
theorem wanted_d (d : Nat) (hd : 1 ≤ d) (hd1 : d ≤ 11) (L M : Nat → Int) (hL : InB L (2 ^ d)) (w : World) :
    Calls Tryz.prog 58 #[.int .i64 4, .int .i64 d, .agg (polyA .i64 L), .agg (polyA .i64 M)] w fun e w' => e = .returned (.agg (polyA .i64 (fun j => rDeco d (L j)))) ∧ w.grownBy w' none := by
  have n1 := new_alloc .i64 w L 43
  generalize hw1 : w.alloc (.cells (polyA .i64 L) 43) = w1 at n1
  have n2 := new_alloc .i64 w1 M 43
  generalize hw2 : w1.alloc (.cells (polyA .i64 M) 43) = w2 at n2
  have n3 := new_alloc .i64 w2 (fun _ => 0) 43
  rw [← Tryz.zY] at n3
  have s1 := n1.s
  have s2 := n2.s
  have g3 : w.grownBy (w2.alloc (.cells Tryz.zeroCells43 43)) none := grownBy_trans n1.g (grownBy_trans n2.g n3.g)
  have r1 := (n1.r.new n2.g).new n3.g
  have ra := n2.r.new n3.g
  have r2 := n3.r
  rw [s2, s1] at r2
  rw [s1] at ra
  have HC := hidz (fun W => rdeco_any d hd hd1 L hL W)
  have ld1 := run_hidLd _ w.heap.size 0 _ r1
  have ld2 := run_hidLd _ (w.heap.size + 1) 0 _ ra
  have e0 : ((d : Int) == 8380417) = false := by simp; omega
  go_enter Tryz.func58, Tryz.ntmps58
  go_wp2_with fail
  generalize w2.alloc (.cells Tryz.zeroCells43 43) = W3 at *
  refine (HC.out W3).mono ?_
  rintro e w4 ⟨rfl, g4⟩
  have z2 := r2.new g4
  have z3 := grownBy_trans g3 g4
  have st := run_hidSt w4 (w.heap.size + 1 + 1) (fun j => rDeco d (L j)) _ z2
  have p6 := put_cells .i64 w4 (w.heap.size + 1 + 1) 0 (fun j => rDeco d (L j)) (z2.there .i64 _)
  clear n1 n2 n3 s1 s2 ld1 ld2 r1 ra r2 HC z2 g3 g4
  go_wp2
  refine bodyPost_ret (v := .agg (polyA .i64 (fun j => rDeco d (L j)))) ?_ rfl ⟨rfl, grown_new z3 p6.g (by omega)⟩
  exact res1 Tryz.results58 .i64 _ _ (w.heap.size + 1 + 1) _ rfl p6.r ⟨_, Tryz.uY⟩ Tryz.sY
end Go.Proofs.YtkijpphmiogbbaaGreatDoor.Z
