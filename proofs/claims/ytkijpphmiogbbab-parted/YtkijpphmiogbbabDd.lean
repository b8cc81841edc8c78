import Derived.Test.YtkijpphmiogbbabDc
namespace Go.Proofs.Ytkijpphmiogbbab
open Go.RowKit
attribute [local go_sem ↓] Go.wp_at_zero Go.wp_at_succ
attribute [local go_sem] Try.zv24 Try.zv42


section
attribute [local go_sem ↓] d32Ld_hide d64St_hide
set_option maxHeartbeats 2000000 in
set_option maxRecDepth 20000 in
theorem lparted_dec (L H M D : Nat → Int) (g kk o : Int) (w : World) (hL : ∀ i, i < 256 → 0 ≤ L i ∧ L i < 8380417) (hH : ∀ i, i < 256 → 0 ≤ H i ∧ H i < 4294967296) (hM0 : ∀ i, i < 256 → 0 ≤ M i ∧ M i < 4294967296) (hD : ∀ i, i < 256 → cenI (M i) 8380417 = D i)
    (hM : ∀ W, Calls Try.prog 22 #[.agg #[.int .i64 g, .int .i64 kk, .int .i64 o], .agg (polyA .u32 L)] W fun e W' => e = .returned (.tuple #[.agg (polyA .u32 H), .agg (polyA .u32 M)]) ∧ W.grownBy W' none) :
    Calls Try.prog 19 #[.func (.func 22) #[.agg #[.int .i64 g, .int .i64 kk, .int .i64 o]] #[], .agg (polyA .i64 L)] w fun e w' => e = .returned (.tuple #[.agg (polyA .i64 H), .agg (polyA .i64 D), .nilIface]) ∧ w.grownBy w' none := by
  have HM : Hid (∀ W, Calls Try.prog 22 #[.agg #[.int .i64 g, .int .i64 kk, .int .i64 o], .agg (polyA .u32 L)] W fun e W' => e = .returned (.tuple #[.agg (polyA .u32 H), .agg (polyA .u32 M)]) ∧ W.grownBy W' none) := hM
  have HN : Hid (∀ W, Calls Try.prog 14 #[.agg (polyA .i64 L), .int .i64 8380417] W fun e w' => e = .returned (.tuple #[.agg (polyA .u32 L), .nilIface]) ∧ W.grownBy w' none) := fun W => narrow32_ok L 8380417 W hL (by omega)
  have HW : Hid (∀ W, Calls Try.prog 17 #[.agg (polyA .u32 H)] W fun e w' => e = .returned (.agg (polyA .i64 H)) ∧ W.grownBy w' none) := fun W => wide32_any H W hH
  have HC : Hid (∀ W, Calls Try.prog 23 #[.agg (polyA .u32 M)] W fun e w' => e = .returned (.agg (polyA .i64 D)) ∧ W.grownBy w' none) := fun W => Centred_any M D W hM0 hD
  clear hL hH hM0 hD hM
  have t1 := thr_mk w 24 .i64 L
  rw [← Try.z24] at t1
  go_enter Try.func19, Try.ntmps19
  go_wp2_with (first | (refine wpL_load rfl .i64 24 _ rfl w.heap.size 0 rfl L t1.r ⟨_, Try.uP⟩ Try.sP ?_))
  refine (HN.out _).mono ?_
  rintro e w2 ⟨rfl, g2⟩
  have hg2 := grownBy_trans t1.g g2
  have z2 := t1.z.new g2
  have z2' := t1.z'.new g2
  clear t1 g2
  have n3 := new_alloc .u32 w2 (fun _ => 0) 42
  rw [← Try.zQ32] at n3
  go_wp2_with (first | (refine wpL_store rfl .u32 42 _ _ rfl w2.heap.size 0 rfl _ rfl .u32 _ n3.r Try.sQ32 ?_; intro w3 p3) | (refine wpL_load rfl .u32 42 _ rfl w2.heap.size 0 rfl L p3.r Try.oQ32 Try.sQ32 ?_))
  refine (HM.out _).mono ?_
  rintro e w4 ⟨rfl, g4⟩
  have l2 := hg2.size
  have zl := z2.lt
  have zl' := z2'.lt
  have z4 := ((z2.new n3.g).far p3.g (by simp; omega)).new g4
  have z4' := ((z2'.new n3.g).far p3.g (by simp; omega)).new g4
  have hg4 := grownBy_trans (grown_new (grownBy_trans hg2 n3.g) p3.g (by omega)) g4
  clear n3 p3 g4 z2 z2' hg2 zl zl'
  have n5 := new_alloc .u32 w4 (fun _ => 0) 42
  rw [← Try.zQ32] at n5
  have n6 := new_alloc .u32 (w4.alloc (.cells Try.zeroCells42 42)) (fun _ => 0) 42
  rw [← Try.zQ32] at n6
  have r5 := n5.r.new n6.g
  have r6 := n6.r
  rw [n5.s] at r6
  go_wp2_with (first | (refine wpL_store rfl .u32 42 _ _ rfl w4.heap.size 0 rfl _ rfl .u32 _ r5 Try.sQ32 ?_; intro w7 p7) | (refine wpL_store rfl .u32 42 _ _ rfl (w4.heap.size + 1) 0 rfl _ rfl .u32 _ (r6.far p7.g (by simp)) Try.sQ32 ?_; intro w8 p8))
  have l4 := hg4.size
  have zl := z4.lt
  have zl' := z4'.lt
  have z8 := (((((z4.new n5.g).new n6.g).far p7.g (by simp; omega)).far p8.g (by simp; omega))).drew
  have z8' := (((((z4'.new n5.g).new n6.g).far p7.g (by simp; omega)).far p8.g (by simp; omega))).drew
  have hg8 := grown_drew (grown_new (grown_new (grownBy_trans hg4 (grownBy_trans n5.g n6.g)) p7.g (by omega)) p8.g (by omega))
  have a8 := (p7.r.far p8.g (by simp)).drew
  have b8 := p8.r.drew
  clear n5 n6 p7 p8 r5 r6 z4 z4' hg4
  have ld1 := run_d32Ld w8.drew w4.heap.size H a8
  have ld2 := run_d32Ld w8.drew (w4.heap.size + 1) M b8
  obtain ⟨X, hX⟩ : ∃ X, X = w8.drew := ⟨_, rfl⟩
  rw [← hX] at z8 z8' a8 b8 hg8
  go_region_with (first | (go_at_call 17; refine (HW.out _).mono ?_; rintro e w9 ⟨rfl, g9⟩; rw [← hX] at g9; have ld3 := run_d32Ld w9 (w4.heap.size + 1) M (b8.new g9)) | (go_at_call 23; refine (HC.out _).mono ?_; rintro e wa ⟨rfl, ga⟩; have st1 := run_d64St wa (w.heap.size + 1) H _ ((z8.new g9).new ga); have pb := put_cells .i64 wa (w.heap.size + 1) 0 H (((z8.new g9).new ga).there .i64 H); have st2 := run_d64St _ (w.heap.size + 1 + 1) D _ (((z8'.new g9).new ga).far pb.g (by simp))))
  all_goals (
    have zb := ((z8'.new g9).new ga).far pb.g (by simp)
    have pc := put_cells .i64 _ (w.heap.size + 1 + 1) 0 D (zb.there .i64 D)
    clear st1 st2 ld3
    generalize (wa.setCells (w.heap.size + 1) 0 (polyA .i64 H).toList).setCells (w.heap.size + 1 + 1) 0 (polyA .i64 D).toList = wd at *
    go_wp2
    refine bodyPost_ret (res3 rfl .i64 _ wd (w.heap.size + 1) (w.heap.size + 1 + 1) H D _ rfl rfl rfl (pb.r.far pc.g (by simp)) pc.r ⟨_, Try.uP⟩ Try.sP) rfl ⟨rfl, grown_new (grown_new (grownBy_trans (grownBy_trans hg8 g9) ga) pb.g (by omega)) pc.g (by omega)⟩)
end
end Go.Proofs.Ytkijpphmiogbbab
