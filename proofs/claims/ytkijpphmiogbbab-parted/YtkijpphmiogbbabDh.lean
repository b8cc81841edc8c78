import Derived.Test.YtkijpphmiogbbabDe
namespace Go.Proofs.Ytkijpphmiogbbab
open Go.RowKit
attribute [local go_sem ↓] Go.wp_at_zero Go.wp_at_succ
attribute [local go_sem] Try.zv24 Try.zv42

set_option maxHeartbeats 400000 in
theorem halve1_any (a : Int) (w : World) (ha : 0 ≤ a) (ha' : a ≤ 4294967296) :
    Calls Try.prog 25 #[.int .i64 a] w fun e w' => e = .returned (.tuple #[.int .i64 ((a - cenI a 8192) / 8192), .int .i64 (cenI a 8192)]) ∧ w' = w := by
  have HC : Hid (∀ W, Calls Try.prog 26 #[.int .i64 a, .int .i64 8192] W fun e w' => e = .returned (.tuple #[.int .i64 ((a - cenI a 8192) / 8192), .int .i64 (cenI a 8192)]) ∧ w' = W) := fun W => nearest_any a 8192 W ha ha' (by omega) (by omega)
  generalize (a - cenI a 8192) / 8192 = h at *
  generalize cenI a 8192 = l at *
  go_enter Try.func25, Try.ntmps25
  go_wp2_with (first | (go_at_call 26; refine (HC.out _).mono ?_; rintro e w' ⟨rfl, hw⟩; rw [hw]; clear hw w'))
  go_ret2
  exact ⟨rfl, rfl⟩
def halH (a : Int) : Int := (a - cenI a 8192) / 8192
theorem hal_bounds (a : Int) (ha : 0 ≤ a) (ha' : a < 8380417) : 0 ≤ halH a ∧ halH a ≤ 1023 ∧ -4096 < cenI a 8192 ∧ cenI a 8192 ≤ 4096 ∧ halH a * 8192 + cenI a 8192 = a := by
  unfold halH cenI
  split <;> omega

section
attribute [local go_sem ↓] d32Ld_hide d32St_hide
set_option maxHeartbeats 2000000 in
set_option maxRecDepth 20000 in
theorem parted_halve (L H D M : Nat → Int) (w : World) (hL : ∀ i, i < 256 → 0 ≤ L i ∧ L i < 4294967296) (hH : ∀ i, i < 256 → 0 ≤ H i ∧ H i < 4294967296) (hD : ∀ i, i < 256 → -8380417 < D i ∧ D i < 8380417) (hDM : ∀ i, i < 256 → (D i + 8380417) % 8380417 = M i)
    (hM : ∀ i W, i < 256 → w.grownBy W none → Calls Try.prog 25 #[.int .i64 (L i)] W fun e W' => e = .returned (.tuple #[.int .i64 (H i), .int .i64 (D i)]) ∧ W.grownBy W' none) :
    Calls Try.prog 24 #[.agg (polyA .u32 L), .func (.func 25) #[] #[]] w fun e w' => e = .returned (.tuple #[.agg (polyA .u32 H), .agg (polyA .u32 M)]) ∧ w.grownBy w' none := by
  have HM : Hid (∀ i W, i < 256 → w.grownBy W none → Calls Try.prog 25 #[.int .i64 (L i)] W fun e W' => e = .returned (.tuple #[.int .i64 (H i), .int .i64 (D i)]) ∧ W.grownBy W' none) := hM
  have HL : Hid (∀ i, i < 256 → 0 ≤ L i ∧ L i < 4294967296) := hL
  have HH : Hid (∀ i, i < 256 → 0 ≤ H i ∧ H i < 4294967296) := hH
  have HD : Hid (∀ i, i < 256 → -8380417 < D i ∧ D i < 8380417) := hD
  have HDM : Hid (∀ i, i < 256 → (D i + 8380417) % 8380417 = M i) := hDM
  clear hM hL hH hD hDM
  have n1 := new_alloc .u32 w L 42
  have n2 := new_alloc .u32 (w.alloc (.cells (polyA .u32 L) 42)) (fun _ => 0) 42
  rw [← Try.zQ32] at n2
  have n3 := new_alloc .u32 ((w.alloc (.cells (polyA .u32 L) 42)).alloc (.cells Try.zeroCells42 42)) (fun _ => 0) 42
  rw [← Try.zQ32] at n3
  go_enter Try.func24, Try.ntmps24
  go_wp2
  generalize ((w.alloc (.cells (polyA .u32 L) 42)).alloc (.cells Try.zeroCells42 42)).alloc (.cells Try.zeroCells42 42) = w3 at *
  generalize (w.alloc (.cells (polyA .u32 L) 42)).alloc (.cells Try.zeroCells42 42) = w2 at *
  have hR : PRow .u32 w3 w.heap.size 0 L := (n1.r.new n2.g).new n3.g
  have hA : PRow .u32 w3 (w.heap.size + 1) 0 (fun _ => 0) := by have := n2.r.new n3.g; rw [n1.s] at this; exact this
  have hZ : PRow .u32 w3 (w.heap.size + 2) 0 (fun _ => 0) := by have := n3.r; rw [n2.s, n1.s] at this; exact this
  have hg : w.grownBy w3 none := grownBy_trans n1.g (grownBy_trans n2.g n3.g)
  clear n1 n2 n3
  obtain ⟨B, hB⟩ : ∃ B, B = w.heap.size := ⟨_, rfl⟩
  rw [← hB] at hA hR hZ ⊢
  have hB' : w.heap.size ≤ B := by omega
  clear hB
  go_loopw [6, 7, 8, 9] (fun _ _ _ i wr => ∃ k : Nat, k ≤ 256 ∧ i = .int .i64 k ∧ w.grownBy wr none ∧ PRow .u32 wr B 0 L ∧ PRow .u32 wr (B + 1) 0 (fun j => if j < k then H j else 0) ∧ PRow .u32 wr (B + 1 + 1) 0 (fun j => if j < k then M j else 0)) (fun _ _ _ i _ => 256 - (intOf i).toNat)
  case atStart => exact ⟨0, by omega, rfl, hg, hR, hA.ext (fun j _ => by simp), hZ.ext (fun j _ => by simp)⟩
  case round =>
    clear hA hR hZ hg
    obtain ⟨k, hk, rfl, hg, hR, hA, hZ⟩ := hrel
    by_cases hlt : k < 256
    · have b0 : (0 : Int) ≤ (k : Int) := by omega
      have b1 : (k : Int) < 256 := by omega
      have l0 := (HL.out k hlt).1
      have l1 := (HL.out k hlt).2
      have h0 := (HH.out k hlt).1
      have h1 := (HH.out k hlt).2
      have d0 := (HD.out k hlt).1
      have d1 := (HD.out k hlt).2
      have dm := HDM.out k hlt
      have dt : (D k + 8380417).tmod 8380417 = M k := by rw [Int.tmod_eq_emod_of_nonneg (by omega)]; exact dm
      have cL := (hR.at0 k hlt).1
      have cv : IntKind.i64.wrap (L k) = L k := by rw [IntKind.wrap_i64] <;> omega
      have ch : IntKind.u32.wrap (H k) = H k := by rw [IntKind.wrap_u32]; omega
      have cm : IntKind.u32.wrap (M k) = M k := by rw [IntKind.wrap_u32]; omega
      go_wp2_with (first | (go_at_call 25; refine (HM.out k wr hlt hg).mono ?_; rintro e w5 ⟨rfl, g5⟩; have ca := ((hA.new g5).at0 k hlt).1; have fa := ((hA.new g5).at0 k hlt).2; have cz := ((hZ.new g5).at0 k hlt).1; have fz := ((hZ.new g5).at0 k hlt).2))
      go_roundw
      case rel =>
        have hA5 := (((hA.new g5).set0 hlt (H k)).ext (fun j _ => mix_step H (fun _ => 0) k j)).set_other (p := ⟨B + 1 + 1, k, none⟩) (by simp <;> omega) (.int .u32 (M k))
        have hZ5 := (((hZ.new g5).set_other (p := ⟨B + 1, k, none⟩) (by simp <;> omega) (.int .u32 (H k))).set0 hlt (M k)).ext (fun j _ => mix_step M (fun _ => 0) k j)
        exact ⟨k + 1, by omega, by go_num, grown_setNew (grown_setNew (grownBy_trans hg g5) (by simp; omega) _) (by simp; omega) _, ((hR.new g5).set_other (by simp <;> omega) _).set_other (by simp <;> omega) _, hA5, hZ5⟩
      case measure => simp [intOf]; omega
    · have hk6 : k = 256 := by omega
      subst hk6
      have hA' : PRow .u32 wr (B + 1) 0 H := hA.ext (fun j hj => by simp [hj])
      have hZ' : PRow .u32 wr (B + 1 + 1) 0 M := hZ.ext (fun j hj => by simp [hj])
      clear hA hZ
      have ld1 := run_d32Ld wr.drew (B + 1) H hA'.drew
      have ld2 := run_d32Ld wr.drew (B + 1 + 1) M hZ'.drew
      have st1 := run_d32St wr.drew (B + 1) H _ hA'.drew
      have p4 := put_cells .u32 wr.drew (B + 1) 0 H (hA'.drew.there .u32 H)
      have hZ4 := hZ'.drew.far p4.g (by simp)
      have st2 := run_d32St _ (B + 1 + 1) M _ hZ4
      have ld3 := run_d32Ld _ (B + 1 + 1) M hZ4
      have p5 := put_cells .u32 _ (B + 1 + 1) 0 M (hZ4.there .u32 M)
      go_wp2_with fail
      go_region
      clear ld1 ld2 ld3 st1 st2
      generalize (wr.drew.setCells (B + 1) 0 (polyA .u32 H).toList).setCells (B + 1 + 1) 0 (polyA .u32 M).toList = w6 at *
      go_wp2
      refine bodyPost_ret (res22 rfl .u32 _ w6 (B + 1) (B + 1 + 1) H M rfl rfl (p4.r.far p5.g (by simp)) p5.r Try.oQ32 Try.sQ32) rfl ⟨rfl, grown_new (grown_new (grown_drew hg) p4.g (by omega)) p5.g (by omega)⟩
end
set_option maxHeartbeats 1000000 in
set_option maxRecDepth 20000 in
theorem pHalve_any (L : Nat → Int) (w : World) (hL : ∀ i, i < 256 → 0 ≤ L i ∧ L i < 8380417) :
    Calls Try.prog 20 #[.agg (polyA .u32 L)] w fun e w' => e = .returned (.tuple #[.agg (polyA .u32 (fun i => halH (L i))), .agg (polyA .u32 (fun i => cenI (L i) 8192 % 8380417))]) ∧ w.grownBy w' none := by
  have HC : Hid (∀ W, Calls Try.prog 24 #[.agg (polyA .u32 L), .func (.func 25) #[] #[]] W fun e w' => e = .returned (.tuple #[.agg (polyA .u32 (fun i => halH (L i))), .agg (polyA .u32 (fun i => cenI (L i) 8192 % 8380417))]) ∧ W.grownBy w' none) := fun W =>
    parted_halve L (fun i => halH (L i)) (fun i => cenI (L i) 8192) _ W (fun i hi => ⟨(hL i hi).1, by have := (hL i hi).2; omega⟩) (fun i hi => by have := hal_bounds (L i) (hL i hi).1 (hL i hi).2; omega) (fun i hi => by have := hal_bounds (L i) (hL i hi).1 (hL i hi).2; omega) (fun _ _ => Int.add_emod_right ..)
      (fun i W' hi _ => (halve1_any (L i) W' (hL i hi).1 (by have := (hL i hi).2; omega)).mono (by rintro e w' ⟨rfl, rfl⟩; exact ⟨rfl, World.grownBy.refl _ _⟩))
  clear hL
  have t1 := thr_mk w 42 .u32 L
  rw [← Try.zQ32] at t1
  go_enter Try.func20, Try.ntmps20
  go_wp2_with (first | (refine wpL_load rfl .u32 42 _ rfl w.heap.size 0 rfl L t1.r Try.oQ32 Try.sQ32 ?_) | (go_at_call 24; refine (HC.out _).mono ?_; rintro e w5 ⟨rfl, g5⟩) | (refine wpL_store rfl .u32 42 _ _ rfl (w.heap.size + 1) 0 rfl _ rfl .u32 _ (t1.z.new g5) Try.sQ32 ?_; intro w6 p6) | (refine wpL_store rfl .u32 42 _ _ rfl (w.heap.size + 1 + 1) 0 rfl _ rfl .u32 _ ((t1.z'.new g5).far p6.g (by simp)) Try.sQ32 ?_; intro w7 p7))
  refine bodyPost_ret (res22 rfl .u32 _ w7 (w.heap.size + 1) (w.heap.size + 1 + 1) _ _ rfl rfl (p6.r.far p7.g (by simp)) p7.r Try.oQ32 Try.sQ32) rfl ⟨rfl, grown_new (grown_new (grownBy_trans t1.g g5) p6.g (by omega)) p7.g (by omega)⟩

section
attribute [local go_sem ↓] d32Ld_hide d64St_hide
set_option maxHeartbeats 2000000 in
set_option maxRecDepth 20000 in
theorem lparted_halve (L H M D : Nat → Int) (w : World) (hL : ∀ i, i < 256 → 0 ≤ L i ∧ L i < 8380417) (hH : ∀ i, i < 256 → 0 ≤ H i ∧ H i < 4294967296) (hM0 : ∀ i, i < 256 → 0 ≤ M i ∧ M i < 4294967296) (hD : ∀ i, i < 256 → cenI (M i) 8380417 = D i)
    (hM : ∀ W, Calls Try.prog 20 #[.agg (polyA .u32 L)] W fun e W' => e = .returned (.tuple #[.agg (polyA .u32 H), .agg (polyA .u32 M)]) ∧ W.grownBy W' none) :
    Calls Try.prog 19 #[.func (.func 20) #[] #[], .agg (polyA .i64 L)] w fun e w' => e = .returned (.tuple #[.agg (polyA .i64 H), .agg (polyA .i64 D), .nilIface]) ∧ w.grownBy w' none := by
  have HM : Hid (∀ W, Calls Try.prog 20 #[.agg (polyA .u32 L)] W fun e W' => e = .returned (.tuple #[.agg (polyA .u32 H), .agg (polyA .u32 M)]) ∧ W.grownBy W' none) := hM
  have HN : Hid (∀ W, Calls Try.prog 14 #[.agg (polyA .i64 L), .int .i64 8380417] W fun e w' => e = .returned (.tuple #[.agg (polyA .u32 L), .nilIface]) ∧ W.grownBy w' none) := fun W => narrow32_ok L 8380417 W hL (by omega)
  have HW : Hid (∀ W, Calls Try.prog 17 #[.agg (polyA .u32 H)] W fun e w' => e = .returned (.agg (polyA .i64 H)) ∧ W.grownBy w' none) := fun W => wide32_any H W hH
  have HC : Hid (∀ W, Calls Try.prog 23 #[.agg (polyA .u32 M)] W fun e w' => e = .returned (.agg (polyA .i64 D)) ∧ W.grownBy w' none) := fun W => Centred_any M D W hM0 hD
  clear hL hH hM0 hD hM
  have t1 := thr_mk w 24 .i64 L
  rw [← Try.z24] at t1
  go_enter Try.func19, Try.ntmps19
  go_wp2_with (first | (refine wpL_load rfl .i64 24 _ rfl w.heap.size 0 rfl L t1.r ⟨_, Try.uP⟩ Try.sP ?_))
  refine (HN.out _).mono ?_
  rintro e w2 ⟨rfl, g2⟩
  have hg2 := grownBy_trans t1.g g2
  have z2 := t1.z.new g2
  have z2' := t1.z'.new g2
  clear t1 g2
  have n3 := new_alloc .u32 w2 (fun _ => 0) 42
  rw [← Try.zQ32] at n3
  go_wp2_with (first | (refine wpL_store rfl .u32 42 _ _ rfl w2.heap.size 0 rfl _ rfl .u32 _ n3.r Try.sQ32 ?_; intro w3 p3) | (refine wpL_load rfl .u32 42 _ rfl w2.heap.size 0 rfl L p3.r Try.oQ32 Try.sQ32 ?_))
  refine (HM.out _).mono ?_
  rintro e w4 ⟨rfl, g4⟩
  have l2 := hg2.size
  have zl := z2.lt
  have zl' := z2'.lt
  have z4 := ((z2.new n3.g).far p3.g (by simp; omega)).new g4
  have z4' := ((z2'.new n3.g).far p3.g (by simp; omega)).new g4
  have hg4 := grownBy_trans (grown_new (grownBy_trans hg2 n3.g) p3.g (by omega)) g4
  clear n3 p3 g4 z2 z2' hg2 zl zl'
  have n5 := new_alloc .u32 w4 (fun _ => 0) 42
  rw [← Try.zQ32] at n5
  have n6 := new_alloc .u32 (w4.alloc (.cells Try.zeroCells42 42)) (fun _ => 0) 42
  rw [← Try.zQ32] at n6
  have r5 := n5.r.new n6.g
  have r6 := n6.r
  rw [n5.s] at r6
  go_wp2_with (first | (refine wpL_store rfl .u32 42 _ _ rfl w4.heap.size 0 rfl _ rfl .u32 _ r5 Try.sQ32 ?_; intro w7 p7) | (refine wpL_store rfl .u32 42 _ _ rfl (w4.heap.size + 1) 0 rfl _ rfl .u32 _ (r6.far p7.g (by simp)) Try.sQ32 ?_; intro w8 p8))
  have l4 := hg4.size
  have zl := z4.lt
  have zl' := z4'.lt
  have z8 := (((((z4.new n5.g).new n6.g).far p7.g (by simp; omega)).far p8.g (by simp; omega))).drew
  have z8' := (((((z4'.new n5.g).new n6.g).far p7.g (by simp; omega)).far p8.g (by simp; omega))).drew
  have hg8 := grown_drew (grown_new (grown_new (grownBy_trans hg4 (grownBy_trans n5.g n6.g)) p7.g (by omega)) p8.g (by omega))
  have a8 := (p7.r.far p8.g (by simp)).drew
  have b8 := p8.r.drew
  clear n5 n6 p7 p8 r5 r6 z4 z4' hg4
  have ld1 := run_d32Ld w8.drew w4.heap.size H a8
  have ld2 := run_d32Ld w8.drew (w4.heap.size + 1) M b8
  obtain ⟨X, hX⟩ : ∃ X, X = w8.drew := ⟨_, rfl⟩
  rw [← hX] at z8 z8' a8 b8 hg8
  go_region_with (first | (go_at_call 17; refine (HW.out _).mono ?_; rintro e w9 ⟨rfl, g9⟩; rw [← hX] at g9; have ld3 := run_d32Ld w9 (w4.heap.size + 1) M (b8.new g9)) | (go_at_call 23; refine (HC.out _).mono ?_; rintro e wa ⟨rfl, ga⟩; have st1 := run_d64St wa (w.heap.size + 1) H _ ((z8.new g9).new ga); have pb := put_cells .i64 wa (w.heap.size + 1) 0 H (((z8.new g9).new ga).there .i64 H); have st2 := run_d64St _ (w.heap.size + 1 + 1) D _ (((z8'.new g9).new ga).far pb.g (by simp))))
  all_goals (
    have zb := ((z8'.new g9).new ga).far pb.g (by simp)
    have pc := put_cells .i64 _ (w.heap.size + 1 + 1) 0 D (zb.there .i64 D)
    clear st1 st2 ld3
    generalize (wa.setCells (w.heap.size + 1) 0 (polyA .i64 H).toList).setCells (w.heap.size + 1 + 1) 0 (polyA .i64 D).toList = wd at *
    go_wp2
    refine bodyPost_ret (res3 rfl .i64 _ wd (w.heap.size + 1) (w.heap.size + 1 + 1) H D _ rfl rfl rfl (pb.r.far pc.g (by simp)) pc.r ⟨_, Try.uP⟩ Try.sP) rfl ⟨rfl, grown_new (grown_new (grownBy_trans (grownBy_trans hg8 g9) ga) pb.g (by omega)) pc.g (by omega)⟩)
end
set_option maxHeartbeats 1000000 in
set_option maxRecDepth 20000 in
theorem Halve_any (L : Nat → Int) (w : World) (hL : ∀ i, i < 256 → 0 ≤ L i ∧ L i < 8380417) :
    Calls Try.prog 11 #[.agg (polyA .i64 L)] w fun e w' => e = .returned (.tuple #[.agg (polyA .i64 (fun i => halH (L i))), .agg (polyA .i64 (fun i => cenI (L i) 8192)), .nilIface]) ∧ w.grownBy w' none := by
  have HC : Hid (∀ W, Calls Try.prog 19 #[.func (.func 20) #[] #[], .agg (polyA .i64 L)] W fun e w' => e = .returned (.tuple #[.agg (polyA .i64 (fun i => halH (L i))), .agg (polyA .i64 (fun i => cenI (L i) 8192)), .nilIface]) ∧ W.grownBy w' none) := fun W =>
    lparted_halve L _ (fun i => cenI (L i) 8192 % 8380417) _ W hL (fun i hi => by have := hal_bounds (L i) (hL i hi).1 (hL i hi).2; omega) (fun i _ => ⟨Int.emod_nonneg _ (by omega), Int.lt_trans (Int.emod_lt_of_pos _ (by omega)) (by omega)⟩) (fun i hi => by have := hal_bounds (L i) (hL i hi).1 (hL i hi).2; exact cen_back _ (by omega) (by omega)) (fun W' => pHalve_any L W' hL)
  clear hL
  have t1 := thr_mk w 24 .i64 L
  rw [← Try.z24] at t1
  go_enter Try.func11, Try.ntmps11
  go_wp2_with (first | (refine wpL_load rfl .i64 24 _ rfl w.heap.size 0 rfl L t1.r ⟨_, Try.uP⟩ Try.sP ?_) | (go_at_call 19; refine (HC.out _).mono ?_; rintro e w5 ⟨rfl, g5⟩) | (refine wpL_store rfl .i64 24 _ _ rfl (w.heap.size + 1) 0 rfl _ rfl .i64 _ (t1.z.new g5) Try.sP ?_; intro w6 p6) | (refine wpL_store rfl .i64 24 _ _ rfl (w.heap.size + 1 + 1) 0 rfl _ rfl .i64 _ ((t1.z'.new g5).far p6.g (by simp)) Try.sP ?_; intro w7 p7))
  refine bodyPost_ret (res3 rfl .i64 _ w7 (w.heap.size + 1) (w.heap.size + 1 + 1) _ _ _ rfl rfl rfl (p6.r.far p7.g (by simp)) p7.r ⟨_, Try.uP⟩ Try.sP) rfl ⟨rfl, grown_new (grown_new (grownBy_trans t1.g g5) p6.g (by omega)) p7.g (by omega)⟩
end Go.Proofs.Ytkijpphmiogbbab
