import Derived.Test.YtikcbdpijjafjaaGreatDoorK47
import Derived.Test.YtikcbdpijjafjaaGreatDoorK51
namespace Go.Proofs.YtikcbdpijjafjaaGreatDoor.Z
open Go.RowKit
attribute [local go_sem ↓] Go.wp_at_zero Go.wp_at_succ
variable {X : Side} {B c : Nat} {w : World}
attribute [local go_sem ↓] ld_hide st_hide bs_hide ap_hide
set_option maxHeartbeats 4000000 in
set_option maxRecDepth 20000 in
theorem ring_13 (hX : X.Local) (HE : Hid (∀ W c, SW X B c W → Et W)) (hc : c ≤ 40000) (o : OpV) (ho : OpOK o) (hk : Hid (o.kind = 13)) (h : SW X B c w) :
    Calls Tryz.prog 15 #[.pointer (some ⟨B, 0, none⟩), opVal o] w fun e w' => e = .returned (.bool true) ∧ SW X B (c + 1) w' := by
  go_enter Tryz.func15, Tryz.ntmps15
  go_wp2_with fail
  obtain ⟨vT, vP, vS, ts, nP, ps, Φ, h⟩ := h
  have hO := opAt_new w o
  have h1 : SWd X B c vT vP vS ts nP ps Φ (opBox w o) := h.keep hX (World.grownBy_alloc w _ none)
  refine (poly_any hX hc _ ho.x h1).mono ?_
  rintro e w1 ⟨F, rfl, hF, hg1⟩
  have h2 := h1.keep hX hg1
  have hO1 := hO.far hg1 (by simp)
  have blt : w.heap.size < w1.heap.size := Nat.lt_of_lt_of_le (by simp) hg1.size
  generalize w.heap.size = b at *
  clear h h1 hO hg1
  have n1 := new_alloc .i64 w1 (fun _ => 0) 43
  rw [← Tryz.zY] at n1
  go_wp2_with (first | (refine wpL_store rfl .i64 43 _ _ rfl w1.heap.size 0 rfl _ rfl .i64 _ n1.r Tryz.sY ?_; intro w2 p2; have g2 := grown_new n1.g p2.g (Nat.le_refl _); have hO2 := hO1.far g2 (by simp); have qy := hO2.y; clear hO1))
  have h3 := h2.keep hX g2
  refine (poly_any hX hc _ ho.y h3).mono ?_
  rintro e w3 ⟨G, rfl, hG, hg3⟩
  have h4 := h3.keep hX hg3
  have hO3 := hO2.far hg3 (by simp)
  have rF := p2.r.new hg3
  have lF := rF.lt
  obtain ⟨p, hp⟩ : ∃ p, p = w1.heap.size := ⟨_, rfl⟩
  rw [← hp] at rF lF blt ⊢
  clear hp n1 p2 g2 qy h2 h3 hO2 hg3
  have n4 := new_alloc .i64 w3 (fun _ => 0) 43
  rw [← Tryz.zY] at n4
  have rF4 := rF.new n4.g
  have hO4 := hO3.far n4.g (by simp)
  go_wp2_with (first | (refine wpL_store rfl .i64 43 _ _ rfl w3.heap.size 0 rfl _ rfl .i64 _ n4.r Tryz.sY ?_; intro w4 p4; have s4 := p4.s; rw [n4.s] at s4; have n5 := new_alloc .i64 w4 (fun _ => 0) 43; rw [← Tryz.zY] at n5; have z5 := n5.r; rw [s4] at z5; have rF5 := (rF4.far p4.g (by simp; omega)).new n5.g; have rG5 := p4.r.new n5.g; have hO5 := (hO4.far p4.g (by simp; omega)).far n5.g (by simp); have g5 := grownBy_trans (grown_new n4.g p4.g (Nat.le_refl _)) n5.g) | (refine wpL_store rfl .i64 43 _ _ rfl (w3.heap.size + 1) 0 rfl _ (congrArg Value.agg Tryz.zY) .i64 _ z5 Tryz.sY ?_; intro w6 p6; have ri : Rin w6 b p w3.heap.size (w3.heap.size + 1) o F G := ⟨hO5.far p6.g (by simp; omega), rF5.far p6.g (by simp; omega), rG5.far p6.g (by simp), p6.r, blt, lF, Nat.lt_succ_self _⟩; have g6 := grown_new g5 p6.g (by omega); have qk := ri.op.kind; rw [hk.out] at qk; have qa := ri.op.a) | (refine wpL_load rfl .i64 43 _ rfl p 0 rfl F ri.f ⟨_, Tryz.uY⟩ Tryz.sY ?_))
  have h6 := h4.keep hX g6
  have HSS : Hid (∀ W M, w6.grownBy W none → SWd X B c vT vP vS ts nP ps Φ (W.setCells (w3.heap.size + 1) 0 (polyA .i64 M).toList) ∧ PRow .i64 (W.setCells (w3.heap.size + 1) 0 (polyA .i64 M).toList) (w3.heap.size + 1) 0 M) := fun W M hg => by
    have p9 := put_cells .i64 W (w3.heap.size + 1) 0 M ((ri.h.new hg).there .i64 _)
    exact ⟨h4.keep hX (grown_new (grownBy_trans g6 hg) p9.g (by omega)), p9.r⟩
  obtain ⟨q, hq⟩ : ∃ q, q = w3.heap.size := ⟨_, rfl⟩
  rw [← hq] at ri HSS ⊢
  clear hq rF hO3 n4 rF4 hO4 p4 s4 n5 z5 rF5 rG5 hO5 g5 p6 g6 h4
  have hE6 : Et w6 := HE.out w6 c ⟨_, _, _, _, _, _, _, h6⟩
  obtain ⟨t, ht, HC⟩ := packed_law o.a F w6 hE6
  refine HC.mono ?_
  rintro e w8 ⟨rfl, y8⟩
  have h8 := h6.keep hX y8
  clear HC h6 ri qk qa HSS hE6 HE y8
  go_wp2_with fail
  refine (add_any hX hc t h8 (by omega)).mono ?_
  rintro e w9 ⟨rfl, h9⟩
  have HF : Hid (SW X B (c + 1) w9) := h9
  clear h8 h9
  go_wp2
  go_ret
  exact ⟨rfl, HF.out⟩
set_option maxHeartbeats 4000000 in
set_option maxRecDepth 20000 in
theorem ring_14 (hX : X.Local) (HE : Hid (∀ W c, SW X B c W → Et W)) (hc : c ≤ 40000) (o : OpV) (ho : OpOK o) (hk : Hid (o.kind = 14)) (h : SW X B c w) :
    Calls Tryz.prog 15 #[.pointer (some ⟨B, 0, none⟩), opVal o] w fun e w' => e = .returned (.bool true) ∧ SW X B (c + 1) w' := by
  go_enter Tryz.func15, Tryz.ntmps15
  go_wp2_with fail
  obtain ⟨vT, vP, vS, ts, nP, ps, Φ, h⟩ := h
  have hO := opAt_new w o
  have h1 : SWd X B c vT vP vS ts nP ps Φ (opBox w o) := h.keep hX (World.grownBy_alloc w _ none)
  refine (poly_any hX hc _ ho.x h1).mono ?_
  rintro e w1 ⟨F, rfl, hF, hg1⟩
  have h2 := h1.keep hX hg1
  have hO1 := hO.far hg1 (by simp)
  have blt : w.heap.size < w1.heap.size := Nat.lt_of_lt_of_le (by simp) hg1.size
  generalize w.heap.size = b at *
  clear h h1 hO hg1
  have n1 := new_alloc .i64 w1 (fun _ => 0) 43
  rw [← Tryz.zY] at n1
  go_wp2_with (first | (refine wpL_store rfl .i64 43 _ _ rfl w1.heap.size 0 rfl _ rfl .i64 _ n1.r Tryz.sY ?_; intro w2 p2; have g2 := grown_new n1.g p2.g (Nat.le_refl _); have hO2 := hO1.far g2 (by simp); have qy := hO2.y; clear hO1))
  have h3 := h2.keep hX g2
  refine (poly_any hX hc _ ho.y h3).mono ?_
  rintro e w3 ⟨G, rfl, hG, hg3⟩
  have h4 := h3.keep hX hg3
  have hO3 := hO2.far hg3 (by simp)
  have rF := p2.r.new hg3
  have lF := rF.lt
  obtain ⟨p, hp⟩ : ∃ p, p = w1.heap.size := ⟨_, rfl⟩
  rw [← hp] at rF lF blt ⊢
  clear hp n1 p2 g2 qy h2 h3 hO2 hg3
  have n4 := new_alloc .i64 w3 (fun _ => 0) 43
  rw [← Tryz.zY] at n4
  have rF4 := rF.new n4.g
  have hO4 := hO3.far n4.g (by simp)
  go_wp2_with (first | (refine wpL_store rfl .i64 43 _ _ rfl w3.heap.size 0 rfl _ rfl .i64 _ n4.r Tryz.sY ?_; intro w4 p4; have s4 := p4.s; rw [n4.s] at s4; have n5 := new_alloc .i64 w4 (fun _ => 0) 43; rw [← Tryz.zY] at n5; have z5 := n5.r; rw [s4] at z5; have rF5 := (rF4.far p4.g (by simp; omega)).new n5.g; have rG5 := p4.r.new n5.g; have hO5 := (hO4.far p4.g (by simp; omega)).far n5.g (by simp); have g5 := grownBy_trans (grown_new n4.g p4.g (Nat.le_refl _)) n5.g) | (refine wpL_store rfl .i64 43 _ _ rfl (w3.heap.size + 1) 0 rfl _ (congrArg Value.agg Tryz.zY) .i64 _ z5 Tryz.sY ?_; intro w6 p6; have ri : Rin w6 b p w3.heap.size (w3.heap.size + 1) o F G := ⟨hO5.far p6.g (by simp; omega), rF5.far p6.g (by simp; omega), rG5.far p6.g (by simp), p6.r, blt, lF, Nat.lt_succ_self _⟩; have g6 := grown_new g5 p6.g (by omega); have qk := ri.op.kind; rw [hk.out] at qk; have qx := ri.op.x))
  have h6 := h4.keep hX g6
  have HSS : Hid (∀ W M, w6.grownBy W none → SWd X B c vT vP vS ts nP ps Φ (W.setCells (w3.heap.size + 1) 0 (polyA .i64 M).toList) ∧ PRow .i64 (W.setCells (w3.heap.size + 1) 0 (polyA .i64 M).toList) (w3.heap.size + 1) 0 M) := fun W M hg => by
    have p9 := put_cells .i64 W (w3.heap.size + 1) 0 M ((ri.h.new hg).there .i64 _)
    exact ⟨h4.keep hX (grown_new (grownBy_trans g6 hg) p9.g (by omega)), p9.r⟩
  obtain ⟨q, hq⟩ : ∃ q, q = w3.heap.size := ⟨_, rfl⟩
  rw [← hq] at ri HSS ⊢
  clear hq rF hO3 n4 rF4 hO4 p4 s4 n5 z5 rF5 rG5 hO5 g5 p6 g6 h4
  refine (text_any hc _ ho.x h6).mono ?_
  rintro e w7 ⟨t, rfl, ht, hg7⟩
  have h7 := h6.keep hX hg7
  have r7 := ri.new hg7
  clear qk qx h6 ri
  have qa := r7.op.a
  have hE7 : Et w7 := HE.out w7 c ⟨_, _, _, _, _, _, _, h7⟩
  obtain ⟨M, hM, HC⟩ := unpacked_law o.a t ht w7 hE7
  go_wp2_with fail
  refine HC.mono ?_
  rintro e w8 ⟨rfl, y8⟩
  obtain ⟨hw, rM⟩ := HSS.out w8 M (grownBy_trans hg7 y8)
  have st := run_hidSt w8 (q + 1) M _ (r7.h.new y8)
  clear HC qa hE7 HE HSS h7 r7 hg7 y8
  go_wp2_with fail
  generalize w8.setCells (q + 1) 0 (polyA .i64 M).toList = W9 at *
  clear st
  have hS : SWd X B c vT vP vS ts nP ps Φ W9.drew := hw.keep hX (grown_drew (World.grownBy.refl _ _))
  obtain ⟨g9, cap9, w99, hap, d1, d2, HF⟩ := app_poly hX hc hS M hM
  have ld := run_hidLd W9.drew (q + 1) 0 M rM.drew
  have bs := run_hidBS M
  have c1 : W9.cell? ⟨B, 1, none⟩ = some vP := hS.c1
  have c2 : (W9.alloc (.cells (polyA .i64 M) 43)).cell? ⟨B, 1, none⟩ = some vP := (World.grownBy_alloc W9 _ none).cell c1 (by simp)
  have hap2 : (hidAp #[vP, .slice (some ⟨W9.heap.size, 0, none⟩) 1 1]).run Tryz.prog (W9.alloc (.cells (polyA .i64 M) 43)).drew = .ok (.slice (some ⟨g9, 0, none⟩) (nP + 1) cap9) w99 := hap
  clear hS hw rM hM
  go_wp2
  go_region
  clear hap hap2 ld bs c1 c2 d1 d2
  go_wp2
  go_ret
  exact ⟨rfl, HF.out⟩
end Go.Proofs.YtikcbdpijjafjaaGreatDoor.Z
