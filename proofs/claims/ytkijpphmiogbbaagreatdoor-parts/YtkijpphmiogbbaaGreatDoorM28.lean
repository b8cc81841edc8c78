import Derived.Test.YtkijpphmiogbbaaGreatDoorM24
import Derived.Test.YtkijpphmiogbbaaGreatDoorM25
import Derived.Test.YtkijpphmiogbbaaGreatDoorM27
namespace Go.Proofs.YtkijpphmiogbbaaGreatDoor.Z
open Go.RowKit
attribute [local go_sem ↓] Go.wp_at_zero Go.wp_at_succ
variable {X : Side} {B c : Nat} {w : World}

/-- A step's two polynomials, and room for a third. -/
structure Rin (W : World) (b p q r : Nat) (o : OpV) (F G : Nat → Int) : Prop where
  op : OpAt W b o
  f : PRow .i64 W p 0 F
  g : PRow .i64 W q 0 G
  h : PRow .i64 W r 0 (fun _ => 0)
  lp : b < p
  lq : p < q
  lr : q < r
theorem Rin.new {W W' : World} {b p q r : Nat} {o : OpV} {F G : Nat → Int} (h : Rin W b p q r o F G) (hg : W.grownBy W' none) : Rin W' b p q r o F G :=
  ⟨h.op.far hg (by simp), h.f.new hg, h.g.new hg, h.h.new hg, h.lp, h.lq, h.lr⟩
theorem there256 {k : IntKind} {w : World} {b o : Nat} {L : Nat → Int} (h : PRow k w b o L) : w.there b o 256 := fun i hi => ⟨by rw [(h i hi).1]; rfl, (h i hi).2⟩
theorem polyL_one (L : Nat → Int) : ∀ v ∈ polyL .i64 L, v.oneCell' = true := by
  intro v hv
  unfold polyL at hv
  obtain ⟨i, _, rfl⟩ := List.mem_map.1 hv
  rfl
theorem put_list (W : World) (b : Nat) (M : Nat → Int) {L : Nat → Int} (h : PRow .i64 W b 0 L) : Put .i64 W (W.setCells b 0 (polyL .i64 M)) b 0 M := by
  have p := put_cells .i64 W b 0 M (h.there .i64 _)
  rwa [show (polyA .i64 M).toList = polyL .i64 M by simp [polyA]] at p
attribute [local go_sem ↓] ld_hide st_hide bs_hide ap_hide
set_option maxHeartbeats 4000000 in
set_option maxRecDepth 20000 in
theorem ring_12 (hX : X.Local) (HE : Hid (∀ W c, SW X B c W → Et W)) (hc : c ≤ 40000) (o : OpV) (ho : OpOK o) (hk : Hid (o.kind = 12)) (h : SW X B c w) :
    Calls Tryz.prog 17 #[.pointer (some ⟨B, 0, none⟩), opVal o] w fun e w' => e = .returned (.bool true) ∧ SW X B (c + 1) w' := by
  go_enter Tryz.func17, Tryz.ntmps17
  go_wp2_with fail
  obtain ⟨vT, vP, vS, ts, nP, ps, Φ, h⟩ := h
  have hO := opAt_new w o
  have h1 : SWd X B c vT vP vS ts nP ps Φ (opBox w o) := h.keep hX (World.grownBy_alloc w _ none)
  refine (poly_any hX hc _ ho.x h1).mono ?_
  rintro e w1 ⟨F, rfl, hF, hg1⟩
  have h2 := h1.keep hX hg1
  have hO1 := hO.far hg1 (by simp)
  have blt : w.heap.size < w1.heap.size := Nat.lt_of_lt_of_le (by simp) hg1.size
  generalize w.heap.size = b at *
  clear h h1 hO hg1
  have n1 := new_alloc .i64 w1 (fun _ => 0) 43
  rw [← Tryz.zY] at n1
  go_wp2_with (first | (refine wpL_store rfl .i64 43 _ _ rfl w1.heap.size 0 rfl _ rfl .i64 _ n1.r Tryz.sY ?_; intro w2 p2; have g2 := grown_new n1.g p2.g (Nat.le_refl _); have hO2 := hO1.far g2 (by simp); have qy := hO2.y; clear hO1))
  have h3 := h2.keep hX g2
  refine (poly_any hX hc _ ho.y h3).mono ?_
  rintro e w3 ⟨G, rfl, hG, hg3⟩
  have h4 := h3.keep hX hg3
  have hO3 := hO2.far hg3 (by simp)
  have rF := p2.r.new hg3
  have lF := rF.lt
  obtain ⟨p, hp⟩ : ∃ p, p = w1.heap.size := ⟨_, rfl⟩
  rw [← hp] at rF lF blt ⊢
  clear hp n1 p2 g2 qy h2 h3 hO2 hg3
  have n4 := new_alloc .i64 w3 (fun _ => 0) 43
  rw [← Tryz.zY] at n4
  have rF4 := rF.new n4.g
  have hO4 := hO3.far n4.g (by simp)
  go_wp2_with (first | (refine wpL_store rfl .i64 43 _ _ rfl w3.heap.size 0 rfl _ rfl .i64 _ n4.r Tryz.sY ?_; intro w4 p4; have s4 := p4.s; rw [n4.s] at s4; have n5 := new_alloc .i64 w4 (fun _ => 0) 43; rw [← Tryz.zY] at n5; have z5 := n5.r; rw [s4] at z5; have rF5 := (rF4.far p4.g (by simp; omega)).new n5.g; have rG5 := p4.r.new n5.g; have hO5 := (hO4.far p4.g (by simp; omega)).far n5.g (by simp); have g5 := grownBy_trans (grown_new n4.g p4.g (Nat.le_refl _)) n5.g) | (refine wpL_store rfl .i64 43 _ _ rfl (w3.heap.size + 1) 0 rfl _ (congrArg Value.agg Tryz.zY) .i64 _ z5 Tryz.sY ?_; intro w6 p6; have ri : Rin w6 b p w3.heap.size (w3.heap.size + 1) o F G := ⟨hO5.far p6.g (by simp; omega), rF5.far p6.g (by simp; omega), rG5.far p6.g (by simp), p6.r, blt, lF, Nat.lt_succ_self _⟩; have g6 := grown_new g5 p6.g (by omega); have qk := ri.op.kind; rw [hk.out] at qk))
  have h6 := h4.keep hX g6
  have HSS : Hid (∀ W M, w6.grownBy W none → SWd X B c vT vP vS ts nP ps Φ (W.setCells (w3.heap.size + 1) 0 (polyA .i64 M).toList) ∧ PRow .i64 (W.setCells (w3.heap.size + 1) 0 (polyA .i64 M).toList) (w3.heap.size + 1) 0 M) := fun W M hg => by
    have p9 := put_cells .i64 W (w3.heap.size + 1) 0 M ((ri.h.new hg).there .i64 _)
    exact ⟨h4.keep hX (grown_new (grownBy_trans g6 hg) p9.g (by omega)), p9.r⟩
  obtain ⟨q, hq⟩ : ∃ q, q = w3.heap.size := ⟨_, rfl⟩
  rw [← hq] at ri HSS ⊢
  clear hq rF hO3 n4 rF4 hO4 p4 s4 n5 z5 rF5 rG5 hO5 g5 p6 g6 h4
  have hE6 : Et w6 := HE.out w6 c ⟨_, _, _, _, _, _, _, h6⟩
  have HT : Hid (∀ W, w6.drew.grownBy W none → ∀ k : Nat, (k : Int) < 5 → TrOK k o.b F G W) := fun W hW k h5 => trans_law k (by omega) o.b F G _ ((show Et w6.drew from hE6).new hW)
  have HRi : Hid (Rin w6 b p q (q + 1) o F G) := ri
  clear h6 ri hE6 qk HE
  refine Code.wp_mono (Q := NoPanic fun e a' W => ∃ (k : Nat) (M : Nat → Int) (w8 : World), e = .normal ∧ (∀ j, j < 256 → InI (M j)) ∧ w6.drew.grownBy w8 none ∧ W = w8.setCells (q + 1) 0 (polyA .i64 M).toList ∧ a' = ⟨(((.pointer (some ⟨B, 0, none⟩) : Value) :: (opVal o : Value) :: undef :: (.pointer (some ⟨b, 0, none⟩) : Value) :: (.bool false : Value) :: (.pointer (some ⟨p, 0, none⟩) : Value) :: (.pointer (some ⟨q, 0, none⟩) : Value) :: (.bool true : Value) :: (.pointer (some ⟨q + 1, 0, none⟩) : Value) :: (.string ByteArray.empty : Value) :: undef :: undef :: undef :: undef :: undef :: undef :: undef :: undef :: undef :: (.pointer (some ⟨B, 0, none⟩) : Value) :: (.pointer (some ⟨b, 1, none⟩) : Value) :: (.int .i64 o.x : Value) :: (.agg (polyA .i64 F) : Value) :: (.pointer (some ⟨B, 0, none⟩) : Value) :: (.pointer (some ⟨b, 2, none⟩) : Value) :: (.int .i64 o.y : Value) :: (.agg (polyA .i64 G) : Value) :: (.agg Tryz.zeroCells43 : Value) :: (.pointer (some ⟨b, 0, none⟩) : Value) :: (.int .i64 12 : Value) :: undef :: undef :: undef :: undef :: undef :: undef :: undef :: undef :: undef :: undef :: undef :: undef :: undef :: undef :: undef :: (.bool true : Value) :: (.bool true : Value) :: (.tuple #[.agg (polyA .i64 M), .bool true] : Value) :: (.pointer (some ⟨b, 5, none⟩) : Value) :: (.int .i64 o.a : Value) :: (.int .i64 (k : Int) : Value) :: (.pointer (some ⟨b, 6, none⟩) : Value) :: (.int .i64 o.b : Value) :: (.agg (polyA .i64 F) : Value) :: (.agg (polyA .i64 G) : Value) :: (.tuple #[.agg (polyA .i64 M), .bool true] : Value) :: (.agg (polyA .i64 M) : Value) :: (.bool true : Value) :: undef :: undef :: undef :: undef :: undef :: undef :: undef :: undef :: undef :: undef :: undef :: undef :: undef :: undef :: undef :: undef :: undef :: undef :: undef :: undef :: undef :: undef :: undef :: undef :: undef :: undef :: undef :: undef :: undef :: undef :: undef :: undef :: undef :: undef :: undef :: undef :: undef :: undef :: undef :: undef :: undef :: undef :: undef :: undef :: undef :: undef :: undef :: undef :: undef :: undef :: undef :: undef :: undef :: undef :: undef :: undef :: undef :: undef :: undef :: undef :: undef :: undef :: undef :: undef :: undef :: undef :: undef :: undef :: undef :: undef :: undef :: undef :: undef :: undef :: undef :: undef :: undef :: undef :: undef :: undef :: undef :: undef :: undef :: undef :: undef :: undef :: undef :: undef :: undef :: undef :: undef :: undef :: undef :: undef :: undef :: undef :: undef :: undef :: undef :: undef :: undef :: undef :: undef :: undef :: undef :: undef :: undef :: undef :: []) : List Value).toArray, []⟩) ?_ ?_
  · intro e a' W hq
    obtain ⟨k, M, w8, rfl, hM, y8, rfl, rfl⟩ := NoPanic.imp _ _ _ hq
    clear hq
    obtain ⟨hw, rM⟩ := HSS.out w8 M (grownBy_trans (grown_drew (World.grownBy.refl w6 none)) y8)
    generalize w8.setCells (q + 1) 0 (polyA .i64 M).toList = W9 at *
    clear HSS HRi HT y8
    have hS : SWd X B c vT vP vS ts nP ps Φ W9.drew := hw.keep hX (grown_drew (World.grownBy.refl _ _))
    obtain ⟨g9, cap9, w99, hap, d1, d2, HF⟩ := app_poly hX hc hS M hM
    have ld := run_hidLd W9.drew (q + 1) 0 M rM.drew
    have bs := run_hidBS M
    have c1 : W9.cell? ⟨B, 1, none⟩ = some vP := hS.c1
    have c2 : (W9.alloc (.cells (polyA .i64 M) 43)).cell? ⟨B, 1, none⟩ = some vP := (World.grownBy_alloc W9 _ none).cell c1 (by simp)
    have hap2 : (hidAp #[vP, .slice (some ⟨W9.heap.size, 0, none⟩) 1 1]).run Tryz.prog (W9.alloc (.cells (polyA .i64 M) 43)).drew = .ok (.slice (some ⟨g9, 0, none⟩) (nP + 1) cap9) w99 := hap
    clear hS hw rM hM
    go_wp2
    go_region
    clear hap hap2 ld bs c1 c2 d1 d2
    go_wp2
    go_ret
    exact ⟨rfl, HF.out⟩
  · clear HSS
    refine wp_region_inv (fun l a W => ∃ (b0 b1 b2 b3 b4 b5 b6 b7 b8 b9 b10 b11 b12 : Bool) (k : Nat) (M : Nat → Int), l = #[b0, b1, b2, b3, b4, b5, b6, b7, b8, b9, b10, b11, b12] ∧ a = ⟨((.pointer (some ⟨B, 0, none⟩) : Value) :: (opVal o : Value) :: undef :: (.pointer (some ⟨b, 0, none⟩) : Value) :: (.bool false : Value) :: (.pointer (some ⟨p, 0, none⟩) : Value) :: (.pointer (some ⟨q, 0, none⟩) : Value) :: (.bool true : Value) :: (.pointer (some ⟨q + 1, 0, none⟩) : Value) :: (.string ByteArray.empty : Value) :: undef :: undef :: undef :: undef :: undef :: undef :: undef :: undef :: undef :: (.pointer (some ⟨B, 0, none⟩) : Value) :: (.pointer (some ⟨b, 1, none⟩) : Value) :: (.int .i64 o.x : Value) :: (.agg (polyA .i64 F) : Value) :: (.pointer (some ⟨B, 0, none⟩) : Value) :: (.pointer (some ⟨b, 2, none⟩) : Value) :: (.int .i64 o.y : Value) :: (.agg (polyA .i64 G) : Value) :: (.agg Tryz.zeroCells43 : Value) :: (.pointer (some ⟨b, 0, none⟩) : Value) :: (.int .i64 12 : Value) :: undef :: undef :: undef :: undef :: undef :: undef :: undef :: undef :: undef :: undef :: undef :: undef :: undef :: undef :: undef :: (.bool true : Value) :: (.bool true : Value) :: (bif b8 then (.tuple #[.agg (polyA .i64 M), .bool true] : Value) else undef) :: (bif b0 then (.pointer (some ⟨b, 5, none⟩) : Value) else undef) :: (bif b1 then (.int .i64 o.a : Value) else undef) :: (bif b2 then (.int .i64 (k : Int) : Value) else undef) :: (bif b3 then (.pointer (some ⟨b, 6, none⟩) : Value) else undef) :: (bif b4 then (.int .i64 o.b : Value) else undef) :: (bif b5 then (.agg (polyA .i64 F) : Value) else undef) :: (bif b6 then (.agg (polyA .i64 G) : Value) else undef) :: (bif b7 then (.tuple #[.agg (polyA .i64 M), .bool true] : Value) else undef) :: (bif b9 then (.agg (polyA .i64 M) : Value) else undef) :: (bif b10 then (.bool true : Value) else undef) :: undef :: undef :: undef :: undef :: undef :: undef :: undef :: undef :: undef :: undef :: undef :: undef :: undef :: undef :: undef :: undef :: undef :: undef :: undef :: undef :: undef :: undef :: undef :: undef :: undef :: undef :: undef :: undef :: undef :: undef :: undef :: undef :: undef :: undef :: undef :: undef :: undef :: undef :: undef :: undef :: undef :: undef :: undef :: undef :: undef :: undef :: undef :: undef :: undef :: undef :: undef :: undef :: undef :: undef :: undef :: undef :: undef :: undef :: undef :: undef :: undef :: undef :: undef :: undef :: undef :: undef :: undef :: undef :: undef :: undef :: undef :: undef :: undef :: undef :: undef :: undef :: undef :: undef :: undef :: undef :: undef :: undef :: undef :: undef :: undef :: undef :: undef :: undef :: undef :: undef :: undef :: undef :: undef :: undef :: undef :: undef :: undef :: undef :: undef :: undef :: undef :: undef :: undef :: undef :: undef :: undef :: undef :: undef :: []).toArray, []⟩ ∧ Hid ((b2 = true → (k : Int) < 5) ∧ (b7 = true → ∀ j, j < 256 → InI (M j)) ∧ (b11 = false → w6.drew.grownBy W none) ∧ (b11 = true → ∃ w8, w6.drew.grownBy w8 none ∧ W = w8.setCells (q + 1) 0 (polyA .i64 M).toList) ∧ (b11 = true → (b1 && b2 && b4 && b5 && b6 && b7) = true) ∧ (b7 = true → b2 = true) ∧ (b8 = true → b7 = true) ∧ (b9 = true → b7 = true))) (by kernel_rfl) ?h0 ?hs ?he
    case h0 => exact ⟨false, false, false, false, false, false, false, false, false, false, false, false, false, 0, fun _ => 0, rfl, rfl, ⟨(fun h => by cases h), (fun h => by cases h), (fun _ => World.grownBy.refl _ _), (fun h => by cases h), (fun h => by cases h), (fun h => by cases h), (fun h => by cases h), (fun h => by cases h)⟩⟩
    case hs =>
      rintro l a W ⟨b0, b1, b2, b3, b4, b5, b6, b7, b8, b9, b10, b11, b12, k, M, rfl, rfl, HH⟩ i hi
      have hf := (ready_mem hi).2.1
      have hlt : i < 13 := (ready_mem hi).1
      have hcs : i = 0 ∨ i = 1 ∨ i = 2 ∨ i = 3 ∨ i = 4 ∨ i = 5 ∨ i = 6 ∨ i = 7 ∨ i = 8 ∨ i = 9 ∨ i = 10 ∨ i = 11 ∨ i = 12 := by omega
      rcases hcs with rfl | rfl | rfl | rfl | rfl | rfl | rfl | rfl | rfl | rfl | rfl | rfl | rfl
      · obtain rfl : b0 = false := hf
        clear hlt
        clear hi
        refine wpOp_step rfl (fun K hK => ?_)
        go_simp
        exact hK _ _ ⟨true, b1, b2, b3, b4, b5, b6, b7, b8, b9, b10, b11, b12, k, M, rfl, rfl, HH⟩
      · obtain rfl : b1 = false := hf
        clear hlt
        obtain rfl : b0 = true := ready_dep hi 0 (by kernel_rfl)
        clear hi
        obtain rfl : b11 = false := by cases b11 with | false => rfl | true => exact absurd (HH.out.2.2.2.2.1 rfl) (by simp)
        have gW : w6.drew.grownBy W none := HH.out.2.2.1 rfl
        have rW := HRi.out.new (grownBy_trans (grown_drew (World.grownBy.refl w6 none)) gW)
        have qa := rW.op.a
        refine wpOp_step rfl (fun K hK => ?_)
        go_simp
        exact hK _ _ ⟨true, true, b2, b3, b4, b5, b6, b7, b8, b9, b10, false, b12, k, M, rfl, rfl, ⟨HH.out.1, HH.out.2.1, HH.out.2.2.1, (fun h => by cases h), (fun h => by cases h), HH.out.2.2.2.2.2.1, HH.out.2.2.2.2.2.2.1, HH.out.2.2.2.2.2.2.2⟩⟩
      · obtain rfl : b2 = false := hf
        clear hlt
        obtain rfl : b1 = true := ready_dep hi 1 (by kernel_rfl)
        clear hi
        obtain rfl : b11 = false := by cases b11 with | false => rfl | true => exact absurd (HH.out.2.2.2.2.1 rfl) (by simp)
        obtain rfl : b7 = false := by cases b7 with | false => rfl | true => exact absurd (HH.out.2.2.2.2.2.1 rfl) (by simp)
        obtain rfl : b8 = false := by cases b8 with | false => rfl | true => exact absurd (HH.out.2.2.2.2.2.2.1 rfl) (by simp)
        obtain rfl : b9 = false := by cases b9 with | false => rfl | true => exact absurd (HH.out.2.2.2.2.2.2.2 rfl) (by simp)
        have gW : w6.drew.grownBy W none := HH.out.2.2.1 rfl
        refine wpOp_step rfl (fun K hK => ?_)
        go_wp2_with (go_at_call 22; refine (pick_any _ _ _ ho.a (by omega) (by omega)).mono ?_; rintro e w' ⟨k2, hk2, rfl, rfl⟩)
        exact ⟨b0, true, true, b3, b4, b5, b6, false, false, false, b10, false, b12, k2, M, rfl, rfl, ⟨(fun _ => hk2), (fun h => by cases h), (fun _ => gW), (fun h => by cases h), (fun h => by cases h), (fun h => by cases h), (fun h => by cases h), (fun h => by cases h)⟩⟩
      · obtain rfl : b3 = false := hf
        clear hlt
        clear hi
        refine wpOp_step rfl (fun K hK => ?_)
        go_simp
        exact hK _ _ ⟨b0, b1, b2, true, b4, b5, b6, b7, b8, b9, b10, b11, b12, k, M, rfl, rfl, HH⟩
      · obtain rfl : b4 = false := hf
        clear hlt
        obtain rfl : b3 = true := ready_dep hi 3 (by kernel_rfl)
        clear hi
        obtain rfl : b11 = false := by cases b11 with | false => rfl | true => exact absurd (HH.out.2.2.2.2.1 rfl) (by simp)
        have gW : w6.drew.grownBy W none := HH.out.2.2.1 rfl
        have rW := HRi.out.new (grownBy_trans (grown_drew (World.grownBy.refl w6 none)) gW)
        have qb := rW.op.b
        refine wpOp_step rfl (fun K hK => ?_)
        go_simp
        exact hK _ _ ⟨b0, b1, b2, true, true, b5, b6, b7, b8, b9, b10, false, b12, k, M, rfl, rfl, ⟨HH.out.1, HH.out.2.1, HH.out.2.2.1, (fun h => by cases h), (fun h => by cases h), HH.out.2.2.2.2.2.1, HH.out.2.2.2.2.2.2.1, HH.out.2.2.2.2.2.2.2⟩⟩
      · obtain rfl : b5 = false := hf
        clear hlt
        clear hi
        obtain rfl : b11 = false := by cases b11 with | false => rfl | true => exact absurd (HH.out.2.2.2.2.1 rfl) (by simp)
        have gW : w6.drew.grownBy W none := HH.out.2.2.1 rfl
        have rW := HRi.out.new (grownBy_trans (grown_drew (World.grownBy.refl w6 none)) gW)
        have ld := run_hidLd W p 0 F rW.f
        refine wpOp_step rfl (fun K hK => ?_)
        go_simp
        exact hK _ _ ⟨b0, b1, b2, b3, b4, true, b6, b7, b8, b9, b10, false, b12, k, M, rfl, rfl, ⟨HH.out.1, HH.out.2.1, HH.out.2.2.1, (fun h => by cases h), (fun h => by cases h), HH.out.2.2.2.2.2.1, HH.out.2.2.2.2.2.2.1, HH.out.2.2.2.2.2.2.2⟩⟩
      · obtain rfl : b6 = false := hf
        clear hlt
        clear hi
        obtain rfl : b11 = false := by cases b11 with | false => rfl | true => exact absurd (HH.out.2.2.2.2.1 rfl) (by simp)
        have gW : w6.drew.grownBy W none := HH.out.2.2.1 rfl
        have rW := HRi.out.new (grownBy_trans (grown_drew (World.grownBy.refl w6 none)) gW)
        have ld := run_hidLd W q 0 G rW.g
        refine wpOp_step rfl (fun K hK => ?_)
        go_simp
        exact hK _ _ ⟨b0, b1, b2, b3, b4, b5, true, b7, b8, b9, b10, false, b12, k, M, rfl, rfl, ⟨HH.out.1, HH.out.2.1, HH.out.2.2.1, (fun h => by cases h), (fun h => by cases h), HH.out.2.2.2.2.2.1, HH.out.2.2.2.2.2.2.1, HH.out.2.2.2.2.2.2.2⟩⟩
      · obtain rfl : b7 = false := hf
        clear hlt
        obtain rfl : b2 = true := ready_dep hi 2 (by kernel_rfl)
        obtain rfl : b4 = true := ready_dep hi 4 (by kernel_rfl)
        obtain rfl : b5 = true := ready_dep hi 5 (by kernel_rfl)
        obtain rfl : b6 = true := ready_dep hi 6 (by kernel_rfl)
        clear hi
        obtain rfl : b11 = false := by cases b11 with | false => rfl | true => exact absurd (HH.out.2.2.2.2.1 rfl) (by simp)
        obtain rfl : b8 = false := by cases b8 with | false => rfl | true => exact absurd (HH.out.2.2.2.2.2.2.1 rfl) (by simp)
        obtain rfl : b9 = false := by cases b9 with | false => rfl | true => exact absurd (HH.out.2.2.2.2.2.2.2 rfl) (by simp)
        have gW : w6.drew.grownBy W none := HH.out.2.2.1 rfl
        have hk5 := HH.out.1 rfl
        obtain ⟨M2, hM2, HC⟩ := HT.out W gW k hk5
        refine wpOp_step rfl (fun K hK => ?_)
        go_wp2_with (go_at_call 28; refine HC.mono ?_; rintro e v1 ⟨rfl, y1⟩)
        exact ⟨b0, b1, true, b3, true, true, true, true, false, false, b10, false, b12, k, M2, rfl, rfl, ⟨(fun _ => hk5), (fun _ => hM2), (fun _ => grownBy_trans gW y1), (fun h => by cases h), (fun h => by cases h), (fun _ => rfl), (fun h => by cases h), (fun h => by cases h)⟩⟩
      · obtain rfl : b8 = false := hf
        clear hlt
        obtain rfl : b7 = true := ready_dep hi 7 (by kernel_rfl)
        clear hi
        refine wpOp_step rfl (fun K hK => ?_)
        go_simp
        exact hK _ _ ⟨b0, b1, b2, b3, b4, b5, b6, true, true, b9, b10, b11, b12, k, M, rfl, rfl, ⟨HH.out.1, HH.out.2.1, HH.out.2.2.1, HH.out.2.2.2.1, HH.out.2.2.2.2.1, HH.out.2.2.2.2.2.1, (fun _ => rfl), HH.out.2.2.2.2.2.2.2⟩⟩
      · obtain rfl : b9 = false := hf
        clear hlt
        obtain rfl : b8 = true := ready_dep hi 8 (by kernel_rfl)
        clear hi
        obtain rfl : b7 = true := HH.out.2.2.2.2.2.2.1 rfl
        refine wpOp_step rfl (fun K hK => ?_)
        go_simp
        exact hK _ _ ⟨b0, b1, b2, b3, b4, b5, b6, true, true, true, b10, b11, b12, k, M, rfl, rfl, ⟨HH.out.1, HH.out.2.1, HH.out.2.2.1, HH.out.2.2.2.1, HH.out.2.2.2.2.1, HH.out.2.2.2.2.2.1, HH.out.2.2.2.2.2.2.1, (fun _ => rfl)⟩⟩
      · obtain rfl : b10 = false := hf
        clear hlt
        obtain rfl : b8 = true := ready_dep hi 8 (by kernel_rfl)
        clear hi
        refine wpOp_step rfl (fun K hK => ?_)
        go_simp
        exact hK _ _ ⟨b0, b1, b2, b3, b4, b5, b6, b7, true, b9, true, b11, b12, k, M, rfl, rfl, HH⟩
      · obtain rfl : b11 = false := hf
        clear hlt
        obtain rfl : b0 = true := ready_dep hi 0 (by kernel_rfl)
        obtain rfl : b1 = true := ready_dep hi 1 (by kernel_rfl)
        obtain rfl : b2 = true := ready_dep hi 2 (by kernel_rfl)
        obtain rfl : b3 = true := ready_dep hi 3 (by kernel_rfl)
        obtain rfl : b4 = true := ready_dep hi 4 (by kernel_rfl)
        obtain rfl : b5 = true := ready_dep hi 5 (by kernel_rfl)
        obtain rfl : b6 = true := ready_dep hi 6 (by kernel_rfl)
        obtain rfl : b7 = true := ready_dep hi 7 (by kernel_rfl)
        obtain rfl : b8 = true := ready_dep hi 8 (by kernel_rfl)
        obtain rfl : b9 = true := ready_dep hi 9 (by kernel_rfl)
        clear hi
        have gW : w6.drew.grownBy W none := HH.out.2.2.1 rfl
        have rW := HRi.out.new (grownBy_trans (grown_drew (World.grownBy.refl w6 none)) gW)
        have st := run_hidSt W (q + 1) M _ rW.h
        refine wpOp_step rfl (fun K hK => ?_)
        go_simp
        exact hK _ _ ⟨true, true, true, true, true, true, true, true, true, true, b10, true, b12, k, M, rfl, rfl, ⟨HH.out.1, HH.out.2.1, (fun h => by cases h), (fun _ => ⟨W, gW, rfl⟩), (fun _ => rfl), HH.out.2.2.2.2.2.1, HH.out.2.2.2.2.2.2.1, HH.out.2.2.2.2.2.2.2⟩⟩
      · obtain rfl : b12 = false := hf
        clear hlt
        obtain rfl : b10 = true := ready_dep hi 10 (by kernel_rfl)
        obtain rfl : b11 = true := ready_dep hi 11 (by kernel_rfl)
        clear hi
        refine wpOp_step rfl (fun K hK => ?_)
        go_simp
        exact hK _ _ ⟨b0, b1, b2, b3, b4, b5, b6, b7, b8, b9, true, true, true, k, M, rfl, rfl, HH⟩
    case he =>
      rintro l a W ⟨b0, b1, b2, b3, b4, b5, b6, b7, b8, b9, b10, b11, b12, k, M, rfl, rfl, HH⟩ hr
      have hall := ready_all hr (by kernel_rfl) rfl
      clear hr
      obtain rfl : b0 = true := hall 0 (by decide)
      obtain rfl : b1 = true := hall 1 (by decide)
      obtain rfl : b2 = true := hall 2 (by decide)
      obtain rfl : b3 = true := hall 3 (by decide)
      obtain rfl : b4 = true := hall 4 (by decide)
      obtain rfl : b5 = true := hall 5 (by decide)
      obtain rfl : b6 = true := hall 6 (by decide)
      obtain rfl : b7 = true := hall 7 (by decide)
      obtain rfl : b8 = true := hall 8 (by decide)
      obtain rfl : b9 = true := hall 9 (by decide)
      obtain rfl : b10 = true := hall 10 (by decide)
      obtain rfl : b11 = true := hall 11 (by decide)
      obtain rfl : b12 = true := hall 12 (by decide)
      clear hall
      obtain ⟨w8, y8, rfl⟩ := HH.out.2.2.2.1 rfl
      exact NoPanic.normal ⟨k, M, w8, rfl, HH.out.2.1 rfl, y8, rfl, rfl⟩
end Go.Proofs.YtkijpphmiogbbaaGreatDoor.Z
