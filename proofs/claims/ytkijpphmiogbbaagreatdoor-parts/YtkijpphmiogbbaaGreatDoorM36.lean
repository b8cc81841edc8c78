import Derived.Test.YtkijpphmiogbbaaGreatDoorM32
import Derived.Test.YtkijpphmiogbbaaGreatDoorM25
namespace Go.Proofs.YtkijpphmiogbbaaGreatDoor.Z
open Go.RowKit
attribute [local go_sem ↓] Go.wp_at_zero Go.wp_at_succ
attribute [local go_sem ↓] ld_hide st_hide ldA_hide stA_hide

/-- Two polynomials, room for one, and what came back. -/
structure Hin (w W : World) (m : Nat) (L M X : Nat → Int) : Prop where
  box : Box3 w W L M
  x : PRow .i64 W m 0 X
  l : w.heap.size + 2 < m
theorem Hin.new {w W W' : World} {m : Nat} {L M X : Nat → Int} (h : Hin w W m L M X) (hg : W.grownBy W' none) : Hin w W' m L M X := ⟨h.box.new hg, h.x.new hg, h.l⟩
theorem Hin.far {w W W' : World} {m p : Nat} {L M X : Nat → Int} (h : Hin w W m L M X) (hg : W.grownBy W' (some p)) (hp : m < p) : Hin w W' m L M X :=
  ⟨h.box.far hg (by have := h.l; omega), h.x.far hg (by simp; omega), h.l⟩
theorem Hin.lt {w W : World} {m : Nat} {L M X : Nat → Int} (h : Hin w W m L M X) : m < W.heap.size := h.x.lt
theorem box3_drew {w W : World} {L M : Nat → Int} (h : Box3 w W L M) : Box3 w W.drew L M := ⟨grown_drew h.g, h.f.drew, h.h.drew, h.r.drew⟩
/-- A place for what came back, and what lies there. -/
def Slt (w W : World) (m : Nat) (X : Nat → Int) (b c : Bool) : Prop := b = true → w.heap.size + 2 < m ∧ PRow .i64 W m 0 (bif c then X else fun _ => 0)
theorem Slt.new {w W W' : World} {m : Nat} {X : Nat → Int} {b c : Bool} (h : Slt w W m X b c) (hg : W.grownBy W' none) : Slt w W' m X b c := fun e => ⟨(h e).1, (h e).2.new hg⟩
theorem Slt.mk {w W : World} {X : Nat → Int} {c : Bool} (hc : c = false) {L M : Nat → Int} (h : Box3 w W L M) : Slt w (W.alloc (.cells Tryz.zeroCells71 71)) W.heap.size X true c := fun _ => by
  have n := new_alloc .i64 W (fun _ => 0) 71
  rw [← Tryz.zA] at n
  subst hc
  exact ⟨h.lt, n.r⟩
theorem slt_end {w W : World} {m : Nat} {L M X : Nat → Int} (b : Box3 w W L M) (h : Slt w W m X true false) : Box3 w (W.setCells m 0 (polyA .i64 X).toList) L M ∧ Slt w (W.setCells m 0 (polyA .i64 X).toList) m X true true := by
  have q := h rfl
  have p := put_cells .i64 W m 0 X (q.2.there .i64 _)
  exact ⟨b.far p.g q.1, fun _ => ⟨q.1, p.r⟩⟩
set_option maxHeartbeats 4000000 in
set_option maxRecDepth 20000 in
theorem hinted_n (d : Int) (L M : Nat → Int) (s : Sg)
    (HS : Hid (∀ W, Calls Tryz.prog 64 #[.int .i64 d] W fun e w' => e = .returned (.tuple #[sgV s, .bool false]) ∧ W.grownBy w' none))
    (HA : Hid (∀ W, Calls Tryz.prog 69 #[.int .i64 d, .agg (polyA .i64 L), .agg (polyA .i64 M)] W fun e w' => e = .returned (.tuple #[.agg (polyA .i64 (fun _ => 0)), .int .i64 0, .iface 138 (.int .i64 1)]) ∧ W.grownBy w' none))
    (w : World) (hE : Et w) : Calls Tryz.prog 32 #[.int .i64 d, .agg (polyA .i64 L), .agg (polyA .i64 M)] w fun e w' => e = .returned (.tuple #[.agg (polyA .i64 (fun _ => 0)), .bool true]) ∧ w.grownBy w' none := by
  have k3 := box3_mk w L M
  go_enter Tryz.func32, Tryz.ntmps32
  go_wp2_with fail
  generalize ((w.alloc (.cells (polyA .i64 L) 43)).alloc (.cells (polyA .i64 M) 43)).alloc (.cells Tryz.zeroCells43 43) = v0 at *
  refine Code.wp_mono (Q := NoPanic fun e a' W => Hid (∃ (m : Nat), e = .normal ∧ Hin w W m L M (fun _ => 0) ∧ a' = ⟨((.int .i64 d : Value) :: (.agg (polyA .i64 L) : Value) :: (.agg (polyA .i64 M) : Value) :: undef :: (.pointer (some ⟨w.heap.size, 0, none⟩) : Value) :: (.pointer (some ⟨w.heap.size + 1, 0, none⟩) : Value) :: (.pointer (some ⟨w.heap.size + 1 + 1, 0, none⟩) : Value) :: (.bool false : Value) :: (.pointer (some ⟨m, 0, none⟩) : Value) :: (.int .i64 0 : Value) :: (.iface 138 (.int .i64 1) : Value) :: undef :: undef :: undef :: undef :: undef :: undef :: undef :: undef :: undef :: (.tuple #[.agg (polyA .i64 (fun _ => 0)), .int .i64 0, .iface 138 (.int .i64 1)] : Value) :: (.int .i64 d : Value) :: (.agg (polyA .i64 L) : Value) :: (.agg (polyA .i64 L) : Value) :: (.agg (polyA .i64 M) : Value) :: (.agg (polyA .i64 M) : Value) :: (.tuple #[.agg (polyA .i64 (fun _ => 0)), .int .i64 0, .iface 138 (.int .i64 1)] : Value) :: (.agg (polyA .i64 (fun _ => 0)) : Value) :: (.int .i64 0 : Value) :: (.iface 138 (.int .i64 1) : Value) :: undef :: undef :: undef :: undef :: undef :: undef :: undef :: undef :: undef :: undef :: undef :: undef :: undef :: undef :: undef :: undef :: undef :: undef :: undef :: undef :: undef :: undef :: undef :: undef :: undef :: undef :: undef :: undef :: undef :: undef :: undef :: undef :: undef :: undef :: undef :: undef :: undef :: undef :: undef :: undef :: undef :: undef :: []).toArray, []⟩)) ?_ ?_
  · rintro e a v3 hq
    obtain ⟨m, rfl, k7, rfl⟩ := (NoPanic.imp _ _ _ hq).out
    clear hq k3 v0
    go_wp2_with fail
    refine (HS.out _).mono ?_
    rintro e v4 ⟨rfl, y4⟩
    have k8 := k7.new y4
    clear k7 y4 v3
    have S1 : SgAt (v4.alloc (.cells #[.int .i64 s.k, .int .i64 s.l, .int .i64 s.e, .int .i64 s.c, .int .i64 s.g, .int .i64 s.t, .int .i64 s.a, .int .i64 s.o] 102)) v4.heap.size s := sgAt_new v4 s
    have k9 := k8.new (World.grownBy_alloc v4 (.cells #[.int .i64 s.k, .int .i64 s.l, .int .i64 s.e, .int .i64 s.c, .int .i64 s.g, .int .i64 s.t, .int .i64 s.a, .int .i64 s.o] 102) none)
    have lu := k8.lt
    clear k8
    go_wp2_with (first | (refine wpL_load rfl .i64 43 _ rfl w.heap.size 0 rfl L k9.box.f ⟨_, Tryz.uY⟩ Tryz.sY ?_))
    obtain ⟨u, hu⟩ : ∃ u, u = v4.heap.size := ⟨_, rfl⟩
    rw [← hu] at S1 lu ⊢
    generalize v4.alloc (.cells #[.int .i64 s.k, .int .i64 s.l, .int .i64 s.e, .int .i64 s.c, .int .i64 s.g, .int .i64 s.t, .int .i64 s.a, .int .i64 s.o] 102) = v4b at k9 S1 ⊢
    clear hu v4
    refine (bound_any L 8380417 _).mono ?_
    rintro e v5 ⟨bx, rfl, hbx, y5⟩
    have k10 := k9.new y5
    have S2 := S1.new y5
    clear k9 S1 y5
    clear hbx
    go_wp2_with (first | (refine wpL_load rfl .i64 43 _ rfl (w.heap.size + 1) 0 rfl M k10.box.h ⟨_, Tryz.uY⟩ Tryz.sY ?_))
    refine (bound_any M 8380417 _).mono ?_
    rintro e v6 ⟨by6, rfl, hby, y6⟩
    have k11 := k10.new y6
    have S3 := S2.new y6
    clear k10 S2 y6
    clear hby
    have m7 := new_alloc .i64 v6 (fun _ => 0) 43
    rw [← Tryz.zY] at m7
    have c8 := m7.r
    have k12 := k11.new m7.g
    have S4 := S3.new m7.g
    have l8 := k11.lt
    clear k11 S3 m7
    obtain ⟨z, hz⟩ : ∃ z, z = v6.heap.size := ⟨_, rfl⟩
    rw [← hz] at c8 l8
    go_wp2_with fail
    rw [← hz]
    clear hz
    generalize v6.alloc (.cells Tryz.zeroCells43 43) = v7 at *
    have hE9 := hE.new k12.box.g
    refine (ltold_err 1 _ hE9 (by decide)).mono ?_
    rintro e v9 ⟨rfl, y9⟩
    have k14 := k12.new y9
    have c11 := c8.new y9
    clear k12 c8 y9 hE9 S4
    go_wp2_with (first | (refine wpL_load rfl .i64 71 _ rfl m 0 rfl _ k14.x ⟨_, Tryz.uA⟩ Tryz.sA ?_) | (refine wpL_load rfl .i64 43 _ rfl z 0 rfl _ c11 ⟨_, Tryz.uY⟩ Tryz.sY ?_))
    refine (is_same _ _ (fun _ _ => rfl) _).mono ?_
    rintro e v12 ⟨rfl, y12⟩
    have k15 := k14.new y12
    have c12 := c11.new y12
    clear k14 c11 y12
    have lz : w.heap.size + 1 + 1 < z := by have := k15.l; omega
    go_wp2_with (first | (refine wpL_load rfl .i64 43 _ rfl z 0 rfl _ c12 ⟨_, Tryz.uY⟩ Tryz.sY ?_) | (refine wpL_store rfl .i64 43 _ _ rfl (w.heap.size + 1 + 1) 0 rfl _ rfl .i64 _ k15.box.r Tryz.sY ?_; intro v13 p13; have k16 := k15.box.g; have c13 := p13.r; have g13 := grown_new k16 p13.g (by omega)))
    refine bodyPost_ret (res2 Tryz.results32 .i64 _ v13 (w.heap.size + 1 + 1) _ _ rfl rfl c13 ⟨_, Tryz.uY⟩ Tryz.sY) rfl ⟨rfl, g13⟩
  · refine wp_region_inv (fun l a W => ∃ (b0 b1 b2 b3 b4 b5 b6 b7 b8 b9 b10 b11 b12 b13 : Bool) (m : Nat), l = #[b0, b1, b2, b3, b4, b5, b6, b7, b8, b9, b10, b11, b12, b13] ∧ a = ⟨((.int .i64 d : Value) :: (.agg (polyA .i64 L) : Value) :: (.agg (polyA .i64 M) : Value) :: undef :: (.pointer (some ⟨w.heap.size, 0, none⟩) : Value) :: (.pointer (some ⟨w.heap.size + 1, 0, none⟩) : Value) :: (.pointer (some ⟨w.heap.size + 1 + 1, 0, none⟩) : Value) :: (.bool false : Value) :: (bif b10 then (.pointer (some ⟨m, 0, none⟩) : Value) else undef) :: (bif b12 then (.int .i64 0 : Value) else undef) :: (bif b13 then (.iface 138 (.int .i64 1) : Value) else undef) :: undef :: undef :: undef :: undef :: undef :: undef :: undef :: undef :: undef :: (bif b6 then (.tuple #[.agg (polyA .i64 (fun _ => 0)), .int .i64 0, .iface 138 (.int .i64 1)] : Value) else undef) :: (bif b0 then (.int .i64 d : Value) else undef) :: (bif b1 then (.agg (polyA .i64 L) : Value) else undef) :: (bif b2 then (.agg (polyA .i64 L) : Value) else undef) :: (bif b3 then (.agg (polyA .i64 M) : Value) else undef) :: (bif b4 then (.agg (polyA .i64 M) : Value) else undef) :: (bif b5 then (.tuple #[.agg (polyA .i64 (fun _ => 0)), .int .i64 0, .iface 138 (.int .i64 1)] : Value) else undef) :: (bif b7 then (.agg (polyA .i64 (fun _ => 0)) : Value) else undef) :: (bif b8 then (.int .i64 0 : Value) else undef) :: (bif b9 then (.iface 138 (.int .i64 1) : Value) else undef) :: undef :: undef :: undef :: undef :: undef :: undef :: undef :: undef :: undef :: undef :: undef :: undef :: undef :: undef :: undef :: undef :: undef :: undef :: undef :: undef :: undef :: undef :: undef :: undef :: undef :: undef :: undef :: undef :: undef :: undef :: undef :: undef :: undef :: undef :: undef :: undef :: undef :: undef :: undef :: undef :: undef :: undef :: []).toArray, []⟩ ∧ Box3 w W L M ∧ Slt w W m (fun _ => 0) b10 b11 ∧ (b10 = false → b11 = false)) (by kernel_rfl) ?h0 ?hs ?he
    case h0 => exact ⟨false, false, false, false, false, false, false, false, false, false, false, false, false, false, 0, rfl, rfl, box3_drew k3, (fun h => by cases h), (fun _ => rfl)⟩
    case hs =>
      rintro l a W ⟨b0, b1, b2, b3, b4, b5, b6, b7, b8, b9, b10, b11, b12, b13, m, rfl, rfl, hB, hA, hC⟩ i hi
      have hf := (ready_mem hi).2.1
      have hlt : i < 14 := (ready_mem hi).1
      have hcs : i = 0 ∨ i = 1 ∨ i = 2 ∨ i = 3 ∨ i = 4 ∨ i = 5 ∨ i = 6 ∨ i = 7 ∨ i = 8 ∨ i = 9 ∨ i = 10 ∨ i = 11 ∨ i = 12 ∨ i = 13 := by omega
      rcases hcs with rfl | rfl | rfl | rfl | rfl | rfl | rfl | rfl | rfl | rfl | rfl | rfl | rfl | rfl
      · obtain rfl : b0 = false := hf
        clear hlt
        clear hi
        refine wpOp_step rfl (fun K hK => ?_)
        go_simp
        exact hK _ _ ⟨true, b1, b2, b3, b4, b5, b6, b7, b8, b9, b10, b11, b12, b13, m, rfl, rfl, hB, hA, hC⟩
      · obtain rfl : b1 = false := hf
        clear hlt
        clear hi
        have ld := run_hidLd W w.heap.size 0 L hB.f
        refine wpOp_step rfl (fun K hK => ?_)
        go_simp
        exact hK _ _ ⟨b0, true, b2, b3, b4, b5, b6, b7, b8, b9, b10, b11, b12, b13, m, rfl, rfl, hB, hA, hC⟩
      · obtain rfl : b2 = false := hf
        clear hlt
        obtain rfl : b1 = true := ready_dep hi 1 (by kernel_rfl)
        clear hi
        refine wpOp_step rfl (fun K hK => ?_)
        go_wp2_with (go_at_call 50; refine (lpoly_any L _).mono ?_; rintro e v1 ⟨rfl, y1⟩)
        exact ⟨b0, true, true, b3, b4, b5, b6, b7, b8, b9, b10, b11, b12, b13, m, rfl, rfl, hB.new y1, hA.new y1, hC⟩
      · obtain rfl : b3 = false := hf
        clear hlt
        clear hi
        have ld := run_hidLd W (w.heap.size + 1) 0 M hB.h
        refine wpOp_step rfl (fun K hK => ?_)
        go_simp
        exact hK _ _ ⟨b0, b1, b2, true, b4, b5, b6, b7, b8, b9, b10, b11, b12, b13, m, rfl, rfl, hB, hA, hC⟩
      · obtain rfl : b4 = false := hf
        clear hlt
        obtain rfl : b3 = true := ready_dep hi 3 (by kernel_rfl)
        obtain rfl : b2 = true := ready_dep hi 2 (by kernel_rfl)
        clear hi
        refine wpOp_step rfl (fun K hK => ?_)
        go_wp2_with (go_at_call 50; refine (lpoly_any M _).mono ?_; rintro e v1 ⟨rfl, y1⟩)
        exact ⟨b0, b1, true, true, true, b5, b6, b7, b8, b9, b10, b11, b12, b13, m, rfl, rfl, hB.new y1, hA.new y1, hC⟩
      · obtain rfl : b5 = false := hf
        clear hlt
        obtain rfl : b0 = true := ready_dep hi 0 (by kernel_rfl)
        obtain rfl : b2 = true := ready_dep hi 2 (by kernel_rfl)
        obtain rfl : b4 = true := ready_dep hi 4 (by kernel_rfl)
        clear hi
        refine wpOp_step rfl (fun K hK => ?_)
        go_wp2_with (go_at_call 69; refine (HA.out _).mono ?_; rintro e v1 ⟨rfl, y1⟩)
        exact ⟨true, b1, true, b3, true, true, b6, b7, b8, b9, b10, b11, b12, b13, m, rfl, rfl, hB.new y1, hA.new y1, hC⟩
      · obtain rfl : b6 = false := hf
        clear hlt
        obtain rfl : b5 = true := ready_dep hi 5 (by kernel_rfl)
        clear hi
        refine wpOp_step rfl (fun K hK => ?_)
        go_simp
        exact hK _ _ ⟨b0, b1, b2, b3, b4, true, true, b7, b8, b9, b10, b11, b12, b13, m, rfl, rfl, hB, hA, hC⟩
      · obtain rfl : b7 = false := hf
        clear hlt
        obtain rfl : b6 = true := ready_dep hi 6 (by kernel_rfl)
        clear hi
        refine wpOp_step rfl (fun K hK => ?_)
        go_simp
        exact hK _ _ ⟨b0, b1, b2, b3, b4, b5, true, true, b8, b9, b10, b11, b12, b13, m, rfl, rfl, hB, hA, hC⟩
      · obtain rfl : b8 = false := hf
        clear hlt
        obtain rfl : b6 = true := ready_dep hi 6 (by kernel_rfl)
        clear hi
        refine wpOp_step rfl (fun K hK => ?_)
        go_simp
        exact hK _ _ ⟨b0, b1, b2, b3, b4, b5, true, b7, true, b9, b10, b11, b12, b13, m, rfl, rfl, hB, hA, hC⟩
      · obtain rfl : b9 = false := hf
        clear hlt
        obtain rfl : b6 = true := ready_dep hi 6 (by kernel_rfl)
        clear hi
        refine wpOp_step rfl (fun K hK => ?_)
        go_simp
        exact hK _ _ ⟨b0, b1, b2, b3, b4, b5, true, b7, b8, true, b10, b11, b12, b13, m, rfl, rfl, hB, hA, hC⟩
      · obtain rfl : b10 = false := hf
        clear hlt
        clear hi
        refine wpOp_step rfl (fun K hK => ?_)
        go_simp
        exact hK _ _ ⟨b0, b1, b2, b3, b4, b5, b6, b7, b8, b9, true, b11, b12, b13, W.heap.size, rfl, rfl, hB.new (World.grownBy_alloc W _ none), Slt.mk (hC rfl) hB, (fun h => hC rfl)⟩
      · obtain rfl : b11 = false := hf
        clear hlt
        obtain rfl : b10 = true := ready_dep hi 10 (by kernel_rfl)
        obtain rfl : b7 = true := ready_dep hi 7 (by kernel_rfl)
        clear hi
        have st := run_hidStA W m (fun _ => 0) _ (hA rfl).2
        have q := slt_end hB hA
        refine wpOp_step rfl (fun K hK => ?_)
        go_simp
        exact hK _ _ ⟨b0, b1, b2, b3, b4, b5, b6, true, b8, b9, true, true, b12, b13, m, rfl, rfl, q.1, q.2, (fun h => by cases h)⟩
      · obtain rfl : b12 = false := hf
        clear hlt
        obtain rfl : b8 = true := ready_dep hi 8 (by kernel_rfl)
        clear hi
        refine wpOp_step rfl (fun K hK => ?_)
        go_simp
        exact hK _ _ ⟨b0, b1, b2, b3, b4, b5, b6, b7, true, b9, b10, b11, true, b13, m, rfl, rfl, hB, hA, hC⟩
      · obtain rfl : b13 = false := hf
        clear hlt
        obtain rfl : b9 = true := ready_dep hi 9 (by kernel_rfl)
        clear hi
        refine wpOp_step rfl (fun K hK => ?_)
        go_simp
        exact hK _ _ ⟨b0, b1, b2, b3, b4, b5, b6, b7, b8, true, b10, b11, b12, true, m, rfl, rfl, hB, hA, hC⟩
    case he =>
      rintro l a W ⟨b0, b1, b2, b3, b4, b5, b6, b7, b8, b9, b10, b11, b12, b13, m, rfl, rfl, hB, hA, hC⟩ hr
      have hall := ready_all hr (by kernel_rfl) rfl
      clear hr
      obtain rfl : b0 = true := hall 0 (by decide)
      obtain rfl : b1 = true := hall 1 (by decide)
      obtain rfl : b2 = true := hall 2 (by decide)
      obtain rfl : b3 = true := hall 3 (by decide)
      obtain rfl : b4 = true := hall 4 (by decide)
      obtain rfl : b5 = true := hall 5 (by decide)
      obtain rfl : b6 = true := hall 6 (by decide)
      obtain rfl : b7 = true := hall 7 (by decide)
      obtain rfl : b8 = true := hall 8 (by decide)
      obtain rfl : b9 = true := hall 9 (by decide)
      obtain rfl : b10 = true := hall 10 (by decide)
      obtain rfl : b11 = true := hall 11 (by decide)
      obtain rfl : b12 = true := hall 12 (by decide)
      obtain rfl : b13 = true := hall 13 (by decide)
      clear hall
      exact NoPanic.normal (hidj ⟨m, rfl, ⟨hB, (hA rfl).2, (hA rfl).1⟩, rfl⟩)
set_option maxHeartbeats 4000000 in
set_option maxRecDepth 20000 in
theorem hinted_b (d : Int) (L M : Nat → Int) (s : Sg) (hL : ¬ InB L 8380417)
    (HS : Hid (∀ W, Calls Tryz.prog 64 #[.int .i64 d] W fun e w' => e = .returned (.tuple #[sgV s, .bool true]) ∧ W.grownBy w' none))
    (HA : Hid (∀ W, Calls Tryz.prog 69 #[.int .i64 d, .agg (polyA .i64 L), .agg (polyA .i64 M)] W fun e w' => e = .returned (.tuple #[.agg (polyA .i64 (fun _ => 0)), .int .i64 0, .iface 138 (.int .i64 5)]) ∧ W.grownBy w' none))
    (w : World) (hE : Et w) : Calls Tryz.prog 32 #[.int .i64 d, .agg (polyA .i64 L), .agg (polyA .i64 M)] w fun e w' => e = .returned (.tuple #[.agg (polyA .i64 (fun _ => 0)), .bool true]) ∧ w.grownBy w' none := by
  have k3 := box3_mk w L M
  go_enter Tryz.func32, Tryz.ntmps32
  go_wp2_with fail
  generalize ((w.alloc (.cells (polyA .i64 L) 43)).alloc (.cells (polyA .i64 M) 43)).alloc (.cells Tryz.zeroCells43 43) = v0 at *
  refine Code.wp_mono (Q := NoPanic fun e a' W => Hid (∃ (m : Nat), e = .normal ∧ Hin w W m L M (fun _ => 0) ∧ a' = ⟨((.int .i64 d : Value) :: (.agg (polyA .i64 L) : Value) :: (.agg (polyA .i64 M) : Value) :: undef :: (.pointer (some ⟨w.heap.size, 0, none⟩) : Value) :: (.pointer (some ⟨w.heap.size + 1, 0, none⟩) : Value) :: (.pointer (some ⟨w.heap.size + 1 + 1, 0, none⟩) : Value) :: (.bool false : Value) :: (.pointer (some ⟨m, 0, none⟩) : Value) :: (.int .i64 0 : Value) :: (.iface 138 (.int .i64 5) : Value) :: undef :: undef :: undef :: undef :: undef :: undef :: undef :: undef :: undef :: (.tuple #[.agg (polyA .i64 (fun _ => 0)), .int .i64 0, .iface 138 (.int .i64 5)] : Value) :: (.int .i64 d : Value) :: (.agg (polyA .i64 L) : Value) :: (.agg (polyA .i64 L) : Value) :: (.agg (polyA .i64 M) : Value) :: (.agg (polyA .i64 M) : Value) :: (.tuple #[.agg (polyA .i64 (fun _ => 0)), .int .i64 0, .iface 138 (.int .i64 5)] : Value) :: (.agg (polyA .i64 (fun _ => 0)) : Value) :: (.int .i64 0 : Value) :: (.iface 138 (.int .i64 5) : Value) :: undef :: undef :: undef :: undef :: undef :: undef :: undef :: undef :: undef :: undef :: undef :: undef :: undef :: undef :: undef :: undef :: undef :: undef :: undef :: undef :: undef :: undef :: undef :: undef :: undef :: undef :: undef :: undef :: undef :: undef :: undef :: undef :: undef :: undef :: undef :: undef :: undef :: undef :: undef :: undef :: undef :: undef :: []).toArray, []⟩)) ?_ ?_
  · rintro e a v3 hq
    obtain ⟨m, rfl, k7, rfl⟩ := (NoPanic.imp _ _ _ hq).out
    clear hq k3 v0
    go_wp2_with fail
    refine (HS.out _).mono ?_
    rintro e v4 ⟨rfl, y4⟩
    have k8 := k7.new y4
    clear k7 y4 v3
    have S1 : SgAt (v4.alloc (.cells #[.int .i64 s.k, .int .i64 s.l, .int .i64 s.e, .int .i64 s.c, .int .i64 s.g, .int .i64 s.t, .int .i64 s.a, .int .i64 s.o] 102)) v4.heap.size s := sgAt_new v4 s
    have k9 := k8.new (World.grownBy_alloc v4 (.cells #[.int .i64 s.k, .int .i64 s.l, .int .i64 s.e, .int .i64 s.c, .int .i64 s.g, .int .i64 s.t, .int .i64 s.a, .int .i64 s.o] 102) none)
    have lu := k8.lt
    clear k8
    go_wp2_with (first | (refine wpL_load rfl .i64 43 _ rfl w.heap.size 0 rfl L k9.box.f ⟨_, Tryz.uY⟩ Tryz.sY ?_))
    obtain ⟨u, hu⟩ : ∃ u, u = v4.heap.size := ⟨_, rfl⟩
    rw [← hu] at S1 lu ⊢
    generalize v4.alloc (.cells #[.int .i64 s.k, .int .i64 s.l, .int .i64 s.e, .int .i64 s.c, .int .i64 s.g, .int .i64 s.t, .int .i64 s.a, .int .i64 s.o] 102) = v4b at k9 S1 ⊢
    clear hu v4
    refine (bound_any L 8380417 _).mono ?_
    rintro e v5 ⟨bx, rfl, hbx, y5⟩
    have k10 := k9.new y5
    have S2 := S1.new y5
    clear k9 S1 y5
    obtain rfl : bx = false := by cases bx with | false => rfl | true => exact absurd (hbx.1 rfl) hL
    clear hbx
    go_wp2_with (first | (refine wpL_load rfl .i64 43 _ rfl (w.heap.size + 1) 0 rfl M k10.box.h ⟨_, Tryz.uY⟩ Tryz.sY ?_))
    refine (bound_any M 8380417 _).mono ?_
    rintro e v6 ⟨by6, rfl, hby, y6⟩
    have k11 := k10.new y6
    have S3 := S2.new y6
    clear k10 S2 y6
    clear hby
    have m7 := new_alloc .i64 v6 (fun _ => 0) 43
    rw [← Tryz.zY] at m7
    have c8 := m7.r
    have k12 := k11.new m7.g
    have S4 := S3.new m7.g
    have l8 := k11.lt
    clear k11 S3 m7
    obtain ⟨z, hz⟩ : ∃ z, z = v6.heap.size := ⟨_, rfl⟩
    rw [← hz] at c8 l8
    go_wp2_with fail
    rw [← hz]
    clear hz
    generalize v6.alloc (.cells Tryz.zeroCells43 43) = v7 at *
    have hE9 := hE.new k12.box.g
    refine (ltold_err 5 _ hE9 (by decide)).mono ?_
    rintro e v9 ⟨rfl, y9⟩
    have k14 := k12.new y9
    have c11 := c8.new y9
    clear k12 c8 y9 hE9 S4
    go_wp2_with (first | (refine wpL_load rfl .i64 71 _ rfl m 0 rfl _ k14.x ⟨_, Tryz.uA⟩ Tryz.sA ?_) | (refine wpL_load rfl .i64 43 _ rfl z 0 rfl _ c11 ⟨_, Tryz.uY⟩ Tryz.sY ?_))
    refine (is_same _ _ (fun _ _ => rfl) _).mono ?_
    rintro e v12 ⟨rfl, y12⟩
    have k15 := k14.new y12
    have c12 := c11.new y12
    clear k14 c11 y12
    have lz : w.heap.size + 1 + 1 < z := by have := k15.l; omega
    go_wp2_with (first | (refine wpL_load rfl .i64 43 _ rfl z 0 rfl _ c12 ⟨_, Tryz.uY⟩ Tryz.sY ?_) | (refine wpL_store rfl .i64 43 _ _ rfl (w.heap.size + 1 + 1) 0 rfl _ rfl .i64 _ k15.box.r Tryz.sY ?_; intro v13 p13; have k16 := k15.box.g; have c13 := p13.r; have g13 := grown_new k16 p13.g (by omega)))
    refine bodyPost_ret (res2 Tryz.results32 .i64 _ v13 (w.heap.size + 1 + 1) _ _ rfl rfl c13 ⟨_, Tryz.uY⟩ Tryz.sY) rfl ⟨rfl, g13⟩
  · refine wp_region_inv (fun l a W => ∃ (b0 b1 b2 b3 b4 b5 b6 b7 b8 b9 b10 b11 b12 b13 : Bool) (m : Nat), l = #[b0, b1, b2, b3, b4, b5, b6, b7, b8, b9, b10, b11, b12, b13] ∧ a = ⟨((.int .i64 d : Value) :: (.agg (polyA .i64 L) : Value) :: (.agg (polyA .i64 M) : Value) :: undef :: (.pointer (some ⟨w.heap.size, 0, none⟩) : Value) :: (.pointer (some ⟨w.heap.size + 1, 0, none⟩) : Value) :: (.pointer (some ⟨w.heap.size + 1 + 1, 0, none⟩) : Value) :: (.bool false : Value) :: (bif b10 then (.pointer (some ⟨m, 0, none⟩) : Value) else undef) :: (bif b12 then (.int .i64 0 : Value) else undef) :: (bif b13 then (.iface 138 (.int .i64 5) : Value) else undef) :: undef :: undef :: undef :: undef :: undef :: undef :: undef :: undef :: undef :: (bif b6 then (.tuple #[.agg (polyA .i64 (fun _ => 0)), .int .i64 0, .iface 138 (.int .i64 5)] : Value) else undef) :: (bif b0 then (.int .i64 d : Value) else undef) :: (bif b1 then (.agg (polyA .i64 L) : Value) else undef) :: (bif b2 then (.agg (polyA .i64 L) : Value) else undef) :: (bif b3 then (.agg (polyA .i64 M) : Value) else undef) :: (bif b4 then (.agg (polyA .i64 M) : Value) else undef) :: (bif b5 then (.tuple #[.agg (polyA .i64 (fun _ => 0)), .int .i64 0, .iface 138 (.int .i64 5)] : Value) else undef) :: (bif b7 then (.agg (polyA .i64 (fun _ => 0)) : Value) else undef) :: (bif b8 then (.int .i64 0 : Value) else undef) :: (bif b9 then (.iface 138 (.int .i64 5) : Value) else undef) :: undef :: undef :: undef :: undef :: undef :: undef :: undef :: undef :: undef :: undef :: undef :: undef :: undef :: undef :: undef :: undef :: undef :: undef :: undef :: undef :: undef :: undef :: undef :: undef :: undef :: undef :: undef :: undef :: undef :: undef :: undef :: undef :: undef :: undef :: undef :: undef :: undef :: undef :: undef :: undef :: undef :: undef :: []).toArray, []⟩ ∧ Box3 w W L M ∧ Slt w W m (fun _ => 0) b10 b11 ∧ (b10 = false → b11 = false)) (by kernel_rfl) ?h0 ?hs ?he
    case h0 => exact ⟨false, false, false, false, false, false, false, false, false, false, false, false, false, false, 0, rfl, rfl, box3_drew k3, (fun h => by cases h), (fun _ => rfl)⟩
    case hs =>
      rintro l a W ⟨b0, b1, b2, b3, b4, b5, b6, b7, b8, b9, b10, b11, b12, b13, m, rfl, rfl, hB, hA, hC⟩ i hi
      have hf := (ready_mem hi).2.1
      have hlt : i < 14 := (ready_mem hi).1
      have hcs : i = 0 ∨ i = 1 ∨ i = 2 ∨ i = 3 ∨ i = 4 ∨ i = 5 ∨ i = 6 ∨ i = 7 ∨ i = 8 ∨ i = 9 ∨ i = 10 ∨ i = 11 ∨ i = 12 ∨ i = 13 := by omega
      rcases hcs with rfl | rfl | rfl | rfl | rfl | rfl | rfl | rfl | rfl | rfl | rfl | rfl | rfl | rfl
      · obtain rfl : b0 = false := hf
        clear hlt
        clear hi
        refine wpOp_step rfl (fun K hK => ?_)
        go_simp
        exact hK _ _ ⟨true, b1, b2, b3, b4, b5, b6, b7, b8, b9, b10, b11, b12, b13, m, rfl, rfl, hB, hA, hC⟩
      · obtain rfl : b1 = false := hf
        clear hlt
        clear hi
        have ld := run_hidLd W w.heap.size 0 L hB.f
        refine wpOp_step rfl (fun K hK => ?_)
        go_simp
        exact hK _ _ ⟨b0, true, b2, b3, b4, b5, b6, b7, b8, b9, b10, b11, b12, b13, m, rfl, rfl, hB, hA, hC⟩
      · obtain rfl : b2 = false := hf
        clear hlt
        obtain rfl : b1 = true := ready_dep hi 1 (by kernel_rfl)
        clear hi
        refine wpOp_step rfl (fun K hK => ?_)
        go_wp2_with (go_at_call 50; refine (lpoly_any L _).mono ?_; rintro e v1 ⟨rfl, y1⟩)
        exact ⟨b0, true, true, b3, b4, b5, b6, b7, b8, b9, b10, b11, b12, b13, m, rfl, rfl, hB.new y1, hA.new y1, hC⟩
      · obtain rfl : b3 = false := hf
        clear hlt
        clear hi
        have ld := run_hidLd W (w.heap.size + 1) 0 M hB.h
        refine wpOp_step rfl (fun K hK => ?_)
        go_simp
        exact hK _ _ ⟨b0, b1, b2, true, b4, b5, b6, b7, b8, b9, b10, b11, b12, b13, m, rfl, rfl, hB, hA, hC⟩
      · obtain rfl : b4 = false := hf
        clear hlt
        obtain rfl : b3 = true := ready_dep hi 3 (by kernel_rfl)
        obtain rfl : b2 = true := ready_dep hi 2 (by kernel_rfl)
        clear hi
        refine wpOp_step rfl (fun K hK => ?_)
        go_wp2_with (go_at_call 50; refine (lpoly_any M _).mono ?_; rintro e v1 ⟨rfl, y1⟩)
        exact ⟨b0, b1, true, true, true, b5, b6, b7, b8, b9, b10, b11, b12, b13, m, rfl, rfl, hB.new y1, hA.new y1, hC⟩
      · obtain rfl : b5 = false := hf
        clear hlt
        obtain rfl : b0 = true := ready_dep hi 0 (by kernel_rfl)
        obtain rfl : b2 = true := ready_dep hi 2 (by kernel_rfl)
        obtain rfl : b4 = true := ready_dep hi 4 (by kernel_rfl)
        clear hi
        refine wpOp_step rfl (fun K hK => ?_)
        go_wp2_with (go_at_call 69; refine (HA.out _).mono ?_; rintro e v1 ⟨rfl, y1⟩)
        exact ⟨true, b1, true, b3, true, true, b6, b7, b8, b9, b10, b11, b12, b13, m, rfl, rfl, hB.new y1, hA.new y1, hC⟩
      · obtain rfl : b6 = false := hf
        clear hlt
        obtain rfl : b5 = true := ready_dep hi 5 (by kernel_rfl)
        clear hi
        refine wpOp_step rfl (fun K hK => ?_)
        go_simp
        exact hK _ _ ⟨b0, b1, b2, b3, b4, true, true, b7, b8, b9, b10, b11, b12, b13, m, rfl, rfl, hB, hA, hC⟩
      · obtain rfl : b7 = false := hf
        clear hlt
        obtain rfl : b6 = true := ready_dep hi 6 (by kernel_rfl)
        clear hi
        refine wpOp_step rfl (fun K hK => ?_)
        go_simp
        exact hK _ _ ⟨b0, b1, b2, b3, b4, b5, true, true, b8, b9, b10, b11, b12, b13, m, rfl, rfl, hB, hA, hC⟩
      · obtain rfl : b8 = false := hf
        clear hlt
        obtain rfl : b6 = true := ready_dep hi 6 (by kernel_rfl)
        clear hi
        refine wpOp_step rfl (fun K hK => ?_)
        go_simp
        exact hK _ _ ⟨b0, b1, b2, b3, b4, b5, true, b7, true, b9, b10, b11, b12, b13, m, rfl, rfl, hB, hA, hC⟩
      · obtain rfl : b9 = false := hf
        clear hlt
        obtain rfl : b6 = true := ready_dep hi 6 (by kernel_rfl)
        clear hi
        refine wpOp_step rfl (fun K hK => ?_)
        go_simp
        exact hK _ _ ⟨b0, b1, b2, b3, b4, b5, true, b7, b8, true, b10, b11, b12, b13, m, rfl, rfl, hB, hA, hC⟩
      · obtain rfl : b10 = false := hf
        clear hlt
        clear hi
        refine wpOp_step rfl (fun K hK => ?_)
        go_simp
        exact hK _ _ ⟨b0, b1, b2, b3, b4, b5, b6, b7, b8, b9, true, b11, b12, b13, W.heap.size, rfl, rfl, hB.new (World.grownBy_alloc W _ none), Slt.mk (hC rfl) hB, (fun h => hC rfl)⟩
      · obtain rfl : b11 = false := hf
        clear hlt
        obtain rfl : b10 = true := ready_dep hi 10 (by kernel_rfl)
        obtain rfl : b7 = true := ready_dep hi 7 (by kernel_rfl)
        clear hi
        have st := run_hidStA W m (fun _ => 0) _ (hA rfl).2
        have q := slt_end hB hA
        refine wpOp_step rfl (fun K hK => ?_)
        go_simp
        exact hK _ _ ⟨b0, b1, b2, b3, b4, b5, b6, true, b8, b9, true, true, b12, b13, m, rfl, rfl, q.1, q.2, (fun h => by cases h)⟩
      · obtain rfl : b12 = false := hf
        clear hlt
        obtain rfl : b8 = true := ready_dep hi 8 (by kernel_rfl)
        clear hi
        refine wpOp_step rfl (fun K hK => ?_)
        go_simp
        exact hK _ _ ⟨b0, b1, b2, b3, b4, b5, b6, b7, true, b9, b10, b11, true, b13, m, rfl, rfl, hB, hA, hC⟩
      · obtain rfl : b13 = false := hf
        clear hlt
        obtain rfl : b9 = true := ready_dep hi 9 (by kernel_rfl)
        clear hi
        refine wpOp_step rfl (fun K hK => ?_)
        go_simp
        exact hK _ _ ⟨b0, b1, b2, b3, b4, b5, b6, b7, b8, true, b10, b11, b12, true, m, rfl, rfl, hB, hA, hC⟩
    case he =>
      rintro l a W ⟨b0, b1, b2, b3, b4, b5, b6, b7, b8, b9, b10, b11, b12, b13, m, rfl, rfl, hB, hA, hC⟩ hr
      have hall := ready_all hr (by kernel_rfl) rfl
      clear hr
      obtain rfl : b0 = true := hall 0 (by decide)
      obtain rfl : b1 = true := hall 1 (by decide)
      obtain rfl : b2 = true := hall 2 (by decide)
      obtain rfl : b3 = true := hall 3 (by decide)
      obtain rfl : b4 = true := hall 4 (by decide)
      obtain rfl : b5 = true := hall 5 (by decide)
      obtain rfl : b6 = true := hall 6 (by decide)
      obtain rfl : b7 = true := hall 7 (by decide)
      obtain rfl : b8 = true := hall 8 (by decide)
      obtain rfl : b9 = true := hall 9 (by decide)
      obtain rfl : b10 = true := hall 10 (by decide)
      obtain rfl : b11 = true := hall 11 (by decide)
      obtain rfl : b12 = true := hall 12 (by decide)
      obtain rfl : b13 = true := hall 13 (by decide)
      clear hall
      exact NoPanic.normal (hidj ⟨m, rfl, ⟨hB, (hA rfl).2, (hA rfl).1⟩, rfl⟩)
set_option maxHeartbeats 4000000 in
set_option maxRecDepth 20000 in
theorem hinted_b2 (d : Int) (L M : Nat → Int) (s : Sg) (hL : InB L 8380417) (hM : ¬ InB M 8380417)
    (HS : Hid (∀ W, Calls Tryz.prog 64 #[.int .i64 d] W fun e w' => e = .returned (.tuple #[sgV s, .bool true]) ∧ W.grownBy w' none))
    (HA : Hid (∀ W, Calls Tryz.prog 69 #[.int .i64 d, .agg (polyA .i64 L), .agg (polyA .i64 M)] W fun e w' => e = .returned (.tuple #[.agg (polyA .i64 (fun _ => 0)), .int .i64 0, .iface 138 (.int .i64 5)]) ∧ W.grownBy w' none))
    (w : World) (hE : Et w) : Calls Tryz.prog 32 #[.int .i64 d, .agg (polyA .i64 L), .agg (polyA .i64 M)] w fun e w' => e = .returned (.tuple #[.agg (polyA .i64 (fun _ => 0)), .bool true]) ∧ w.grownBy w' none := by
  have k3 := box3_mk w L M
  go_enter Tryz.func32, Tryz.ntmps32
  go_wp2_with fail
  generalize ((w.alloc (.cells (polyA .i64 L) 43)).alloc (.cells (polyA .i64 M) 43)).alloc (.cells Tryz.zeroCells43 43) = v0 at *
  refine Code.wp_mono (Q := NoPanic fun e a' W => Hid (∃ (m : Nat), e = .normal ∧ Hin w W m L M (fun _ => 0) ∧ a' = ⟨((.int .i64 d : Value) :: (.agg (polyA .i64 L) : Value) :: (.agg (polyA .i64 M) : Value) :: undef :: (.pointer (some ⟨w.heap.size, 0, none⟩) : Value) :: (.pointer (some ⟨w.heap.size + 1, 0, none⟩) : Value) :: (.pointer (some ⟨w.heap.size + 1 + 1, 0, none⟩) : Value) :: (.bool false : Value) :: (.pointer (some ⟨m, 0, none⟩) : Value) :: (.int .i64 0 : Value) :: (.iface 138 (.int .i64 5) : Value) :: undef :: undef :: undef :: undef :: undef :: undef :: undef :: undef :: undef :: (.tuple #[.agg (polyA .i64 (fun _ => 0)), .int .i64 0, .iface 138 (.int .i64 5)] : Value) :: (.int .i64 d : Value) :: (.agg (polyA .i64 L) : Value) :: (.agg (polyA .i64 L) : Value) :: (.agg (polyA .i64 M) : Value) :: (.agg (polyA .i64 M) : Value) :: (.tuple #[.agg (polyA .i64 (fun _ => 0)), .int .i64 0, .iface 138 (.int .i64 5)] : Value) :: (.agg (polyA .i64 (fun _ => 0)) : Value) :: (.int .i64 0 : Value) :: (.iface 138 (.int .i64 5) : Value) :: undef :: undef :: undef :: undef :: undef :: undef :: undef :: undef :: undef :: undef :: undef :: undef :: undef :: undef :: undef :: undef :: undef :: undef :: undef :: undef :: undef :: undef :: undef :: undef :: undef :: undef :: undef :: undef :: undef :: undef :: undef :: undef :: undef :: undef :: undef :: undef :: undef :: undef :: undef :: undef :: undef :: undef :: []).toArray, []⟩)) ?_ ?_
  · rintro e a v3 hq
    obtain ⟨m, rfl, k7, rfl⟩ := (NoPanic.imp _ _ _ hq).out
    clear hq k3 v0
    go_wp2_with fail
    refine (HS.out _).mono ?_
    rintro e v4 ⟨rfl, y4⟩
    have k8 := k7.new y4
    clear k7 y4 v3
    have S1 : SgAt (v4.alloc (.cells #[.int .i64 s.k, .int .i64 s.l, .int .i64 s.e, .int .i64 s.c, .int .i64 s.g, .int .i64 s.t, .int .i64 s.a, .int .i64 s.o] 102)) v4.heap.size s := sgAt_new v4 s
    have k9 := k8.new (World.grownBy_alloc v4 (.cells #[.int .i64 s.k, .int .i64 s.l, .int .i64 s.e, .int .i64 s.c, .int .i64 s.g, .int .i64 s.t, .int .i64 s.a, .int .i64 s.o] 102) none)
    have lu := k8.lt
    clear k8
    go_wp2_with (first | (refine wpL_load rfl .i64 43 _ rfl w.heap.size 0 rfl L k9.box.f ⟨_, Tryz.uY⟩ Tryz.sY ?_))
    obtain ⟨u, hu⟩ : ∃ u, u = v4.heap.size := ⟨_, rfl⟩
    rw [← hu] at S1 lu ⊢
    generalize v4.alloc (.cells #[.int .i64 s.k, .int .i64 s.l, .int .i64 s.e, .int .i64 s.c, .int .i64 s.g, .int .i64 s.t, .int .i64 s.a, .int .i64 s.o] 102) = v4b at k9 S1 ⊢
    clear hu v4
    refine (bound_any L 8380417 _).mono ?_
    rintro e v5 ⟨bx, rfl, hbx, y5⟩
    have k10 := k9.new y5
    have S2 := S1.new y5
    clear k9 S1 y5
    obtain rfl : bx = true := hbx.2 hL
    clear hbx
    go_wp2_with (first | (refine wpL_load rfl .i64 43 _ rfl (w.heap.size + 1) 0 rfl M k10.box.h ⟨_, Tryz.uY⟩ Tryz.sY ?_))
    refine (bound_any M 8380417 _).mono ?_
    rintro e v6 ⟨by6, rfl, hby, y6⟩
    have k11 := k10.new y6
    have S3 := S2.new y6
    clear k10 S2 y6
    obtain rfl : by6 = false := by cases by6 with | false => rfl | true => exact absurd (hby.1 rfl) hM
    clear hby
    have m7 := new_alloc .i64 v6 (fun _ => 0) 43
    rw [← Tryz.zY] at m7
    have c8 := m7.r
    have k12 := k11.new m7.g
    have S4 := S3.new m7.g
    have l8 := k11.lt
    clear k11 S3 m7
    obtain ⟨z, hz⟩ : ∃ z, z = v6.heap.size := ⟨_, rfl⟩
    rw [← hz] at c8 l8
    go_wp2_with fail
    rw [← hz]
    clear hz
    generalize v6.alloc (.cells Tryz.zeroCells43 43) = v7 at *
    have hE9 := hE.new k12.box.g
    refine (ltold_err 5 _ hE9 (by decide)).mono ?_
    rintro e v9 ⟨rfl, y9⟩
    have k14 := k12.new y9
    have c11 := c8.new y9
    clear k12 c8 y9 hE9 S4
    go_wp2_with (first | (refine wpL_load rfl .i64 71 _ rfl m 0 rfl _ k14.x ⟨_, Tryz.uA⟩ Tryz.sA ?_) | (refine wpL_load rfl .i64 43 _ rfl z 0 rfl _ c11 ⟨_, Tryz.uY⟩ Tryz.sY ?_))
    refine (is_same _ _ (fun _ _ => rfl) _).mono ?_
    rintro e v12 ⟨rfl, y12⟩
    have k15 := k14.new y12
    have c12 := c11.new y12
    clear k14 c11 y12
    have lz : w.heap.size + 1 + 1 < z := by have := k15.l; omega
    go_wp2_with (first | (refine wpL_load rfl .i64 43 _ rfl z 0 rfl _ c12 ⟨_, Tryz.uY⟩ Tryz.sY ?_) | (refine wpL_store rfl .i64 43 _ _ rfl (w.heap.size + 1 + 1) 0 rfl _ rfl .i64 _ k15.box.r Tryz.sY ?_; intro v13 p13; have k16 := k15.box.g; have c13 := p13.r; have g13 := grown_new k16 p13.g (by omega)))
    refine bodyPost_ret (res2 Tryz.results32 .i64 _ v13 (w.heap.size + 1 + 1) _ _ rfl rfl c13 ⟨_, Tryz.uY⟩ Tryz.sY) rfl ⟨rfl, g13⟩
  · refine wp_region_inv (fun l a W => ∃ (b0 b1 b2 b3 b4 b5 b6 b7 b8 b9 b10 b11 b12 b13 : Bool) (m : Nat), l = #[b0, b1, b2, b3, b4, b5, b6, b7, b8, b9, b10, b11, b12, b13] ∧ a = ⟨((.int .i64 d : Value) :: (.agg (polyA .i64 L) : Value) :: (.agg (polyA .i64 M) : Value) :: undef :: (.pointer (some ⟨w.heap.size, 0, none⟩) : Value) :: (.pointer (some ⟨w.heap.size + 1, 0, none⟩) : Value) :: (.pointer (some ⟨w.heap.size + 1 + 1, 0, none⟩) : Value) :: (.bool false : Value) :: (bif b10 then (.pointer (some ⟨m, 0, none⟩) : Value) else undef) :: (bif b12 then (.int .i64 0 : Value) else undef) :: (bif b13 then (.iface 138 (.int .i64 5) : Value) else undef) :: undef :: undef :: undef :: undef :: undef :: undef :: undef :: undef :: undef :: (bif b6 then (.tuple #[.agg (polyA .i64 (fun _ => 0)), .int .i64 0, .iface 138 (.int .i64 5)] : Value) else undef) :: (bif b0 then (.int .i64 d : Value) else undef) :: (bif b1 then (.agg (polyA .i64 L) : Value) else undef) :: (bif b2 then (.agg (polyA .i64 L) : Value) else undef) :: (bif b3 then (.agg (polyA .i64 M) : Value) else undef) :: (bif b4 then (.agg (polyA .i64 M) : Value) else undef) :: (bif b5 then (.tuple #[.agg (polyA .i64 (fun _ => 0)), .int .i64 0, .iface 138 (.int .i64 5)] : Value) else undef) :: (bif b7 then (.agg (polyA .i64 (fun _ => 0)) : Value) else undef) :: (bif b8 then (.int .i64 0 : Value) else undef) :: (bif b9 then (.iface 138 (.int .i64 5) : Value) else undef) :: undef :: undef :: undef :: undef :: undef :: undef :: undef :: undef :: undef :: undef :: undef :: undef :: undef :: undef :: undef :: undef :: undef :: undef :: undef :: undef :: undef :: undef :: undef :: undef :: undef :: undef :: undef :: undef :: undef :: undef :: undef :: undef :: undef :: undef :: undef :: undef :: undef :: undef :: undef :: undef :: undef :: undef :: []).toArray, []⟩ ∧ Box3 w W L M ∧ Slt w W m (fun _ => 0) b10 b11 ∧ (b10 = false → b11 = false)) (by kernel_rfl) ?h0 ?hs ?he
    case h0 => exact ⟨false, false, false, false, false, false, false, false, false, false, false, false, false, false, 0, rfl, rfl, box3_drew k3, (fun h => by cases h), (fun _ => rfl)⟩
    case hs =>
      rintro l a W ⟨b0, b1, b2, b3, b4, b5, b6, b7, b8, b9, b10, b11, b12, b13, m, rfl, rfl, hB, hA, hC⟩ i hi
      have hf := (ready_mem hi).2.1
      have hlt : i < 14 := (ready_mem hi).1
      have hcs : i = 0 ∨ i = 1 ∨ i = 2 ∨ i = 3 ∨ i = 4 ∨ i = 5 ∨ i = 6 ∨ i = 7 ∨ i = 8 ∨ i = 9 ∨ i = 10 ∨ i = 11 ∨ i = 12 ∨ i = 13 := by omega
      rcases hcs with rfl | rfl | rfl | rfl | rfl | rfl | rfl | rfl | rfl | rfl | rfl | rfl | rfl | rfl
      · obtain rfl : b0 = false := hf
        clear hlt
        clear hi
        refine wpOp_step rfl (fun K hK => ?_)
        go_simp
        exact hK _ _ ⟨true, b1, b2, b3, b4, b5, b6, b7, b8, b9, b10, b11, b12, b13, m, rfl, rfl, hB, hA, hC⟩
      · obtain rfl : b1 = false := hf
        clear hlt
        clear hi
        have ld := run_hidLd W w.heap.size 0 L hB.f
        refine wpOp_step rfl (fun K hK => ?_)
        go_simp
        exact hK _ _ ⟨b0, true, b2, b3, b4, b5, b6, b7, b8, b9, b10, b11, b12, b13, m, rfl, rfl, hB, hA, hC⟩
      · obtain rfl : b2 = false := hf
        clear hlt
        obtain rfl : b1 = true := ready_dep hi 1 (by kernel_rfl)
        clear hi
        refine wpOp_step rfl (fun K hK => ?_)
        go_wp2_with (go_at_call 50; refine (lpoly_any L _).mono ?_; rintro e v1 ⟨rfl, y1⟩)
        exact ⟨b0, true, true, b3, b4, b5, b6, b7, b8, b9, b10, b11, b12, b13, m, rfl, rfl, hB.new y1, hA.new y1, hC⟩
      · obtain rfl : b3 = false := hf
        clear hlt
        clear hi
        have ld := run_hidLd W (w.heap.size + 1) 0 M hB.h
        refine wpOp_step rfl (fun K hK => ?_)
        go_simp
        exact hK _ _ ⟨b0, b1, b2, true, b4, b5, b6, b7, b8, b9, b10, b11, b12, b13, m, rfl, rfl, hB, hA, hC⟩
      · obtain rfl : b4 = false := hf
        clear hlt
        obtain rfl : b3 = true := ready_dep hi 3 (by kernel_rfl)
        obtain rfl : b2 = true := ready_dep hi 2 (by kernel_rfl)
        clear hi
        refine wpOp_step rfl (fun K hK => ?_)
        go_wp2_with (go_at_call 50; refine (lpoly_any M _).mono ?_; rintro e v1 ⟨rfl, y1⟩)
        exact ⟨b0, b1, true, true, true, b5, b6, b7, b8, b9, b10, b11, b12, b13, m, rfl, rfl, hB.new y1, hA.new y1, hC⟩
      · obtain rfl : b5 = false := hf
        clear hlt
        obtain rfl : b0 = true := ready_dep hi 0 (by kernel_rfl)
        obtain rfl : b2 = true := ready_dep hi 2 (by kernel_rfl)
        obtain rfl : b4 = true := ready_dep hi 4 (by kernel_rfl)
        clear hi
        refine wpOp_step rfl (fun K hK => ?_)
        go_wp2_with (go_at_call 69; refine (HA.out _).mono ?_; rintro e v1 ⟨rfl, y1⟩)
        exact ⟨true, b1, true, b3, true, true, b6, b7, b8, b9, b10, b11, b12, b13, m, rfl, rfl, hB.new y1, hA.new y1, hC⟩
      · obtain rfl : b6 = false := hf
        clear hlt
        obtain rfl : b5 = true := ready_dep hi 5 (by kernel_rfl)
        clear hi
        refine wpOp_step rfl (fun K hK => ?_)
        go_simp
        exact hK _ _ ⟨b0, b1, b2, b3, b4, true, true, b7, b8, b9, b10, b11, b12, b13, m, rfl, rfl, hB, hA, hC⟩
      · obtain rfl : b7 = false := hf
        clear hlt
        obtain rfl : b6 = true := ready_dep hi 6 (by kernel_rfl)
        clear hi
        refine wpOp_step rfl (fun K hK => ?_)
        go_simp
        exact hK _ _ ⟨b0, b1, b2, b3, b4, b5, true, true, b8, b9, b10, b11, b12, b13, m, rfl, rfl, hB, hA, hC⟩
      · obtain rfl : b8 = false := hf
        clear hlt
        obtain rfl : b6 = true := ready_dep hi 6 (by kernel_rfl)
        clear hi
        refine wpOp_step rfl (fun K hK => ?_)
        go_simp
        exact hK _ _ ⟨b0, b1, b2, b3, b4, b5, true, b7, true, b9, b10, b11, b12, b13, m, rfl, rfl, hB, hA, hC⟩
      · obtain rfl : b9 = false := hf
        clear hlt
        obtain rfl : b6 = true := ready_dep hi 6 (by kernel_rfl)
        clear hi
        refine wpOp_step rfl (fun K hK => ?_)
        go_simp
        exact hK _ _ ⟨b0, b1, b2, b3, b4, b5, true, b7, b8, true, b10, b11, b12, b13, m, rfl, rfl, hB, hA, hC⟩
      · obtain rfl : b10 = false := hf
        clear hlt
        clear hi
        refine wpOp_step rfl (fun K hK => ?_)
        go_simp
        exact hK _ _ ⟨b0, b1, b2, b3, b4, b5, b6, b7, b8, b9, true, b11, b12, b13, W.heap.size, rfl, rfl, hB.new (World.grownBy_alloc W _ none), Slt.mk (hC rfl) hB, (fun h => hC rfl)⟩
      · obtain rfl : b11 = false := hf
        clear hlt
        obtain rfl : b10 = true := ready_dep hi 10 (by kernel_rfl)
        obtain rfl : b7 = true := ready_dep hi 7 (by kernel_rfl)
        clear hi
        have st := run_hidStA W m (fun _ => 0) _ (hA rfl).2
        have q := slt_end hB hA
        refine wpOp_step rfl (fun K hK => ?_)
        go_simp
        exact hK _ _ ⟨b0, b1, b2, b3, b4, b5, b6, true, b8, b9, true, true, b12, b13, m, rfl, rfl, q.1, q.2, (fun h => by cases h)⟩
      · obtain rfl : b12 = false := hf
        clear hlt
        obtain rfl : b8 = true := ready_dep hi 8 (by kernel_rfl)
        clear hi
        refine wpOp_step rfl (fun K hK => ?_)
        go_simp
        exact hK _ _ ⟨b0, b1, b2, b3, b4, b5, b6, b7, true, b9, b10, b11, true, b13, m, rfl, rfl, hB, hA, hC⟩
      · obtain rfl : b13 = false := hf
        clear hlt
        obtain rfl : b9 = true := ready_dep hi 9 (by kernel_rfl)
        clear hi
        refine wpOp_step rfl (fun K hK => ?_)
        go_simp
        exact hK _ _ ⟨b0, b1, b2, b3, b4, b5, b6, b7, b8, true, b10, b11, b12, true, m, rfl, rfl, hB, hA, hC⟩
    case he =>
      rintro l a W ⟨b0, b1, b2, b3, b4, b5, b6, b7, b8, b9, b10, b11, b12, b13, m, rfl, rfl, hB, hA, hC⟩ hr
      have hall := ready_all hr (by kernel_rfl) rfl
      clear hr
      obtain rfl : b0 = true := hall 0 (by decide)
      obtain rfl : b1 = true := hall 1 (by decide)
      obtain rfl : b2 = true := hall 2 (by decide)
      obtain rfl : b3 = true := hall 3 (by decide)
      obtain rfl : b4 = true := hall 4 (by decide)
      obtain rfl : b5 = true := hall 5 (by decide)
      obtain rfl : b6 = true := hall 6 (by decide)
      obtain rfl : b7 = true := hall 7 (by decide)
      obtain rfl : b8 = true := hall 8 (by decide)
      obtain rfl : b9 = true := hall 9 (by decide)
      obtain rfl : b10 = true := hall 10 (by decide)
      obtain rfl : b11 = true := hall 11 (by decide)
      obtain rfl : b12 = true := hall 12 (by decide)
      obtain rfl : b13 = true := hall 13 (by decide)
      clear hall
      exact NoPanic.normal (hidj ⟨m, rfl, ⟨hB, (hA rfl).2, (hA rfl).1⟩, rfl⟩)
set_option maxHeartbeats 4000000 in
set_option maxRecDepth 20000 in
theorem hinted_k (d : Int) (L M : Nat → Int) (s : Sg) (X X1 : Nat → Int) (n : Int) (hX : ∀ j, j < 256 → X1 j = X j) (hL : InB L 8380417) (hM : InB M 8380417)
    (HS : Hid (∀ W, Calls Tryz.prog 64 #[.int .i64 d] W fun e w' => e = .returned (.tuple #[sgV s, .bool true]) ∧ W.grownBy w' none))
    (HA : Hid (∀ W, Calls Tryz.prog 69 #[.int .i64 d, .agg (polyA .i64 L), .agg (polyA .i64 M)] W fun e w' => e = .returned (.tuple #[.agg (polyA .i64 X1), .int .i64 n, .nilIface]) ∧ W.grownBy w' none))
    (HR : Hid (∀ W, Calls Tryz.prog 70 #[sgV s, .agg (polyA .i64 L), .agg (polyA .i64 M)] W fun e w' => e = .returned (.tuple #[.agg (polyA .i64 X), .int .i64 n]) ∧ W.grownBy w' none))
    (w : World) : Calls Tryz.prog 32 #[.int .i64 d, .agg (polyA .i64 L), .agg (polyA .i64 M)] w fun e w' => e = .returned (.tuple #[.agg (polyA .i64 X), .bool true]) ∧ w.grownBy w' none := by
  have k3 := box3_mk w L M
  have HX : Hid (∀ j, j < 256 → X1 j = X j) := hX
  clear hX
  go_enter Tryz.func32, Tryz.ntmps32
  go_wp2_with fail
  generalize ((w.alloc (.cells (polyA .i64 L) 43)).alloc (.cells (polyA .i64 M) 43)).alloc (.cells Tryz.zeroCells43 43) = v0 at *
  refine Code.wp_mono (Q := NoPanic fun e a' W => Hid (∃ (m : Nat), e = .normal ∧ Hin w W m L M X1 ∧ a' = ⟨((.int .i64 d : Value) :: (.agg (polyA .i64 L) : Value) :: (.agg (polyA .i64 M) : Value) :: undef :: (.pointer (some ⟨w.heap.size, 0, none⟩) : Value) :: (.pointer (some ⟨w.heap.size + 1, 0, none⟩) : Value) :: (.pointer (some ⟨w.heap.size + 1 + 1, 0, none⟩) : Value) :: (.bool false : Value) :: (.pointer (some ⟨m, 0, none⟩) : Value) :: (.int .i64 n : Value) :: (.nilIface : Value) :: undef :: undef :: undef :: undef :: undef :: undef :: undef :: undef :: undef :: (.tuple #[.agg (polyA .i64 X1), .int .i64 n, .nilIface] : Value) :: (.int .i64 d : Value) :: (.agg (polyA .i64 L) : Value) :: (.agg (polyA .i64 L) : Value) :: (.agg (polyA .i64 M) : Value) :: (.agg (polyA .i64 M) : Value) :: (.tuple #[.agg (polyA .i64 X1), .int .i64 n, .nilIface] : Value) :: (.agg (polyA .i64 X1) : Value) :: (.int .i64 n : Value) :: (.nilIface : Value) :: undef :: undef :: undef :: undef :: undef :: undef :: undef :: undef :: undef :: undef :: undef :: undef :: undef :: undef :: undef :: undef :: undef :: undef :: undef :: undef :: undef :: undef :: undef :: undef :: undef :: undef :: undef :: undef :: undef :: undef :: undef :: undef :: undef :: undef :: undef :: undef :: undef :: undef :: undef :: undef :: undef :: undef :: []).toArray, []⟩)) ?_ ?_
  · rintro e a v3 hq
    obtain ⟨m, rfl, k7, rfl⟩ := (NoPanic.imp _ _ _ hq).out
    clear hq k3 v0
    go_wp2_with fail
    refine (HS.out _).mono ?_
    rintro e v4 ⟨rfl, y4⟩
    have k8 := k7.new y4
    clear k7 y4 v3
    have S1 : SgAt (v4.alloc (.cells #[.int .i64 s.k, .int .i64 s.l, .int .i64 s.e, .int .i64 s.c, .int .i64 s.g, .int .i64 s.t, .int .i64 s.a, .int .i64 s.o] 102)) v4.heap.size s := sgAt_new v4 s
    have k9 := k8.new (World.grownBy_alloc v4 (.cells #[.int .i64 s.k, .int .i64 s.l, .int .i64 s.e, .int .i64 s.c, .int .i64 s.g, .int .i64 s.t, .int .i64 s.a, .int .i64 s.o] 102) none)
    have lu := k8.lt
    clear k8
    go_wp2_with (first | (refine wpL_load rfl .i64 43 _ rfl w.heap.size 0 rfl L k9.box.f ⟨_, Tryz.uY⟩ Tryz.sY ?_))
    obtain ⟨u, hu⟩ : ∃ u, u = v4.heap.size := ⟨_, rfl⟩
    rw [← hu] at S1 lu ⊢
    generalize v4.alloc (.cells #[.int .i64 s.k, .int .i64 s.l, .int .i64 s.e, .int .i64 s.c, .int .i64 s.g, .int .i64 s.t, .int .i64 s.a, .int .i64 s.o] 102) = v4b at k9 S1 ⊢
    clear hu v4
    refine (bound_any L 8380417 _).mono ?_
    rintro e v5 ⟨bx, rfl, hbx, y5⟩
    have k10 := k9.new y5
    have S2 := S1.new y5
    clear k9 S1 y5
    obtain rfl : bx = true := hbx.2 hL
    clear hbx
    go_wp2_with (first | (refine wpL_load rfl .i64 43 _ rfl (w.heap.size + 1) 0 rfl M k10.box.h ⟨_, Tryz.uY⟩ Tryz.sY ?_))
    refine (bound_any M 8380417 _).mono ?_
    rintro e v6 ⟨by6, rfl, hby, y6⟩
    have k11 := k10.new y6
    have S3 := S2.new y6
    clear k10 S2 y6
    obtain rfl : by6 = true := hby.2 hM
    clear hby
    have m7 := new_alloc .i64 v6 (fun _ => 0) 43
    rw [← Tryz.zY] at m7
    have c8 := m7.r
    have k12 := k11.new m7.g
    have S4 := S3.new m7.g
    have l8 := k11.lt
    clear k11 S3 m7
    obtain ⟨z, hz⟩ : ∃ z, z = v6.heap.size := ⟨_, rfl⟩
    rw [← hz] at c8 l8
    obtain ⟨g0, g1, g2, g3, g4, g5, g6, g7⟩ := S4
    go_wp2_with (first | (refine wpL_load rfl .i64 43 _ rfl w.heap.size 0 rfl L k12.box.f ⟨_, Tryz.uY⟩ Tryz.sY ?_) | (refine wpL_load rfl .i64 43 _ rfl (w.heap.size + 1) 0 rfl M k12.box.h ⟨_, Tryz.uY⟩ Tryz.sY ?_))
    rw [← hz]
    clear hz
    generalize v6.alloc (.cells Tryz.zeroCells43 43) = v7 at *
    clear g0 g1 g2 g3 g4 g5 g6 g7
    refine (HR.out _).mono ?_
    rintro e v8 ⟨rfl, y8⟩
    have k13 := k12.new y8
    have c9 := c8.new y8
    clear k12 c8 y8
    go_wp2_with (first | (refine wpL_store rfl .i64 43 _ _ rfl z 0 rfl _ rfl .i64 _ c9 Tryz.sY ?_; intro v9 p9; have k14 := k13.far p9.g (by omega); have c11 := p9.r))
    clear k13 c9 p9
    refine (ltold_nil _).mono ?_
    rintro e w' ⟨rfl, hw⟩
    rw [hw]
    clear hw w'
    go_wp2_with (first | (refine wpL_load rfl .i64 71 _ rfl m 0 rfl _ k14.x ⟨_, Tryz.uA⟩ Tryz.sA ?_) | (refine wpL_load rfl .i64 43 _ rfl z 0 rfl _ c11 ⟨_, Tryz.uY⟩ Tryz.sY ?_))
    refine (is_same _ _ HX.out _).mono ?_
    rintro e v12 ⟨rfl, y12⟩
    have k15 := k14.new y12
    have c12 := c11.new y12
    clear k14 c11 y12
    have lz : w.heap.size + 1 + 1 < z := by have := k15.l; omega
    go_wp2_with (first | (refine wpL_load rfl .i64 43 _ rfl z 0 rfl _ c12 ⟨_, Tryz.uY⟩ Tryz.sY ?_) | (refine wpL_store rfl .i64 43 _ _ rfl (w.heap.size + 1 + 1) 0 rfl _ rfl .i64 _ k15.box.r Tryz.sY ?_; intro v13 p13; have k16 := k15.box.g; have c13 := p13.r; have g13 := grown_new k16 p13.g (by omega)))
    refine bodyPost_ret (res2 Tryz.results32 .i64 _ v13 (w.heap.size + 1 + 1) _ _ rfl rfl c13 ⟨_, Tryz.uY⟩ Tryz.sY) rfl ⟨rfl, g13⟩
  · refine wp_region_inv (fun l a W => ∃ (b0 b1 b2 b3 b4 b5 b6 b7 b8 b9 b10 b11 b12 b13 : Bool) (m : Nat), l = #[b0, b1, b2, b3, b4, b5, b6, b7, b8, b9, b10, b11, b12, b13] ∧ a = ⟨((.int .i64 d : Value) :: (.agg (polyA .i64 L) : Value) :: (.agg (polyA .i64 M) : Value) :: undef :: (.pointer (some ⟨w.heap.size, 0, none⟩) : Value) :: (.pointer (some ⟨w.heap.size + 1, 0, none⟩) : Value) :: (.pointer (some ⟨w.heap.size + 1 + 1, 0, none⟩) : Value) :: (.bool false : Value) :: (bif b10 then (.pointer (some ⟨m, 0, none⟩) : Value) else undef) :: (bif b12 then (.int .i64 n : Value) else undef) :: (bif b13 then (.nilIface : Value) else undef) :: undef :: undef :: undef :: undef :: undef :: undef :: undef :: undef :: undef :: (bif b6 then (.tuple #[.agg (polyA .i64 X1), .int .i64 n, .nilIface] : Value) else undef) :: (bif b0 then (.int .i64 d : Value) else undef) :: (bif b1 then (.agg (polyA .i64 L) : Value) else undef) :: (bif b2 then (.agg (polyA .i64 L) : Value) else undef) :: (bif b3 then (.agg (polyA .i64 M) : Value) else undef) :: (bif b4 then (.agg (polyA .i64 M) : Value) else undef) :: (bif b5 then (.tuple #[.agg (polyA .i64 X1), .int .i64 n, .nilIface] : Value) else undef) :: (bif b7 then (.agg (polyA .i64 X1) : Value) else undef) :: (bif b8 then (.int .i64 n : Value) else undef) :: (bif b9 then (.nilIface : Value) else undef) :: undef :: undef :: undef :: undef :: undef :: undef :: undef :: undef :: undef :: undef :: undef :: undef :: undef :: undef :: undef :: undef :: undef :: undef :: undef :: undef :: undef :: undef :: undef :: undef :: undef :: undef :: undef :: undef :: undef :: undef :: undef :: undef :: undef :: undef :: undef :: undef :: undef :: undef :: undef :: undef :: undef :: undef :: []).toArray, []⟩ ∧ Box3 w W L M ∧ Slt w W m X1 b10 b11 ∧ (b10 = false → b11 = false)) (by kernel_rfl) ?h0 ?hs ?he
    case h0 => exact ⟨false, false, false, false, false, false, false, false, false, false, false, false, false, false, 0, rfl, rfl, box3_drew k3, (fun h => by cases h), (fun _ => rfl)⟩
    case hs =>
      rintro l a W ⟨b0, b1, b2, b3, b4, b5, b6, b7, b8, b9, b10, b11, b12, b13, m, rfl, rfl, hB, hA, hC⟩ i hi
      have hf := (ready_mem hi).2.1
      have hlt : i < 14 := (ready_mem hi).1
      have hcs : i = 0 ∨ i = 1 ∨ i = 2 ∨ i = 3 ∨ i = 4 ∨ i = 5 ∨ i = 6 ∨ i = 7 ∨ i = 8 ∨ i = 9 ∨ i = 10 ∨ i = 11 ∨ i = 12 ∨ i = 13 := by omega
      rcases hcs with rfl | rfl | rfl | rfl | rfl | rfl | rfl | rfl | rfl | rfl | rfl | rfl | rfl | rfl
      · obtain rfl : b0 = false := hf
        clear hlt
        clear hi
        refine wpOp_step rfl (fun K hK => ?_)
        go_simp
        exact hK _ _ ⟨true, b1, b2, b3, b4, b5, b6, b7, b8, b9, b10, b11, b12, b13, m, rfl, rfl, hB, hA, hC⟩
      · obtain rfl : b1 = false := hf
        clear hlt
        clear hi
        have ld := run_hidLd W w.heap.size 0 L hB.f
        refine wpOp_step rfl (fun K hK => ?_)
        go_simp
        exact hK _ _ ⟨b0, true, b2, b3, b4, b5, b6, b7, b8, b9, b10, b11, b12, b13, m, rfl, rfl, hB, hA, hC⟩
      · obtain rfl : b2 = false := hf
        clear hlt
        obtain rfl : b1 = true := ready_dep hi 1 (by kernel_rfl)
        clear hi
        refine wpOp_step rfl (fun K hK => ?_)
        go_wp2_with (go_at_call 50; refine (lpoly_any L _).mono ?_; rintro e v1 ⟨rfl, y1⟩)
        exact ⟨b0, true, true, b3, b4, b5, b6, b7, b8, b9, b10, b11, b12, b13, m, rfl, rfl, hB.new y1, hA.new y1, hC⟩
      · obtain rfl : b3 = false := hf
        clear hlt
        clear hi
        have ld := run_hidLd W (w.heap.size + 1) 0 M hB.h
        refine wpOp_step rfl (fun K hK => ?_)
        go_simp
        exact hK _ _ ⟨b0, b1, b2, true, b4, b5, b6, b7, b8, b9, b10, b11, b12, b13, m, rfl, rfl, hB, hA, hC⟩
      · obtain rfl : b4 = false := hf
        clear hlt
        obtain rfl : b3 = true := ready_dep hi 3 (by kernel_rfl)
        obtain rfl : b2 = true := ready_dep hi 2 (by kernel_rfl)
        clear hi
        refine wpOp_step rfl (fun K hK => ?_)
        go_wp2_with (go_at_call 50; refine (lpoly_any M _).mono ?_; rintro e v1 ⟨rfl, y1⟩)
        exact ⟨b0, b1, true, true, true, b5, b6, b7, b8, b9, b10, b11, b12, b13, m, rfl, rfl, hB.new y1, hA.new y1, hC⟩
      · obtain rfl : b5 = false := hf
        clear hlt
        obtain rfl : b0 = true := ready_dep hi 0 (by kernel_rfl)
        obtain rfl : b2 = true := ready_dep hi 2 (by kernel_rfl)
        obtain rfl : b4 = true := ready_dep hi 4 (by kernel_rfl)
        clear hi
        refine wpOp_step rfl (fun K hK => ?_)
        go_wp2_with (go_at_call 69; refine (HA.out _).mono ?_; rintro e v1 ⟨rfl, y1⟩)
        exact ⟨true, b1, true, b3, true, true, b6, b7, b8, b9, b10, b11, b12, b13, m, rfl, rfl, hB.new y1, hA.new y1, hC⟩
      · obtain rfl : b6 = false := hf
        clear hlt
        obtain rfl : b5 = true := ready_dep hi 5 (by kernel_rfl)
        clear hi
        refine wpOp_step rfl (fun K hK => ?_)
        go_simp
        exact hK _ _ ⟨b0, b1, b2, b3, b4, true, true, b7, b8, b9, b10, b11, b12, b13, m, rfl, rfl, hB, hA, hC⟩
      · obtain rfl : b7 = false := hf
        clear hlt
        obtain rfl : b6 = true := ready_dep hi 6 (by kernel_rfl)
        clear hi
        refine wpOp_step rfl (fun K hK => ?_)
        go_simp
        exact hK _ _ ⟨b0, b1, b2, b3, b4, b5, true, true, b8, b9, b10, b11, b12, b13, m, rfl, rfl, hB, hA, hC⟩
      · obtain rfl : b8 = false := hf
        clear hlt
        obtain rfl : b6 = true := ready_dep hi 6 (by kernel_rfl)
        clear hi
        refine wpOp_step rfl (fun K hK => ?_)
        go_simp
        exact hK _ _ ⟨b0, b1, b2, b3, b4, b5, true, b7, true, b9, b10, b11, b12, b13, m, rfl, rfl, hB, hA, hC⟩
      · obtain rfl : b9 = false := hf
        clear hlt
        obtain rfl : b6 = true := ready_dep hi 6 (by kernel_rfl)
        clear hi
        refine wpOp_step rfl (fun K hK => ?_)
        go_simp
        exact hK _ _ ⟨b0, b1, b2, b3, b4, b5, true, b7, b8, true, b10, b11, b12, b13, m, rfl, rfl, hB, hA, hC⟩
      · obtain rfl : b10 = false := hf
        clear hlt
        clear hi
        refine wpOp_step rfl (fun K hK => ?_)
        go_simp
        exact hK _ _ ⟨b0, b1, b2, b3, b4, b5, b6, b7, b8, b9, true, b11, b12, b13, W.heap.size, rfl, rfl, hB.new (World.grownBy_alloc W _ none), Slt.mk (hC rfl) hB, (fun h => hC rfl)⟩
      · obtain rfl : b11 = false := hf
        clear hlt
        obtain rfl : b10 = true := ready_dep hi 10 (by kernel_rfl)
        obtain rfl : b7 = true := ready_dep hi 7 (by kernel_rfl)
        clear hi
        have st := run_hidStA W m X1 _ (hA rfl).2
        have q := slt_end hB hA
        refine wpOp_step rfl (fun K hK => ?_)
        go_simp
        exact hK _ _ ⟨b0, b1, b2, b3, b4, b5, b6, true, b8, b9, true, true, b12, b13, m, rfl, rfl, q.1, q.2, (fun h => by cases h)⟩
      · obtain rfl : b12 = false := hf
        clear hlt
        obtain rfl : b8 = true := ready_dep hi 8 (by kernel_rfl)
        clear hi
        refine wpOp_step rfl (fun K hK => ?_)
        go_simp
        exact hK _ _ ⟨b0, b1, b2, b3, b4, b5, b6, b7, true, b9, b10, b11, true, b13, m, rfl, rfl, hB, hA, hC⟩
      · obtain rfl : b13 = false := hf
        clear hlt
        obtain rfl : b9 = true := ready_dep hi 9 (by kernel_rfl)
        clear hi
        refine wpOp_step rfl (fun K hK => ?_)
        go_simp
        exact hK _ _ ⟨b0, b1, b2, b3, b4, b5, b6, b7, b8, true, b10, b11, b12, true, m, rfl, rfl, hB, hA, hC⟩
    case he =>
      rintro l a W ⟨b0, b1, b2, b3, b4, b5, b6, b7, b8, b9, b10, b11, b12, b13, m, rfl, rfl, hB, hA, hC⟩ hr
      have hall := ready_all hr (by kernel_rfl) rfl
      clear hr
      obtain rfl : b0 = true := hall 0 (by decide)
      obtain rfl : b1 = true := hall 1 (by decide)
      obtain rfl : b2 = true := hall 2 (by decide)
      obtain rfl : b3 = true := hall 3 (by decide)
      obtain rfl : b4 = true := hall 4 (by decide)
      obtain rfl : b5 = true := hall 5 (by decide)
      obtain rfl : b6 = true := hall 6 (by decide)
      obtain rfl : b7 = true := hall 7 (by decide)
      obtain rfl : b8 = true := hall 8 (by decide)
      obtain rfl : b9 = true := hall 9 (by decide)
      obtain rfl : b10 = true := hall 10 (by decide)
      obtain rfl : b11 = true := hall 11 (by decide)
      obtain rfl : b12 = true := hall 12 (by decide)
      obtain rfl : b13 = true := hall 13 (by decide)
      clear hall
      exact NoPanic.normal (hidj ⟨m, rfl, ⟨hB, (hA rfl).2, (hA rfl).1⟩, rfl⟩)
end Go.Proofs.YtkijpphmiogbbaaGreatDoor.Z
