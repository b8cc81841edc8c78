import Derived.Test.YtkijpphmiogbbaaGreatDoorK13
namespace Go.Proofs.YtkijpphmiogbbaaGreatDoor.Z
open Go.RowKit
attribute [local go_sem ↓] Go.wp_at_zero Go.wp_at_succ

theorem res2 {P : Program} {fn : Func} {p s : Tmp} {ty : TypeId} (h : fn.results = #[.cell p ty, .tmp s]) (k : IntKind) (tmps : Array Value) (w : World) (g : Nat) (L : Nat → Int) (v : Value)
    (hp : tmps.getD p undef = .pointer (some ⟨g, 0, none⟩)) (hs : tmps.getD s undef = v) (hr : PRow k w g 0 L)
    (hu : ∃ e, P.underlying ty = some (.array 256 e)) (hi : (P.info? ty).map (·.size) = some 256) :
    (results fn tmps).run P w = .ok (.tuple #[.agg (polyA k L), v]) w := by
  have hp' : tmps[p]?.getD undef = .pointer (some ⟨g, 0, none⟩) := by simpa using hp
  have hs' : tmps[s]?.getD undef = v := by simpa using hs
  simp [results, h, hp', hs', asAddr, run_loadRow k w ty g 0 L hr hu hi]
/-- Two polynomials, and room for a third. -/
structure Box3 (w W : World) (L M : Nat → Int) : Prop where
  g : w.grownBy W none
  f : PRow .i64 W w.heap.size 0 L
  h : PRow .i64 W (w.heap.size + 1) 0 M
  r : PRow .i64 W (w.heap.size + 1 + 1) 0 (fun _ => 0)
theorem Box3.new {w W W' : World} {L M : Nat → Int} (h : Box3 w W L M) (hg : W.grownBy W' none) : Box3 w W' L M := ⟨grownBy_trans h.g hg, h.f.new hg, h.h.new hg, h.r.new hg⟩
theorem Box3.far {w W W' : World} {L M : Nat → Int} {p : Nat} (h : Box3 w W L M) (hg : W.grownBy W' (some p)) (hp : w.heap.size + 2 < p) : Box3 w W' L M :=
  ⟨grown_new h.g hg (by omega), h.f.far hg (by simp; omega), h.h.far hg (by simp; omega), h.r.far hg (by simp; omega)⟩
theorem Box3.lt {w W : World} {L M : Nat → Int} (h : Box3 w W L M) : w.heap.size + 2 < W.heap.size := h.r.lt
theorem box3_mk (w : World) (L M : Nat → Int) : Box3 w (((w.alloc (.cells (polyA .i64 L) 43)).alloc (.cells (polyA .i64 M) 43)).alloc (.cells Tryz.zeroCells43 43)) L M := by
  rw [Tryz.zY]
  have n1 := new_alloc .i64 w L 43
  generalize w.alloc (.cells (polyA .i64 L) 43) = w1 at *
  have n2 := new_alloc .i64 w1 M 43
  generalize w1.alloc (.cells (polyA .i64 M) 43) = w2 at *
  have n3 := new_alloc .i64 w2 (fun _ => 0) 43
  have e2 := n2.r.new n3.g
  have e3 := n3.r
  rw [n2.s] at e3
  rw [n1.s] at e2 e3
  exact ⟨grownBy_trans n1.g (grownBy_trans n2.g n3.g), (n1.r.new n2.g).new n3.g, e2, e3⟩
/-- And both as they are handed in. -/
structure Trn (w W : World) (p q : Nat) (L M : Nat → Int) : Prop where
  box : Box3 w W L M
  a : PRow .i64 W p 0 L
  b : PRow .i64 W q 0 M
  lp : w.heap.size + 2 < p
  lq : p < q
theorem Trn.new {w W W' : World} {p q : Nat} {L M : Nat → Int} (h : Trn w W p q L M) (hg : W.grownBy W' none) : Trn w W' p q L M := ⟨h.box.new hg, h.a.new hg, h.b.new hg, h.lp, h.lq⟩
theorem Trn.far {w W W' : World} {p q x : Nat} {L M : Nat → Int} (h : Trn w W p q L M) (hg : W.grownBy W' (some x)) (hx : q < x) : Trn w W' p q L M :=
  ⟨h.box.far hg (by have := h.lp; have := h.lq; omega), h.a.far hg (by have := h.lq; simp; omega), h.b.far hg (by simp; omega), h.lp, h.lq⟩
theorem Trn.lt {w W : World} {p q : Nat} {L M : Nat → Int} (h : Trn w W p q L M) : q < W.heap.size := h.b.lt
set_option maxHeartbeats 4000000 in
set_option maxRecDepth 20000 in
theorem tr_0n (d n : Int) (L M : Nat → Int)
    (HB : Hid (∀ W, Calls Tryz.prog 51 #[.int .i64 0, .int .i64 d] W fun e w' => e = .returned (.tuple #[.int .i64 1, .int .i64 n]) ∧ W.grownBy w' none))
    (HA : Hid (∀ W, Calls Tryz.prog 53 #[.int .i64 d, .agg (polyA .i64 L)] W fun e w' => e = .returned (.tuple #[.agg (polyA .i64 (fun _ => 0)), .iface 138 (.int .i64 1)]) ∧ W.grownBy w' none))
    (w : World) (hE : Et w) : Calls Tryz.prog 28 #[.int .i64 0, .int .i64 d, .agg (polyA .i64 L), .agg (polyA .i64 M)] w fun e w' => e = .returned (.tuple #[.agg (polyA .i64 (fun _ => 0)), .bool true]) ∧ w.grownBy w' none := by
  have k3 := box3_mk w L M
  go_enter Tryz.func28, Tryz.ntmps28
  go_wp2_with (first | (refine wpL_load rfl .i64 43 _ rfl w.heap.size 0 rfl L k3.f ⟨_, Tryz.uY⟩ Tryz.sY ?_))
  refine (lpoly_any L _).mono ?_
  rintro e v1 ⟨rfl, y1⟩
  have k4 := k3.new y1
  clear k3 y1
  have m1 := new_alloc .i64 v1 (fun _ => 0) 71
  rw [← Tryz.zA] at m1
  have k5 := k4.new m1.g
  have e4 := k4.lt
  go_wp2_with (first | (refine wpL_store rfl .i64 71 _ _ rfl v1.heap.size 0 rfl _ rfl .i64 _ m1.r Tryz.sA ?_; intro v2 p2; have k6 := k5.far p2.g e4) | (refine wpL_load rfl .i64 43 _ rfl (w.heap.size + 1) 0 rfl M k6.h ⟨_, Tryz.uY⟩ Tryz.sY ?_))
  refine (lpoly_any M _).mono ?_
  rintro e v3 ⟨rfl, y3⟩
  have k7 := k6.new y3
  have a3 := p2.r.new y3
  have l3 := a3.lt
  clear k4 k5 k6 p2 m1 y3
  have m3 := new_alloc .i64 v3 (fun _ => 0) 71
  rw [← Tryz.zA] at m3
  have k8 := k7.new m3.g
  have a4 := a3.new m3.g
  obtain ⟨p, hp⟩ : ∃ p, p = v1.heap.size := ⟨_, rfl⟩
  rw [← hp] at a3 a4 l3 e4 ⊢
  clear hp
  go_wp2_with (first | (refine wpL_store rfl .i64 71 _ _ rfl v3.heap.size 0 rfl _ rfl .i64 _ m3.r Tryz.sA ?_; intro v4 p4; have kt : Trn w v4 p v3.heap.size L M := ⟨k8.far p4.g (by omega), a4.far p4.g (by simp; omega), p4.r, e4, l3⟩))
  clear k7 k8 a3 a4 p4 m3
  obtain ⟨q, hq⟩ : ∃ q, q = v3.heap.size := ⟨_, rfl⟩
  rw [← hq] at kt l3 ⊢
  clear hq
  refine (HB.out _).mono ?_
  rintro e v5 ⟨rfl, y5⟩
  have k5 := kt.new y5
  clear kt y5
  go_wp2_with (first | (refine wpL_load rfl .i64 43 _ rfl w.heap.size 0 rfl L k5.box.f ⟨_, Tryz.uY⟩ Tryz.sY ?_))
  refine (bound_any L n _).mono ?_
  rintro e v6 ⟨bx, rfl, hbx, y6⟩
  have k6 := k5.new y6
  clear k5 y6
  clear hbx
  go_wp2_with (first | (refine wpL_load rfl .i64 43 _ rfl (w.heap.size + 1) 0 rfl M k6.box.h ⟨_, Tryz.uY⟩ Tryz.sY ?_))
  refine (bound_any M n _).mono ?_
  rintro e v7 ⟨by2, rfl, hby, y7⟩
  have k7 := k6.new y7
  clear k6 y7
  clear hby
  have m7 := new_alloc .i64 v7 (fun _ => 0) 71
  rw [← Tryz.zA] at m7
  have k8 := k7.new m7.g
  have l7 := k7.lt
  go_wp2_with (first | (refine wpL_load rfl .i64 71 _ rfl p 0 rfl L k8.a ⟨_, Tryz.uA⟩ Tryz.sA ?_))
  refine (HA.out _).mono ?_
  rintro e v8 ⟨rfl, y8⟩
  have k9 := k8.new y8
  have c8 := m7.r.new y8
  have l8 := c8.lt
  obtain ⟨x, hx⟩ : ∃ x, x = v7.heap.size := ⟨_, rfl⟩
  rw [← hx] at c8 l7 l8 ⊢
  clear hx k7 k8 m7 y8
  go_wp2_with (first | (refine wpL_store rfl .i64 71 _ _ rfl x 0 rfl _ rfl .i64 _ c8 Tryz.sA ?_; intro v9 p9; have n9 := new_alloc .i64 v9 (fun _ => 0) 43; rw [← Tryz.zY] at n9; have s9 := p9.s; have k10 := (k9.far p9.g l7).new n9.g; have c9 := p9.r.new n9.g))
  have d9 := n9.r
  have l9 := d9.lt
  have hE9 := hE.new k10.box.g
  obtain ⟨z, hz⟩ : ∃ z, z = v8.heap.size := ⟨_, rfl⟩
  rw [s9, ← hz] at d9
  rw [← hz] at l8 ⊢
  have lz : x < z := l8
  clear hz s9 k9 c8 n9 p9 l9
  refine (ltold_err 1 _ hE9 (by decide)).mono ?_
  rintro e v11 ⟨rfl, y11⟩
  have k12 := k10.new y11
  have c12 := c9.new y11
  have d12 := d9.new y11
  clear k10 c9 d9 y11 hE9
  go_wp2_with (first | (refine wpL_load rfl .i64 71 _ rfl x 0 rfl _ c12 ⟨_, Tryz.uA⟩ Tryz.sA ?_) | (refine wpL_load rfl .i64 43 _ rfl z 0 rfl _ d12 ⟨_, Tryz.uY⟩ Tryz.sY ?_))
  refine (is_same _ _ (fun _ _ => rfl) _).mono ?_
  rintro e v13 ⟨rfl, y13⟩
  have k13 := k12.new y13
  have d13 := d12.new y13
  clear k12 c12 d12 y13
  go_wp2_with (first | (refine wpL_load rfl .i64 43 _ rfl z 0 rfl _ d13 ⟨_, Tryz.uY⟩ Tryz.sY ?_) | (refine wpL_store rfl .i64 43 _ _ rfl (w.heap.size + 1 + 1) 0 rfl _ rfl .i64 _ k13.box.r Tryz.sY ?_; intro v14 p14))
  refine bodyPost_ret (res2 Tryz.results28 .i64 _ v14 (w.heap.size + 1 + 1) _ _ rfl rfl p14.r ⟨_, Tryz.uY⟩ Tryz.sY) rfl ⟨rfl, grown_new k13.box.g p14.g (by omega)⟩
set_option maxHeartbeats 4000000 in
set_option maxRecDepth 20000 in
theorem tr_0b (d n : Int) (L M : Nat → Int) (hL : ¬ InB L n)
    (HB : Hid (∀ W, Calls Tryz.prog 51 #[.int .i64 0, .int .i64 d] W fun e w' => e = .returned (.tuple #[.int .i64 0, .int .i64 n]) ∧ W.grownBy w' none))
    (HA : Hid (∀ W, Calls Tryz.prog 53 #[.int .i64 d, .agg (polyA .i64 L)] W fun e w' => e = .returned (.tuple #[.agg (polyA .i64 (fun _ => 0)), .iface 138 (.int .i64 5)]) ∧ W.grownBy w' none))
    (w : World) (hE : Et w) : Calls Tryz.prog 28 #[.int .i64 0, .int .i64 d, .agg (polyA .i64 L), .agg (polyA .i64 M)] w fun e w' => e = .returned (.tuple #[.agg (polyA .i64 (fun _ => 0)), .bool true]) ∧ w.grownBy w' none := by
  have k3 := box3_mk w L M
  go_enter Tryz.func28, Tryz.ntmps28
  go_wp2_with (first | (refine wpL_load rfl .i64 43 _ rfl w.heap.size 0 rfl L k3.f ⟨_, Tryz.uY⟩ Tryz.sY ?_))
  refine (lpoly_any L _).mono ?_
  rintro e v1 ⟨rfl, y1⟩
  have k4 := k3.new y1
  clear k3 y1
  have m1 := new_alloc .i64 v1 (fun _ => 0) 71
  rw [← Tryz.zA] at m1
  have k5 := k4.new m1.g
  have e4 := k4.lt
  go_wp2_with (first | (refine wpL_store rfl .i64 71 _ _ rfl v1.heap.size 0 rfl _ rfl .i64 _ m1.r Tryz.sA ?_; intro v2 p2; have k6 := k5.far p2.g e4) | (refine wpL_load rfl .i64 43 _ rfl (w.heap.size + 1) 0 rfl M k6.h ⟨_, Tryz.uY⟩ Tryz.sY ?_))
  refine (lpoly_any M _).mono ?_
  rintro e v3 ⟨rfl, y3⟩
  have k7 := k6.new y3
  have a3 := p2.r.new y3
  have l3 := a3.lt
  clear k4 k5 k6 p2 m1 y3
  have m3 := new_alloc .i64 v3 (fun _ => 0) 71
  rw [← Tryz.zA] at m3
  have k8 := k7.new m3.g
  have a4 := a3.new m3.g
  obtain ⟨p, hp⟩ : ∃ p, p = v1.heap.size := ⟨_, rfl⟩
  rw [← hp] at a3 a4 l3 e4 ⊢
  clear hp
  go_wp2_with (first | (refine wpL_store rfl .i64 71 _ _ rfl v3.heap.size 0 rfl _ rfl .i64 _ m3.r Tryz.sA ?_; intro v4 p4; have kt : Trn w v4 p v3.heap.size L M := ⟨k8.far p4.g (by omega), a4.far p4.g (by simp; omega), p4.r, e4, l3⟩))
  clear k7 k8 a3 a4 p4 m3
  obtain ⟨q, hq⟩ : ∃ q, q = v3.heap.size := ⟨_, rfl⟩
  rw [← hq] at kt l3 ⊢
  clear hq
  refine (HB.out _).mono ?_
  rintro e v5 ⟨rfl, y5⟩
  have k5 := kt.new y5
  clear kt y5
  go_wp2_with (first | (refine wpL_load rfl .i64 43 _ rfl w.heap.size 0 rfl L k5.box.f ⟨_, Tryz.uY⟩ Tryz.sY ?_))
  refine (bound_any L n _).mono ?_
  rintro e v6 ⟨bx, rfl, hbx, y6⟩
  have k6 := k5.new y6
  clear k5 y6
  obtain rfl : bx = false := by cases bx with | false => rfl | true => exact absurd (hbx.1 rfl) hL
  clear hbx
  go_wp2_with (first | (refine wpL_load rfl .i64 43 _ rfl (w.heap.size + 1) 0 rfl M k6.box.h ⟨_, Tryz.uY⟩ Tryz.sY ?_))
  refine (bound_any M n _).mono ?_
  rintro e v7 ⟨by2, rfl, hby, y7⟩
  have k7 := k6.new y7
  clear k6 y7
  clear hby
  have m7 := new_alloc .i64 v7 (fun _ => 0) 71
  rw [← Tryz.zA] at m7
  have k8 := k7.new m7.g
  have l7 := k7.lt
  go_wp2_with (first | (refine wpL_load rfl .i64 71 _ rfl p 0 rfl L k8.a ⟨_, Tryz.uA⟩ Tryz.sA ?_))
  refine (HA.out _).mono ?_
  rintro e v8 ⟨rfl, y8⟩
  have k9 := k8.new y8
  have c8 := m7.r.new y8
  have l8 := c8.lt
  obtain ⟨x, hx⟩ : ∃ x, x = v7.heap.size := ⟨_, rfl⟩
  rw [← hx] at c8 l7 l8 ⊢
  clear hx k7 k8 m7 y8
  go_wp2_with (first | (refine wpL_store rfl .i64 71 _ _ rfl x 0 rfl _ rfl .i64 _ c8 Tryz.sA ?_; intro v9 p9; have n9 := new_alloc .i64 v9 (fun _ => 0) 43; rw [← Tryz.zY] at n9; have s9 := p9.s; have k10 := (k9.far p9.g l7).new n9.g; have c9 := p9.r.new n9.g))
  have d9 := n9.r
  have l9 := d9.lt
  have hE9 := hE.new k10.box.g
  obtain ⟨z, hz⟩ : ∃ z, z = v8.heap.size := ⟨_, rfl⟩
  rw [s9, ← hz] at d9
  rw [← hz] at l8 ⊢
  have lz : x < z := l8
  clear hz s9 k9 c8 n9 p9 l9
  refine (ltold_err 5 _ hE9 (by decide)).mono ?_
  rintro e v11 ⟨rfl, y11⟩
  have k12 := k10.new y11
  have c12 := c9.new y11
  have d12 := d9.new y11
  clear k10 c9 d9 y11 hE9
  go_wp2_with (first | (refine wpL_load rfl .i64 71 _ rfl x 0 rfl _ c12 ⟨_, Tryz.uA⟩ Tryz.sA ?_) | (refine wpL_load rfl .i64 43 _ rfl z 0 rfl _ d12 ⟨_, Tryz.uY⟩ Tryz.sY ?_))
  refine (is_same _ _ (fun _ _ => rfl) _).mono ?_
  rintro e v13 ⟨rfl, y13⟩
  have k13 := k12.new y13
  have d13 := d12.new y13
  clear k12 c12 d12 y13
  go_wp2_with (first | (refine wpL_load rfl .i64 43 _ rfl z 0 rfl _ d13 ⟨_, Tryz.uY⟩ Tryz.sY ?_) | (refine wpL_store rfl .i64 43 _ _ rfl (w.heap.size + 1 + 1) 0 rfl _ rfl .i64 _ k13.box.r Tryz.sY ?_; intro v14 p14))
  refine bodyPost_ret (res2 Tryz.results28 .i64 _ v14 (w.heap.size + 1 + 1) _ _ rfl rfl p14.r ⟨_, Tryz.uY⟩ Tryz.sY) rfl ⟨rfl, grown_new k13.box.g p14.g (by omega)⟩
set_option maxHeartbeats 4000000 in
set_option maxRecDepth 20000 in
theorem tr_0k (d n : Int) (L M H : Nat → Int) (H1 : Nat → Int) (hH : ∀ j, j < 256 → H1 j = H j) (hL : InB L n)
    (HB : Hid (∀ W, Calls Tryz.prog 51 #[.int .i64 0, .int .i64 d] W fun e w' => e = .returned (.tuple #[.int .i64 0, .int .i64 n]) ∧ W.grownBy w' none))
    (HA : Hid (∀ W, Calls Tryz.prog 53 #[.int .i64 d, .agg (polyA .i64 L)] W fun e w' => e = .returned (.tuple #[.agg (polyA .i64 H1), .nilIface]) ∧ W.grownBy w' none))
    (HW : Hid (∀ W, Calls Tryz.prog 58 #[.int .i64 0, .int .i64 d, .agg (polyA .i64 L), .agg (polyA .i64 M)] W fun e w' => e = .returned (.agg (polyA .i64 H)) ∧ W.grownBy w' none))
    (w : World) : Calls Tryz.prog 28 #[.int .i64 0, .int .i64 d, .agg (polyA .i64 L), .agg (polyA .i64 M)] w fun e w' => e = .returned (.tuple #[.agg (polyA .i64 H), .bool true]) ∧ w.grownBy w' none := by
  have k3 := box3_mk w L M
  have HH : Hid (∀ j, j < 256 → H1 j = H j) := hH
  clear hH
  go_enter Tryz.func28, Tryz.ntmps28
  go_wp2_with (first | (refine wpL_load rfl .i64 43 _ rfl w.heap.size 0 rfl L k3.f ⟨_, Tryz.uY⟩ Tryz.sY ?_))
  refine (lpoly_any L _).mono ?_
  rintro e v1 ⟨rfl, y1⟩
  have k4 := k3.new y1
  clear k3 y1
  have m1 := new_alloc .i64 v1 (fun _ => 0) 71
  rw [← Tryz.zA] at m1
  have k5 := k4.new m1.g
  have e4 := k4.lt
  go_wp2_with (first | (refine wpL_store rfl .i64 71 _ _ rfl v1.heap.size 0 rfl _ rfl .i64 _ m1.r Tryz.sA ?_; intro v2 p2; have k6 := k5.far p2.g e4) | (refine wpL_load rfl .i64 43 _ rfl (w.heap.size + 1) 0 rfl M k6.h ⟨_, Tryz.uY⟩ Tryz.sY ?_))
  refine (lpoly_any M _).mono ?_
  rintro e v3 ⟨rfl, y3⟩
  have k7 := k6.new y3
  have a3 := p2.r.new y3
  have l3 := a3.lt
  clear k4 k5 k6 p2 m1 y3
  have m3 := new_alloc .i64 v3 (fun _ => 0) 71
  rw [← Tryz.zA] at m3
  have k8 := k7.new m3.g
  have a4 := a3.new m3.g
  obtain ⟨p, hp⟩ : ∃ p, p = v1.heap.size := ⟨_, rfl⟩
  rw [← hp] at a3 a4 l3 e4 ⊢
  clear hp
  go_wp2_with (first | (refine wpL_store rfl .i64 71 _ _ rfl v3.heap.size 0 rfl _ rfl .i64 _ m3.r Tryz.sA ?_; intro v4 p4; have kt : Trn w v4 p v3.heap.size L M := ⟨k8.far p4.g (by omega), a4.far p4.g (by simp; omega), p4.r, e4, l3⟩))
  clear k7 k8 a3 a4 p4 m3
  obtain ⟨q, hq⟩ : ∃ q, q = v3.heap.size := ⟨_, rfl⟩
  rw [← hq] at kt l3 ⊢
  clear hq
  refine (HB.out _).mono ?_
  rintro e v5 ⟨rfl, y5⟩
  have k5 := kt.new y5
  clear kt y5
  go_wp2_with (first | (refine wpL_load rfl .i64 43 _ rfl w.heap.size 0 rfl L k5.box.f ⟨_, Tryz.uY⟩ Tryz.sY ?_))
  refine (bound_any L n _).mono ?_
  rintro e v6 ⟨bx, rfl, hbx, y6⟩
  have k6 := k5.new y6
  clear k5 y6
  obtain rfl : bx = true := hbx.2 hL
  clear hbx
  go_wp2_with (first | (refine wpL_load rfl .i64 43 _ rfl (w.heap.size + 1) 0 rfl M k6.box.h ⟨_, Tryz.uY⟩ Tryz.sY ?_))
  refine (bound_any M n _).mono ?_
  rintro e v7 ⟨by2, rfl, hby, y7⟩
  have k7 := k6.new y7
  clear k6 y7
  clear hby
  have m7 := new_alloc .i64 v7 (fun _ => 0) 71
  rw [← Tryz.zA] at m7
  have k8 := k7.new m7.g
  have l7 := k7.lt
  go_wp2_with (first | (refine wpL_load rfl .i64 71 _ rfl p 0 rfl L k8.a ⟨_, Tryz.uA⟩ Tryz.sA ?_))
  refine (HA.out _).mono ?_
  rintro e v8 ⟨rfl, y8⟩
  have k9 := k8.new y8
  have c8 := m7.r.new y8
  have l8 := c8.lt
  obtain ⟨x, hx⟩ : ∃ x, x = v7.heap.size := ⟨_, rfl⟩
  rw [← hx] at c8 l7 l8 ⊢
  clear hx k7 k8 m7 y8
  go_wp2_with (first | (refine wpL_store rfl .i64 71 _ _ rfl x 0 rfl _ rfl .i64 _ c8 Tryz.sA ?_; intro v9 p9; have n9 := new_alloc .i64 v9 (fun _ => 0) 43; rw [← Tryz.zY] at n9; have s9 := p9.s; have k10 := (k9.far p9.g l7).new n9.g; have c9 := p9.r.new n9.g) | (refine wpL_load rfl .i64 43 _ rfl w.heap.size 0 rfl L k10.box.f ⟨_, Tryz.uY⟩ Tryz.sY ?_) | (refine wpL_load rfl .i64 43 _ rfl (w.heap.size + 1) 0 rfl M k10.box.h ⟨_, Tryz.uY⟩ Tryz.sY ?_))
  refine (HW.out _).mono ?_
  rintro e v10 ⟨rfl, y10⟩
  have k11 := k10.new y10
  have c11 := c9.new y10
  have d11 := n9.r.new y10
  have l11 := d11.lt
  obtain ⟨z, hz⟩ : ∃ z, z = v8.heap.size := ⟨_, rfl⟩
  rw [s9, ← hz] at d11
  rw [← hz] at l8 ⊢
  have lz : x < z := l8
  clear hz s9 k9 k10 c8 c9 n9 p9 y10 l11
  go_wp2_with (first | (refine wpL_store rfl .i64 43 _ _ rfl z 0 rfl _ rfl .i64 _ d11 Tryz.sY ?_; intro v11 p11; have k12 := k11.far p11.g (by omega); have c12 := c11.far p11.g (by simp; omega)))
  refine (ltold_nil _).mono ?_
  rintro e w' ⟨rfl, hw⟩
  rw [hw]
  clear hw w'
  have d12 := p11.r
  clear k11 c11 d11 p11
  go_wp2_with (first | (refine wpL_load rfl .i64 71 _ rfl x 0 rfl _ c12 ⟨_, Tryz.uA⟩ Tryz.sA ?_) | (refine wpL_load rfl .i64 43 _ rfl z 0 rfl _ d12 ⟨_, Tryz.uY⟩ Tryz.sY ?_))
  refine (is_same _ _ HH.out _).mono ?_
  rintro e v13 ⟨rfl, y13⟩
  have k13 := k12.new y13
  have d13 := d12.new y13
  clear k12 c12 d12 y13
  go_wp2_with (first | (refine wpL_load rfl .i64 43 _ rfl z 0 rfl _ d13 ⟨_, Tryz.uY⟩ Tryz.sY ?_) | (refine wpL_store rfl .i64 43 _ _ rfl (w.heap.size + 1 + 1) 0 rfl _ rfl .i64 _ k13.box.r Tryz.sY ?_; intro v14 p14))
  refine bodyPost_ret (res2 Tryz.results28 .i64 _ v14 (w.heap.size + 1 + 1) _ _ rfl rfl p14.r ⟨_, Tryz.uY⟩ Tryz.sY) rfl ⟨rfl, grown_new k13.box.g p14.g (by omega)⟩
set_option maxHeartbeats 4000000 in
set_option maxRecDepth 20000 in
theorem tr_1n (d n : Int) (L M : Nat → Int)
    (HB : Hid (∀ W, Calls Tryz.prog 51 #[.int .i64 1, .int .i64 d] W fun e w' => e = .returned (.tuple #[.int .i64 1, .int .i64 n]) ∧ W.grownBy w' none))
    (HA : Hid (∀ W, Calls Tryz.prog 54 #[.int .i64 d, .agg (polyA .i64 L)] W fun e w' => e = .returned (.tuple #[.agg (polyA .i64 (fun _ => 0)), .iface 138 (.int .i64 1)]) ∧ W.grownBy w' none))
    (w : World) (hE : Et w) : Calls Tryz.prog 28 #[.int .i64 1, .int .i64 d, .agg (polyA .i64 L), .agg (polyA .i64 M)] w fun e w' => e = .returned (.tuple #[.agg (polyA .i64 (fun _ => 0)), .bool true]) ∧ w.grownBy w' none := by
  have k3 := box3_mk w L M
  go_enter Tryz.func28, Tryz.ntmps28
  go_wp2_with (first | (refine wpL_load rfl .i64 43 _ rfl w.heap.size 0 rfl L k3.f ⟨_, Tryz.uY⟩ Tryz.sY ?_))
  refine (lpoly_any L _).mono ?_
  rintro e v1 ⟨rfl, y1⟩
  have k4 := k3.new y1
  clear k3 y1
  have m1 := new_alloc .i64 v1 (fun _ => 0) 71
  rw [← Tryz.zA] at m1
  have k5 := k4.new m1.g
  have e4 := k4.lt
  go_wp2_with (first | (refine wpL_store rfl .i64 71 _ _ rfl v1.heap.size 0 rfl _ rfl .i64 _ m1.r Tryz.sA ?_; intro v2 p2; have k6 := k5.far p2.g e4) | (refine wpL_load rfl .i64 43 _ rfl (w.heap.size + 1) 0 rfl M k6.h ⟨_, Tryz.uY⟩ Tryz.sY ?_))
  refine (lpoly_any M _).mono ?_
  rintro e v3 ⟨rfl, y3⟩
  have k7 := k6.new y3
  have a3 := p2.r.new y3
  have l3 := a3.lt
  clear k4 k5 k6 p2 m1 y3
  have m3 := new_alloc .i64 v3 (fun _ => 0) 71
  rw [← Tryz.zA] at m3
  have k8 := k7.new m3.g
  have a4 := a3.new m3.g
  obtain ⟨p, hp⟩ : ∃ p, p = v1.heap.size := ⟨_, rfl⟩
  rw [← hp] at a3 a4 l3 e4 ⊢
  clear hp
  go_wp2_with (first | (refine wpL_store rfl .i64 71 _ _ rfl v3.heap.size 0 rfl _ rfl .i64 _ m3.r Tryz.sA ?_; intro v4 p4; have kt : Trn w v4 p v3.heap.size L M := ⟨k8.far p4.g (by omega), a4.far p4.g (by simp; omega), p4.r, e4, l3⟩))
  clear k7 k8 a3 a4 p4 m3
  obtain ⟨q, hq⟩ : ∃ q, q = v3.heap.size := ⟨_, rfl⟩
  rw [← hq] at kt l3 ⊢
  clear hq
  refine (HB.out _).mono ?_
  rintro e v5 ⟨rfl, y5⟩
  have k5 := kt.new y5
  clear kt y5
  go_wp2_with (first | (refine wpL_load rfl .i64 43 _ rfl w.heap.size 0 rfl L k5.box.f ⟨_, Tryz.uY⟩ Tryz.sY ?_))
  refine (bound_any L n _).mono ?_
  rintro e v6 ⟨bx, rfl, hbx, y6⟩
  have k6 := k5.new y6
  clear k5 y6
  clear hbx
  go_wp2_with (first | (refine wpL_load rfl .i64 43 _ rfl (w.heap.size + 1) 0 rfl M k6.box.h ⟨_, Tryz.uY⟩ Tryz.sY ?_))
  refine (bound_any M n _).mono ?_
  rintro e v7 ⟨by2, rfl, hby, y7⟩
  have k7 := k6.new y7
  clear k6 y7
  clear hby
  have m7 := new_alloc .i64 v7 (fun _ => 0) 71
  rw [← Tryz.zA] at m7
  have k8 := k7.new m7.g
  have l7 := k7.lt
  go_wp2_with (first | (refine wpL_load rfl .i64 71 _ rfl p 0 rfl L k8.a ⟨_, Tryz.uA⟩ Tryz.sA ?_))
  refine (HA.out _).mono ?_
  rintro e v8 ⟨rfl, y8⟩
  have k9 := k8.new y8
  have c8 := m7.r.new y8
  have l8 := c8.lt
  obtain ⟨x, hx⟩ : ∃ x, x = v7.heap.size := ⟨_, rfl⟩
  rw [← hx] at c8 l7 l8 ⊢
  clear hx k7 k8 m7 y8
  go_wp2_with (first | (refine wpL_store rfl .i64 71 _ _ rfl x 0 rfl _ rfl .i64 _ c8 Tryz.sA ?_; intro v9 p9; have n9 := new_alloc .i64 v9 (fun _ => 0) 43; rw [← Tryz.zY] at n9; have s9 := p9.s; have k10 := (k9.far p9.g l7).new n9.g; have c9 := p9.r.new n9.g))
  have d9 := n9.r
  have l9 := d9.lt
  have hE9 := hE.new k10.box.g
  obtain ⟨z, hz⟩ : ∃ z, z = v8.heap.size := ⟨_, rfl⟩
  rw [s9, ← hz] at d9
  rw [← hz] at l8 ⊢
  have lz : x < z := l8
  clear hz s9 k9 c8 n9 p9 l9
  refine (ltold_err 1 _ hE9 (by decide)).mono ?_
  rintro e v11 ⟨rfl, y11⟩
  have k12 := k10.new y11
  have c12 := c9.new y11
  have d12 := d9.new y11
  clear k10 c9 d9 y11 hE9
  go_wp2_with (first | (refine wpL_load rfl .i64 71 _ rfl x 0 rfl _ c12 ⟨_, Tryz.uA⟩ Tryz.sA ?_) | (refine wpL_load rfl .i64 43 _ rfl z 0 rfl _ d12 ⟨_, Tryz.uY⟩ Tryz.sY ?_))
  refine (is_same _ _ (fun _ _ => rfl) _).mono ?_
  rintro e v13 ⟨rfl, y13⟩
  have k13 := k12.new y13
  have d13 := d12.new y13
  clear k12 c12 d12 y13
  go_wp2_with (first | (refine wpL_load rfl .i64 43 _ rfl z 0 rfl _ d13 ⟨_, Tryz.uY⟩ Tryz.sY ?_) | (refine wpL_store rfl .i64 43 _ _ rfl (w.heap.size + 1 + 1) 0 rfl _ rfl .i64 _ k13.box.r Tryz.sY ?_; intro v14 p14))
  refine bodyPost_ret (res2 Tryz.results28 .i64 _ v14 (w.heap.size + 1 + 1) _ _ rfl rfl p14.r ⟨_, Tryz.uY⟩ Tryz.sY) rfl ⟨rfl, grown_new k13.box.g p14.g (by omega)⟩
set_option maxHeartbeats 4000000 in
set_option maxRecDepth 20000 in
theorem tr_1b (d n : Int) (L M : Nat → Int) (hL : ¬ InB L n)
    (HB : Hid (∀ W, Calls Tryz.prog 51 #[.int .i64 1, .int .i64 d] W fun e w' => e = .returned (.tuple #[.int .i64 0, .int .i64 n]) ∧ W.grownBy w' none))
    (HA : Hid (∀ W, Calls Tryz.prog 54 #[.int .i64 d, .agg (polyA .i64 L)] W fun e w' => e = .returned (.tuple #[.agg (polyA .i64 (fun _ => 0)), .iface 138 (.int .i64 5)]) ∧ W.grownBy w' none))
    (w : World) (hE : Et w) : Calls Tryz.prog 28 #[.int .i64 1, .int .i64 d, .agg (polyA .i64 L), .agg (polyA .i64 M)] w fun e w' => e = .returned (.tuple #[.agg (polyA .i64 (fun _ => 0)), .bool true]) ∧ w.grownBy w' none := by
  have k3 := box3_mk w L M
  go_enter Tryz.func28, Tryz.ntmps28
  go_wp2_with (first | (refine wpL_load rfl .i64 43 _ rfl w.heap.size 0 rfl L k3.f ⟨_, Tryz.uY⟩ Tryz.sY ?_))
  refine (lpoly_any L _).mono ?_
  rintro e v1 ⟨rfl, y1⟩
  have k4 := k3.new y1
  clear k3 y1
  have m1 := new_alloc .i64 v1 (fun _ => 0) 71
  rw [← Tryz.zA] at m1
  have k5 := k4.new m1.g
  have e4 := k4.lt
  go_wp2_with (first | (refine wpL_store rfl .i64 71 _ _ rfl v1.heap.size 0 rfl _ rfl .i64 _ m1.r Tryz.sA ?_; intro v2 p2; have k6 := k5.far p2.g e4) | (refine wpL_load rfl .i64 43 _ rfl (w.heap.size + 1) 0 rfl M k6.h ⟨_, Tryz.uY⟩ Tryz.sY ?_))
  refine (lpoly_any M _).mono ?_
  rintro e v3 ⟨rfl, y3⟩
  have k7 := k6.new y3
  have a3 := p2.r.new y3
  have l3 := a3.lt
  clear k4 k5 k6 p2 m1 y3
  have m3 := new_alloc .i64 v3 (fun _ => 0) 71
  rw [← Tryz.zA] at m3
  have k8 := k7.new m3.g
  have a4 := a3.new m3.g
  obtain ⟨p, hp⟩ : ∃ p, p = v1.heap.size := ⟨_, rfl⟩
  rw [← hp] at a3 a4 l3 e4 ⊢
  clear hp
  go_wp2_with (first | (refine wpL_store rfl .i64 71 _ _ rfl v3.heap.size 0 rfl _ rfl .i64 _ m3.r Tryz.sA ?_; intro v4 p4; have kt : Trn w v4 p v3.heap.size L M := ⟨k8.far p4.g (by omega), a4.far p4.g (by simp; omega), p4.r, e4, l3⟩))
  clear k7 k8 a3 a4 p4 m3
  obtain ⟨q, hq⟩ : ∃ q, q = v3.heap.size := ⟨_, rfl⟩
  rw [← hq] at kt l3 ⊢
  clear hq
  refine (HB.out _).mono ?_
  rintro e v5 ⟨rfl, y5⟩
  have k5 := kt.new y5
  clear kt y5
  go_wp2_with (first | (refine wpL_load rfl .i64 43 _ rfl w.heap.size 0 rfl L k5.box.f ⟨_, Tryz.uY⟩ Tryz.sY ?_))
  refine (bound_any L n _).mono ?_
  rintro e v6 ⟨bx, rfl, hbx, y6⟩
  have k6 := k5.new y6
  clear k5 y6
  obtain rfl : bx = false := by cases bx with | false => rfl | true => exact absurd (hbx.1 rfl) hL
  clear hbx
  go_wp2_with (first | (refine wpL_load rfl .i64 43 _ rfl (w.heap.size + 1) 0 rfl M k6.box.h ⟨_, Tryz.uY⟩ Tryz.sY ?_))
  refine (bound_any M n _).mono ?_
  rintro e v7 ⟨by2, rfl, hby, y7⟩
  have k7 := k6.new y7
  clear k6 y7
  clear hby
  have m7 := new_alloc .i64 v7 (fun _ => 0) 71
  rw [← Tryz.zA] at m7
  have k8 := k7.new m7.g
  have l7 := k7.lt
  go_wp2_with (first | (refine wpL_load rfl .i64 71 _ rfl p 0 rfl L k8.a ⟨_, Tryz.uA⟩ Tryz.sA ?_))
  refine (HA.out _).mono ?_
  rintro e v8 ⟨rfl, y8⟩
  have k9 := k8.new y8
  have c8 := m7.r.new y8
  have l8 := c8.lt
  obtain ⟨x, hx⟩ : ∃ x, x = v7.heap.size := ⟨_, rfl⟩
  rw [← hx] at c8 l7 l8 ⊢
  clear hx k7 k8 m7 y8
  go_wp2_with (first | (refine wpL_store rfl .i64 71 _ _ rfl x 0 rfl _ rfl .i64 _ c8 Tryz.sA ?_; intro v9 p9; have n9 := new_alloc .i64 v9 (fun _ => 0) 43; rw [← Tryz.zY] at n9; have s9 := p9.s; have k10 := (k9.far p9.g l7).new n9.g; have c9 := p9.r.new n9.g))
  have d9 := n9.r
  have l9 := d9.lt
  have hE9 := hE.new k10.box.g
  obtain ⟨z, hz⟩ : ∃ z, z = v8.heap.size := ⟨_, rfl⟩
  rw [s9, ← hz] at d9
  rw [← hz] at l8 ⊢
  have lz : x < z := l8
  clear hz s9 k9 c8 n9 p9 l9
  refine (ltold_err 5 _ hE9 (by decide)).mono ?_
  rintro e v11 ⟨rfl, y11⟩
  have k12 := k10.new y11
  have c12 := c9.new y11
  have d12 := d9.new y11
  clear k10 c9 d9 y11 hE9
  go_wp2_with (first | (refine wpL_load rfl .i64 71 _ rfl x 0 rfl _ c12 ⟨_, Tryz.uA⟩ Tryz.sA ?_) | (refine wpL_load rfl .i64 43 _ rfl z 0 rfl _ d12 ⟨_, Tryz.uY⟩ Tryz.sY ?_))
  refine (is_same _ _ (fun _ _ => rfl) _).mono ?_
  rintro e v13 ⟨rfl, y13⟩
  have k13 := k12.new y13
  have d13 := d12.new y13
  clear k12 c12 d12 y13
  go_wp2_with (first | (refine wpL_load rfl .i64 43 _ rfl z 0 rfl _ d13 ⟨_, Tryz.uY⟩ Tryz.sY ?_) | (refine wpL_store rfl .i64 43 _ _ rfl (w.heap.size + 1 + 1) 0 rfl _ rfl .i64 _ k13.box.r Tryz.sY ?_; intro v14 p14))
  refine bodyPost_ret (res2 Tryz.results28 .i64 _ v14 (w.heap.size + 1 + 1) _ _ rfl rfl p14.r ⟨_, Tryz.uY⟩ Tryz.sY) rfl ⟨rfl, grown_new k13.box.g p14.g (by omega)⟩
set_option maxHeartbeats 4000000 in
set_option maxRecDepth 20000 in
theorem tr_1k (d n : Int) (L M H : Nat → Int) (H1 : Nat → Int) (hH : ∀ j, j < 256 → H1 j = H j) (hL : InB L n)
    (HB : Hid (∀ W, Calls Tryz.prog 51 #[.int .i64 1, .int .i64 d] W fun e w' => e = .returned (.tuple #[.int .i64 0, .int .i64 n]) ∧ W.grownBy w' none))
    (HA : Hid (∀ W, Calls Tryz.prog 54 #[.int .i64 d, .agg (polyA .i64 L)] W fun e w' => e = .returned (.tuple #[.agg (polyA .i64 H1), .nilIface]) ∧ W.grownBy w' none))
    (HW : Hid (∀ W, Calls Tryz.prog 58 #[.int .i64 1, .int .i64 d, .agg (polyA .i64 L), .agg (polyA .i64 M)] W fun e w' => e = .returned (.agg (polyA .i64 H)) ∧ W.grownBy w' none))
    (w : World) : Calls Tryz.prog 28 #[.int .i64 1, .int .i64 d, .agg (polyA .i64 L), .agg (polyA .i64 M)] w fun e w' => e = .returned (.tuple #[.agg (polyA .i64 H), .bool true]) ∧ w.grownBy w' none := by
  have k3 := box3_mk w L M
  have HH : Hid (∀ j, j < 256 → H1 j = H j) := hH
  clear hH
  go_enter Tryz.func28, Tryz.ntmps28
  go_wp2_with (first | (refine wpL_load rfl .i64 43 _ rfl w.heap.size 0 rfl L k3.f ⟨_, Tryz.uY⟩ Tryz.sY ?_))
  refine (lpoly_any L _).mono ?_
  rintro e v1 ⟨rfl, y1⟩
  have k4 := k3.new y1
  clear k3 y1
  have m1 := new_alloc .i64 v1 (fun _ => 0) 71
  rw [← Tryz.zA] at m1
  have k5 := k4.new m1.g
  have e4 := k4.lt
  go_wp2_with (first | (refine wpL_store rfl .i64 71 _ _ rfl v1.heap.size 0 rfl _ rfl .i64 _ m1.r Tryz.sA ?_; intro v2 p2; have k6 := k5.far p2.g e4) | (refine wpL_load rfl .i64 43 _ rfl (w.heap.size + 1) 0 rfl M k6.h ⟨_, Tryz.uY⟩ Tryz.sY ?_))
  refine (lpoly_any M _).mono ?_
  rintro e v3 ⟨rfl, y3⟩
  have k7 := k6.new y3
  have a3 := p2.r.new y3
  have l3 := a3.lt
  clear k4 k5 k6 p2 m1 y3
  have m3 := new_alloc .i64 v3 (fun _ => 0) 71
  rw [← Tryz.zA] at m3
  have k8 := k7.new m3.g
  have a4 := a3.new m3.g
  obtain ⟨p, hp⟩ : ∃ p, p = v1.heap.size := ⟨_, rfl⟩
  rw [← hp] at a3 a4 l3 e4 ⊢
  clear hp
  go_wp2_with (first | (refine wpL_store rfl .i64 71 _ _ rfl v3.heap.size 0 rfl _ rfl .i64 _ m3.r Tryz.sA ?_; intro v4 p4; have kt : Trn w v4 p v3.heap.size L M := ⟨k8.far p4.g (by omega), a4.far p4.g (by simp; omega), p4.r, e4, l3⟩))
  clear k7 k8 a3 a4 p4 m3
  obtain ⟨q, hq⟩ : ∃ q, q = v3.heap.size := ⟨_, rfl⟩
  rw [← hq] at kt l3 ⊢
  clear hq
  refine (HB.out _).mono ?_
  rintro e v5 ⟨rfl, y5⟩
  have k5 := kt.new y5
  clear kt y5
  go_wp2_with (first | (refine wpL_load rfl .i64 43 _ rfl w.heap.size 0 rfl L k5.box.f ⟨_, Tryz.uY⟩ Tryz.sY ?_))
  refine (bound_any L n _).mono ?_
  rintro e v6 ⟨bx, rfl, hbx, y6⟩
  have k6 := k5.new y6
  clear k5 y6
  obtain rfl : bx = true := hbx.2 hL
  clear hbx
  go_wp2_with (first | (refine wpL_load rfl .i64 43 _ rfl (w.heap.size + 1) 0 rfl M k6.box.h ⟨_, Tryz.uY⟩ Tryz.sY ?_))
  refine (bound_any M n _).mono ?_
  rintro e v7 ⟨by2, rfl, hby, y7⟩
  have k7 := k6.new y7
  clear k6 y7
  clear hby
  have m7 := new_alloc .i64 v7 (fun _ => 0) 71
  rw [← Tryz.zA] at m7
  have k8 := k7.new m7.g
  have l7 := k7.lt
  go_wp2_with (first | (refine wpL_load rfl .i64 71 _ rfl p 0 rfl L k8.a ⟨_, Tryz.uA⟩ Tryz.sA ?_))
  refine (HA.out _).mono ?_
  rintro e v8 ⟨rfl, y8⟩
  have k9 := k8.new y8
  have c8 := m7.r.new y8
  have l8 := c8.lt
  obtain ⟨x, hx⟩ : ∃ x, x = v7.heap.size := ⟨_, rfl⟩
  rw [← hx] at c8 l7 l8 ⊢
  clear hx k7 k8 m7 y8
  go_wp2_with (first | (refine wpL_store rfl .i64 71 _ _ rfl x 0 rfl _ rfl .i64 _ c8 Tryz.sA ?_; intro v9 p9; have n9 := new_alloc .i64 v9 (fun _ => 0) 43; rw [← Tryz.zY] at n9; have s9 := p9.s; have k10 := (k9.far p9.g l7).new n9.g; have c9 := p9.r.new n9.g) | (refine wpL_load rfl .i64 43 _ rfl w.heap.size 0 rfl L k10.box.f ⟨_, Tryz.uY⟩ Tryz.sY ?_) | (refine wpL_load rfl .i64 43 _ rfl (w.heap.size + 1) 0 rfl M k10.box.h ⟨_, Tryz.uY⟩ Tryz.sY ?_))
  refine (HW.out _).mono ?_
  rintro e v10 ⟨rfl, y10⟩
  have k11 := k10.new y10
  have c11 := c9.new y10
  have d11 := n9.r.new y10
  have l11 := d11.lt
  obtain ⟨z, hz⟩ : ∃ z, z = v8.heap.size := ⟨_, rfl⟩
  rw [s9, ← hz] at d11
  rw [← hz] at l8 ⊢
  have lz : x < z := l8
  clear hz s9 k9 k10 c8 c9 n9 p9 y10 l11
  go_wp2_with (first | (refine wpL_store rfl .i64 43 _ _ rfl z 0 rfl _ rfl .i64 _ d11 Tryz.sY ?_; intro v11 p11; have k12 := k11.far p11.g (by omega); have c12 := c11.far p11.g (by simp; omega)))
  refine (ltold_nil _).mono ?_
  rintro e w' ⟨rfl, hw⟩
  rw [hw]
  clear hw w'
  have d12 := p11.r
  clear k11 c11 d11 p11
  go_wp2_with (first | (refine wpL_load rfl .i64 71 _ rfl x 0 rfl _ c12 ⟨_, Tryz.uA⟩ Tryz.sA ?_) | (refine wpL_load rfl .i64 43 _ rfl z 0 rfl _ d12 ⟨_, Tryz.uY⟩ Tryz.sY ?_))
  refine (is_same _ _ HH.out _).mono ?_
  rintro e v13 ⟨rfl, y13⟩
  have k13 := k12.new y13
  have d13 := d12.new y13
  clear k12 c12 d12 y13
  go_wp2_with (first | (refine wpL_load rfl .i64 43 _ rfl z 0 rfl _ d13 ⟨_, Tryz.uY⟩ Tryz.sY ?_) | (refine wpL_store rfl .i64 43 _ _ rfl (w.heap.size + 1 + 1) 0 rfl _ rfl .i64 _ k13.box.r Tryz.sY ?_; intro v14 p14))
  refine bodyPost_ret (res2 Tryz.results28 .i64 _ v14 (w.heap.size + 1 + 1) _ _ rfl rfl p14.r ⟨_, Tryz.uY⟩ Tryz.sY) rfl ⟨rfl, grown_new k13.box.g p14.g (by omega)⟩
set_option maxHeartbeats 4000000 in
set_option maxRecDepth 20000 in
theorem tr_2n (d n : Int) (L M : Nat → Int)
    (HB : Hid (∀ W, Calls Tryz.prog 51 #[.int .i64 2, .int .i64 d] W fun e w' => e = .returned (.tuple #[.int .i64 1, .int .i64 n]) ∧ W.grownBy w' none))
    (HA : Hid (∀ W, Calls Tryz.prog 55 #[.int .i64 d, .agg (polyA .i64 L), .agg (polyA .i64 M)] W fun e w' => e = .returned (.tuple #[.agg (polyA .i64 (fun _ => 0)), .iface 138 (.int .i64 1)]) ∧ W.grownBy w' none))
    (w : World) (hE : Et w) : Calls Tryz.prog 28 #[.int .i64 2, .int .i64 d, .agg (polyA .i64 L), .agg (polyA .i64 M)] w fun e w' => e = .returned (.tuple #[.agg (polyA .i64 (fun _ => 0)), .bool true]) ∧ w.grownBy w' none := by
  have k3 := box3_mk w L M
  go_enter Tryz.func28, Tryz.ntmps28
  go_wp2_with (first | (refine wpL_load rfl .i64 43 _ rfl w.heap.size 0 rfl L k3.f ⟨_, Tryz.uY⟩ Tryz.sY ?_))
  refine (lpoly_any L _).mono ?_
  rintro e v1 ⟨rfl, y1⟩
  have k4 := k3.new y1
  clear k3 y1
  have m1 := new_alloc .i64 v1 (fun _ => 0) 71
  rw [← Tryz.zA] at m1
  have k5 := k4.new m1.g
  have e4 := k4.lt
  go_wp2_with (first | (refine wpL_store rfl .i64 71 _ _ rfl v1.heap.size 0 rfl _ rfl .i64 _ m1.r Tryz.sA ?_; intro v2 p2; have k6 := k5.far p2.g e4) | (refine wpL_load rfl .i64 43 _ rfl (w.heap.size + 1) 0 rfl M k6.h ⟨_, Tryz.uY⟩ Tryz.sY ?_))
  refine (lpoly_any M _).mono ?_
  rintro e v3 ⟨rfl, y3⟩
  have k7 := k6.new y3
  have a3 := p2.r.new y3
  have l3 := a3.lt
  clear k4 k5 k6 p2 m1 y3
  have m3 := new_alloc .i64 v3 (fun _ => 0) 71
  rw [← Tryz.zA] at m3
  have k8 := k7.new m3.g
  have a4 := a3.new m3.g
  obtain ⟨p, hp⟩ : ∃ p, p = v1.heap.size := ⟨_, rfl⟩
  rw [← hp] at a3 a4 l3 e4 ⊢
  clear hp
  go_wp2_with (first | (refine wpL_store rfl .i64 71 _ _ rfl v3.heap.size 0 rfl _ rfl .i64 _ m3.r Tryz.sA ?_; intro v4 p4; have kt : Trn w v4 p v3.heap.size L M := ⟨k8.far p4.g (by omega), a4.far p4.g (by simp; omega), p4.r, e4, l3⟩))
  clear k7 k8 a3 a4 p4 m3
  obtain ⟨q, hq⟩ : ∃ q, q = v3.heap.size := ⟨_, rfl⟩
  rw [← hq] at kt l3 ⊢
  clear hq
  refine (HB.out _).mono ?_
  rintro e v5 ⟨rfl, y5⟩
  have k5 := kt.new y5
  clear kt y5
  go_wp2_with (first | (refine wpL_load rfl .i64 43 _ rfl w.heap.size 0 rfl L k5.box.f ⟨_, Tryz.uY⟩ Tryz.sY ?_))
  refine (bound_any L n _).mono ?_
  rintro e v6 ⟨bx, rfl, hbx, y6⟩
  have k6 := k5.new y6
  clear k5 y6
  clear hbx
  go_wp2_with (first | (refine wpL_load rfl .i64 43 _ rfl (w.heap.size + 1) 0 rfl M k6.box.h ⟨_, Tryz.uY⟩ Tryz.sY ?_))
  refine (bound_any M n _).mono ?_
  rintro e v7 ⟨by2, rfl, hby, y7⟩
  have k7 := k6.new y7
  clear k6 y7
  clear hby
  have m7 := new_alloc .i64 v7 (fun _ => 0) 71
  rw [← Tryz.zA] at m7
  have k8 := k7.new m7.g
  have l7 := k7.lt
  go_wp2_with (first | (refine wpL_load rfl .i64 71 _ rfl p 0 rfl L k8.a ⟨_, Tryz.uA⟩ Tryz.sA ?_) | (refine wpL_load rfl .i64 71 _ rfl q 0 rfl M k8.b ⟨_, Tryz.uA⟩ Tryz.sA ?_))
  refine (HA.out _).mono ?_
  rintro e v8 ⟨rfl, y8⟩
  have k9 := k8.new y8
  have c8 := m7.r.new y8
  have l8 := c8.lt
  obtain ⟨x, hx⟩ : ∃ x, x = v7.heap.size := ⟨_, rfl⟩
  rw [← hx] at c8 l7 l8 ⊢
  clear hx k7 k8 m7 y8
  go_wp2_with (first | (refine wpL_store rfl .i64 71 _ _ rfl x 0 rfl _ rfl .i64 _ c8 Tryz.sA ?_; intro v9 p9; have n9 := new_alloc .i64 v9 (fun _ => 0) 43; rw [← Tryz.zY] at n9; have s9 := p9.s; have k10 := (k9.far p9.g l7).new n9.g; have c9 := p9.r.new n9.g))
  have d9 := n9.r
  have l9 := d9.lt
  have hE9 := hE.new k10.box.g
  obtain ⟨z, hz⟩ : ∃ z, z = v8.heap.size := ⟨_, rfl⟩
  rw [s9, ← hz] at d9
  rw [← hz] at l8 ⊢
  have lz : x < z := l8
  clear hz s9 k9 c8 n9 p9 l9
  refine (ltold_err 1 _ hE9 (by decide)).mono ?_
  rintro e v11 ⟨rfl, y11⟩
  have k12 := k10.new y11
  have c12 := c9.new y11
  have d12 := d9.new y11
  clear k10 c9 d9 y11 hE9
  go_wp2_with (first | (refine wpL_load rfl .i64 71 _ rfl x 0 rfl _ c12 ⟨_, Tryz.uA⟩ Tryz.sA ?_) | (refine wpL_load rfl .i64 43 _ rfl z 0 rfl _ d12 ⟨_, Tryz.uY⟩ Tryz.sY ?_))
  refine (is_same _ _ (fun _ _ => rfl) _).mono ?_
  rintro e v13 ⟨rfl, y13⟩
  have k13 := k12.new y13
  have d13 := d12.new y13
  clear k12 c12 d12 y13
  go_wp2_with (first | (refine wpL_load rfl .i64 43 _ rfl z 0 rfl _ d13 ⟨_, Tryz.uY⟩ Tryz.sY ?_) | (refine wpL_store rfl .i64 43 _ _ rfl (w.heap.size + 1 + 1) 0 rfl _ rfl .i64 _ k13.box.r Tryz.sY ?_; intro v14 p14))
  refine bodyPost_ret (res2 Tryz.results28 .i64 _ v14 (w.heap.size + 1 + 1) _ _ rfl rfl p14.r ⟨_, Tryz.uY⟩ Tryz.sY) rfl ⟨rfl, grown_new k13.box.g p14.g (by omega)⟩
set_option maxHeartbeats 4000000 in
set_option maxRecDepth 20000 in
theorem tr_2b (d n : Int) (L M : Nat → Int) (hL : ¬ InB L n)
    (HB : Hid (∀ W, Calls Tryz.prog 51 #[.int .i64 2, .int .i64 d] W fun e w' => e = .returned (.tuple #[.int .i64 0, .int .i64 n]) ∧ W.grownBy w' none))
    (HA : Hid (∀ W, Calls Tryz.prog 55 #[.int .i64 d, .agg (polyA .i64 L), .agg (polyA .i64 M)] W fun e w' => e = .returned (.tuple #[.agg (polyA .i64 (fun _ => 0)), .iface 138 (.int .i64 5)]) ∧ W.grownBy w' none))
    (w : World) (hE : Et w) : Calls Tryz.prog 28 #[.int .i64 2, .int .i64 d, .agg (polyA .i64 L), .agg (polyA .i64 M)] w fun e w' => e = .returned (.tuple #[.agg (polyA .i64 (fun _ => 0)), .bool true]) ∧ w.grownBy w' none := by
  have k3 := box3_mk w L M
  go_enter Tryz.func28, Tryz.ntmps28
  go_wp2_with (first | (refine wpL_load rfl .i64 43 _ rfl w.heap.size 0 rfl L k3.f ⟨_, Tryz.uY⟩ Tryz.sY ?_))
  refine (lpoly_any L _).mono ?_
  rintro e v1 ⟨rfl, y1⟩
  have k4 := k3.new y1
  clear k3 y1
  have m1 := new_alloc .i64 v1 (fun _ => 0) 71
  rw [← Tryz.zA] at m1
  have k5 := k4.new m1.g
  have e4 := k4.lt
  go_wp2_with (first | (refine wpL_store rfl .i64 71 _ _ rfl v1.heap.size 0 rfl _ rfl .i64 _ m1.r Tryz.sA ?_; intro v2 p2; have k6 := k5.far p2.g e4) | (refine wpL_load rfl .i64 43 _ rfl (w.heap.size + 1) 0 rfl M k6.h ⟨_, Tryz.uY⟩ Tryz.sY ?_))
  refine (lpoly_any M _).mono ?_
  rintro e v3 ⟨rfl, y3⟩
  have k7 := k6.new y3
  have a3 := p2.r.new y3
  have l3 := a3.lt
  clear k4 k5 k6 p2 m1 y3
  have m3 := new_alloc .i64 v3 (fun _ => 0) 71
  rw [← Tryz.zA] at m3
  have k8 := k7.new m3.g
  have a4 := a3.new m3.g
  obtain ⟨p, hp⟩ : ∃ p, p = v1.heap.size := ⟨_, rfl⟩
  rw [← hp] at a3 a4 l3 e4 ⊢
  clear hp
  go_wp2_with (first | (refine wpL_store rfl .i64 71 _ _ rfl v3.heap.size 0 rfl _ rfl .i64 _ m3.r Tryz.sA ?_; intro v4 p4; have kt : Trn w v4 p v3.heap.size L M := ⟨k8.far p4.g (by omega), a4.far p4.g (by simp; omega), p4.r, e4, l3⟩))
  clear k7 k8 a3 a4 p4 m3
  obtain ⟨q, hq⟩ : ∃ q, q = v3.heap.size := ⟨_, rfl⟩
  rw [← hq] at kt l3 ⊢
  clear hq
  refine (HB.out _).mono ?_
  rintro e v5 ⟨rfl, y5⟩
  have k5 := kt.new y5
  clear kt y5
  go_wp2_with (first | (refine wpL_load rfl .i64 43 _ rfl w.heap.size 0 rfl L k5.box.f ⟨_, Tryz.uY⟩ Tryz.sY ?_))
  refine (bound_any L n _).mono ?_
  rintro e v6 ⟨bx, rfl, hbx, y6⟩
  have k6 := k5.new y6
  clear k5 y6
  obtain rfl : bx = false := by cases bx with | false => rfl | true => exact absurd (hbx.1 rfl) hL
  clear hbx
  go_wp2_with (first | (refine wpL_load rfl .i64 43 _ rfl (w.heap.size + 1) 0 rfl M k6.box.h ⟨_, Tryz.uY⟩ Tryz.sY ?_))
  refine (bound_any M n _).mono ?_
  rintro e v7 ⟨by2, rfl, hby, y7⟩
  have k7 := k6.new y7
  clear k6 y7
  clear hby
  have m7 := new_alloc .i64 v7 (fun _ => 0) 71
  rw [← Tryz.zA] at m7
  have k8 := k7.new m7.g
  have l7 := k7.lt
  go_wp2_with (first | (refine wpL_load rfl .i64 71 _ rfl p 0 rfl L k8.a ⟨_, Tryz.uA⟩ Tryz.sA ?_) | (refine wpL_load rfl .i64 71 _ rfl q 0 rfl M k8.b ⟨_, Tryz.uA⟩ Tryz.sA ?_))
  refine (HA.out _).mono ?_
  rintro e v8 ⟨rfl, y8⟩
  have k9 := k8.new y8
  have c8 := m7.r.new y8
  have l8 := c8.lt
  obtain ⟨x, hx⟩ : ∃ x, x = v7.heap.size := ⟨_, rfl⟩
  rw [← hx] at c8 l7 l8 ⊢
  clear hx k7 k8 m7 y8
  go_wp2_with (first | (refine wpL_store rfl .i64 71 _ _ rfl x 0 rfl _ rfl .i64 _ c8 Tryz.sA ?_; intro v9 p9; have n9 := new_alloc .i64 v9 (fun _ => 0) 43; rw [← Tryz.zY] at n9; have s9 := p9.s; have k10 := (k9.far p9.g l7).new n9.g; have c9 := p9.r.new n9.g))
  have d9 := n9.r
  have l9 := d9.lt
  have hE9 := hE.new k10.box.g
  obtain ⟨z, hz⟩ : ∃ z, z = v8.heap.size := ⟨_, rfl⟩
  rw [s9, ← hz] at d9
  rw [← hz] at l8 ⊢
  have lz : x < z := l8
  clear hz s9 k9 c8 n9 p9 l9
  refine (ltold_err 5 _ hE9 (by decide)).mono ?_
  rintro e v11 ⟨rfl, y11⟩
  have k12 := k10.new y11
  have c12 := c9.new y11
  have d12 := d9.new y11
  clear k10 c9 d9 y11 hE9
  go_wp2_with (first | (refine wpL_load rfl .i64 71 _ rfl x 0 rfl _ c12 ⟨_, Tryz.uA⟩ Tryz.sA ?_) | (refine wpL_load rfl .i64 43 _ rfl z 0 rfl _ d12 ⟨_, Tryz.uY⟩ Tryz.sY ?_))
  refine (is_same _ _ (fun _ _ => rfl) _).mono ?_
  rintro e v13 ⟨rfl, y13⟩
  have k13 := k12.new y13
  have d13 := d12.new y13
  clear k12 c12 d12 y13
  go_wp2_with (first | (refine wpL_load rfl .i64 43 _ rfl z 0 rfl _ d13 ⟨_, Tryz.uY⟩ Tryz.sY ?_) | (refine wpL_store rfl .i64 43 _ _ rfl (w.heap.size + 1 + 1) 0 rfl _ rfl .i64 _ k13.box.r Tryz.sY ?_; intro v14 p14))
  refine bodyPost_ret (res2 Tryz.results28 .i64 _ v14 (w.heap.size + 1 + 1) _ _ rfl rfl p14.r ⟨_, Tryz.uY⟩ Tryz.sY) rfl ⟨rfl, grown_new k13.box.g p14.g (by omega)⟩
set_option maxHeartbeats 4000000 in
set_option maxRecDepth 20000 in
theorem tr_2b2 (d n : Int) (L M : Nat → Int) (hL : InB L n) (hM : ¬ InB M n)
    (HB : Hid (∀ W, Calls Tryz.prog 51 #[.int .i64 2, .int .i64 d] W fun e w' => e = .returned (.tuple #[.int .i64 0, .int .i64 n]) ∧ W.grownBy w' none))
    (HA : Hid (∀ W, Calls Tryz.prog 55 #[.int .i64 d, .agg (polyA .i64 L), .agg (polyA .i64 M)] W fun e w' => e = .returned (.tuple #[.agg (polyA .i64 (fun _ => 0)), .iface 138 (.int .i64 5)]) ∧ W.grownBy w' none))
    (w : World) (hE : Et w) : Calls Tryz.prog 28 #[.int .i64 2, .int .i64 d, .agg (polyA .i64 L), .agg (polyA .i64 M)] w fun e w' => e = .returned (.tuple #[.agg (polyA .i64 (fun _ => 0)), .bool true]) ∧ w.grownBy w' none := by
  have k3 := box3_mk w L M
  go_enter Tryz.func28, Tryz.ntmps28
  go_wp2_with (first | (refine wpL_load rfl .i64 43 _ rfl w.heap.size 0 rfl L k3.f ⟨_, Tryz.uY⟩ Tryz.sY ?_))
  refine (lpoly_any L _).mono ?_
  rintro e v1 ⟨rfl, y1⟩
  have k4 := k3.new y1
  clear k3 y1
  have m1 := new_alloc .i64 v1 (fun _ => 0) 71
  rw [← Tryz.zA] at m1
  have k5 := k4.new m1.g
  have e4 := k4.lt
  go_wp2_with (first | (refine wpL_store rfl .i64 71 _ _ rfl v1.heap.size 0 rfl _ rfl .i64 _ m1.r Tryz.sA ?_; intro v2 p2; have k6 := k5.far p2.g e4) | (refine wpL_load rfl .i64 43 _ rfl (w.heap.size + 1) 0 rfl M k6.h ⟨_, Tryz.uY⟩ Tryz.sY ?_))
  refine (lpoly_any M _).mono ?_
  rintro e v3 ⟨rfl, y3⟩
  have k7 := k6.new y3
  have a3 := p2.r.new y3
  have l3 := a3.lt
  clear k4 k5 k6 p2 m1 y3
  have m3 := new_alloc .i64 v3 (fun _ => 0) 71
  rw [← Tryz.zA] at m3
  have k8 := k7.new m3.g
  have a4 := a3.new m3.g
  obtain ⟨p, hp⟩ : ∃ p, p = v1.heap.size := ⟨_, rfl⟩
  rw [← hp] at a3 a4 l3 e4 ⊢
  clear hp
  go_wp2_with (first | (refine wpL_store rfl .i64 71 _ _ rfl v3.heap.size 0 rfl _ rfl .i64 _ m3.r Tryz.sA ?_; intro v4 p4; have kt : Trn w v4 p v3.heap.size L M := ⟨k8.far p4.g (by omega), a4.far p4.g (by simp; omega), p4.r, e4, l3⟩))
  clear k7 k8 a3 a4 p4 m3
  obtain ⟨q, hq⟩ : ∃ q, q = v3.heap.size := ⟨_, rfl⟩
  rw [← hq] at kt l3 ⊢
  clear hq
  refine (HB.out _).mono ?_
  rintro e v5 ⟨rfl, y5⟩
  have k5 := kt.new y5
  clear kt y5
  go_wp2_with (first | (refine wpL_load rfl .i64 43 _ rfl w.heap.size 0 rfl L k5.box.f ⟨_, Tryz.uY⟩ Tryz.sY ?_))
  refine (bound_any L n _).mono ?_
  rintro e v6 ⟨bx, rfl, hbx, y6⟩
  have k6 := k5.new y6
  clear k5 y6
  obtain rfl : bx = true := hbx.2 hL
  clear hbx
  go_wp2_with (first | (refine wpL_load rfl .i64 43 _ rfl (w.heap.size + 1) 0 rfl M k6.box.h ⟨_, Tryz.uY⟩ Tryz.sY ?_))
  refine (bound_any M n _).mono ?_
  rintro e v7 ⟨by2, rfl, hby, y7⟩
  have k7 := k6.new y7
  clear k6 y7
  obtain rfl : by2 = false := by cases by2 with | false => rfl | true => exact absurd (hby.1 rfl) hM
  clear hby
  have m7 := new_alloc .i64 v7 (fun _ => 0) 71
  rw [← Tryz.zA] at m7
  have k8 := k7.new m7.g
  have l7 := k7.lt
  go_wp2_with (first | (refine wpL_load rfl .i64 71 _ rfl p 0 rfl L k8.a ⟨_, Tryz.uA⟩ Tryz.sA ?_) | (refine wpL_load rfl .i64 71 _ rfl q 0 rfl M k8.b ⟨_, Tryz.uA⟩ Tryz.sA ?_))
  refine (HA.out _).mono ?_
  rintro e v8 ⟨rfl, y8⟩
  have k9 := k8.new y8
  have c8 := m7.r.new y8
  have l8 := c8.lt
  obtain ⟨x, hx⟩ : ∃ x, x = v7.heap.size := ⟨_, rfl⟩
  rw [← hx] at c8 l7 l8 ⊢
  clear hx k7 k8 m7 y8
  go_wp2_with (first | (refine wpL_store rfl .i64 71 _ _ rfl x 0 rfl _ rfl .i64 _ c8 Tryz.sA ?_; intro v9 p9; have n9 := new_alloc .i64 v9 (fun _ => 0) 43; rw [← Tryz.zY] at n9; have s9 := p9.s; have k10 := (k9.far p9.g l7).new n9.g; have c9 := p9.r.new n9.g))
  have d9 := n9.r
  have l9 := d9.lt
  have hE9 := hE.new k10.box.g
  obtain ⟨z, hz⟩ : ∃ z, z = v8.heap.size := ⟨_, rfl⟩
  rw [s9, ← hz] at d9
  rw [← hz] at l8 ⊢
  have lz : x < z := l8
  clear hz s9 k9 c8 n9 p9 l9
  refine (ltold_err 5 _ hE9 (by decide)).mono ?_
  rintro e v11 ⟨rfl, y11⟩
  have k12 := k10.new y11
  have c12 := c9.new y11
  have d12 := d9.new y11
  clear k10 c9 d9 y11 hE9
  go_wp2_with (first | (refine wpL_load rfl .i64 71 _ rfl x 0 rfl _ c12 ⟨_, Tryz.uA⟩ Tryz.sA ?_) | (refine wpL_load rfl .i64 43 _ rfl z 0 rfl _ d12 ⟨_, Tryz.uY⟩ Tryz.sY ?_))
  refine (is_same _ _ (fun _ _ => rfl) _).mono ?_
  rintro e v13 ⟨rfl, y13⟩
  have k13 := k12.new y13
  have d13 := d12.new y13
  clear k12 c12 d12 y13
  go_wp2_with (first | (refine wpL_load rfl .i64 43 _ rfl z 0 rfl _ d13 ⟨_, Tryz.uY⟩ Tryz.sY ?_) | (refine wpL_store rfl .i64 43 _ _ rfl (w.heap.size + 1 + 1) 0 rfl _ rfl .i64 _ k13.box.r Tryz.sY ?_; intro v14 p14))
  refine bodyPost_ret (res2 Tryz.results28 .i64 _ v14 (w.heap.size + 1 + 1) _ _ rfl rfl p14.r ⟨_, Tryz.uY⟩ Tryz.sY) rfl ⟨rfl, grown_new k13.box.g p14.g (by omega)⟩
set_option maxHeartbeats 4000000 in
set_option maxRecDepth 20000 in
theorem tr_2k (d n : Int) (L M H : Nat → Int) (H1 : Nat → Int) (hH : ∀ j, j < 256 → H1 j = H j) (hL : InB L n) (hM : InB M n)
    (HB : Hid (∀ W, Calls Tryz.prog 51 #[.int .i64 2, .int .i64 d] W fun e w' => e = .returned (.tuple #[.int .i64 0, .int .i64 n]) ∧ W.grownBy w' none))
    (HA : Hid (∀ W, Calls Tryz.prog 55 #[.int .i64 d, .agg (polyA .i64 L), .agg (polyA .i64 M)] W fun e w' => e = .returned (.tuple #[.agg (polyA .i64 H1), .nilIface]) ∧ W.grownBy w' none))
    (HW : Hid (∀ W, Calls Tryz.prog 58 #[.int .i64 2, .int .i64 d, .agg (polyA .i64 L), .agg (polyA .i64 M)] W fun e w' => e = .returned (.agg (polyA .i64 H)) ∧ W.grownBy w' none))
    (w : World) : Calls Tryz.prog 28 #[.int .i64 2, .int .i64 d, .agg (polyA .i64 L), .agg (polyA .i64 M)] w fun e w' => e = .returned (.tuple #[.agg (polyA .i64 H), .bool true]) ∧ w.grownBy w' none := by
  have k3 := box3_mk w L M
  have HH : Hid (∀ j, j < 256 → H1 j = H j) := hH
  clear hH
  go_enter Tryz.func28, Tryz.ntmps28
  go_wp2_with (first | (refine wpL_load rfl .i64 43 _ rfl w.heap.size 0 rfl L k3.f ⟨_, Tryz.uY⟩ Tryz.sY ?_))
  refine (lpoly_any L _).mono ?_
  rintro e v1 ⟨rfl, y1⟩
  have k4 := k3.new y1
  clear k3 y1
  have m1 := new_alloc .i64 v1 (fun _ => 0) 71
  rw [← Tryz.zA] at m1
  have k5 := k4.new m1.g
  have e4 := k4.lt
  go_wp2_with (first | (refine wpL_store rfl .i64 71 _ _ rfl v1.heap.size 0 rfl _ rfl .i64 _ m1.r Tryz.sA ?_; intro v2 p2; have k6 := k5.far p2.g e4) | (refine wpL_load rfl .i64 43 _ rfl (w.heap.size + 1) 0 rfl M k6.h ⟨_, Tryz.uY⟩ Tryz.sY ?_))
  refine (lpoly_any M _).mono ?_
  rintro e v3 ⟨rfl, y3⟩
  have k7 := k6.new y3
  have a3 := p2.r.new y3
  have l3 := a3.lt
  clear k4 k5 k6 p2 m1 y3
  have m3 := new_alloc .i64 v3 (fun _ => 0) 71
  rw [← Tryz.zA] at m3
  have k8 := k7.new m3.g
  have a4 := a3.new m3.g
  obtain ⟨p, hp⟩ : ∃ p, p = v1.heap.size := ⟨_, rfl⟩
  rw [← hp] at a3 a4 l3 e4 ⊢
  clear hp
  go_wp2_with (first | (refine wpL_store rfl .i64 71 _ _ rfl v3.heap.size 0 rfl _ rfl .i64 _ m3.r Tryz.sA ?_; intro v4 p4; have kt : Trn w v4 p v3.heap.size L M := ⟨k8.far p4.g (by omega), a4.far p4.g (by simp; omega), p4.r, e4, l3⟩))
  clear k7 k8 a3 a4 p4 m3
  obtain ⟨q, hq⟩ : ∃ q, q = v3.heap.size := ⟨_, rfl⟩
  rw [← hq] at kt l3 ⊢
  clear hq
  refine (HB.out _).mono ?_
  rintro e v5 ⟨rfl, y5⟩
  have k5 := kt.new y5
  clear kt y5
  go_wp2_with (first | (refine wpL_load rfl .i64 43 _ rfl w.heap.size 0 rfl L k5.box.f ⟨_, Tryz.uY⟩ Tryz.sY ?_))
  refine (bound_any L n _).mono ?_
  rintro e v6 ⟨bx, rfl, hbx, y6⟩
  have k6 := k5.new y6
  clear k5 y6
  obtain rfl : bx = true := hbx.2 hL
  clear hbx
  go_wp2_with (first | (refine wpL_load rfl .i64 43 _ rfl (w.heap.size + 1) 0 rfl M k6.box.h ⟨_, Tryz.uY⟩ Tryz.sY ?_))
  refine (bound_any M n _).mono ?_
  rintro e v7 ⟨by2, rfl, hby, y7⟩
  have k7 := k6.new y7
  clear k6 y7
  obtain rfl : by2 = true := hby.2 hM
  clear hby
  have m7 := new_alloc .i64 v7 (fun _ => 0) 71
  rw [← Tryz.zA] at m7
  have k8 := k7.new m7.g
  have l7 := k7.lt
  go_wp2_with (first | (refine wpL_load rfl .i64 71 _ rfl p 0 rfl L k8.a ⟨_, Tryz.uA⟩ Tryz.sA ?_) | (refine wpL_load rfl .i64 71 _ rfl q 0 rfl M k8.b ⟨_, Tryz.uA⟩ Tryz.sA ?_))
  refine (HA.out _).mono ?_
  rintro e v8 ⟨rfl, y8⟩
  have k9 := k8.new y8
  have c8 := m7.r.new y8
  have l8 := c8.lt
  obtain ⟨x, hx⟩ : ∃ x, x = v7.heap.size := ⟨_, rfl⟩
  rw [← hx] at c8 l7 l8 ⊢
  clear hx k7 k8 m7 y8
  go_wp2_with (first | (refine wpL_store rfl .i64 71 _ _ rfl x 0 rfl _ rfl .i64 _ c8 Tryz.sA ?_; intro v9 p9; have n9 := new_alloc .i64 v9 (fun _ => 0) 43; rw [← Tryz.zY] at n9; have s9 := p9.s; have k10 := (k9.far p9.g l7).new n9.g; have c9 := p9.r.new n9.g) | (refine wpL_load rfl .i64 43 _ rfl w.heap.size 0 rfl L k10.box.f ⟨_, Tryz.uY⟩ Tryz.sY ?_) | (refine wpL_load rfl .i64 43 _ rfl (w.heap.size + 1) 0 rfl M k10.box.h ⟨_, Tryz.uY⟩ Tryz.sY ?_))
  refine (HW.out _).mono ?_
  rintro e v10 ⟨rfl, y10⟩
  have k11 := k10.new y10
  have c11 := c9.new y10
  have d11 := n9.r.new y10
  have l11 := d11.lt
  obtain ⟨z, hz⟩ : ∃ z, z = v8.heap.size := ⟨_, rfl⟩
  rw [s9, ← hz] at d11
  rw [← hz] at l8 ⊢
  have lz : x < z := l8
  clear hz s9 k9 k10 c8 c9 n9 p9 y10 l11
  go_wp2_with (first | (refine wpL_store rfl .i64 43 _ _ rfl z 0 rfl _ rfl .i64 _ d11 Tryz.sY ?_; intro v11 p11; have k12 := k11.far p11.g (by omega); have c12 := c11.far p11.g (by simp; omega)))
  refine (ltold_nil _).mono ?_
  rintro e w' ⟨rfl, hw⟩
  rw [hw]
  clear hw w'
  have d12 := p11.r
  clear k11 c11 d11 p11
  go_wp2_with (first | (refine wpL_load rfl .i64 71 _ rfl x 0 rfl _ c12 ⟨_, Tryz.uA⟩ Tryz.sA ?_) | (refine wpL_load rfl .i64 43 _ rfl z 0 rfl _ d12 ⟨_, Tryz.uY⟩ Tryz.sY ?_))
  refine (is_same _ _ HH.out _).mono ?_
  rintro e v13 ⟨rfl, y13⟩
  have k13 := k12.new y13
  have d13 := d12.new y13
  clear k12 c12 d12 y13
  go_wp2_with (first | (refine wpL_load rfl .i64 43 _ rfl z 0 rfl _ d13 ⟨_, Tryz.uY⟩ Tryz.sY ?_) | (refine wpL_store rfl .i64 43 _ _ rfl (w.heap.size + 1 + 1) 0 rfl _ rfl .i64 _ k13.box.r Tryz.sY ?_; intro v14 p14))
  refine bodyPost_ret (res2 Tryz.results28 .i64 _ v14 (w.heap.size + 1 + 1) _ _ rfl rfl p14.r ⟨_, Tryz.uY⟩ Tryz.sY) rfl ⟨rfl, grown_new k13.box.g p14.g (by omega)⟩
set_option maxHeartbeats 4000000 in
set_option maxRecDepth 20000 in
theorem tr_3n (d n : Int) (L M : Nat → Int)
    (HB : Hid (∀ W, Calls Tryz.prog 51 #[.int .i64 3, .int .i64 d] W fun e w' => e = .returned (.tuple #[.int .i64 1, .int .i64 n]) ∧ W.grownBy w' none))
    (HA : Hid (∀ W, Calls Tryz.prog 56 #[.int .i64 d, .agg (polyA .i64 L)] W fun e w' => e = .returned (.tuple #[.agg (polyA .i64 (fun _ => 0)), .iface 138 (.int .i64 1)]) ∧ W.grownBy w' none))
    (w : World) (hE : Et w) : Calls Tryz.prog 28 #[.int .i64 3, .int .i64 d, .agg (polyA .i64 L), .agg (polyA .i64 M)] w fun e w' => e = .returned (.tuple #[.agg (polyA .i64 (fun _ => 0)), .bool true]) ∧ w.grownBy w' none := by
  have k3 := box3_mk w L M
  go_enter Tryz.func28, Tryz.ntmps28
  go_wp2_with (first | (refine wpL_load rfl .i64 43 _ rfl w.heap.size 0 rfl L k3.f ⟨_, Tryz.uY⟩ Tryz.sY ?_))
  refine (lpoly_any L _).mono ?_
  rintro e v1 ⟨rfl, y1⟩
  have k4 := k3.new y1
  clear k3 y1
  have m1 := new_alloc .i64 v1 (fun _ => 0) 71
  rw [← Tryz.zA] at m1
  have k5 := k4.new m1.g
  have e4 := k4.lt
  go_wp2_with (first | (refine wpL_store rfl .i64 71 _ _ rfl v1.heap.size 0 rfl _ rfl .i64 _ m1.r Tryz.sA ?_; intro v2 p2; have k6 := k5.far p2.g e4) | (refine wpL_load rfl .i64 43 _ rfl (w.heap.size + 1) 0 rfl M k6.h ⟨_, Tryz.uY⟩ Tryz.sY ?_))
  refine (lpoly_any M _).mono ?_
  rintro e v3 ⟨rfl, y3⟩
  have k7 := k6.new y3
  have a3 := p2.r.new y3
  have l3 := a3.lt
  clear k4 k5 k6 p2 m1 y3
  have m3 := new_alloc .i64 v3 (fun _ => 0) 71
  rw [← Tryz.zA] at m3
  have k8 := k7.new m3.g
  have a4 := a3.new m3.g
  obtain ⟨p, hp⟩ : ∃ p, p = v1.heap.size := ⟨_, rfl⟩
  rw [← hp] at a3 a4 l3 e4 ⊢
  clear hp
  go_wp2_with (first | (refine wpL_store rfl .i64 71 _ _ rfl v3.heap.size 0 rfl _ rfl .i64 _ m3.r Tryz.sA ?_; intro v4 p4; have kt : Trn w v4 p v3.heap.size L M := ⟨k8.far p4.g (by omega), a4.far p4.g (by simp; omega), p4.r, e4, l3⟩))
  clear k7 k8 a3 a4 p4 m3
  obtain ⟨q, hq⟩ : ∃ q, q = v3.heap.size := ⟨_, rfl⟩
  rw [← hq] at kt l3 ⊢
  clear hq
  refine (HB.out _).mono ?_
  rintro e v5 ⟨rfl, y5⟩
  have k5 := kt.new y5
  clear kt y5
  go_wp2_with (first | (refine wpL_load rfl .i64 43 _ rfl w.heap.size 0 rfl L k5.box.f ⟨_, Tryz.uY⟩ Tryz.sY ?_))
  refine (bound_any L n _).mono ?_
  rintro e v6 ⟨bx, rfl, hbx, y6⟩
  have k6 := k5.new y6
  clear k5 y6
  clear hbx
  go_wp2_with (first | (refine wpL_load rfl .i64 43 _ rfl (w.heap.size + 1) 0 rfl M k6.box.h ⟨_, Tryz.uY⟩ Tryz.sY ?_))
  refine (bound_any M n _).mono ?_
  rintro e v7 ⟨by2, rfl, hby, y7⟩
  have k7 := k6.new y7
  clear k6 y7
  clear hby
  have m7 := new_alloc .i64 v7 (fun _ => 0) 71
  rw [← Tryz.zA] at m7
  have k8 := k7.new m7.g
  have l7 := k7.lt
  go_wp2_with (first | (refine wpL_load rfl .i64 71 _ rfl p 0 rfl L k8.a ⟨_, Tryz.uA⟩ Tryz.sA ?_))
  refine (HA.out _).mono ?_
  rintro e v8 ⟨rfl, y8⟩
  have k9 := k8.new y8
  have c8 := m7.r.new y8
  have l8 := c8.lt
  obtain ⟨x, hx⟩ : ∃ x, x = v7.heap.size := ⟨_, rfl⟩
  rw [← hx] at c8 l7 l8 ⊢
  clear hx k7 k8 m7 y8
  go_wp2_with (first | (refine wpL_store rfl .i64 71 _ _ rfl x 0 rfl _ rfl .i64 _ c8 Tryz.sA ?_; intro v9 p9; have n9 := new_alloc .i64 v9 (fun _ => 0) 43; rw [← Tryz.zY] at n9; have s9 := p9.s; have k10 := (k9.far p9.g l7).new n9.g; have c9 := p9.r.new n9.g))
  have d9 := n9.r
  have l9 := d9.lt
  have hE9 := hE.new k10.box.g
  obtain ⟨z, hz⟩ : ∃ z, z = v8.heap.size := ⟨_, rfl⟩
  rw [s9, ← hz] at d9
  rw [← hz] at l8 ⊢
  have lz : x < z := l8
  clear hz s9 k9 c8 n9 p9 l9
  refine (ltold_err 1 _ hE9 (by decide)).mono ?_
  rintro e v11 ⟨rfl, y11⟩
  have k12 := k10.new y11
  have c12 := c9.new y11
  have d12 := d9.new y11
  clear k10 c9 d9 y11 hE9
  go_wp2_with (first | (refine wpL_load rfl .i64 71 _ rfl x 0 rfl _ c12 ⟨_, Tryz.uA⟩ Tryz.sA ?_) | (refine wpL_load rfl .i64 43 _ rfl z 0 rfl _ d12 ⟨_, Tryz.uY⟩ Tryz.sY ?_))
  refine (is_same _ _ (fun _ _ => rfl) _).mono ?_
  rintro e v13 ⟨rfl, y13⟩
  have k13 := k12.new y13
  have d13 := d12.new y13
  clear k12 c12 d12 y13
  go_wp2_with (first | (refine wpL_load rfl .i64 43 _ rfl z 0 rfl _ d13 ⟨_, Tryz.uY⟩ Tryz.sY ?_) | (refine wpL_store rfl .i64 43 _ _ rfl (w.heap.size + 1 + 1) 0 rfl _ rfl .i64 _ k13.box.r Tryz.sY ?_; intro v14 p14))
  refine bodyPost_ret (res2 Tryz.results28 .i64 _ v14 (w.heap.size + 1 + 1) _ _ rfl rfl p14.r ⟨_, Tryz.uY⟩ Tryz.sY) rfl ⟨rfl, grown_new k13.box.g p14.g (by omega)⟩
set_option maxHeartbeats 4000000 in
set_option maxRecDepth 20000 in
theorem tr_3b (d n : Int) (L M : Nat → Int) (hL : ¬ InB L n)
    (HB : Hid (∀ W, Calls Tryz.prog 51 #[.int .i64 3, .int .i64 d] W fun e w' => e = .returned (.tuple #[.int .i64 0, .int .i64 n]) ∧ W.grownBy w' none))
    (HA : Hid (∀ W, Calls Tryz.prog 56 #[.int .i64 d, .agg (polyA .i64 L)] W fun e w' => e = .returned (.tuple #[.agg (polyA .i64 (fun _ => 0)), .iface 138 (.int .i64 5)]) ∧ W.grownBy w' none))
    (w : World) (hE : Et w) : Calls Tryz.prog 28 #[.int .i64 3, .int .i64 d, .agg (polyA .i64 L), .agg (polyA .i64 M)] w fun e w' => e = .returned (.tuple #[.agg (polyA .i64 (fun _ => 0)), .bool true]) ∧ w.grownBy w' none := by
  have k3 := box3_mk w L M
  go_enter Tryz.func28, Tryz.ntmps28
  go_wp2_with (first | (refine wpL_load rfl .i64 43 _ rfl w.heap.size 0 rfl L k3.f ⟨_, Tryz.uY⟩ Tryz.sY ?_))
  refine (lpoly_any L _).mono ?_
  rintro e v1 ⟨rfl, y1⟩
  have k4 := k3.new y1
  clear k3 y1
  have m1 := new_alloc .i64 v1 (fun _ => 0) 71
  rw [← Tryz.zA] at m1
  have k5 := k4.new m1.g
  have e4 := k4.lt
  go_wp2_with (first | (refine wpL_store rfl .i64 71 _ _ rfl v1.heap.size 0 rfl _ rfl .i64 _ m1.r Tryz.sA ?_; intro v2 p2; have k6 := k5.far p2.g e4) | (refine wpL_load rfl .i64 43 _ rfl (w.heap.size + 1) 0 rfl M k6.h ⟨_, Tryz.uY⟩ Tryz.sY ?_))
  refine (lpoly_any M _).mono ?_
  rintro e v3 ⟨rfl, y3⟩
  have k7 := k6.new y3
  have a3 := p2.r.new y3
  have l3 := a3.lt
  clear k4 k5 k6 p2 m1 y3
  have m3 := new_alloc .i64 v3 (fun _ => 0) 71
  rw [← Tryz.zA] at m3
  have k8 := k7.new m3.g
  have a4 := a3.new m3.g
  obtain ⟨p, hp⟩ : ∃ p, p = v1.heap.size := ⟨_, rfl⟩
  rw [← hp] at a3 a4 l3 e4 ⊢
  clear hp
  go_wp2_with (first | (refine wpL_store rfl .i64 71 _ _ rfl v3.heap.size 0 rfl _ rfl .i64 _ m3.r Tryz.sA ?_; intro v4 p4; have kt : Trn w v4 p v3.heap.size L M := ⟨k8.far p4.g (by omega), a4.far p4.g (by simp; omega), p4.r, e4, l3⟩))
  clear k7 k8 a3 a4 p4 m3
  obtain ⟨q, hq⟩ : ∃ q, q = v3.heap.size := ⟨_, rfl⟩
  rw [← hq] at kt l3 ⊢
  clear hq
  refine (HB.out _).mono ?_
  rintro e v5 ⟨rfl, y5⟩
  have k5 := kt.new y5
  clear kt y5
  go_wp2_with (first | (refine wpL_load rfl .i64 43 _ rfl w.heap.size 0 rfl L k5.box.f ⟨_, Tryz.uY⟩ Tryz.sY ?_))
  refine (bound_any L n _).mono ?_
  rintro e v6 ⟨bx, rfl, hbx, y6⟩
  have k6 := k5.new y6
  clear k5 y6
  obtain rfl : bx = false := by cases bx with | false => rfl | true => exact absurd (hbx.1 rfl) hL
  clear hbx
  go_wp2_with (first | (refine wpL_load rfl .i64 43 _ rfl (w.heap.size + 1) 0 rfl M k6.box.h ⟨_, Tryz.uY⟩ Tryz.sY ?_))
  refine (bound_any M n _).mono ?_
  rintro e v7 ⟨by2, rfl, hby, y7⟩
  have k7 := k6.new y7
  clear k6 y7
  clear hby
  have m7 := new_alloc .i64 v7 (fun _ => 0) 71
  rw [← Tryz.zA] at m7
  have k8 := k7.new m7.g
  have l7 := k7.lt
  go_wp2_with (first | (refine wpL_load rfl .i64 71 _ rfl p 0 rfl L k8.a ⟨_, Tryz.uA⟩ Tryz.sA ?_))
  refine (HA.out _).mono ?_
  rintro e v8 ⟨rfl, y8⟩
  have k9 := k8.new y8
  have c8 := m7.r.new y8
  have l8 := c8.lt
  obtain ⟨x, hx⟩ : ∃ x, x = v7.heap.size := ⟨_, rfl⟩
  rw [← hx] at c8 l7 l8 ⊢
  clear hx k7 k8 m7 y8
  go_wp2_with (first | (refine wpL_store rfl .i64 71 _ _ rfl x 0 rfl _ rfl .i64 _ c8 Tryz.sA ?_; intro v9 p9; have n9 := new_alloc .i64 v9 (fun _ => 0) 43; rw [← Tryz.zY] at n9; have s9 := p9.s; have k10 := (k9.far p9.g l7).new n9.g; have c9 := p9.r.new n9.g))
  have d9 := n9.r
  have l9 := d9.lt
  have hE9 := hE.new k10.box.g
  obtain ⟨z, hz⟩ : ∃ z, z = v8.heap.size := ⟨_, rfl⟩
  rw [s9, ← hz] at d9
  rw [← hz] at l8 ⊢
  have lz : x < z := l8
  clear hz s9 k9 c8 n9 p9 l9
  refine (ltold_err 5 _ hE9 (by decide)).mono ?_
  rintro e v11 ⟨rfl, y11⟩
  have k12 := k10.new y11
  have c12 := c9.new y11
  have d12 := d9.new y11
  clear k10 c9 d9 y11 hE9
  go_wp2_with (first | (refine wpL_load rfl .i64 71 _ rfl x 0 rfl _ c12 ⟨_, Tryz.uA⟩ Tryz.sA ?_) | (refine wpL_load rfl .i64 43 _ rfl z 0 rfl _ d12 ⟨_, Tryz.uY⟩ Tryz.sY ?_))
  refine (is_same _ _ (fun _ _ => rfl) _).mono ?_
  rintro e v13 ⟨rfl, y13⟩
  have k13 := k12.new y13
  have d13 := d12.new y13
  clear k12 c12 d12 y13
  go_wp2_with (first | (refine wpL_load rfl .i64 43 _ rfl z 0 rfl _ d13 ⟨_, Tryz.uY⟩ Tryz.sY ?_) | (refine wpL_store rfl .i64 43 _ _ rfl (w.heap.size + 1 + 1) 0 rfl _ rfl .i64 _ k13.box.r Tryz.sY ?_; intro v14 p14))
  refine bodyPost_ret (res2 Tryz.results28 .i64 _ v14 (w.heap.size + 1 + 1) _ _ rfl rfl p14.r ⟨_, Tryz.uY⟩ Tryz.sY) rfl ⟨rfl, grown_new k13.box.g p14.g (by omega)⟩
set_option maxHeartbeats 4000000 in
set_option maxRecDepth 20000 in
theorem tr_3k (d n : Int) (L M H : Nat → Int) (H1 : Nat → Int) (hH : ∀ j, j < 256 → H1 j = H j) (hL : InB L n)
    (HB : Hid (∀ W, Calls Tryz.prog 51 #[.int .i64 3, .int .i64 d] W fun e w' => e = .returned (.tuple #[.int .i64 0, .int .i64 n]) ∧ W.grownBy w' none))
    (HA : Hid (∀ W, Calls Tryz.prog 56 #[.int .i64 d, .agg (polyA .i64 L)] W fun e w' => e = .returned (.tuple #[.agg (polyA .i64 H1), .nilIface]) ∧ W.grownBy w' none))
    (HW : Hid (∀ W, Calls Tryz.prog 58 #[.int .i64 3, .int .i64 d, .agg (polyA .i64 L), .agg (polyA .i64 M)] W fun e w' => e = .returned (.agg (polyA .i64 H)) ∧ W.grownBy w' none))
    (w : World) : Calls Tryz.prog 28 #[.int .i64 3, .int .i64 d, .agg (polyA .i64 L), .agg (polyA .i64 M)] w fun e w' => e = .returned (.tuple #[.agg (polyA .i64 H), .bool true]) ∧ w.grownBy w' none := by
  have k3 := box3_mk w L M
  have HH : Hid (∀ j, j < 256 → H1 j = H j) := hH
  clear hH
  go_enter Tryz.func28, Tryz.ntmps28
  go_wp2_with (first | (refine wpL_load rfl .i64 43 _ rfl w.heap.size 0 rfl L k3.f ⟨_, Tryz.uY⟩ Tryz.sY ?_))
  refine (lpoly_any L _).mono ?_
  rintro e v1 ⟨rfl, y1⟩
  have k4 := k3.new y1
  clear k3 y1
  have m1 := new_alloc .i64 v1 (fun _ => 0) 71
  rw [← Tryz.zA] at m1
  have k5 := k4.new m1.g
  have e4 := k4.lt
  go_wp2_with (first | (refine wpL_store rfl .i64 71 _ _ rfl v1.heap.size 0 rfl _ rfl .i64 _ m1.r Tryz.sA ?_; intro v2 p2; have k6 := k5.far p2.g e4) | (refine wpL_load rfl .i64 43 _ rfl (w.heap.size + 1) 0 rfl M k6.h ⟨_, Tryz.uY⟩ Tryz.sY ?_))
  refine (lpoly_any M _).mono ?_
  rintro e v3 ⟨rfl, y3⟩
  have k7 := k6.new y3
  have a3 := p2.r.new y3
  have l3 := a3.lt
  clear k4 k5 k6 p2 m1 y3
  have m3 := new_alloc .i64 v3 (fun _ => 0) 71
  rw [← Tryz.zA] at m3
  have k8 := k7.new m3.g
  have a4 := a3.new m3.g
  obtain ⟨p, hp⟩ : ∃ p, p = v1.heap.size := ⟨_, rfl⟩
  rw [← hp] at a3 a4 l3 e4 ⊢
  clear hp
  go_wp2_with (first | (refine wpL_store rfl .i64 71 _ _ rfl v3.heap.size 0 rfl _ rfl .i64 _ m3.r Tryz.sA ?_; intro v4 p4; have kt : Trn w v4 p v3.heap.size L M := ⟨k8.far p4.g (by omega), a4.far p4.g (by simp; omega), p4.r, e4, l3⟩))
  clear k7 k8 a3 a4 p4 m3
  obtain ⟨q, hq⟩ : ∃ q, q = v3.heap.size := ⟨_, rfl⟩
  rw [← hq] at kt l3 ⊢
  clear hq
  refine (HB.out _).mono ?_
  rintro e v5 ⟨rfl, y5⟩
  have k5 := kt.new y5
  clear kt y5
  go_wp2_with (first | (refine wpL_load rfl .i64 43 _ rfl w.heap.size 0 rfl L k5.box.f ⟨_, Tryz.uY⟩ Tryz.sY ?_))
  refine (bound_any L n _).mono ?_
  rintro e v6 ⟨bx, rfl, hbx, y6⟩
  have k6 := k5.new y6
  clear k5 y6
  obtain rfl : bx = true := hbx.2 hL
  clear hbx
  go_wp2_with (first | (refine wpL_load rfl .i64 43 _ rfl (w.heap.size + 1) 0 rfl M k6.box.h ⟨_, Tryz.uY⟩ Tryz.sY ?_))
  refine (bound_any M n _).mono ?_
  rintro e v7 ⟨by2, rfl, hby, y7⟩
  have k7 := k6.new y7
  clear k6 y7
  clear hby
  have m7 := new_alloc .i64 v7 (fun _ => 0) 71
  rw [← Tryz.zA] at m7
  have k8 := k7.new m7.g
  have l7 := k7.lt
  go_wp2_with (first | (refine wpL_load rfl .i64 71 _ rfl p 0 rfl L k8.a ⟨_, Tryz.uA⟩ Tryz.sA ?_))
  refine (HA.out _).mono ?_
  rintro e v8 ⟨rfl, y8⟩
  have k9 := k8.new y8
  have c8 := m7.r.new y8
  have l8 := c8.lt
  obtain ⟨x, hx⟩ : ∃ x, x = v7.heap.size := ⟨_, rfl⟩
  rw [← hx] at c8 l7 l8 ⊢
  clear hx k7 k8 m7 y8
  go_wp2_with (first | (refine wpL_store rfl .i64 71 _ _ rfl x 0 rfl _ rfl .i64 _ c8 Tryz.sA ?_; intro v9 p9; have n9 := new_alloc .i64 v9 (fun _ => 0) 43; rw [← Tryz.zY] at n9; have s9 := p9.s; have k10 := (k9.far p9.g l7).new n9.g; have c9 := p9.r.new n9.g) | (refine wpL_load rfl .i64 43 _ rfl w.heap.size 0 rfl L k10.box.f ⟨_, Tryz.uY⟩ Tryz.sY ?_) | (refine wpL_load rfl .i64 43 _ rfl (w.heap.size + 1) 0 rfl M k10.box.h ⟨_, Tryz.uY⟩ Tryz.sY ?_))
  refine (HW.out _).mono ?_
  rintro e v10 ⟨rfl, y10⟩
  have k11 := k10.new y10
  have c11 := c9.new y10
  have d11 := n9.r.new y10
  have l11 := d11.lt
  obtain ⟨z, hz⟩ : ∃ z, z = v8.heap.size := ⟨_, rfl⟩
  rw [s9, ← hz] at d11
  rw [← hz] at l8 ⊢
  have lz : x < z := l8
  clear hz s9 k9 k10 c8 c9 n9 p9 y10 l11
  go_wp2_with (first | (refine wpL_store rfl .i64 43 _ _ rfl z 0 rfl _ rfl .i64 _ d11 Tryz.sY ?_; intro v11 p11; have k12 := k11.far p11.g (by omega); have c12 := c11.far p11.g (by simp; omega)))
  refine (ltold_nil _).mono ?_
  rintro e w' ⟨rfl, hw⟩
  rw [hw]
  clear hw w'
  have d12 := p11.r
  clear k11 c11 d11 p11
  go_wp2_with (first | (refine wpL_load rfl .i64 71 _ rfl x 0 rfl _ c12 ⟨_, Tryz.uA⟩ Tryz.sA ?_) | (refine wpL_load rfl .i64 43 _ rfl z 0 rfl _ d12 ⟨_, Tryz.uY⟩ Tryz.sY ?_))
  refine (is_same _ _ HH.out _).mono ?_
  rintro e v13 ⟨rfl, y13⟩
  have k13 := k12.new y13
  have d13 := d12.new y13
  clear k12 c12 d12 y13
  go_wp2_with (first | (refine wpL_load rfl .i64 43 _ rfl z 0 rfl _ d13 ⟨_, Tryz.uY⟩ Tryz.sY ?_) | (refine wpL_store rfl .i64 43 _ _ rfl (w.heap.size + 1 + 1) 0 rfl _ rfl .i64 _ k13.box.r Tryz.sY ?_; intro v14 p14))
  refine bodyPost_ret (res2 Tryz.results28 .i64 _ v14 (w.heap.size + 1 + 1) _ _ rfl rfl p14.r ⟨_, Tryz.uY⟩ Tryz.sY) rfl ⟨rfl, grown_new k13.box.g p14.g (by omega)⟩
set_option maxHeartbeats 4000000 in
set_option maxRecDepth 20000 in
theorem tr_4n (d n : Int) (L M : Nat → Int)
    (HB : Hid (∀ W, Calls Tryz.prog 51 #[.int .i64 4, .int .i64 d] W fun e w' => e = .returned (.tuple #[.int .i64 1, .int .i64 n]) ∧ W.grownBy w' none))
    (HA : Hid (∀ W, Calls Tryz.prog 57 #[.int .i64 d, .agg (polyA .i64 L)] W fun e w' => e = .returned (.tuple #[.agg (polyA .i64 (fun _ => 0)), .iface 138 (.int .i64 1)]) ∧ W.grownBy w' none))
    (w : World) (hE : Et w) : Calls Tryz.prog 28 #[.int .i64 4, .int .i64 d, .agg (polyA .i64 L), .agg (polyA .i64 M)] w fun e w' => e = .returned (.tuple #[.agg (polyA .i64 (fun _ => 0)), .bool true]) ∧ w.grownBy w' none := by
  have k3 := box3_mk w L M
  go_enter Tryz.func28, Tryz.ntmps28
  go_wp2_with (first | (refine wpL_load rfl .i64 43 _ rfl w.heap.size 0 rfl L k3.f ⟨_, Tryz.uY⟩ Tryz.sY ?_))
  refine (lpoly_any L _).mono ?_
  rintro e v1 ⟨rfl, y1⟩
  have k4 := k3.new y1
  clear k3 y1
  have m1 := new_alloc .i64 v1 (fun _ => 0) 71
  rw [← Tryz.zA] at m1
  have k5 := k4.new m1.g
  have e4 := k4.lt
  go_wp2_with (first | (refine wpL_store rfl .i64 71 _ _ rfl v1.heap.size 0 rfl _ rfl .i64 _ m1.r Tryz.sA ?_; intro v2 p2; have k6 := k5.far p2.g e4) | (refine wpL_load rfl .i64 43 _ rfl (w.heap.size + 1) 0 rfl M k6.h ⟨_, Tryz.uY⟩ Tryz.sY ?_))
  refine (lpoly_any M _).mono ?_
  rintro e v3 ⟨rfl, y3⟩
  have k7 := k6.new y3
  have a3 := p2.r.new y3
  have l3 := a3.lt
  clear k4 k5 k6 p2 m1 y3
  have m3 := new_alloc .i64 v3 (fun _ => 0) 71
  rw [← Tryz.zA] at m3
  have k8 := k7.new m3.g
  have a4 := a3.new m3.g
  obtain ⟨p, hp⟩ : ∃ p, p = v1.heap.size := ⟨_, rfl⟩
  rw [← hp] at a3 a4 l3 e4 ⊢
  clear hp
  go_wp2_with (first | (refine wpL_store rfl .i64 71 _ _ rfl v3.heap.size 0 rfl _ rfl .i64 _ m3.r Tryz.sA ?_; intro v4 p4; have kt : Trn w v4 p v3.heap.size L M := ⟨k8.far p4.g (by omega), a4.far p4.g (by simp; omega), p4.r, e4, l3⟩))
  clear k7 k8 a3 a4 p4 m3
  obtain ⟨q, hq⟩ : ∃ q, q = v3.heap.size := ⟨_, rfl⟩
  rw [← hq] at kt l3 ⊢
  clear hq
  refine (HB.out _).mono ?_
  rintro e v5 ⟨rfl, y5⟩
  have k5 := kt.new y5
  clear kt y5
  go_wp2_with (first | (refine wpL_load rfl .i64 43 _ rfl w.heap.size 0 rfl L k5.box.f ⟨_, Tryz.uY⟩ Tryz.sY ?_))
  refine (bound_any L n _).mono ?_
  rintro e v6 ⟨bx, rfl, hbx, y6⟩
  have k6 := k5.new y6
  clear k5 y6
  clear hbx
  go_wp2_with (first | (refine wpL_load rfl .i64 43 _ rfl (w.heap.size + 1) 0 rfl M k6.box.h ⟨_, Tryz.uY⟩ Tryz.sY ?_))
  refine (bound_any M n _).mono ?_
  rintro e v7 ⟨by2, rfl, hby, y7⟩
  have k7 := k6.new y7
  clear k6 y7
  clear hby
  have m7 := new_alloc .i64 v7 (fun _ => 0) 71
  rw [← Tryz.zA] at m7
  have k8 := k7.new m7.g
  have l7 := k7.lt
  go_wp2_with (first | (refine wpL_load rfl .i64 71 _ rfl p 0 rfl L k8.a ⟨_, Tryz.uA⟩ Tryz.sA ?_))
  refine (HA.out _).mono ?_
  rintro e v8 ⟨rfl, y8⟩
  have k9 := k8.new y8
  have c8 := m7.r.new y8
  have l8 := c8.lt
  obtain ⟨x, hx⟩ : ∃ x, x = v7.heap.size := ⟨_, rfl⟩
  rw [← hx] at c8 l7 l8 ⊢
  clear hx k7 k8 m7 y8
  go_wp2_with (first | (refine wpL_store rfl .i64 71 _ _ rfl x 0 rfl _ rfl .i64 _ c8 Tryz.sA ?_; intro v9 p9; have n9 := new_alloc .i64 v9 (fun _ => 0) 43; rw [← Tryz.zY] at n9; have s9 := p9.s; have k10 := (k9.far p9.g l7).new n9.g; have c9 := p9.r.new n9.g))
  have d9 := n9.r
  have l9 := d9.lt
  have hE9 := hE.new k10.box.g
  obtain ⟨z, hz⟩ : ∃ z, z = v8.heap.size := ⟨_, rfl⟩
  rw [s9, ← hz] at d9
  rw [← hz] at l8 ⊢
  have lz : x < z := l8
  clear hz s9 k9 c8 n9 p9 l9
  refine (ltold_err 1 _ hE9 (by decide)).mono ?_
  rintro e v11 ⟨rfl, y11⟩
  have k12 := k10.new y11
  have c12 := c9.new y11
  have d12 := d9.new y11
  clear k10 c9 d9 y11 hE9
  go_wp2_with (first | (refine wpL_load rfl .i64 71 _ rfl x 0 rfl _ c12 ⟨_, Tryz.uA⟩ Tryz.sA ?_) | (refine wpL_load rfl .i64 43 _ rfl z 0 rfl _ d12 ⟨_, Tryz.uY⟩ Tryz.sY ?_))
  refine (is_same _ _ (fun _ _ => rfl) _).mono ?_
  rintro e v13 ⟨rfl, y13⟩
  have k13 := k12.new y13
  have d13 := d12.new y13
  clear k12 c12 d12 y13
  go_wp2_with (first | (refine wpL_load rfl .i64 43 _ rfl z 0 rfl _ d13 ⟨_, Tryz.uY⟩ Tryz.sY ?_) | (refine wpL_store rfl .i64 43 _ _ rfl (w.heap.size + 1 + 1) 0 rfl _ rfl .i64 _ k13.box.r Tryz.sY ?_; intro v14 p14))
  refine bodyPost_ret (res2 Tryz.results28 .i64 _ v14 (w.heap.size + 1 + 1) _ _ rfl rfl p14.r ⟨_, Tryz.uY⟩ Tryz.sY) rfl ⟨rfl, grown_new k13.box.g p14.g (by omega)⟩
set_option maxHeartbeats 4000000 in
set_option maxRecDepth 20000 in
theorem tr_4b (d n : Int) (L M : Nat → Int) (hL : ¬ InB L n)
    (HB : Hid (∀ W, Calls Tryz.prog 51 #[.int .i64 4, .int .i64 d] W fun e w' => e = .returned (.tuple #[.int .i64 0, .int .i64 n]) ∧ W.grownBy w' none))
    (HA : Hid (∀ W, Calls Tryz.prog 57 #[.int .i64 d, .agg (polyA .i64 L)] W fun e w' => e = .returned (.tuple #[.agg (polyA .i64 (fun _ => 0)), .iface 138 (.int .i64 5)]) ∧ W.grownBy w' none))
    (w : World) (hE : Et w) : Calls Tryz.prog 28 #[.int .i64 4, .int .i64 d, .agg (polyA .i64 L), .agg (polyA .i64 M)] w fun e w' => e = .returned (.tuple #[.agg (polyA .i64 (fun _ => 0)), .bool true]) ∧ w.grownBy w' none := by
  have k3 := box3_mk w L M
  go_enter Tryz.func28, Tryz.ntmps28
  go_wp2_with (first | (refine wpL_load rfl .i64 43 _ rfl w.heap.size 0 rfl L k3.f ⟨_, Tryz.uY⟩ Tryz.sY ?_))
  refine (lpoly_any L _).mono ?_
  rintro e v1 ⟨rfl, y1⟩
  have k4 := k3.new y1
  clear k3 y1
  have m1 := new_alloc .i64 v1 (fun _ => 0) 71
  rw [← Tryz.zA] at m1
  have k5 := k4.new m1.g
  have e4 := k4.lt
  go_wp2_with (first | (refine wpL_store rfl .i64 71 _ _ rfl v1.heap.size 0 rfl _ rfl .i64 _ m1.r Tryz.sA ?_; intro v2 p2; have k6 := k5.far p2.g e4) | (refine wpL_load rfl .i64 43 _ rfl (w.heap.size + 1) 0 rfl M k6.h ⟨_, Tryz.uY⟩ Tryz.sY ?_))
  refine (lpoly_any M _).mono ?_
  rintro e v3 ⟨rfl, y3⟩
  have k7 := k6.new y3
  have a3 := p2.r.new y3
  have l3 := a3.lt
  clear k4 k5 k6 p2 m1 y3
  have m3 := new_alloc .i64 v3 (fun _ => 0) 71
  rw [← Tryz.zA] at m3
  have k8 := k7.new m3.g
  have a4 := a3.new m3.g
  obtain ⟨p, hp⟩ : ∃ p, p = v1.heap.size := ⟨_, rfl⟩
  rw [← hp] at a3 a4 l3 e4 ⊢
  clear hp
  go_wp2_with (first | (refine wpL_store rfl .i64 71 _ _ rfl v3.heap.size 0 rfl _ rfl .i64 _ m3.r Tryz.sA ?_; intro v4 p4; have kt : Trn w v4 p v3.heap.size L M := ⟨k8.far p4.g (by omega), a4.far p4.g (by simp; omega), p4.r, e4, l3⟩))
  clear k7 k8 a3 a4 p4 m3
  obtain ⟨q, hq⟩ : ∃ q, q = v3.heap.size := ⟨_, rfl⟩
  rw [← hq] at kt l3 ⊢
  clear hq
  refine (HB.out _).mono ?_
  rintro e v5 ⟨rfl, y5⟩
  have k5 := kt.new y5
  clear kt y5
  go_wp2_with (first | (refine wpL_load rfl .i64 43 _ rfl w.heap.size 0 rfl L k5.box.f ⟨_, Tryz.uY⟩ Tryz.sY ?_))
  refine (bound_any L n _).mono ?_
  rintro e v6 ⟨bx, rfl, hbx, y6⟩
  have k6 := k5.new y6
  clear k5 y6
  obtain rfl : bx = false := by cases bx with | false => rfl | true => exact absurd (hbx.1 rfl) hL
  clear hbx
  go_wp2_with (first | (refine wpL_load rfl .i64 43 _ rfl (w.heap.size + 1) 0 rfl M k6.box.h ⟨_, Tryz.uY⟩ Tryz.sY ?_))
  refine (bound_any M n _).mono ?_
  rintro e v7 ⟨by2, rfl, hby, y7⟩
  have k7 := k6.new y7
  clear k6 y7
  clear hby
  have m7 := new_alloc .i64 v7 (fun _ => 0) 71
  rw [← Tryz.zA] at m7
  have k8 := k7.new m7.g
  have l7 := k7.lt
  go_wp2_with (first | (refine wpL_load rfl .i64 71 _ rfl p 0 rfl L k8.a ⟨_, Tryz.uA⟩ Tryz.sA ?_))
  refine (HA.out _).mono ?_
  rintro e v8 ⟨rfl, y8⟩
  have k9 := k8.new y8
  have c8 := m7.r.new y8
  have l8 := c8.lt
  obtain ⟨x, hx⟩ : ∃ x, x = v7.heap.size := ⟨_, rfl⟩
  rw [← hx] at c8 l7 l8 ⊢
  clear hx k7 k8 m7 y8
  go_wp2_with (first | (refine wpL_store rfl .i64 71 _ _ rfl x 0 rfl _ rfl .i64 _ c8 Tryz.sA ?_; intro v9 p9; have n9 := new_alloc .i64 v9 (fun _ => 0) 43; rw [← Tryz.zY] at n9; have s9 := p9.s; have k10 := (k9.far p9.g l7).new n9.g; have c9 := p9.r.new n9.g))
  have d9 := n9.r
  have l9 := d9.lt
  have hE9 := hE.new k10.box.g
  obtain ⟨z, hz⟩ : ∃ z, z = v8.heap.size := ⟨_, rfl⟩
  rw [s9, ← hz] at d9
  rw [← hz] at l8 ⊢
  have lz : x < z := l8
  clear hz s9 k9 c8 n9 p9 l9
  refine (ltold_err 5 _ hE9 (by decide)).mono ?_
  rintro e v11 ⟨rfl, y11⟩
  have k12 := k10.new y11
  have c12 := c9.new y11
  have d12 := d9.new y11
  clear k10 c9 d9 y11 hE9
  go_wp2_with (first | (refine wpL_load rfl .i64 71 _ rfl x 0 rfl _ c12 ⟨_, Tryz.uA⟩ Tryz.sA ?_) | (refine wpL_load rfl .i64 43 _ rfl z 0 rfl _ d12 ⟨_, Tryz.uY⟩ Tryz.sY ?_))
  refine (is_same _ _ (fun _ _ => rfl) _).mono ?_
  rintro e v13 ⟨rfl, y13⟩
  have k13 := k12.new y13
  have d13 := d12.new y13
  clear k12 c12 d12 y13
  go_wp2_with (first | (refine wpL_load rfl .i64 43 _ rfl z 0 rfl _ d13 ⟨_, Tryz.uY⟩ Tryz.sY ?_) | (refine wpL_store rfl .i64 43 _ _ rfl (w.heap.size + 1 + 1) 0 rfl _ rfl .i64 _ k13.box.r Tryz.sY ?_; intro v14 p14))
  refine bodyPost_ret (res2 Tryz.results28 .i64 _ v14 (w.heap.size + 1 + 1) _ _ rfl rfl p14.r ⟨_, Tryz.uY⟩ Tryz.sY) rfl ⟨rfl, grown_new k13.box.g p14.g (by omega)⟩
set_option maxHeartbeats 4000000 in
set_option maxRecDepth 20000 in
theorem tr_4k (d n : Int) (L M H : Nat → Int) (H1 : Nat → Int) (hH : ∀ j, j < 256 → H1 j = H j) (hL : InB L n)
    (HB : Hid (∀ W, Calls Tryz.prog 51 #[.int .i64 4, .int .i64 d] W fun e w' => e = .returned (.tuple #[.int .i64 0, .int .i64 n]) ∧ W.grownBy w' none))
    (HA : Hid (∀ W, Calls Tryz.prog 57 #[.int .i64 d, .agg (polyA .i64 L)] W fun e w' => e = .returned (.tuple #[.agg (polyA .i64 H1), .nilIface]) ∧ W.grownBy w' none))
    (HW : Hid (∀ W, Calls Tryz.prog 58 #[.int .i64 4, .int .i64 d, .agg (polyA .i64 L), .agg (polyA .i64 M)] W fun e w' => e = .returned (.agg (polyA .i64 H)) ∧ W.grownBy w' none))
    (w : World) : Calls Tryz.prog 28 #[.int .i64 4, .int .i64 d, .agg (polyA .i64 L), .agg (polyA .i64 M)] w fun e w' => e = .returned (.tuple #[.agg (polyA .i64 H), .bool true]) ∧ w.grownBy w' none := by
  have k3 := box3_mk w L M
  have HH : Hid (∀ j, j < 256 → H1 j = H j) := hH
  clear hH
  go_enter Tryz.func28, Tryz.ntmps28
  go_wp2_with (first | (refine wpL_load rfl .i64 43 _ rfl w.heap.size 0 rfl L k3.f ⟨_, Tryz.uY⟩ Tryz.sY ?_))
  refine (lpoly_any L _).mono ?_
  rintro e v1 ⟨rfl, y1⟩
  have k4 := k3.new y1
  clear k3 y1
  have m1 := new_alloc .i64 v1 (fun _ => 0) 71
  rw [← Tryz.zA] at m1
  have k5 := k4.new m1.g
  have e4 := k4.lt
  go_wp2_with (first | (refine wpL_store rfl .i64 71 _ _ rfl v1.heap.size 0 rfl _ rfl .i64 _ m1.r Tryz.sA ?_; intro v2 p2; have k6 := k5.far p2.g e4) | (refine wpL_load rfl .i64 43 _ rfl (w.heap.size + 1) 0 rfl M k6.h ⟨_, Tryz.uY⟩ Tryz.sY ?_))
  refine (lpoly_any M _).mono ?_
  rintro e v3 ⟨rfl, y3⟩
  have k7 := k6.new y3
  have a3 := p2.r.new y3
  have l3 := a3.lt
  clear k4 k5 k6 p2 m1 y3
  have m3 := new_alloc .i64 v3 (fun _ => 0) 71
  rw [← Tryz.zA] at m3
  have k8 := k7.new m3.g
  have a4 := a3.new m3.g
  obtain ⟨p, hp⟩ : ∃ p, p = v1.heap.size := ⟨_, rfl⟩
  rw [← hp] at a3 a4 l3 e4 ⊢
  clear hp
  go_wp2_with (first | (refine wpL_store rfl .i64 71 _ _ rfl v3.heap.size 0 rfl _ rfl .i64 _ m3.r Tryz.sA ?_; intro v4 p4; have kt : Trn w v4 p v3.heap.size L M := ⟨k8.far p4.g (by omega), a4.far p4.g (by simp; omega), p4.r, e4, l3⟩))
  clear k7 k8 a3 a4 p4 m3
  obtain ⟨q, hq⟩ : ∃ q, q = v3.heap.size := ⟨_, rfl⟩
  rw [← hq] at kt l3 ⊢
  clear hq
  refine (HB.out _).mono ?_
  rintro e v5 ⟨rfl, y5⟩
  have k5 := kt.new y5
  clear kt y5
  go_wp2_with (first | (refine wpL_load rfl .i64 43 _ rfl w.heap.size 0 rfl L k5.box.f ⟨_, Tryz.uY⟩ Tryz.sY ?_))
  refine (bound_any L n _).mono ?_
  rintro e v6 ⟨bx, rfl, hbx, y6⟩
  have k6 := k5.new y6
  clear k5 y6
  obtain rfl : bx = true := hbx.2 hL
  clear hbx
  go_wp2_with (first | (refine wpL_load rfl .i64 43 _ rfl (w.heap.size + 1) 0 rfl M k6.box.h ⟨_, Tryz.uY⟩ Tryz.sY ?_))
  refine (bound_any M n _).mono ?_
  rintro e v7 ⟨by2, rfl, hby, y7⟩
  have k7 := k6.new y7
  clear k6 y7
  clear hby
  have m7 := new_alloc .i64 v7 (fun _ => 0) 71
  rw [← Tryz.zA] at m7
  have k8 := k7.new m7.g
  have l7 := k7.lt
  go_wp2_with (first | (refine wpL_load rfl .i64 71 _ rfl p 0 rfl L k8.a ⟨_, Tryz.uA⟩ Tryz.sA ?_))
  refine (HA.out _).mono ?_
  rintro e v8 ⟨rfl, y8⟩
  have k9 := k8.new y8
  have c8 := m7.r.new y8
  have l8 := c8.lt
  obtain ⟨x, hx⟩ : ∃ x, x = v7.heap.size := ⟨_, rfl⟩
  rw [← hx] at c8 l7 l8 ⊢
  clear hx k7 k8 m7 y8
  go_wp2_with (first | (refine wpL_store rfl .i64 71 _ _ rfl x 0 rfl _ rfl .i64 _ c8 Tryz.sA ?_; intro v9 p9; have n9 := new_alloc .i64 v9 (fun _ => 0) 43; rw [← Tryz.zY] at n9; have s9 := p9.s; have k10 := (k9.far p9.g l7).new n9.g; have c9 := p9.r.new n9.g) | (refine wpL_load rfl .i64 43 _ rfl w.heap.size 0 rfl L k10.box.f ⟨_, Tryz.uY⟩ Tryz.sY ?_) | (refine wpL_load rfl .i64 43 _ rfl (w.heap.size + 1) 0 rfl M k10.box.h ⟨_, Tryz.uY⟩ Tryz.sY ?_))
  refine (HW.out _).mono ?_
  rintro e v10 ⟨rfl, y10⟩
  have k11 := k10.new y10
  have c11 := c9.new y10
  have d11 := n9.r.new y10
  have l11 := d11.lt
  obtain ⟨z, hz⟩ : ∃ z, z = v8.heap.size := ⟨_, rfl⟩
  rw [s9, ← hz] at d11
  rw [← hz] at l8 ⊢
  have lz : x < z := l8
  clear hz s9 k9 k10 c8 c9 n9 p9 y10 l11
  go_wp2_with (first | (refine wpL_store rfl .i64 43 _ _ rfl z 0 rfl _ rfl .i64 _ d11 Tryz.sY ?_; intro v11 p11; have k12 := k11.far p11.g (by omega); have c12 := c11.far p11.g (by simp; omega)))
  refine (ltold_nil _).mono ?_
  rintro e w' ⟨rfl, hw⟩
  rw [hw]
  clear hw w'
  have d12 := p11.r
  clear k11 c11 d11 p11
  go_wp2_with (first | (refine wpL_load rfl .i64 71 _ rfl x 0 rfl _ c12 ⟨_, Tryz.uA⟩ Tryz.sA ?_) | (refine wpL_load rfl .i64 43 _ rfl z 0 rfl _ d12 ⟨_, Tryz.uY⟩ Tryz.sY ?_))
  refine (is_same _ _ HH.out _).mono ?_
  rintro e v13 ⟨rfl, y13⟩
  have k13 := k12.new y13
  have d13 := d12.new y13
  clear k12 c12 d12 y13
  go_wp2_with (first | (refine wpL_load rfl .i64 43 _ rfl z 0 rfl _ d13 ⟨_, Tryz.uY⟩ Tryz.sY ?_) | (refine wpL_store rfl .i64 43 _ _ rfl (w.heap.size + 1 + 1) 0 rfl _ rfl .i64 _ k13.box.r Tryz.sY ?_; intro v14 p14))
  refine bodyPost_ret (res2 Tryz.results28 .i64 _ v14 (w.heap.size + 1 + 1) _ _ rfl rfl p14.r ⟨_, Tryz.uY⟩ Tryz.sY) rfl ⟨rfl, grown_new k13.box.g p14.g (by omega)⟩
end Go.Proofs.YtkijpphmiogbbaaGreatDoor.Z
