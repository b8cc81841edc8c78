import Derived.Test.YtkijpphmiogbbaaGreatDoorM31
import Derived.Test.YtkijpphmiogbbaaGreatDoorM10
namespace Go.Proofs.YtkijpphmiogbbaaGreatDoor.Z
open Go.RowKit
attribute [local go_sem ↓] Go.wp_at_zero Go.wp_at_succ

theorem res3 {P : Program} {fn : Func} {p s t : Tmp} {ty : TypeId} (h : fn.results = #[.cell p ty, .cell s ty, .tmp t]) (k : IntKind) (tmps : Array Value) (w : World) (b c : Nat) (L M : Nat → Int) (v : Value)
    (hp : tmps.getD p undef = .pointer (some ⟨b, 0, none⟩)) (hs : tmps.getD s undef = .pointer (some ⟨c, 0, none⟩)) (ht : tmps.getD t undef = v) (hr : PRow k w b 0 L) (hr' : PRow k w c 0 M)
    (hu : ∃ e, P.underlying ty = some (.array 256 e)) (hi : (P.info? ty).map (·.size) = some 256) :
    (results fn tmps).run P w = .ok (.tuple #[.agg (polyA k L), .agg (polyA k M), v]) w := by
  have hp' : tmps[p]?.getD undef = .pointer (some ⟨b, 0, none⟩) := by simpa using hp
  have hs' : tmps[s]?.getD undef = .pointer (some ⟨c, 0, none⟩) := by simpa using hs
  have ht' : tmps[t]?.getD undef = v := by simpa using ht
  simp [results, h, hp', hs', ht', asAddr, run_loadRow k w ty b 0 L hr hu hi, run_loadRow k w ty c 0 M hr' hu hi]
/-- A polynomial, and room for two. -/
structure BoxH (w W : World) (L : Nat → Int) : Prop where
  g : w.grownBy W none
  f : PRow .i64 W w.heap.size 0 L
  r : PRow .i64 W (w.heap.size + 1) 0 (fun _ => 0)
  t : PRow .i64 W (w.heap.size + 1 + 1) 0 (fun _ => 0)
theorem BoxH.new {w W W' : World} {L : Nat → Int} (h : BoxH w W L) (hg : W.grownBy W' none) : BoxH w W' L := ⟨grownBy_trans h.g hg, h.f.new hg, h.r.new hg, h.t.new hg⟩
theorem BoxH.far {w W W' : World} {L : Nat → Int} {p : Nat} (h : BoxH w W L) (hg : W.grownBy W' (some p)) (hp : w.heap.size + 2 < p) : BoxH w W' L :=
  ⟨grown_new h.g hg (by omega), h.f.far hg (by simp; omega), h.r.far hg (by simp; omega), h.t.far hg (by simp; omega)⟩
theorem BoxH.lt {w W : World} {L : Nat → Int} (h : BoxH w W L) : w.heap.size + 2 < W.heap.size := h.t.lt
theorem boxH_mk (w : World) (L : Nat → Int) : BoxH w (((w.alloc (.cells (polyA .i64 L) 43)).alloc (.cells Tryz.zeroCells43 43)).alloc (.cells Tryz.zeroCells43 43)) L := by
  rw [Tryz.zY]
  have n1 := new_alloc .i64 w L 43
  generalize w.alloc (.cells (polyA .i64 L) 43) = w1 at *
  have n2 := new_alloc .i64 w1 (fun _ => 0) 43
  generalize w1.alloc (.cells (polyA .i64 (fun _ => 0)) 43) = w2 at *
  have n3 := new_alloc .i64 w2 (fun _ => 0) 43
  have e2 := n2.r.new n3.g
  have e3 := n3.r
  rw [n2.s] at e3
  rw [n1.s] at e2 e3
  exact ⟨grownBy_trans n1.g (grownBy_trans n2.g n3.g), (n1.r.new n2.g).new n3.g, e2, e3⟩
/-- And as it is handed in, and what came back. -/
structure Hal (w W : World) (p q : Nat) (L X Z : Nat → Int) : Prop where
  box : BoxH w W L
  a : PRow .i64 W p 0 L
  x : PRow .i64 W q 0 X
  y : PRow .i64 W (q + 1) 0 Z
  lp : w.heap.size + 2 < p
  lq : p < q
theorem Hal.new {w W W' : World} {p q : Nat} {L X Z : Nat → Int} (h : Hal w W p q L X Z) (hg : W.grownBy W' none) : Hal w W' p q L X Z := ⟨h.box.new hg, h.a.new hg, h.x.new hg, h.y.new hg, h.lp, h.lq⟩
theorem Hal.far {w W W' : World} {p q x : Nat} {L X Z : Nat → Int} (h : Hal w W p q L X Z) (hg : W.grownBy W' (some x)) (hx : q + 1 < x) : Hal w W' p q L X Z :=
  ⟨h.box.far hg (by have := h.lp; have := h.lq; omega), h.a.far hg (by have := h.lq; simp; omega), h.x.far hg (by simp; omega), h.y.far hg (by simp; omega), h.lp, h.lq⟩
theorem Hal.putX {w W W' : World} {p q : Nat} {L X X' Z : Nat → Int} (h : Hal w W p q L X Z) (hg : W.grownBy W' (some q)) (hr : PRow .i64 W' q 0 X') : Hal w W' p q L X' Z :=
  ⟨h.box.far hg (by have := h.lp; have := h.lq; omega), h.a.far hg (by have := h.lq; simp; omega), hr, h.y.far hg (by simp), h.lp, h.lq⟩
theorem Hal.putY {w W W' : World} {p q : Nat} {L X Z Z' : Nat → Int} (h : Hal w W p q L X Z) (hg : W.grownBy W' (some (q + 1))) (hr : PRow .i64 W' (q + 1) 0 Z') : Hal w W' p q L X Z' :=
  ⟨h.box.far hg (by have := h.lp; have := h.lq; omega), h.a.far hg (by have := h.lq; simp; omega), h.x.far hg (by simp), hr, h.lp, h.lq⟩
theorem Hal.lt {w W : World} {p q : Nat} {L X Z : Nat → Int} (h : Hal w W p q L X Z) : q + 1 < W.heap.size := h.y.lt
attribute [local go_sem ↓] ld_hide st_hide
set_option maxHeartbeats 4000000 in
set_option maxRecDepth 20000 in
theorem hal_n (d : Int) (hd : (d == 0) = false) (L : Nat → Int) (s : Sg)
    (HS : Hid (∀ W, Calls Tryz.prog 64 #[.int .i64 d] W fun e w' => e = .returned (.tuple #[sgV s, .bool false]) ∧ W.grownBy w' none))
    (HA : Hid (∀ W, Calls Tryz.prog 66 #[.int .i64 d, .agg (polyA .i64 L)] W fun e w' => e = .returned (.tuple #[.agg (polyA .i64 (fun _ => 0)), .agg (polyA .i64 (fun _ => 0)), .iface 138 (.int .i64 1)]) ∧ W.grownBy w' none))
    (w : World) (hE : Et w) : Calls Tryz.prog 31 #[.int .i64 d, .agg (polyA .i64 L)] w fun e w' => e = .returned (.tuple #[.agg (polyA .i64 (fun _ => 0)), .agg (polyA .i64 (fun _ => 0)), .bool true]) ∧ w.grownBy w' none := by
  have k3 := boxH_mk w L
  go_enter Tryz.func31, Tryz.ntmps31
  go_wp2_with (first | (refine wpL_load rfl .i64 43 _ rfl w.heap.size 0 rfl L k3.f ⟨_, Tryz.uY⟩ Tryz.sY ?_))
  refine (lpoly_any L _).mono ?_
  rintro e v1 ⟨rfl, y1⟩
  have k4 := k3.new y1
  clear k3 y1
  have m1 := new_alloc .i64 v1 (fun _ => 0) 71
  rw [← Tryz.zA] at m1
  have k5 := k4.new m1.g
  have e4 := k4.lt
  go_wp2_with (first | (refine wpL_store rfl .i64 71 _ _ rfl v1.heap.size 0 rfl _ rfl .i64 _ m1.r Tryz.sA ?_; intro v2 p2; have k6 := k5.far p2.g e4))
  have s2 := p2.s
  rw [m1.s] at s2
  have a2 := p2.r
  obtain ⟨p, hp⟩ : ∃ p, p = v1.heap.size := ⟨_, rfl⟩
  rw [← hp] at a2 s2 e4 ⊢
  clear hp k4 k5 p2 m1
  have m2 := new_alloc .i64 v2 (fun _ => 0) 71
  rw [← Tryz.zA] at m2
  have m3 := new_alloc .i64 (v2.alloc (.cells Tryz.zeroCells71 71)) (fun _ => 0) 71
  rw [← Tryz.zA] at m3
  have r3 := m3.r
  rw [m2.s] at r3
  have k7 : Hal w ((v2.alloc (.cells Tryz.zeroCells71 71)).alloc (.cells Tryz.zeroCells71 71)) p v2.heap.size L (fun _ => 0) (fun _ => 0) := ⟨(k6.new m2.g).new m3.g, (a2.new m2.g).new m3.g, m2.r.new m3.g, r3, e4, by omega⟩
  clear m2 m3 r3 k6 a2
  obtain ⟨q, hq⟩ : ∃ q, q = v2.heap.size := ⟨_, rfl⟩
  rw [← hq] at k7 ⊢
  refine (HS.out _).mono ?_
  rintro e v3 ⟨rfl, y3⟩
  have k8 := k7.new y3
  clear k7 y3 hq s2 v2
  have S1 : SgAt (v3.alloc (.cells #[.int .i64 s.k, .int .i64 s.l, .int .i64 s.e, .int .i64 s.c, .int .i64 s.g, .int .i64 s.t, .int .i64 s.a, .int .i64 s.o] 102)) v3.heap.size s := sgAt_new v3 s
  have k9 := k8.new (World.grownBy_alloc v3 (.cells #[.int .i64 s.k, .int .i64 s.l, .int .i64 s.e, .int .i64 s.c, .int .i64 s.g, .int .i64 s.t, .int .i64 s.a, .int .i64 s.o] 102) none)
  have lu := k8.lt
  clear k8
  go_wp2_with (first | (refine wpL_load rfl .i64 71 _ rfl p 0 rfl L k9.a ⟨_, Tryz.uA⟩ Tryz.sA ?_))
  obtain ⟨u, hu⟩ : ∃ u, u = v3.heap.size := ⟨_, rfl⟩
  rw [← hu] at S1 lu ⊢
  generalize v3.alloc (.cells #[.int .i64 s.k, .int .i64 s.l, .int .i64 s.e, .int .i64 s.c, .int .i64 s.g, .int .i64 s.t, .int .i64 s.a, .int .i64 s.o] 102) = v3b at k9 S1 ⊢
  clear hu v3
  refine (HA.out _).mono ?_
  rintro e v4 ⟨rfl, y4⟩
  have k10 := k9.new y4
  have S2 := S1.new y4
  clear k9 S1 y4
  go_wp2_with (first | (refine wpL_store rfl .i64 71 _ _ rfl q 0 rfl _ rfl .i64 _ k10.x Tryz.sA ?_; intro v5 p5; have k11 := k10.putX p5.g p5.r; have S3 := S2.far p5.g (by simp; omega)) | (refine wpL_store rfl .i64 71 _ _ rfl (q + 1) 0 rfl _ rfl .i64 _ k11.y Tryz.sA ?_; intro v6 p6; have k12 := k11.putY p6.g p6.r; have S4 := S3.far p6.g (by simp; omega)) | (refine wpL_load rfl .i64 43 _ rfl w.heap.size 0 rfl L k12.box.f ⟨_, Tryz.uY⟩ Tryz.sY ?_))
  clear k10 k11 S2 S3 p5 p6
  refine (bound_any L 8380417 _).mono ?_
  rintro e v7 ⟨bx, rfl, hbx, y7⟩
  have k13 := k12.new y7
  have S5 := S4.new y7
  clear k12 S4 y7
  clear hbx
  have m7 := new_alloc .i64 v7 (fun _ => 0) 43
  rw [← Tryz.zY] at m7
  have m8 := new_alloc .i64 (v7.alloc (.cells Tryz.zeroCells43 43)) (fun _ => 0) 43
  rw [← Tryz.zY] at m8
  have c8 := m7.r.new m8.g
  have d8 := m8.r
  rw [m7.s] at d8
  have k14 := (k13.new m7.g).new m8.g
  have S6 := (S5.new m7.g).new m8.g
  have l8 := k13.lt
  clear k13 S5 m7 m8
  obtain ⟨z, hz⟩ : ∃ z, z = v7.heap.size := ⟨_, rfl⟩
  rw [← hz] at c8 d8 l8
  go_wp2_with fail
  rw [← hz]
  clear hz
  generalize (v7.alloc (.cells Tryz.zeroCells43 43)).alloc (.cells Tryz.zeroCells43 43) = v8 at *
  have hE9 := hE.new k14.box.g
  refine (ltold_err 1 _ hE9 (by decide)).mono ?_
  rintro e v11 ⟨rfl, y11⟩
  have k17 := k14.new y11
  have c11 := c8.new y11
  have d11 := d8.new y11
  clear k14 c8 d8 y11 hE9 S6
  go_wp2_with (first | (refine wpL_load rfl .i64 71 _ rfl q 0 rfl _ k17.x ⟨_, Tryz.uA⟩ Tryz.sA ?_) | (refine wpL_load rfl .i64 43 _ rfl z 0 rfl _ c11 ⟨_, Tryz.uY⟩ Tryz.sY ?_))
  refine (is_same _ _ (fun _ _ => rfl) _).mono ?_
  rintro e v12 ⟨rfl, y12⟩
  have k18 := k17.new y12
  have c12 := c11.new y12
  have d12 := d11.new y12
  clear k17 c11 d11 y12
  go_wp2_with (first | (refine wpL_load rfl .i64 71 _ rfl (q + 1) 0 rfl _ k18.y ⟨_, Tryz.uA⟩ Tryz.sA ?_) | (refine wpL_load rfl .i64 43 _ rfl (z + 1) 0 rfl _ d12 ⟨_, Tryz.uY⟩ Tryz.sY ?_))
  refine (is_same _ _ (fun _ _ => rfl) _).mono ?_
  rintro e v13 ⟨rfl, y13⟩
  have k19 := k18.new y13
  have c13 := c12.new y13
  have d13 := d12.new y13
  clear k18 c12 d12 y13
  have lz : w.heap.size + 1 + 1 < z := by have := k19.lp; have := k19.lq; omega
  have hg := k19.box.g
  have r13 := k19.box.r
  have t13 := k19.box.t
  clear k19
  go_wp2_with fail
  have ld1 := run_hidLd v13.drew z 0 _ c13.drew
  have ld2 := run_hidLd v13.drew (z + 1) 0 _ d13.drew
  have st1 := run_hidSt v13.drew (w.heap.size + 1) (fun _ => 0) _ r13.drew
  have p4 := put_cells .i64 v13.drew (w.heap.size + 1) 0 (fun _ => 0) (r13.drew.there .i64 _)
  have hZ4 := d13.drew.far p4.g (by simp <;> omega)
  have hQ4 := t13.drew.far p4.g (by simp)
  have st2 := run_hidSt _ (w.heap.size + 1 + 1) (fun _ => 0) _ hQ4
  have ld3 := run_hidLd _ (z + 1) 0 _ hZ4
  have p5 := put_cells .i64 _ (w.heap.size + 1 + 1) 0 (fun _ => 0) (hQ4.there .i64 _)
  clear c13 d13 r13 t13 hZ4 hQ4
  go_region
  clear ld1 ld2 ld3 st1 st2
  generalize (v13.drew.setCells (w.heap.size + 1) 0 (polyA .i64 (fun _ => 0)).toList).setCells (w.heap.size + 1 + 1) 0 (polyA .i64 (fun _ => 0)).toList = w6 at *
  go_wp2
  refine bodyPost_ret (res3 Tryz.results31 .i64 _ w6 (w.heap.size + 1) (w.heap.size + 1 + 1) _ _ _ rfl rfl rfl (p4.r.far p5.g (by simp)) p5.r ⟨_, Tryz.uY⟩ Tryz.sY) rfl ⟨rfl, grown_new (grown_new (grown_drew hg) p4.g (by omega)) p5.g (by omega)⟩
set_option maxHeartbeats 4000000 in
set_option maxRecDepth 20000 in
theorem hal_0b (L : Nat → Int) (s : Sg) (hL : ¬ InB L 8380417)
    (HS : Hid (∀ W, Calls Tryz.prog 64 #[.int .i64 0] W fun e w' => e = .returned (.tuple #[sgV s, .bool false]) ∧ W.grownBy w' none))
    (HA : Hid (∀ W, Calls Tryz.prog 65 #[.agg (polyA .i64 L)] W fun e w' => e = .returned (.tuple #[.agg (polyA .i64 (fun _ => 0)), .agg (polyA .i64 (fun _ => 0)), .iface 138 (.int .i64 5)]) ∧ W.grownBy w' none))
    (w : World) (hE : Et w) : Calls Tryz.prog 31 #[.int .i64 0, .agg (polyA .i64 L)] w fun e w' => e = .returned (.tuple #[.agg (polyA .i64 (fun _ => 0)), .agg (polyA .i64 (fun _ => 0)), .bool true]) ∧ w.grownBy w' none := by
  have k3 := boxH_mk w L
  go_enter Tryz.func31, Tryz.ntmps31
  go_wp2_with (first | (refine wpL_load rfl .i64 43 _ rfl w.heap.size 0 rfl L k3.f ⟨_, Tryz.uY⟩ Tryz.sY ?_))
  refine (lpoly_any L _).mono ?_
  rintro e v1 ⟨rfl, y1⟩
  have k4 := k3.new y1
  clear k3 y1
  have m1 := new_alloc .i64 v1 (fun _ => 0) 71
  rw [← Tryz.zA] at m1
  have k5 := k4.new m1.g
  have e4 := k4.lt
  go_wp2_with (first | (refine wpL_store rfl .i64 71 _ _ rfl v1.heap.size 0 rfl _ rfl .i64 _ m1.r Tryz.sA ?_; intro v2 p2; have k6 := k5.far p2.g e4))
  have s2 := p2.s
  rw [m1.s] at s2
  have a2 := p2.r
  obtain ⟨p, hp⟩ : ∃ p, p = v1.heap.size := ⟨_, rfl⟩
  rw [← hp] at a2 s2 e4 ⊢
  clear hp k4 k5 p2 m1
  have m2 := new_alloc .i64 v2 (fun _ => 0) 71
  rw [← Tryz.zA] at m2
  have m3 := new_alloc .i64 (v2.alloc (.cells Tryz.zeroCells71 71)) (fun _ => 0) 71
  rw [← Tryz.zA] at m3
  have r3 := m3.r
  rw [m2.s] at r3
  have k7 : Hal w ((v2.alloc (.cells Tryz.zeroCells71 71)).alloc (.cells Tryz.zeroCells71 71)) p v2.heap.size L (fun _ => 0) (fun _ => 0) := ⟨(k6.new m2.g).new m3.g, (a2.new m2.g).new m3.g, m2.r.new m3.g, r3, e4, by omega⟩
  clear m2 m3 r3 k6 a2
  obtain ⟨q, hq⟩ : ∃ q, q = v2.heap.size := ⟨_, rfl⟩
  rw [← hq] at k7 ⊢
  refine (HS.out _).mono ?_
  rintro e v3 ⟨rfl, y3⟩
  have k8 := k7.new y3
  clear k7 y3 hq s2 v2
  have S1 : SgAt (v3.alloc (.cells #[.int .i64 s.k, .int .i64 s.l, .int .i64 s.e, .int .i64 s.c, .int .i64 s.g, .int .i64 s.t, .int .i64 s.a, .int .i64 s.o] 102)) v3.heap.size s := sgAt_new v3 s
  have k9 := k8.new (World.grownBy_alloc v3 (.cells #[.int .i64 s.k, .int .i64 s.l, .int .i64 s.e, .int .i64 s.c, .int .i64 s.g, .int .i64 s.t, .int .i64 s.a, .int .i64 s.o] 102) none)
  have lu := k8.lt
  clear k8
  go_wp2_with (first | (refine wpL_load rfl .i64 71 _ rfl p 0 rfl L k9.a ⟨_, Tryz.uA⟩ Tryz.sA ?_))
  obtain ⟨u, hu⟩ : ∃ u, u = v3.heap.size := ⟨_, rfl⟩
  rw [← hu] at S1 lu ⊢
  generalize v3.alloc (.cells #[.int .i64 s.k, .int .i64 s.l, .int .i64 s.e, .int .i64 s.c, .int .i64 s.g, .int .i64 s.t, .int .i64 s.a, .int .i64 s.o] 102) = v3b at k9 S1 ⊢
  clear hu v3
  refine (HA.out _).mono ?_
  rintro e v4 ⟨rfl, y4⟩
  have k10 := k9.new y4
  have S2 := S1.new y4
  clear k9 S1 y4
  go_wp2_with (first | (refine wpL_store rfl .i64 71 _ _ rfl q 0 rfl _ rfl .i64 _ k10.x Tryz.sA ?_; intro v5 p5; have k11 := k10.putX p5.g p5.r; have S3 := S2.far p5.g (by simp; omega)) | (refine wpL_store rfl .i64 71 _ _ rfl (q + 1) 0 rfl _ rfl .i64 _ k11.y Tryz.sA ?_; intro v6 p6; have k12 := k11.putY p6.g p6.r; have S4 := S3.far p6.g (by simp; omega)) | (refine wpL_load rfl .i64 43 _ rfl w.heap.size 0 rfl L k12.box.f ⟨_, Tryz.uY⟩ Tryz.sY ?_))
  clear k10 k11 S2 S3 p5 p6
  refine (bound_any L 8380417 _).mono ?_
  rintro e v7 ⟨bx, rfl, hbx, y7⟩
  have k13 := k12.new y7
  have S5 := S4.new y7
  clear k12 S4 y7
  obtain rfl : bx = false := by cases bx with | false => rfl | true => exact absurd (hbx.1 rfl) hL
  clear hbx
  have m7 := new_alloc .i64 v7 (fun _ => 0) 43
  rw [← Tryz.zY] at m7
  have m8 := new_alloc .i64 (v7.alloc (.cells Tryz.zeroCells43 43)) (fun _ => 0) 43
  rw [← Tryz.zY] at m8
  have c8 := m7.r.new m8.g
  have d8 := m8.r
  rw [m7.s] at d8
  have k14 := (k13.new m7.g).new m8.g
  have S6 := (S5.new m7.g).new m8.g
  have l8 := k13.lt
  clear k13 S5 m7 m8
  obtain ⟨z, hz⟩ : ∃ z, z = v7.heap.size := ⟨_, rfl⟩
  rw [← hz] at c8 d8 l8
  go_wp2_with fail
  rw [← hz]
  clear hz
  generalize (v7.alloc (.cells Tryz.zeroCells43 43)).alloc (.cells Tryz.zeroCells43 43) = v8 at *
  have hE9 := hE.new k14.box.g
  refine (ltold_err 5 _ hE9 (by decide)).mono ?_
  rintro e v11 ⟨rfl, y11⟩
  have k17 := k14.new y11
  have c11 := c8.new y11
  have d11 := d8.new y11
  clear k14 c8 d8 y11 hE9 S6
  go_wp2_with (first | (refine wpL_load rfl .i64 71 _ rfl q 0 rfl _ k17.x ⟨_, Tryz.uA⟩ Tryz.sA ?_) | (refine wpL_load rfl .i64 43 _ rfl z 0 rfl _ c11 ⟨_, Tryz.uY⟩ Tryz.sY ?_))
  refine (is_same _ _ (fun _ _ => rfl) _).mono ?_
  rintro e v12 ⟨rfl, y12⟩
  have k18 := k17.new y12
  have c12 := c11.new y12
  have d12 := d11.new y12
  clear k17 c11 d11 y12
  go_wp2_with (first | (refine wpL_load rfl .i64 71 _ rfl (q + 1) 0 rfl _ k18.y ⟨_, Tryz.uA⟩ Tryz.sA ?_) | (refine wpL_load rfl .i64 43 _ rfl (z + 1) 0 rfl _ d12 ⟨_, Tryz.uY⟩ Tryz.sY ?_))
  refine (is_same _ _ (fun _ _ => rfl) _).mono ?_
  rintro e v13 ⟨rfl, y13⟩
  have k19 := k18.new y13
  have c13 := c12.new y13
  have d13 := d12.new y13
  clear k18 c12 d12 y13
  have lz : w.heap.size + 1 + 1 < z := by have := k19.lp; have := k19.lq; omega
  have hg := k19.box.g
  have r13 := k19.box.r
  have t13 := k19.box.t
  clear k19
  go_wp2_with fail
  have ld1 := run_hidLd v13.drew z 0 _ c13.drew
  have ld2 := run_hidLd v13.drew (z + 1) 0 _ d13.drew
  have st1 := run_hidSt v13.drew (w.heap.size + 1) (fun _ => 0) _ r13.drew
  have p4 := put_cells .i64 v13.drew (w.heap.size + 1) 0 (fun _ => 0) (r13.drew.there .i64 _)
  have hZ4 := d13.drew.far p4.g (by simp <;> omega)
  have hQ4 := t13.drew.far p4.g (by simp)
  have st2 := run_hidSt _ (w.heap.size + 1 + 1) (fun _ => 0) _ hQ4
  have ld3 := run_hidLd _ (z + 1) 0 _ hZ4
  have p5 := put_cells .i64 _ (w.heap.size + 1 + 1) 0 (fun _ => 0) (hQ4.there .i64 _)
  clear c13 d13 r13 t13 hZ4 hQ4
  go_region
  clear ld1 ld2 ld3 st1 st2
  generalize (v13.drew.setCells (w.heap.size + 1) 0 (polyA .i64 (fun _ => 0)).toList).setCells (w.heap.size + 1 + 1) 0 (polyA .i64 (fun _ => 0)).toList = w6 at *
  go_wp2
  refine bodyPost_ret (res3 Tryz.results31 .i64 _ w6 (w.heap.size + 1) (w.heap.size + 1 + 1) _ _ _ rfl rfl rfl (p4.r.far p5.g (by simp)) p5.r ⟨_, Tryz.uY⟩ Tryz.sY) rfl ⟨rfl, grown_new (grown_new (grown_drew hg) p4.g (by omega)) p5.g (by omega)⟩
set_option maxHeartbeats 4000000 in
set_option maxRecDepth 20000 in
theorem hal_sb (d : Int) (hd : (d == 0) = false) (L : Nat → Int) (s : Sg) (hL : ¬ InB L 8380417)
    (HS : Hid (∀ W, Calls Tryz.prog 64 #[.int .i64 d] W fun e w' => e = .returned (.tuple #[sgV s, .bool true]) ∧ W.grownBy w' none))
    (HA : Hid (∀ W, Calls Tryz.prog 66 #[.int .i64 d, .agg (polyA .i64 L)] W fun e w' => e = .returned (.tuple #[.agg (polyA .i64 (fun _ => 0)), .agg (polyA .i64 (fun _ => 0)), .iface 138 (.int .i64 5)]) ∧ W.grownBy w' none))
    (w : World) (hE : Et w) : Calls Tryz.prog 31 #[.int .i64 d, .agg (polyA .i64 L)] w fun e w' => e = .returned (.tuple #[.agg (polyA .i64 (fun _ => 0)), .agg (polyA .i64 (fun _ => 0)), .bool true]) ∧ w.grownBy w' none := by
  have k3 := boxH_mk w L
  go_enter Tryz.func31, Tryz.ntmps31
  go_wp2_with (first | (refine wpL_load rfl .i64 43 _ rfl w.heap.size 0 rfl L k3.f ⟨_, Tryz.uY⟩ Tryz.sY ?_))
  refine (lpoly_any L _).mono ?_
  rintro e v1 ⟨rfl, y1⟩
  have k4 := k3.new y1
  clear k3 y1
  have m1 := new_alloc .i64 v1 (fun _ => 0) 71
  rw [← Tryz.zA] at m1
  have k5 := k4.new m1.g
  have e4 := k4.lt
  go_wp2_with (first | (refine wpL_store rfl .i64 71 _ _ rfl v1.heap.size 0 rfl _ rfl .i64 _ m1.r Tryz.sA ?_; intro v2 p2; have k6 := k5.far p2.g e4))
  have s2 := p2.s
  rw [m1.s] at s2
  have a2 := p2.r
  obtain ⟨p, hp⟩ : ∃ p, p = v1.heap.size := ⟨_, rfl⟩
  rw [← hp] at a2 s2 e4 ⊢
  clear hp k4 k5 p2 m1
  have m2 := new_alloc .i64 v2 (fun _ => 0) 71
  rw [← Tryz.zA] at m2
  have m3 := new_alloc .i64 (v2.alloc (.cells Tryz.zeroCells71 71)) (fun _ => 0) 71
  rw [← Tryz.zA] at m3
  have r3 := m3.r
  rw [m2.s] at r3
  have k7 : Hal w ((v2.alloc (.cells Tryz.zeroCells71 71)).alloc (.cells Tryz.zeroCells71 71)) p v2.heap.size L (fun _ => 0) (fun _ => 0) := ⟨(k6.new m2.g).new m3.g, (a2.new m2.g).new m3.g, m2.r.new m3.g, r3, e4, by omega⟩
  clear m2 m3 r3 k6 a2
  obtain ⟨q, hq⟩ : ∃ q, q = v2.heap.size := ⟨_, rfl⟩
  rw [← hq] at k7 ⊢
  refine (HS.out _).mono ?_
  rintro e v3 ⟨rfl, y3⟩
  have k8 := k7.new y3
  clear k7 y3 hq s2 v2
  have S1 : SgAt (v3.alloc (.cells #[.int .i64 s.k, .int .i64 s.l, .int .i64 s.e, .int .i64 s.c, .int .i64 s.g, .int .i64 s.t, .int .i64 s.a, .int .i64 s.o] 102)) v3.heap.size s := sgAt_new v3 s
  have k9 := k8.new (World.grownBy_alloc v3 (.cells #[.int .i64 s.k, .int .i64 s.l, .int .i64 s.e, .int .i64 s.c, .int .i64 s.g, .int .i64 s.t, .int .i64 s.a, .int .i64 s.o] 102) none)
  have lu := k8.lt
  clear k8
  go_wp2_with (first | (refine wpL_load rfl .i64 71 _ rfl p 0 rfl L k9.a ⟨_, Tryz.uA⟩ Tryz.sA ?_))
  obtain ⟨u, hu⟩ : ∃ u, u = v3.heap.size := ⟨_, rfl⟩
  rw [← hu] at S1 lu ⊢
  generalize v3.alloc (.cells #[.int .i64 s.k, .int .i64 s.l, .int .i64 s.e, .int .i64 s.c, .int .i64 s.g, .int .i64 s.t, .int .i64 s.a, .int .i64 s.o] 102) = v3b at k9 S1 ⊢
  clear hu v3
  refine (HA.out _).mono ?_
  rintro e v4 ⟨rfl, y4⟩
  have k10 := k9.new y4
  have S2 := S1.new y4
  clear k9 S1 y4
  go_wp2_with (first | (refine wpL_store rfl .i64 71 _ _ rfl q 0 rfl _ rfl .i64 _ k10.x Tryz.sA ?_; intro v5 p5; have k11 := k10.putX p5.g p5.r; have S3 := S2.far p5.g (by simp; omega)) | (refine wpL_store rfl .i64 71 _ _ rfl (q + 1) 0 rfl _ rfl .i64 _ k11.y Tryz.sA ?_; intro v6 p6; have k12 := k11.putY p6.g p6.r; have S4 := S3.far p6.g (by simp; omega)) | (refine wpL_load rfl .i64 43 _ rfl w.heap.size 0 rfl L k12.box.f ⟨_, Tryz.uY⟩ Tryz.sY ?_))
  clear k10 k11 S2 S3 p5 p6
  refine (bound_any L 8380417 _).mono ?_
  rintro e v7 ⟨bx, rfl, hbx, y7⟩
  have k13 := k12.new y7
  have S5 := S4.new y7
  clear k12 S4 y7
  obtain rfl : bx = false := by cases bx with | false => rfl | true => exact absurd (hbx.1 rfl) hL
  clear hbx
  have m7 := new_alloc .i64 v7 (fun _ => 0) 43
  rw [← Tryz.zY] at m7
  have m8 := new_alloc .i64 (v7.alloc (.cells Tryz.zeroCells43 43)) (fun _ => 0) 43
  rw [← Tryz.zY] at m8
  have c8 := m7.r.new m8.g
  have d8 := m8.r
  rw [m7.s] at d8
  have k14 := (k13.new m7.g).new m8.g
  have S6 := (S5.new m7.g).new m8.g
  have l8 := k13.lt
  clear k13 S5 m7 m8
  obtain ⟨z, hz⟩ : ∃ z, z = v7.heap.size := ⟨_, rfl⟩
  rw [← hz] at c8 d8 l8
  go_wp2_with fail
  rw [← hz]
  clear hz
  generalize (v7.alloc (.cells Tryz.zeroCells43 43)).alloc (.cells Tryz.zeroCells43 43) = v8 at *
  have hE9 := hE.new k14.box.g
  refine (ltold_err 5 _ hE9 (by decide)).mono ?_
  rintro e v11 ⟨rfl, y11⟩
  have k17 := k14.new y11
  have c11 := c8.new y11
  have d11 := d8.new y11
  clear k14 c8 d8 y11 hE9 S6
  go_wp2_with (first | (refine wpL_load rfl .i64 71 _ rfl q 0 rfl _ k17.x ⟨_, Tryz.uA⟩ Tryz.sA ?_) | (refine wpL_load rfl .i64 43 _ rfl z 0 rfl _ c11 ⟨_, Tryz.uY⟩ Tryz.sY ?_))
  refine (is_same _ _ (fun _ _ => rfl) _).mono ?_
  rintro e v12 ⟨rfl, y12⟩
  have k18 := k17.new y12
  have c12 := c11.new y12
  have d12 := d11.new y12
  clear k17 c11 d11 y12
  go_wp2_with (first | (refine wpL_load rfl .i64 71 _ rfl (q + 1) 0 rfl _ k18.y ⟨_, Tryz.uA⟩ Tryz.sA ?_) | (refine wpL_load rfl .i64 43 _ rfl (z + 1) 0 rfl _ d12 ⟨_, Tryz.uY⟩ Tryz.sY ?_))
  refine (is_same _ _ (fun _ _ => rfl) _).mono ?_
  rintro e v13 ⟨rfl, y13⟩
  have k19 := k18.new y13
  have c13 := c12.new y13
  have d13 := d12.new y13
  clear k18 c12 d12 y13
  have lz : w.heap.size + 1 + 1 < z := by have := k19.lp; have := k19.lq; omega
  have hg := k19.box.g
  have r13 := k19.box.r
  have t13 := k19.box.t
  clear k19
  go_wp2_with fail
  have ld1 := run_hidLd v13.drew z 0 _ c13.drew
  have ld2 := run_hidLd v13.drew (z + 1) 0 _ d13.drew
  have st1 := run_hidSt v13.drew (w.heap.size + 1) (fun _ => 0) _ r13.drew
  have p4 := put_cells .i64 v13.drew (w.heap.size + 1) 0 (fun _ => 0) (r13.drew.there .i64 _)
  have hZ4 := d13.drew.far p4.g (by simp <;> omega)
  have hQ4 := t13.drew.far p4.g (by simp)
  have st2 := run_hidSt _ (w.heap.size + 1 + 1) (fun _ => 0) _ hQ4
  have ld3 := run_hidLd _ (z + 1) 0 _ hZ4
  have p5 := put_cells .i64 _ (w.heap.size + 1 + 1) 0 (fun _ => 0) (hQ4.there .i64 _)
  clear c13 d13 r13 t13 hZ4 hQ4
  go_region
  clear ld1 ld2 ld3 st1 st2
  generalize (v13.drew.setCells (w.heap.size + 1) 0 (polyA .i64 (fun _ => 0)).toList).setCells (w.heap.size + 1 + 1) 0 (polyA .i64 (fun _ => 0)).toList = w6 at *
  go_wp2
  refine bodyPost_ret (res3 Tryz.results31 .i64 _ w6 (w.heap.size + 1) (w.heap.size + 1 + 1) _ _ _ rfl rfl rfl (p4.r.far p5.g (by simp)) p5.r ⟨_, Tryz.uY⟩ Tryz.sY) rfl ⟨rfl, grown_new (grown_new (grown_drew hg) p4.g (by omega)) p5.g (by omega)⟩
set_option maxHeartbeats 4000000 in
set_option maxRecDepth 20000 in
theorem hal_0k (L : Nat → Int) (s : Sg) (X Z X1 Z1 : Nat → Int) (hX : ∀ j, j < 256 → X1 j = X j) (hZ : ∀ j, j < 256 → Z1 j = Z j) (hL : InB L 8380417)
    (HS : Hid (∀ W, Calls Tryz.prog 64 #[.int .i64 0] W fun e w' => e = .returned (.tuple #[sgV s, .bool false]) ∧ W.grownBy w' none))
    (HA : Hid (∀ W, Calls Tryz.prog 65 #[.agg (polyA .i64 L)] W fun e w' => e = .returned (.tuple #[.agg (polyA .i64 X1), .agg (polyA .i64 Z1), .nilIface]) ∧ W.grownBy w' none))
    (HR : Hid (∀ W, Calls Tryz.prog 67 #[.agg (polyA .i64 L)] W fun e w' => e = .returned (.tuple #[.agg (polyA .i64 X), .agg (polyA .i64 Z)]) ∧ W.grownBy w' none))
    (w : World) : Calls Tryz.prog 31 #[.int .i64 0, .agg (polyA .i64 L)] w fun e w' => e = .returned (.tuple #[.agg (polyA .i64 X), .agg (polyA .i64 Z), .bool true]) ∧ w.grownBy w' none := by
  have k3 := boxH_mk w L
  have HX : Hid (∀ j, j < 256 → X1 j = X j) := hX
  have HZ : Hid (∀ j, j < 256 → Z1 j = Z j) := hZ
  clear hX hZ
  go_enter Tryz.func31, Tryz.ntmps31
  go_wp2_with (first | (refine wpL_load rfl .i64 43 _ rfl w.heap.size 0 rfl L k3.f ⟨_, Tryz.uY⟩ Tryz.sY ?_))
  refine (lpoly_any L _).mono ?_
  rintro e v1 ⟨rfl, y1⟩
  have k4 := k3.new y1
  clear k3 y1
  have m1 := new_alloc .i64 v1 (fun _ => 0) 71
  rw [← Tryz.zA] at m1
  have k5 := k4.new m1.g
  have e4 := k4.lt
  go_wp2_with (first | (refine wpL_store rfl .i64 71 _ _ rfl v1.heap.size 0 rfl _ rfl .i64 _ m1.r Tryz.sA ?_; intro v2 p2; have k6 := k5.far p2.g e4))
  have s2 := p2.s
  rw [m1.s] at s2
  have a2 := p2.r
  obtain ⟨p, hp⟩ : ∃ p, p = v1.heap.size := ⟨_, rfl⟩
  rw [← hp] at a2 s2 e4 ⊢
  clear hp k4 k5 p2 m1
  have m2 := new_alloc .i64 v2 (fun _ => 0) 71
  rw [← Tryz.zA] at m2
  have m3 := new_alloc .i64 (v2.alloc (.cells Tryz.zeroCells71 71)) (fun _ => 0) 71
  rw [← Tryz.zA] at m3
  have r3 := m3.r
  rw [m2.s] at r3
  have k7 : Hal w ((v2.alloc (.cells Tryz.zeroCells71 71)).alloc (.cells Tryz.zeroCells71 71)) p v2.heap.size L (fun _ => 0) (fun _ => 0) := ⟨(k6.new m2.g).new m3.g, (a2.new m2.g).new m3.g, m2.r.new m3.g, r3, e4, by omega⟩
  clear m2 m3 r3 k6 a2
  obtain ⟨q, hq⟩ : ∃ q, q = v2.heap.size := ⟨_, rfl⟩
  rw [← hq] at k7 ⊢
  refine (HS.out _).mono ?_
  rintro e v3 ⟨rfl, y3⟩
  have k8 := k7.new y3
  clear k7 y3 hq s2 v2
  have S1 : SgAt (v3.alloc (.cells #[.int .i64 s.k, .int .i64 s.l, .int .i64 s.e, .int .i64 s.c, .int .i64 s.g, .int .i64 s.t, .int .i64 s.a, .int .i64 s.o] 102)) v3.heap.size s := sgAt_new v3 s
  have k9 := k8.new (World.grownBy_alloc v3 (.cells #[.int .i64 s.k, .int .i64 s.l, .int .i64 s.e, .int .i64 s.c, .int .i64 s.g, .int .i64 s.t, .int .i64 s.a, .int .i64 s.o] 102) none)
  have lu := k8.lt
  clear k8
  go_wp2_with (first | (refine wpL_load rfl .i64 71 _ rfl p 0 rfl L k9.a ⟨_, Tryz.uA⟩ Tryz.sA ?_))
  obtain ⟨u, hu⟩ : ∃ u, u = v3.heap.size := ⟨_, rfl⟩
  rw [← hu] at S1 lu ⊢
  generalize v3.alloc (.cells #[.int .i64 s.k, .int .i64 s.l, .int .i64 s.e, .int .i64 s.c, .int .i64 s.g, .int .i64 s.t, .int .i64 s.a, .int .i64 s.o] 102) = v3b at k9 S1 ⊢
  clear hu v3
  refine (HA.out _).mono ?_
  rintro e v4 ⟨rfl, y4⟩
  have k10 := k9.new y4
  have S2 := S1.new y4
  clear k9 S1 y4
  go_wp2_with (first | (refine wpL_store rfl .i64 71 _ _ rfl q 0 rfl _ rfl .i64 _ k10.x Tryz.sA ?_; intro v5 p5; have k11 := k10.putX p5.g p5.r; have S3 := S2.far p5.g (by simp; omega)) | (refine wpL_store rfl .i64 71 _ _ rfl (q + 1) 0 rfl _ rfl .i64 _ k11.y Tryz.sA ?_; intro v6 p6; have k12 := k11.putY p6.g p6.r; have S4 := S3.far p6.g (by simp; omega)) | (refine wpL_load rfl .i64 43 _ rfl w.heap.size 0 rfl L k12.box.f ⟨_, Tryz.uY⟩ Tryz.sY ?_))
  clear k10 k11 S2 S3 p5 p6
  refine (bound_any L 8380417 _).mono ?_
  rintro e v7 ⟨bx, rfl, hbx, y7⟩
  have k13 := k12.new y7
  have S5 := S4.new y7
  clear k12 S4 y7
  obtain rfl : bx = true := hbx.2 hL
  clear hbx
  have m7 := new_alloc .i64 v7 (fun _ => 0) 43
  rw [← Tryz.zY] at m7
  have m8 := new_alloc .i64 (v7.alloc (.cells Tryz.zeroCells43 43)) (fun _ => 0) 43
  rw [← Tryz.zY] at m8
  have c8 := m7.r.new m8.g
  have d8 := m8.r
  rw [m7.s] at d8
  have k14 := (k13.new m7.g).new m8.g
  have S6 := (S5.new m7.g).new m8.g
  have l8 := k13.lt
  clear k13 S5 m7 m8
  obtain ⟨z, hz⟩ : ∃ z, z = v7.heap.size := ⟨_, rfl⟩
  rw [← hz] at c8 d8 l8
  go_wp2_with (first | (refine wpL_load rfl .i64 43 _ rfl w.heap.size 0 rfl L k14.box.f ⟨_, Tryz.uY⟩ Tryz.sY ?_))
  rw [← hz]
  clear hz
  generalize (v7.alloc (.cells Tryz.zeroCells43 43)).alloc (.cells Tryz.zeroCells43 43) = v8 at *
  refine (HR.out _).mono ?_
  rintro e v9 ⟨rfl, y9⟩
  have k15 := k14.new y9
  have c9 := c8.new y9
  have d9 := d8.new y9
  clear k14 c8 d8 y9
  go_wp2_with (first | (refine wpL_store rfl .i64 43 _ _ rfl z 0 rfl _ rfl .i64 _ c9 Tryz.sY ?_; intro v10 p10; have k16 := k15.far p10.g (by omega); have d10 := d9.far p10.g (by simp)) | (refine wpL_store rfl .i64 43 _ _ rfl (z + 1) 0 rfl _ rfl .i64 _ d10 Tryz.sY ?_; intro v11 p11; have k17 := k16.far p11.g (by omega); have c11 := p10.r.far p11.g (by simp); have d11 := p11.r))
  clear k15 k16 c9 d9 d10 p10 p11
  refine (ltold_nil _).mono ?_
  rintro e w' ⟨rfl, hw⟩
  rw [hw]
  clear hw w'
  go_wp2_with (first | (refine wpL_load rfl .i64 71 _ rfl q 0 rfl _ k17.x ⟨_, Tryz.uA⟩ Tryz.sA ?_) | (refine wpL_load rfl .i64 43 _ rfl z 0 rfl _ c11 ⟨_, Tryz.uY⟩ Tryz.sY ?_))
  refine (is_same _ _ HX.out _).mono ?_
  rintro e v12 ⟨rfl, y12⟩
  have k18 := k17.new y12
  have c12 := c11.new y12
  have d12 := d11.new y12
  clear k17 c11 d11 y12
  go_wp2_with (first | (refine wpL_load rfl .i64 71 _ rfl (q + 1) 0 rfl _ k18.y ⟨_, Tryz.uA⟩ Tryz.sA ?_) | (refine wpL_load rfl .i64 43 _ rfl (z + 1) 0 rfl _ d12 ⟨_, Tryz.uY⟩ Tryz.sY ?_))
  refine (is_same _ _ HZ.out _).mono ?_
  rintro e v13 ⟨rfl, y13⟩
  have k19 := k18.new y13
  have c13 := c12.new y13
  have d13 := d12.new y13
  clear k18 c12 d12 y13
  have lz : w.heap.size + 1 + 1 < z := by have := k19.lp; have := k19.lq; omega
  have hg := k19.box.g
  have r13 := k19.box.r
  have t13 := k19.box.t
  clear k19
  go_wp2_with fail
  have ld1 := run_hidLd v13.drew z 0 _ c13.drew
  have ld2 := run_hidLd v13.drew (z + 1) 0 _ d13.drew
  have st1 := run_hidSt v13.drew (w.heap.size + 1) X _ r13.drew
  have p4 := put_cells .i64 v13.drew (w.heap.size + 1) 0 X (r13.drew.there .i64 _)
  have hZ4 := d13.drew.far p4.g (by simp <;> omega)
  have hQ4 := t13.drew.far p4.g (by simp)
  have st2 := run_hidSt _ (w.heap.size + 1 + 1) Z _ hQ4
  have ld3 := run_hidLd _ (z + 1) 0 _ hZ4
  have p5 := put_cells .i64 _ (w.heap.size + 1 + 1) 0 Z (hQ4.there .i64 _)
  clear c13 d13 r13 t13 hZ4 hQ4
  go_region
  clear ld1 ld2 ld3 st1 st2
  generalize (v13.drew.setCells (w.heap.size + 1) 0 (polyA .i64 X).toList).setCells (w.heap.size + 1 + 1) 0 (polyA .i64 Z).toList = w6 at *
  go_wp2
  refine bodyPost_ret (res3 Tryz.results31 .i64 _ w6 (w.heap.size + 1) (w.heap.size + 1 + 1) _ _ _ rfl rfl rfl (p4.r.far p5.g (by simp)) p5.r ⟨_, Tryz.uY⟩ Tryz.sY) rfl ⟨rfl, grown_new (grown_new (grown_drew hg) p4.g (by omega)) p5.g (by omega)⟩
set_option maxHeartbeats 4000000 in
set_option maxRecDepth 20000 in
theorem hal_sk (d : Int) (hd : (d == 0) = false) (L : Nat → Int) (s : Sg) (X Z X1 Z1 : Nat → Int) (hX : ∀ j, j < 256 → X1 j = X j) (hZ : ∀ j, j < 256 → Z1 j = Z j) (hL : InB L 8380417)
    (HS : Hid (∀ W, Calls Tryz.prog 64 #[.int .i64 d] W fun e w' => e = .returned (.tuple #[sgV s, .bool true]) ∧ W.grownBy w' none))
    (HA : Hid (∀ W, Calls Tryz.prog 66 #[.int .i64 d, .agg (polyA .i64 L)] W fun e w' => e = .returned (.tuple #[.agg (polyA .i64 X1), .agg (polyA .i64 Z1), .nilIface]) ∧ W.grownBy w' none))
    (HR : Hid (∀ W, Calls Tryz.prog 68 #[sgV s, .agg (polyA .i64 L)] W fun e w' => e = .returned (.tuple #[.agg (polyA .i64 X), .agg (polyA .i64 Z)]) ∧ W.grownBy w' none))
    (w : World) : Calls Tryz.prog 31 #[.int .i64 d, .agg (polyA .i64 L)] w fun e w' => e = .returned (.tuple #[.agg (polyA .i64 X), .agg (polyA .i64 Z), .bool true]) ∧ w.grownBy w' none := by
  have k3 := boxH_mk w L
  have HX : Hid (∀ j, j < 256 → X1 j = X j) := hX
  have HZ : Hid (∀ j, j < 256 → Z1 j = Z j) := hZ
  clear hX hZ
  go_enter Tryz.func31, Tryz.ntmps31
  go_wp2_with (first | (refine wpL_load rfl .i64 43 _ rfl w.heap.size 0 rfl L k3.f ⟨_, Tryz.uY⟩ Tryz.sY ?_))
  refine (lpoly_any L _).mono ?_
  rintro e v1 ⟨rfl, y1⟩
  have k4 := k3.new y1
  clear k3 y1
  have m1 := new_alloc .i64 v1 (fun _ => 0) 71
  rw [← Tryz.zA] at m1
  have k5 := k4.new m1.g
  have e4 := k4.lt
  go_wp2_with (first | (refine wpL_store rfl .i64 71 _ _ rfl v1.heap.size 0 rfl _ rfl .i64 _ m1.r Tryz.sA ?_; intro v2 p2; have k6 := k5.far p2.g e4))
  have s2 := p2.s
  rw [m1.s] at s2
  have a2 := p2.r
  obtain ⟨p, hp⟩ : ∃ p, p = v1.heap.size := ⟨_, rfl⟩
  rw [← hp] at a2 s2 e4 ⊢
  clear hp k4 k5 p2 m1
  have m2 := new_alloc .i64 v2 (fun _ => 0) 71
  rw [← Tryz.zA] at m2
  have m3 := new_alloc .i64 (v2.alloc (.cells Tryz.zeroCells71 71)) (fun _ => 0) 71
  rw [← Tryz.zA] at m3
  have r3 := m3.r
  rw [m2.s] at r3
  have k7 : Hal w ((v2.alloc (.cells Tryz.zeroCells71 71)).alloc (.cells Tryz.zeroCells71 71)) p v2.heap.size L (fun _ => 0) (fun _ => 0) := ⟨(k6.new m2.g).new m3.g, (a2.new m2.g).new m3.g, m2.r.new m3.g, r3, e4, by omega⟩
  clear m2 m3 r3 k6 a2
  obtain ⟨q, hq⟩ : ∃ q, q = v2.heap.size := ⟨_, rfl⟩
  rw [← hq] at k7 ⊢
  refine (HS.out _).mono ?_
  rintro e v3 ⟨rfl, y3⟩
  have k8 := k7.new y3
  clear k7 y3 hq s2 v2
  have S1 : SgAt (v3.alloc (.cells #[.int .i64 s.k, .int .i64 s.l, .int .i64 s.e, .int .i64 s.c, .int .i64 s.g, .int .i64 s.t, .int .i64 s.a, .int .i64 s.o] 102)) v3.heap.size s := sgAt_new v3 s
  have k9 := k8.new (World.grownBy_alloc v3 (.cells #[.int .i64 s.k, .int .i64 s.l, .int .i64 s.e, .int .i64 s.c, .int .i64 s.g, .int .i64 s.t, .int .i64 s.a, .int .i64 s.o] 102) none)
  have lu := k8.lt
  clear k8
  go_wp2_with (first | (refine wpL_load rfl .i64 71 _ rfl p 0 rfl L k9.a ⟨_, Tryz.uA⟩ Tryz.sA ?_))
  obtain ⟨u, hu⟩ : ∃ u, u = v3.heap.size := ⟨_, rfl⟩
  rw [← hu] at S1 lu ⊢
  generalize v3.alloc (.cells #[.int .i64 s.k, .int .i64 s.l, .int .i64 s.e, .int .i64 s.c, .int .i64 s.g, .int .i64 s.t, .int .i64 s.a, .int .i64 s.o] 102) = v3b at k9 S1 ⊢
  clear hu v3
  refine (HA.out _).mono ?_
  rintro e v4 ⟨rfl, y4⟩
  have k10 := k9.new y4
  have S2 := S1.new y4
  clear k9 S1 y4
  go_wp2_with (first | (refine wpL_store rfl .i64 71 _ _ rfl q 0 rfl _ rfl .i64 _ k10.x Tryz.sA ?_; intro v5 p5; have k11 := k10.putX p5.g p5.r; have S3 := S2.far p5.g (by simp; omega)) | (refine wpL_store rfl .i64 71 _ _ rfl (q + 1) 0 rfl _ rfl .i64 _ k11.y Tryz.sA ?_; intro v6 p6; have k12 := k11.putY p6.g p6.r; have S4 := S3.far p6.g (by simp; omega)) | (refine wpL_load rfl .i64 43 _ rfl w.heap.size 0 rfl L k12.box.f ⟨_, Tryz.uY⟩ Tryz.sY ?_))
  clear k10 k11 S2 S3 p5 p6
  refine (bound_any L 8380417 _).mono ?_
  rintro e v7 ⟨bx, rfl, hbx, y7⟩
  have k13 := k12.new y7
  have S5 := S4.new y7
  clear k12 S4 y7
  obtain rfl : bx = true := hbx.2 hL
  clear hbx
  have m7 := new_alloc .i64 v7 (fun _ => 0) 43
  rw [← Tryz.zY] at m7
  have m8 := new_alloc .i64 (v7.alloc (.cells Tryz.zeroCells43 43)) (fun _ => 0) 43
  rw [← Tryz.zY] at m8
  have c8 := m7.r.new m8.g
  have d8 := m8.r
  rw [m7.s] at d8
  have k14 := (k13.new m7.g).new m8.g
  have S6 := (S5.new m7.g).new m8.g
  have l8 := k13.lt
  clear k13 S5 m7 m8
  obtain ⟨z, hz⟩ : ∃ z, z = v7.heap.size := ⟨_, rfl⟩
  rw [← hz] at c8 d8 l8
  obtain ⟨g0, g1, g2, g3, g4, g5, g6, g7⟩ := S6
  go_wp2_with (first | (refine wpL_load rfl .i64 43 _ rfl w.heap.size 0 rfl L k14.box.f ⟨_, Tryz.uY⟩ Tryz.sY ?_))
  rw [← hz]
  clear hz
  generalize (v7.alloc (.cells Tryz.zeroCells43 43)).alloc (.cells Tryz.zeroCells43 43) = v8 at *
  clear g0 g1 g2 g3 g4 g5 g6 g7
  refine (HR.out _).mono ?_
  rintro e v9 ⟨rfl, y9⟩
  have k15 := k14.new y9
  have c9 := c8.new y9
  have d9 := d8.new y9
  clear k14 c8 d8 y9
  go_wp2_with (first | (refine wpL_store rfl .i64 43 _ _ rfl z 0 rfl _ rfl .i64 _ c9 Tryz.sY ?_; intro v10 p10; have k16 := k15.far p10.g (by omega); have d10 := d9.far p10.g (by simp)) | (refine wpL_store rfl .i64 43 _ _ rfl (z + 1) 0 rfl _ rfl .i64 _ d10 Tryz.sY ?_; intro v11 p11; have k17 := k16.far p11.g (by omega); have c11 := p10.r.far p11.g (by simp); have d11 := p11.r))
  clear k15 k16 c9 d9 d10 p10 p11
  refine (ltold_nil _).mono ?_
  rintro e w' ⟨rfl, hw⟩
  rw [hw]
  clear hw w'
  go_wp2_with (first | (refine wpL_load rfl .i64 71 _ rfl q 0 rfl _ k17.x ⟨_, Tryz.uA⟩ Tryz.sA ?_) | (refine wpL_load rfl .i64 43 _ rfl z 0 rfl _ c11 ⟨_, Tryz.uY⟩ Tryz.sY ?_))
  refine (is_same _ _ HX.out _).mono ?_
  rintro e v12 ⟨rfl, y12⟩
  have k18 := k17.new y12
  have c12 := c11.new y12
  have d12 := d11.new y12
  clear k17 c11 d11 y12
  go_wp2_with (first | (refine wpL_load rfl .i64 71 _ rfl (q + 1) 0 rfl _ k18.y ⟨_, Tryz.uA⟩ Tryz.sA ?_) | (refine wpL_load rfl .i64 43 _ rfl (z + 1) 0 rfl _ d12 ⟨_, Tryz.uY⟩ Tryz.sY ?_))
  refine (is_same _ _ HZ.out _).mono ?_
  rintro e v13 ⟨rfl, y13⟩
  have k19 := k18.new y13
  have c13 := c12.new y13
  have d13 := d12.new y13
  clear k18 c12 d12 y13
  have lz : w.heap.size + 1 + 1 < z := by have := k19.lp; have := k19.lq; omega
  have hg := k19.box.g
  have r13 := k19.box.r
  have t13 := k19.box.t
  clear k19
  go_wp2_with fail
  have ld1 := run_hidLd v13.drew z 0 _ c13.drew
  have ld2 := run_hidLd v13.drew (z + 1) 0 _ d13.drew
  have st1 := run_hidSt v13.drew (w.heap.size + 1) X _ r13.drew
  have p4 := put_cells .i64 v13.drew (w.heap.size + 1) 0 X (r13.drew.there .i64 _)
  have hZ4 := d13.drew.far p4.g (by simp <;> omega)
  have hQ4 := t13.drew.far p4.g (by simp)
  have st2 := run_hidSt _ (w.heap.size + 1 + 1) Z _ hQ4
  have ld3 := run_hidLd _ (z + 1) 0 _ hZ4
  have p5 := put_cells .i64 _ (w.heap.size + 1 + 1) 0 Z (hQ4.there .i64 _)
  clear c13 d13 r13 t13 hZ4 hQ4
  go_region
  clear ld1 ld2 ld3 st1 st2
  generalize (v13.drew.setCells (w.heap.size + 1) 0 (polyA .i64 X).toList).setCells (w.heap.size + 1 + 1) 0 (polyA .i64 Z).toList = w6 at *
  go_wp2
  refine bodyPost_ret (res3 Tryz.results31 .i64 _ w6 (w.heap.size + 1) (w.heap.size + 1 + 1) _ _ _ rfl rfl rfl (p4.r.far p5.g (by simp)) p5.r ⟨_, Tryz.uY⟩ Tryz.sY) rfl ⟨rfl, grown_new (grown_new (grown_drew hg) p4.g (by omega)) p5.g (by omega)⟩
end Go.Proofs.YtkijpphmiogbbaaGreatDoor.Z
