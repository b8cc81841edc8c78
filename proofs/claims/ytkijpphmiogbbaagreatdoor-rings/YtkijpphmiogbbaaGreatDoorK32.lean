import Derived.Test.YtkijpphmiogbbaaGreatDoorK29
import Derived.Test.YtkijpphmiogbbaaGreatDoorK18
import Derived.Test.YtkijpphmiogbbaaGreatDoorK31
namespace Go.Proofs.YtkijpphmiogbbaaGreatDoor
open Go.RowKit
attribute [local go_sem ↓] Go.wp_at_zero Go.wp_at_succ

/-- The first coefficient that is out of bounds. -/
def Bad (L : Nat → Int) (n : Int) : Prop := ∃ k0, k0 < 256 ∧ (∀ i, i < k0 → 0 ≤ L i ∧ L i < n) ∧ (L k0 < 0 ∨ n ≤ L k0)
set_option maxHeartbeats 1000000 in
set_option maxRecDepth 20000 in
theorem modulo16_bad (Ls : Nat → Nat → Int) (b m u v : Nat) (w : World) (hm : m ≤ 2) (s0 : Nat) (hs0 : s0 < m) (hL : ∀ s, s < s0 → ∀ i, i < 256 → 0 ≤ Ls s i ∧ Ls s i < 3329) (hr : ∀ s, s < m → PRow .i64 w b (256 * s) (Ls s)) (hb : Bad (Ls s0) 3329) :
    Calls Tryz.prog 102 #[.int .i64 3329, .func (.func u) #[] #[], .func (.func v) #[] #[], .slice (some ⟨b, 0, none⟩) m m] w fun e w' => e = .returned (.tuple #[.agg (polyA .i64 (fun _ => 0)), .iface 138 (.int .i64 5)]) ∧ w.grownBy w' none := by
  have t1 := fns_boxed w (.func (.func u) #[] #[]) (.func (.func v) #[] #[]) 231 232 71
  rw [← Tryz.z24] at t1
  obtain ⟨g1, c1, c2, z1⟩ := t1
  have hr1 := fun s hs => (hr s hs).new g1
  obtain ⟨k0, hk0, hb0, hbad⟩ := hb
  go_enter Tryz.func102, Tryz.ntmps102
  go_wp2_with fail
  refine (calc16_bad Ls 3329 b m _ _ _ hm (by omega) s0 hs0 hL hr1 k0 hk0 hb0 hbad).mono ?_
  rintro e w5 ⟨rfl, g5⟩
  go_wp2_with (first | (refine wpL_store rfl .i64 71 _ _ rfl (w.heap.size + 1 + 1) 0 rfl _ rfl .i64 _ (z1.new g5) Tryz.sP ?_; intro w6 p6))
  refine bodyPost_ret (res2 rfl .i64 _ w6 (w.heap.size + 1 + 1) _ _ rfl rfl p6.r ⟨_, Tryz.uP⟩ Tryz.sP) rfl ⟨rfl, grown_new (grownBy_trans g1 g5) p6.g (by omega)⟩
set_option maxHeartbeats 1000000 in
set_option maxRecDepth 20000 in
theorem forward16_bad (L : Nat → Int) (w : World) (hb : Bad L 3329) :
    Calls Tryz.prog 53 #[.int .i64 3329, .agg (polyA .i64 L)] w fun e w' => e = .returned (.tuple #[.agg (polyA .i64 (fun _ => 0)), .iface 138 (.int .i64 5)]) ∧ w.grownBy w' none := by
  have n1 := new_alloc .i64 w L 71
  have n2 := new_alloc .i64 (w.alloc (.cells (polyA .i64 L) 71)) (fun _ => 0) 71
  rw [← Tryz.z24] at n2
  have z2 := n2.r
  rw [n1.s] at z2
  have s2 : ((w.alloc (.cells (polyA .i64 L) 71)).alloc (.cells Tryz.zeroCells71 71)).heap.size = w.heap.size + 1 + 1 := by rw [World.size_alloc, World.size_alloc]
  go_enter Tryz.func53, Tryz.ntmps53
  go_wp2_with (first | (refine wpL_load rfl .i64 71 _ rfl w.heap.size 0 rfl _ (n1.r.new n2.g) ⟨_, Tryz.uP⟩ Tryz.sP ?_) | (refine wpL_bs1 rfl _ rfl L rfl ?_; intro w3 n3))
  have r3 := n3.r
  rw [s2] at r3
  refine (modulo16_bad (fun _ => L) (w.heap.size + 1 + 1) 1 _ _ w3 (by omega) 0 (by omega) (fun s hs => absurd hs (by omega)) (fun s hs => by obtain rfl : s = 0 := (by omega); exact r3) hb).mono ?_
  rintro e w5 ⟨rfl, g5⟩
  go_wp2_with (first | (refine wpL_store rfl .i64 71 _ _ rfl (w.heap.size + 1) 0 rfl _ rfl .i64 _ ((z2.new n3.g).new g5) Tryz.sP ?_; intro w6 p6))
  refine bodyPost_ret (res2 rfl .i64 _ w6 (w.heap.size + 1) _ _ rfl rfl p6.r ⟨_, Tryz.uP⟩ Tryz.sP) rfl ⟨rfl, grown_new (grownBy_trans (grownBy_trans n1.g (grownBy_trans n2.g n3.g)) g5) p6.g (by omega)⟩
set_option maxHeartbeats 1000000 in
set_option maxRecDepth 20000 in
theorem inverse16_bad (L : Nat → Int) (w : World) (hb : Bad L 3329) :
    Calls Tryz.prog 54 #[.int .i64 3329, .agg (polyA .i64 L)] w fun e w' => e = .returned (.tuple #[.agg (polyA .i64 (fun _ => 0)), .iface 138 (.int .i64 5)]) ∧ w.grownBy w' none := by
  have n1 := new_alloc .i64 w L 71
  have n2 := new_alloc .i64 (w.alloc (.cells (polyA .i64 L) 71)) (fun _ => 0) 71
  rw [← Tryz.z24] at n2
  have z2 := n2.r
  rw [n1.s] at z2
  have s2 : ((w.alloc (.cells (polyA .i64 L) 71)).alloc (.cells Tryz.zeroCells71 71)).heap.size = w.heap.size + 1 + 1 := by rw [World.size_alloc, World.size_alloc]
  go_enter Tryz.func54, Tryz.ntmps54
  go_wp2_with (first | (refine wpL_load rfl .i64 71 _ rfl w.heap.size 0 rfl _ (n1.r.new n2.g) ⟨_, Tryz.uP⟩ Tryz.sP ?_) | (refine wpL_bs1 rfl _ rfl L rfl ?_; intro w3 n3))
  have r3 := n3.r
  rw [s2] at r3
  refine (modulo16_bad (fun _ => L) (w.heap.size + 1 + 1) 1 _ _ w3 (by omega) 0 (by omega) (fun s hs => absurd hs (by omega)) (fun s hs => by obtain rfl : s = 0 := (by omega); exact r3) hb).mono ?_
  rintro e w5 ⟨rfl, g5⟩
  go_wp2_with (first | (refine wpL_store rfl .i64 71 _ _ rfl (w.heap.size + 1) 0 rfl _ rfl .i64 _ ((z2.new n3.g).new g5) Tryz.sP ?_; intro w6 p6))
  refine bodyPost_ret (res2 rfl .i64 _ w6 (w.heap.size + 1) _ _ rfl rfl p6.r ⟨_, Tryz.uP⟩ Tryz.sP) rfl ⟨rfl, grown_new (grownBy_trans (grownBy_trans n1.g (grownBy_trans n2.g n3.g)) g5) p6.g (by omega)⟩
set_option maxHeartbeats 1000000 in
set_option maxRecDepth 20000 in
theorem product16_bad (F G : Nat → Int) (w : World) (s0 : Nat) (hs0 : s0 < 2) (hF : 0 < s0 → ∀ i, i < 256 → 0 ≤ F i ∧ F i < 3329) (hb : Bad (if s0 = 0 then F else G) 3329) :
    Calls Tryz.prog 55 #[.int .i64 3329, .agg (polyA .i64 F), .agg (polyA .i64 G)] w fun e w' => e = .returned (.tuple #[.agg (polyA .i64 (fun _ => 0)), .iface 138 (.int .i64 5)]) ∧ w.grownBy w' none := by
  have n1 := new_alloc .i64 w F 71
  have n2 := new_alloc .i64 (w.alloc (.cells (polyA .i64 F) 71)) G 71
  have n3 := new_alloc .i64 ((w.alloc (.cells (polyA .i64 F) 71)).alloc (.cells (polyA .i64 G) 71)) (fun _ => 0) 71
  rw [← Tryz.z24] at n3
  have f3 := (n1.r.new n2.g).new n3.g
  have h3 := n2.r.new n3.g
  rw [n1.s] at h3
  have z3 := n3.r
  rw [n2.s, n1.s] at z3
  have g3 := grownBy_trans n1.g (grownBy_trans n2.g n3.g)
  have s3 := n3.s
  rw [n2.s, n1.s] at s3
  clear n1 n2 n3
  go_enter Tryz.func55, Tryz.ntmps55
  go_wp2_with (first | (refine wpL_load rfl .i64 71 _ rfl w.heap.size 0 rfl _ f3 ⟨_, Tryz.uP⟩ Tryz.sP ?_) | (refine wpL_load rfl .i64 71 _ rfl (w.heap.size + 1) 0 rfl _ h3 ⟨_, Tryz.uP⟩ Tryz.sP ?_) | (refine wpL_bs2 rfl _ _ rfl F G rfl rfl ?_; intro w4 g4 a4 b4))
  rw [s3] at a4 b4
  refine (modulo16_bad (fun s => if s = 0 then F else G) (w.heap.size + 1 + 1 + 1) 2 _ _ w4 (by omega) s0 hs0 (fun s hs => by obtain rfl : s = 0 := (by omega); exact hF hs) (fun s hs => by
    rcases Nat.lt_or_ge 0 s with h | h
    · obtain rfl : s = 1 := by omega
      exact b4
    · obtain rfl : s = 0 := by omega
      exact a4) hb).mono ?_
  rintro e w5 ⟨rfl, g5⟩
  go_wp2_with (first | (refine wpL_store rfl .i64 71 _ _ rfl (w.heap.size + 1 + 1) 0 rfl _ rfl .i64 _ ((z3.new g4).new g5) Tryz.sP ?_; intro w6 p6))
  refine bodyPost_ret (res2 rfl .i64 _ w6 (w.heap.size + 1 + 1) _ _ rfl rfl p6.r ⟨_, Tryz.uP⟩ Tryz.sP) rfl ⟨rfl, grown_new (grownBy_trans (grownBy_trans g3 g4) g5) p6.g (by omega)⟩
set_option maxHeartbeats 1000000 in
set_option maxRecDepth 20000 in
theorem modulo32_bad (Ls : Nat → Nat → Int) (b m u v : Nat) (w : World) (hm : m ≤ 2) (s0 : Nat) (hs0 : s0 < m) (hL : ∀ s, s < s0 → ∀ i, i < 256 → 0 ≤ Ls s i ∧ Ls s i < 8380417) (hr : ∀ s, s < m → PRow .i64 w b (256 * s) (Ls s)) (hb : Bad (Ls s0) 8380417) :
    Calls Tryz.prog 102 #[.int .i64 8380417, .func (.func u) #[] #[], .func (.func v) #[] #[], .slice (some ⟨b, 0, none⟩) m m] w fun e w' => e = .returned (.tuple #[.agg (polyA .i64 (fun _ => 0)), .iface 138 (.int .i64 5)]) ∧ w.grownBy w' none := by
  have t1 := fns_boxed w (.func (.func u) #[] #[]) (.func (.func v) #[] #[]) 231 232 71
  rw [← Tryz.z24] at t1
  obtain ⟨g1, c1, c2, z1⟩ := t1
  have hr1 := fun s hs => (hr s hs).new g1
  obtain ⟨k0, hk0, hb0, hbad⟩ := hb
  go_enter Tryz.func102, Tryz.ntmps102
  go_wp2_with fail
  refine (calc32_bad Ls 8380417 b m _ _ _ hm (by omega) s0 hs0 hL hr1 k0 hk0 hb0 hbad).mono ?_
  rintro e w5 ⟨rfl, g5⟩
  go_wp2_with (first | (refine wpL_store rfl .i64 71 _ _ rfl (w.heap.size + 1 + 1) 0 rfl _ rfl .i64 _ (z1.new g5) Tryz.sP ?_; intro w6 p6))
  refine bodyPost_ret (res2 rfl .i64 _ w6 (w.heap.size + 1 + 1) _ _ rfl rfl p6.r ⟨_, Tryz.uP⟩ Tryz.sP) rfl ⟨rfl, grown_new (grownBy_trans g1 g5) p6.g (by omega)⟩
set_option maxHeartbeats 1000000 in
set_option maxRecDepth 20000 in
theorem forward32_bad (L : Nat → Int) (w : World) (hb : Bad L 8380417) :
    Calls Tryz.prog 53 #[.int .i64 8380417, .agg (polyA .i64 L)] w fun e w' => e = .returned (.tuple #[.agg (polyA .i64 (fun _ => 0)), .iface 138 (.int .i64 5)]) ∧ w.grownBy w' none := by
  have n1 := new_alloc .i64 w L 71
  have n2 := new_alloc .i64 (w.alloc (.cells (polyA .i64 L) 71)) (fun _ => 0) 71
  rw [← Tryz.z24] at n2
  have z2 := n2.r
  rw [n1.s] at z2
  have s2 : ((w.alloc (.cells (polyA .i64 L) 71)).alloc (.cells Tryz.zeroCells71 71)).heap.size = w.heap.size + 1 + 1 := by rw [World.size_alloc, World.size_alloc]
  go_enter Tryz.func53, Tryz.ntmps53
  go_wp2_with (first | (refine wpL_load rfl .i64 71 _ rfl w.heap.size 0 rfl _ (n1.r.new n2.g) ⟨_, Tryz.uP⟩ Tryz.sP ?_) | (refine wpL_bs1 rfl _ rfl L rfl ?_; intro w3 n3))
  have r3 := n3.r
  rw [s2] at r3
  refine (modulo32_bad (fun _ => L) (w.heap.size + 1 + 1) 1 _ _ w3 (by omega) 0 (by omega) (fun s hs => absurd hs (by omega)) (fun s hs => by obtain rfl : s = 0 := (by omega); exact r3) hb).mono ?_
  rintro e w5 ⟨rfl, g5⟩
  go_wp2_with (first | (refine wpL_store rfl .i64 71 _ _ rfl (w.heap.size + 1) 0 rfl _ rfl .i64 _ ((z2.new n3.g).new g5) Tryz.sP ?_; intro w6 p6))
  refine bodyPost_ret (res2 rfl .i64 _ w6 (w.heap.size + 1) _ _ rfl rfl p6.r ⟨_, Tryz.uP⟩ Tryz.sP) rfl ⟨rfl, grown_new (grownBy_trans (grownBy_trans n1.g (grownBy_trans n2.g n3.g)) g5) p6.g (by omega)⟩
set_option maxHeartbeats 1000000 in
set_option maxRecDepth 20000 in
theorem inverse32_bad (L : Nat → Int) (w : World) (hb : Bad L 8380417) :
    Calls Tryz.prog 54 #[.int .i64 8380417, .agg (polyA .i64 L)] w fun e w' => e = .returned (.tuple #[.agg (polyA .i64 (fun _ => 0)), .iface 138 (.int .i64 5)]) ∧ w.grownBy w' none := by
  have n1 := new_alloc .i64 w L 71
  have n2 := new_alloc .i64 (w.alloc (.cells (polyA .i64 L) 71)) (fun _ => 0) 71
  rw [← Tryz.z24] at n2
  have z2 := n2.r
  rw [n1.s] at z2
  have s2 : ((w.alloc (.cells (polyA .i64 L) 71)).alloc (.cells Tryz.zeroCells71 71)).heap.size = w.heap.size + 1 + 1 := by rw [World.size_alloc, World.size_alloc]
  go_enter Tryz.func54, Tryz.ntmps54
  go_wp2_with (first | (refine wpL_load rfl .i64 71 _ rfl w.heap.size 0 rfl _ (n1.r.new n2.g) ⟨_, Tryz.uP⟩ Tryz.sP ?_) | (refine wpL_bs1 rfl _ rfl L rfl ?_; intro w3 n3))
  have r3 := n3.r
  rw [s2] at r3
  refine (modulo32_bad (fun _ => L) (w.heap.size + 1 + 1) 1 _ _ w3 (by omega) 0 (by omega) (fun s hs => absurd hs (by omega)) (fun s hs => by obtain rfl : s = 0 := (by omega); exact r3) hb).mono ?_
  rintro e w5 ⟨rfl, g5⟩
  go_wp2_with (first | (refine wpL_store rfl .i64 71 _ _ rfl (w.heap.size + 1) 0 rfl _ rfl .i64 _ ((z2.new n3.g).new g5) Tryz.sP ?_; intro w6 p6))
  refine bodyPost_ret (res2 rfl .i64 _ w6 (w.heap.size + 1) _ _ rfl rfl p6.r ⟨_, Tryz.uP⟩ Tryz.sP) rfl ⟨rfl, grown_new (grownBy_trans (grownBy_trans n1.g (grownBy_trans n2.g n3.g)) g5) p6.g (by omega)⟩
set_option maxHeartbeats 1000000 in
set_option maxRecDepth 20000 in
theorem product32_bad (F G : Nat → Int) (w : World) (s0 : Nat) (hs0 : s0 < 2) (hF : 0 < s0 → ∀ i, i < 256 → 0 ≤ F i ∧ F i < 8380417) (hb : Bad (if s0 = 0 then F else G) 8380417) :
    Calls Tryz.prog 55 #[.int .i64 8380417, .agg (polyA .i64 F), .agg (polyA .i64 G)] w fun e w' => e = .returned (.tuple #[.agg (polyA .i64 (fun _ => 0)), .iface 138 (.int .i64 5)]) ∧ w.grownBy w' none := by
  have n1 := new_alloc .i64 w F 71
  have n2 := new_alloc .i64 (w.alloc (.cells (polyA .i64 F) 71)) G 71
  have n3 := new_alloc .i64 ((w.alloc (.cells (polyA .i64 F) 71)).alloc (.cells (polyA .i64 G) 71)) (fun _ => 0) 71
  rw [← Tryz.z24] at n3
  have f3 := (n1.r.new n2.g).new n3.g
  have h3 := n2.r.new n3.g
  rw [n1.s] at h3
  have z3 := n3.r
  rw [n2.s, n1.s] at z3
  have g3 := grownBy_trans n1.g (grownBy_trans n2.g n3.g)
  have s3 := n3.s
  rw [n2.s, n1.s] at s3
  clear n1 n2 n3
  go_enter Tryz.func55, Tryz.ntmps55
  go_wp2_with (first | (refine wpL_load rfl .i64 71 _ rfl w.heap.size 0 rfl _ f3 ⟨_, Tryz.uP⟩ Tryz.sP ?_) | (refine wpL_load rfl .i64 71 _ rfl (w.heap.size + 1) 0 rfl _ h3 ⟨_, Tryz.uP⟩ Tryz.sP ?_) | (refine wpL_bs2 rfl _ _ rfl F G rfl rfl ?_; intro w4 g4 a4 b4))
  rw [s3] at a4 b4
  refine (modulo32_bad (fun s => if s = 0 then F else G) (w.heap.size + 1 + 1 + 1) 2 _ _ w4 (by omega) s0 hs0 (fun s hs => by obtain rfl : s = 0 := (by omega); exact hF hs) (fun s hs => by
    rcases Nat.lt_or_ge 0 s with h | h
    · obtain rfl : s = 1 := by omega
      exact b4
    · obtain rfl : s = 0 := by omega
      exact a4) hb).mono ?_
  rintro e w5 ⟨rfl, g5⟩
  go_wp2_with (first | (refine wpL_store rfl .i64 71 _ _ rfl (w.heap.size + 1 + 1) 0 rfl _ rfl .i64 _ ((z3.new g4).new g5) Tryz.sP ?_; intro w6 p6))
  refine bodyPost_ret (res2 rfl .i64 _ w6 (w.heap.size + 1 + 1) _ _ rfl rfl p6.r ⟨_, Tryz.uP⟩ Tryz.sP) rfl ⟨rfl, grown_new (grownBy_trans (grownBy_trans g3 g4) g5) p6.g (by omega)⟩
set_option maxHeartbeats 1000000 in
set_option maxRecDepth 20000 in
theorem compress_bad (L : Nat → Int) (d : Nat) (w : World) (hd0 : 1 ≤ d) (hd1 : d ≤ 11) (hb : Bad L 3329) :
    Calls Tryz.prog 56 #[.int .i64 d, .agg (polyA .i64 L)] w fun e w' => e = .returned (.tuple #[.agg (polyA .i64 (fun _ => 0)), .iface 138 (.int .i64 5)]) ∧ w.grownBy w' none := by
  have t1 := three w (.int .i64 (d : Int)) 3 71 71 .i64 .i64 L
  rw [← Tryz.z24] at t1
  have g1 := t1.g
  have c1 := t1.c
  have d0 : decide ((d : Int) < 1) = false := by simp; omega
  have d1 : decide ((11 : Int) < (d : Int)) = false := by simp; omega
  obtain ⟨k0, hk0, hb0, hbad⟩ := hb
  go_enter Tryz.func56, Tryz.ntmps56
  go_wp2_with (first | (refine wpL_load rfl .i64 71 _ rfl (w.heap.size + 1) 0 rfl _ t1.r ⟨_, Tryz.uP⟩ Tryz.sP ?_) | (refine wpL_bs1 rfl _ rfl L rfl ?_; intro w2 n2))
  have r2 : ∀ s, s < 1 → PRow .i64 w2 (w.heap.size + 1 + 1 + 1) (256 * s) L := fun s hs => by
    obtain rfl : s = 0 := by omega
    have h := n2.r
    rw [World.size_alloc, World.size_alloc, World.size_alloc] at h
    exact h
  refine (calc16_bad (fun _ => L) 3329 (w.heap.size + 1 + 1 + 1) 1 _ _ w2 (by omega) (by omega) 0 (by omega) (fun s hs => absurd hs (by omega)) r2 k0 hk0 hb0 hbad).mono ?_
  rintro e w5 ⟨rfl, g5⟩
  go_wp2_with (first | (refine wpL_store rfl .i64 71 _ _ rfl (w.heap.size + 1 + 1) 0 rfl _ rfl .i64 _ ((t1.z.new n2.g).new g5) Tryz.sP ?_; intro w6 p6))
  refine bodyPost_ret (res2 rfl .i64 _ w6 (w.heap.size + 1 + 1) _ _ rfl rfl p6.r ⟨_, Tryz.uP⟩ Tryz.sP) rfl ⟨rfl, grown_new (grownBy_trans (grownBy_trans g1 n2.g) g5) p6.g (by omega)⟩
end Go.Proofs.YtkijpphmiogbbaaGreatDoor
