import Derived.Test.YtkijpphmiogbbaaGreatDoorM22
import Derived.Test.YtkijpphmiogbbaaGreatDoorM13
import Derived.Test.YtkijpphmiogbbaaGreatDoorM23
import Derived.Test.YtkijpphmiogbbaaGreatDoorM10
import Derived.Test.YtkijpphmiogbbaaGreatDoorM14
namespace Go.Proofs.YtkijpphmiogbbaaGreatDoor
open Go.RowKit
attribute [local go_sem ↓] Go.wp_at_zero Go.wp_at_succ

/-- The first coefficient that is out of bounds. -/
def Bad (L : Nat → Int) (n : Int) : Prop := ∃ k0, k0 < 256 ∧ (∀ i, i < k0 → 0 ≤ L i ∧ L i < n) ∧ (L k0 < 0 ∨ n ≤ L k0)
set_option maxHeartbeats 1000000 in
set_option maxRecDepth 20000 in
theorem modulo16_bad (Ls : Nat → Nat → Int) (b m u v : Nat) (w : World) (hm : m ≤ 2) (s0 : Nat) (hs0 : s0 < m) (hL : ∀ s, s < s0 → ∀ i, i < 256 → 0 ≤ Ls s i ∧ Ls s i < 3329) (hr : ∀ s, s < m → PRow .i64 w b (256 * s) (Ls s)) (hb : Bad (Ls s0) 3329) :
    Calls Tryz.prog 102 #[.int .i64 3329, .func (.func u) #[] #[], .func (.func v) #[] #[], .slice (some ⟨b, 0, none⟩) m m] w fun e w' => e = .returned (.tuple #[.agg (polyA .i64 (fun _ => 0)), .iface 138 (.int .i64 5)]) ∧ w.grownBy w' none := by
  have t1 := fns_boxed w (.func (.func u) #[] #[]) (.func (.func v) #[] #[]) 231 232 71
  rw [← Tryz.z24] at t1
  obtain ⟨g1, c1, c2, z1⟩ := t1
  have hr1 := fun s hs => (hr s hs).new g1
  obtain ⟨k0, hk0, hb0, hbad⟩ := hb
  go_enter Tryz.func102, Tryz.ntmps102
  go_wp2_with fail
  refine (calc16_bad Ls 3329 b m _ _ _ hm (by omega) s0 hs0 hL hr1 k0 hk0 hb0 hbad).mono ?_
  rintro e w5 ⟨rfl, g5⟩
  go_wp2_with (first | (refine wpL_store rfl .i64 71 _ _ rfl (w.heap.size + 1 + 1) 0 rfl _ rfl .i64 _ (z1.new g5) Tryz.sP ?_; intro w6 p6))
  refine bodyPost_ret (res2 rfl .i64 _ w6 (w.heap.size + 1 + 1) _ _ rfl rfl p6.r ⟨_, Tryz.uP⟩ Tryz.sP) rfl ⟨rfl, grown_new (grownBy_trans g1 g5) p6.g (by omega)⟩
set_option maxHeartbeats 1000000 in
set_option maxRecDepth 20000 in
theorem forward16_bad (L : Nat → Int) (w : World) (hb : Bad L 3329) :
    Calls Tryz.prog 53 #[.int .i64 3329, .agg (polyA .i64 L)] w fun e w' => e = .returned (.tuple #[.agg (polyA .i64 (fun _ => 0)), .iface 138 (.int .i64 5)]) ∧ w.grownBy w' none := by
  have n1 := new_alloc .i64 w L 71
  have n2 := new_alloc .i64 (w.alloc (.cells (polyA .i64 L) 71)) (fun _ => 0) 71
  rw [← Tryz.z24] at n2
  have z2 := n2.r
  rw [n1.s] at z2
  have s2 : ((w.alloc (.cells (polyA .i64 L) 71)).alloc (.cells Tryz.zeroCells71 71)).heap.size = w.heap.size + 1 + 1 := by rw [World.size_alloc, World.size_alloc]
  go_enter Tryz.func53, Tryz.ntmps53
  go_wp2_with (first | (refine wpL_load rfl .i64 71 _ rfl w.heap.size 0 rfl _ (n1.r.new n2.g) ⟨_, Tryz.uP⟩ Tryz.sP ?_) | (refine wpL_bs1 rfl _ rfl L rfl ?_; intro w3 n3))
  have r3 := n3.r
  rw [s2] at r3
  refine (modulo16_bad (fun _ => L) (w.heap.size + 1 + 1) 1 _ _ w3 (by omega) 0 (by omega) (fun s hs => absurd hs (by omega)) (fun s hs => by obtain rfl : s = 0 := (by omega); exact r3) hb).mono ?_
  rintro e w5 ⟨rfl, g5⟩
  go_wp2_with (first | (refine wpL_store rfl .i64 71 _ _ rfl (w.heap.size + 1) 0 rfl _ rfl .i64 _ ((z2.new n3.g).new g5) Tryz.sP ?_; intro w6 p6))
  refine bodyPost_ret (res2 rfl .i64 _ w6 (w.heap.size + 1) _ _ rfl rfl p6.r ⟨_, Tryz.uP⟩ Tryz.sP) rfl ⟨rfl, grown_new (grownBy_trans (grownBy_trans n1.g (grownBy_trans n2.g n3.g)) g5) p6.g (by omega)⟩
set_option maxHeartbeats 1000000 in
set_option maxRecDepth 20000 in
theorem inverse16_bad (L : Nat → Int) (w : World) (hb : Bad L 3329) :
    Calls Tryz.prog 54 #[.int .i64 3329, .agg (polyA .i64 L)] w fun e w' => e = .returned (.tuple #[.agg (polyA .i64 (fun _ => 0)), .iface 138 (.int .i64 5)]) ∧ w.grownBy w' none := by
  have n1 := new_alloc .i64 w L 71
  have n2 := new_alloc .i64 (w.alloc (.cells (polyA .i64 L) 71)) (fun _ => 0) 71
  rw [← Tryz.z24] at n2
  have z2 := n2.r
  rw [n1.s] at z2
  have s2 : ((w.alloc (.cells (polyA .i64 L) 71)).alloc (.cells Tryz.zeroCells71 71)).heap.size = w.heap.size + 1 + 1 := by rw [World.size_alloc, World.size_alloc]
  go_enter Tryz.func54, Tryz.ntmps54
  go_wp2_with (first | (refine wpL_load rfl .i64 71 _ rfl w.heap.size 0 rfl _ (n1.r.new n2.g) ⟨_, Tryz.uP⟩ Tryz.sP ?_) | (refine wpL_bs1 rfl _ rfl L rfl ?_; intro w3 n3))
  have r3 := n3.r
  rw [s2] at r3
  refine (modulo16_bad (fun _ => L) (w.heap.size + 1 + 1) 1 _ _ w3 (by omega) 0 (by omega) (fun s hs => absurd hs (by omega)) (fun s hs => by obtain rfl : s = 0 := (by omega); exact r3) hb).mono ?_
  rintro e w5 ⟨rfl, g5⟩
  go_wp2_with (first | (refine wpL_store rfl .i64 71 _ _ rfl (w.heap.size + 1) 0 rfl _ rfl .i64 _ ((z2.new n3.g).new g5) Tryz.sP ?_; intro w6 p6))
  refine bodyPost_ret (res2 rfl .i64 _ w6 (w.heap.size + 1) _ _ rfl rfl p6.r ⟨_, Tryz.uP⟩ Tryz.sP) rfl ⟨rfl, grown_new (grownBy_trans (grownBy_trans n1.g (grownBy_trans n2.g n3.g)) g5) p6.g (by omega)⟩
set_option maxHeartbeats 1000000 in
set_option maxRecDepth 20000 in
theorem product16_bad (F G : Nat → Int) (w : World) (s0 : Nat) (hs0 : s0 < 2) (hF : 0 < s0 → ∀ i, i < 256 → 0 ≤ F i ∧ F i < 3329) (hb : Bad (if s0 = 0 then F else G) 3329) :
    Calls Tryz.prog 55 #[.int .i64 3329, .agg (polyA .i64 F), .agg (polyA .i64 G)] w fun e w' => e = .returned (.tuple #[.agg (polyA .i64 (fun _ => 0)), .iface 138 (.int .i64 5)]) ∧ w.grownBy w' none := by
  have n1 := new_alloc .i64 w F 71
  have n2 := new_alloc .i64 (w.alloc (.cells (polyA .i64 F) 71)) G 71
  have n3 := new_alloc .i64 ((w.alloc (.cells (polyA .i64 F) 71)).alloc (.cells (polyA .i64 G) 71)) (fun _ => 0) 71
  rw [← Tryz.z24] at n3
  have f3 := (n1.r.new n2.g).new n3.g
  have h3 := n2.r.new n3.g
  rw [n1.s] at h3
  have z3 := n3.r
  rw [n2.s, n1.s] at z3
  have g3 := grownBy_trans n1.g (grownBy_trans n2.g n3.g)
  have s3 := n3.s
  rw [n2.s, n1.s] at s3
  clear n1 n2 n3
  go_enter Tryz.func55, Tryz.ntmps55
  go_wp2_with (first | (refine wpL_load rfl .i64 71 _ rfl w.heap.size 0 rfl _ f3 ⟨_, Tryz.uP⟩ Tryz.sP ?_) | (refine wpL_load rfl .i64 71 _ rfl (w.heap.size + 1) 0 rfl _ h3 ⟨_, Tryz.uP⟩ Tryz.sP ?_) | (refine wpL_bs2 rfl _ _ rfl F G rfl rfl ?_; intro w4 g4 a4 b4))
  rw [s3] at a4 b4
  refine (modulo16_bad (fun s => if s = 0 then F else G) (w.heap.size + 1 + 1 + 1) 2 _ _ w4 (by omega) s0 hs0 (fun s hs => by obtain rfl : s = 0 := (by omega); exact hF hs) (fun s hs => by
    rcases Nat.lt_or_ge 0 s with h | h
    · obtain rfl : s = 1 := by omega
      exact b4
    · obtain rfl : s = 0 := by omega
      exact a4) hb).mono ?_
  rintro e w5 ⟨rfl, g5⟩
  go_wp2_with (first | (refine wpL_store rfl .i64 71 _ _ rfl (w.heap.size + 1 + 1) 0 rfl _ rfl .i64 _ ((z3.new g4).new g5) Tryz.sP ?_; intro w6 p6))
  refine bodyPost_ret (res2 rfl .i64 _ w6 (w.heap.size + 1 + 1) _ _ rfl rfl p6.r ⟨_, Tryz.uP⟩ Tryz.sP) rfl ⟨rfl, grown_new (grownBy_trans (grownBy_trans g3 g4) g5) p6.g (by omega)⟩
set_option maxHeartbeats 1000000 in
set_option maxRecDepth 20000 in
theorem modulo32_bad (Ls : Nat → Nat → Int) (b m u v : Nat) (w : World) (hm : m ≤ 2) (s0 : Nat) (hs0 : s0 < m) (hL : ∀ s, s < s0 → ∀ i, i < 256 → 0 ≤ Ls s i ∧ Ls s i < 8380417) (hr : ∀ s, s < m → PRow .i64 w b (256 * s) (Ls s)) (hb : Bad (Ls s0) 8380417) :
    Calls Tryz.prog 102 #[.int .i64 8380417, .func (.func u) #[] #[], .func (.func v) #[] #[], .slice (some ⟨b, 0, none⟩) m m] w fun e w' => e = .returned (.tuple #[.agg (polyA .i64 (fun _ => 0)), .iface 138 (.int .i64 5)]) ∧ w.grownBy w' none := by
  have t1 := fns_boxed w (.func (.func u) #[] #[]) (.func (.func v) #[] #[]) 231 232 71
  rw [← Tryz.z24] at t1
  obtain ⟨g1, c1, c2, z1⟩ := t1
  have hr1 := fun s hs => (hr s hs).new g1
  obtain ⟨k0, hk0, hb0, hbad⟩ := hb
  go_enter Tryz.func102, Tryz.ntmps102
  go_wp2_with fail
  refine (calc32_bad Ls 8380417 b m _ _ _ hm (by omega) s0 hs0 hL hr1 k0 hk0 hb0 hbad).mono ?_
  rintro e w5 ⟨rfl, g5⟩
  go_wp2_with (first | (refine wpL_store rfl .i64 71 _ _ rfl (w.heap.size + 1 + 1) 0 rfl _ rfl .i64 _ (z1.new g5) Tryz.sP ?_; intro w6 p6))
  refine bodyPost_ret (res2 rfl .i64 _ w6 (w.heap.size + 1 + 1) _ _ rfl rfl p6.r ⟨_, Tryz.uP⟩ Tryz.sP) rfl ⟨rfl, grown_new (grownBy_trans g1 g5) p6.g (by omega)⟩
set_option maxHeartbeats 1000000 in
set_option maxRecDepth 20000 in
theorem forward32_bad (L : Nat → Int) (w : World) (hb : Bad L 8380417) :
    Calls Tryz.prog 53 #[.int .i64 8380417, .agg (polyA .i64 L)] w fun e w' => e = .returned (.tuple #[.agg (polyA .i64 (fun _ => 0)), .iface 138 (.int .i64 5)]) ∧ w.grownBy w' none := by
  have n1 := new_alloc .i64 w L 71
  have n2 := new_alloc .i64 (w.alloc (.cells (polyA .i64 L) 71)) (fun _ => 0) 71
  rw [← Tryz.z24] at n2
  have z2 := n2.r
  rw [n1.s] at z2
  have s2 : ((w.alloc (.cells (polyA .i64 L) 71)).alloc (.cells Tryz.zeroCells71 71)).heap.size = w.heap.size + 1 + 1 := by rw [World.size_alloc, World.size_alloc]
  go_enter Tryz.func53, Tryz.ntmps53
  go_wp2_with (first | (refine wpL_load rfl .i64 71 _ rfl w.heap.size 0 rfl _ (n1.r.new n2.g) ⟨_, Tryz.uP⟩ Tryz.sP ?_) | (refine wpL_bs1 rfl _ rfl L rfl ?_; intro w3 n3))
  have r3 := n3.r
  rw [s2] at r3
  refine (modulo32_bad (fun _ => L) (w.heap.size + 1 + 1) 1 _ _ w3 (by omega) 0 (by omega) (fun s hs => absurd hs (by omega)) (fun s hs => by obtain rfl : s = 0 := (by omega); exact r3) hb).mono ?_
  rintro e w5 ⟨rfl, g5⟩
  go_wp2_with (first | (refine wpL_store rfl .i64 71 _ _ rfl (w.heap.size + 1) 0 rfl _ rfl .i64 _ ((z2.new n3.g).new g5) Tryz.sP ?_; intro w6 p6))
  refine bodyPost_ret (res2 rfl .i64 _ w6 (w.heap.size + 1) _ _ rfl rfl p6.r ⟨_, Tryz.uP⟩ Tryz.sP) rfl ⟨rfl, grown_new (grownBy_trans (grownBy_trans n1.g (grownBy_trans n2.g n3.g)) g5) p6.g (by omega)⟩
set_option maxHeartbeats 1000000 in
set_option maxRecDepth 20000 in
theorem inverse32_bad (L : Nat → Int) (w : World) (hb : Bad L 8380417) :
    Calls Tryz.prog 54 #[.int .i64 8380417, .agg (polyA .i64 L)] w fun e w' => e = .returned (.tuple #[.agg (polyA .i64 (fun _ => 0)), .iface 138 (.int .i64 5)]) ∧ w.grownBy w' none := by
  have n1 := new_alloc .i64 w L 71
  have n2 := new_alloc .i64 (w.alloc (.cells (polyA .i64 L) 71)) (fun _ => 0) 71
  rw [← Tryz.z24] at n2
  have z2 := n2.r
  rw [n1.s] at z2
  have s2 : ((w.alloc (.cells (polyA .i64 L) 71)).alloc (.cells Tryz.zeroCells71 71)).heap.size = w.heap.size + 1 + 1 := by rw [World.size_alloc, World.size_alloc]
  go_enter Tryz.func54, Tryz.ntmps54
  go_wp2_with (first | (refine wpL_load rfl .i64 71 _ rfl w.heap.size 0 rfl _ (n1.r.new n2.g) ⟨_, Tryz.uP⟩ Tryz.sP ?_) | (refine wpL_bs1 rfl _ rfl L rfl ?_; intro w3 n3))
  have r3 := n3.r
  rw [s2] at r3
  refine (modulo32_bad (fun _ => L) (w.heap.size + 1 + 1) 1 _ _ w3 (by omega) 0 (by omega) (fun s hs => absurd hs (by omega)) (fun s hs => by obtain rfl : s = 0 := (by omega); exact r3) hb).mono ?_
  rintro e w5 ⟨rfl, g5⟩
  go_wp2_with (first | (refine wpL_store rfl .i64 71 _ _ rfl (w.heap.size + 1) 0 rfl _ rfl .i64 _ ((z2.new n3.g).new g5) Tryz.sP ?_; intro w6 p6))
  refine bodyPost_ret (res2 rfl .i64 _ w6 (w.heap.size + 1) _ _ rfl rfl p6.r ⟨_, Tryz.uP⟩ Tryz.sP) rfl ⟨rfl, grown_new (grownBy_trans (grownBy_trans n1.g (grownBy_trans n2.g n3.g)) g5) p6.g (by omega)⟩
set_option maxHeartbeats 1000000 in
set_option maxRecDepth 20000 in
theorem product32_bad (F G : Nat → Int) (w : World) (s0 : Nat) (hs0 : s0 < 2) (hF : 0 < s0 → ∀ i, i < 256 → 0 ≤ F i ∧ F i < 8380417) (hb : Bad (if s0 = 0 then F else G) 8380417) :
    Calls Tryz.prog 55 #[.int .i64 8380417, .agg (polyA .i64 F), .agg (polyA .i64 G)] w fun e w' => e = .returned (.tuple #[.agg (polyA .i64 (fun _ => 0)), .iface 138 (.int .i64 5)]) ∧ w.grownBy w' none := by
  have n1 := new_alloc .i64 w F 71
  have n2 := new_alloc .i64 (w.alloc (.cells (polyA .i64 F) 71)) G 71
  have n3 := new_alloc .i64 ((w.alloc (.cells (polyA .i64 F) 71)).alloc (.cells (polyA .i64 G) 71)) (fun _ => 0) 71
  rw [← Tryz.z24] at n3
  have f3 := (n1.r.new n2.g).new n3.g
  have h3 := n2.r.new n3.g
  rw [n1.s] at h3
  have z3 := n3.r
  rw [n2.s, n1.s] at z3
  have g3 := grownBy_trans n1.g (grownBy_trans n2.g n3.g)
  have s3 := n3.s
  rw [n2.s, n1.s] at s3
  clear n1 n2 n3
  go_enter Tryz.func55, Tryz.ntmps55
  go_wp2_with (first | (refine wpL_load rfl .i64 71 _ rfl w.heap.size 0 rfl _ f3 ⟨_, Tryz.uP⟩ Tryz.sP ?_) | (refine wpL_load rfl .i64 71 _ rfl (w.heap.size + 1) 0 rfl _ h3 ⟨_, Tryz.uP⟩ Tryz.sP ?_) | (refine wpL_bs2 rfl _ _ rfl F G rfl rfl ?_; intro w4 g4 a4 b4))
  rw [s3] at a4 b4
  refine (modulo32_bad (fun s => if s = 0 then F else G) (w.heap.size + 1 + 1 + 1) 2 _ _ w4 (by omega) s0 hs0 (fun s hs => by obtain rfl : s = 0 := (by omega); exact hF hs) (fun s hs => by
    rcases Nat.lt_or_ge 0 s with h | h
    · obtain rfl : s = 1 := by omega
      exact b4
    · obtain rfl : s = 0 := by omega
      exact a4) hb).mono ?_
  rintro e w5 ⟨rfl, g5⟩
  go_wp2_with (first | (refine wpL_store rfl .i64 71 _ _ rfl (w.heap.size + 1 + 1) 0 rfl _ rfl .i64 _ ((z3.new g4).new g5) Tryz.sP ?_; intro w6 p6))
  refine bodyPost_ret (res2 rfl .i64 _ w6 (w.heap.size + 1 + 1) _ _ rfl rfl p6.r ⟨_, Tryz.uP⟩ Tryz.sP) rfl ⟨rfl, grown_new (grownBy_trans (grownBy_trans g3 g4) g5) p6.g (by omega)⟩
set_option maxHeartbeats 1000000 in
set_option maxRecDepth 20000 in
theorem compress_bad (L : Nat → Int) (d : Nat) (w : World) (hd0 : 1 ≤ d) (hd1 : d ≤ 11) (hb : Bad L 3329) :
    Calls Tryz.prog 56 #[.int .i64 d, .agg (polyA .i64 L)] w fun e w' => e = .returned (.tuple #[.agg (polyA .i64 (fun _ => 0)), .iface 138 (.int .i64 5)]) ∧ w.grownBy w' none := by
  have t1 := three w (.int .i64 (d : Int)) 3 71 71 .i64 .i64 L
  rw [← Tryz.z24] at t1
  have g1 := t1.g
  have c1 := t1.c
  have d0 : decide ((d : Int) < 1) = false := by simp; omega
  have d1 : decide ((11 : Int) < (d : Int)) = false := by simp; omega
  obtain ⟨k0, hk0, hb0, hbad⟩ := hb
  go_enter Tryz.func56, Tryz.ntmps56
  go_wp2_with (first | (refine wpL_load rfl .i64 71 _ rfl (w.heap.size + 1) 0 rfl _ t1.r ⟨_, Tryz.uP⟩ Tryz.sP ?_) | (refine wpL_bs1 rfl _ rfl L rfl ?_; intro w2 n2))
  have r2 : ∀ s, s < 1 → PRow .i64 w2 (w.heap.size + 1 + 1 + 1) (256 * s) L := fun s hs => by
    obtain rfl : s = 0 := by omega
    have h := n2.r
    rw [World.size_alloc, World.size_alloc, World.size_alloc] at h
    exact h
  refine (calc16_bad (fun _ => L) 3329 (w.heap.size + 1 + 1 + 1) 1 _ _ w2 (by omega) (by omega) 0 (by omega) (fun s hs => absurd hs (by omega)) r2 k0 hk0 hb0 hbad).mono ?_
  rintro e w5 ⟨rfl, g5⟩
  go_wp2_with (first | (refine wpL_store rfl .i64 71 _ _ rfl (w.heap.size + 1 + 1) 0 rfl _ rfl .i64 _ ((t1.z.new n2.g).new g5) Tryz.sP ?_; intro w6 p6))
  refine bodyPost_ret (res2 rfl .i64 _ w6 (w.heap.size + 1 + 1) _ _ rfl rfl p6.r ⟨_, Tryz.uP⟩ Tryz.sP) rfl ⟨rfl, grown_new (grownBy_trans (grownBy_trans g1 n2.g) g5) p6.g (by omega)⟩
end Go.Proofs.YtkijpphmiogbbaaGreatDoor

namespace Go.Proofs.YtkijpphmiogbbaaGreatDoor
open Go.RowKit
attribute [local go_sem ↓] Go.wp_at_zero Go.wp_at_succ
attribute [local go_sem ↓] bs_hide
attribute [local go_sem] run_hid1
set_option maxHeartbeats 1000000 in
set_option maxRecDepth 20000 in
theorem decompress_bad (L : Nat → Int) (d : Nat) (w : World) (hb : Bad L (2 ^ d)) (hd0 : 1 ≤ d) (hd1 : d ≤ 11) :
    Calls Tryz.prog 57 #[.int .i64 d, .agg (polyA .i64 L)] w fun e w' => e = .returned (.tuple #[.agg (polyA .i64 (fun _ => (0 : Int))), .iface 138 (.int .i64 5)]) ∧ w.grownBy w' none := by
  have t1 := three w (.int .i64 (d : Int)) 3 71 71 .i64 .i64 L
  have s1 := three_size w (.int .i64 (d : Int)) 3 71 71 (polyA .i64 L) (polyA .i64 (fun _ => 0))
  rw [← Tryz.z24] at t1 s1
  have g1 := t1.g
  have c1 := t1.c
  have r1 := t1.r.drew.range
  have z1 := t1.z.drew.there256
  have d0 : decide ((d : Int) < 1) = false := by simp; omega
  have d1 : decide ((11 : Int) < (d : Int)) = false := by simp; omega
  obtain ⟨k0, hk0, hb0, hbad⟩ := hb
  have hu := Tryz.uP
  have hi : (Tryz.prog.info? 71).map (·.size) = some (polyL .i64 L).length := by rw [polyL_len]; exact Tryz.sP
  have hi2 : (Tryz.prog.info? 71).map (·.size) = some (polyL .i64 (fun _ => (0 : Int))).length := by rw [polyL_len]; exact Tryz.sP
  have hl2 : (polyL .i64 (fun _ => (0 : Int))).length = 256 := polyL_len _ _
  have ho2 : ∀ v ∈ polyL .i64 (fun _ => (0 : Int)), v.oneCell' = true := polyL_one _ _
  have hbw : w.heap.size + 1 ≠ w.heap.size + 1 + 1 := by omega
  have hcw : w.heap.size ≠ w.heap.size + 1 + 1 := by omega
  go_enter Tryz.func57, Tryz.ntmps57
  go_wp2_with fail
  generalize ((w.alloc (.cells #[.int .i64 (d : Int)] 3)).alloc (.cells (polyA .i64 L) 71)).alloc (.cells Tryz.zeroCells71 71) = w1 at *
  have hS1 : w1.drew.rangeAt (w.heap.size + 1) 0 (polyL .i64 L) ∧ w1.drew.cell? ⟨w.heap.size, 0, none⟩ = some (.int .i64 (d : Int)) ∧ w1.drew.there (w.heap.size + 1 + 1) 0 256 := ⟨t1.r.range, t1.c, t1.z.there256⟩
  have hS0 : w1.rangeAt (w.heap.size + 1) 0 (polyL .i64 L) ∧ w1.cell? ⟨w.heap.size, 0, none⟩ = some (.int .i64 (d : Int)) ∧ w1.there (w.heap.size + 1 + 1) 0 256 := ⟨t1.r.range, t1.c, t1.z.there256⟩
  have hS2 := keepG hS0 (grown_drew (World.grownBy_alloc w1 (.cells (polyA .i64 L) 71) none))
  clear hS0
  have n2 := new_alloc .i64 w1 L 71
  have r2 := n2.r
  rw [s1] at r2
  have hX : IntKind.i64.wrap (2 ^ d) = ((2 ^ d : Nat) : Int) := by
    have hp : (2 : Nat) ^ d ≤ 2048 := Nat.pow_le_pow_right (n := 2) (by omega) hd1
    have e : (2 : Int) ^ d = ((2 ^ d : Nat) : Int) := by simp
    rw [e]; generalize (2 : Nat) ^ d = q at *
    rw [IntKind.wrap_i64] <;> omega
  have hX2 : IntKind.i64.wrap (2 ^ d) = (2 : Int) ^ d := by rw [hX]; simp
  have hle : IntKind.i64.wrap (2 ^ d) ≤ 65536 := by
    have hp : (2 : Nat) ^ d ≤ 2048 := Nat.pow_le_pow_right (n := 2) (by omega) hd1
    rw [hX]; omega
  have hro : ∀ s, s < 1 → PRow .i64 (w1.alloc (.cells (polyA .i64 L) 71)).drew (w.heap.size + 1 + 1 + 1) (256 * s) L := fun s hs => by
    obtain rfl : s = 0 := by omega
    exact r2.drew
  have HC := hid_mk (fun u cap => calc16_bad (fun _ => L) (IntKind.i64.wrap (2 ^ d)) (w.heap.size + 1 + 1 + 1) 1 u cap (w1.alloc (.cells (polyA .i64 L) 71)).drew (by omega) hle 0 (by omega) (fun s hs => absurd hs (by omega)) hro k0 hk0 (fun i hi => by rw [hX2]; exact hb0 i hi) (by rw [hX2]; exact hbad))
  clear hro hX hX2 hle hb0 hbad hk0
  go_region_held3 (fun W => W.rangeAt (w.heap.size + 1) 0 (polyL .i64 L) ∧ W.cell? ⟨w.heap.size, 0, none⟩ = some (.int .i64 (d : Int)) ∧ W.there (w.heap.size + 1 + 1) 0 256) (first | with_reducible exact hS1 | with_reducible exact hS2 | with_reducible exact keepG hS2 g5 | with_reducible exact keepS (keepG hS2 g5) hbw hcw hl2) (first | (go_at_call 109; refine (HC.out _ _).mono ?_; rintro e w5 ⟨rfl, g5⟩; unfold polyA))
  all_goals (
    have p6 := put_cells .i64 w5 (w.heap.size + 1 + 1) 0 (fun _ => (0 : Int)) (((t1.z.new n2.g).drew.new g5).there .i64 _)
    have e6 : (polyA .i64 (fun _ => (0 : Int))).toList = polyL .i64 (fun _ => (0 : Int)) := by simp [polyA]
    rw [e6] at p6
    generalize w5.setCells (w.heap.size + 1 + 1) 0 (polyL .i64 (fun _ => (0 : Int))) = w6 at *
    go_wp2
    refine bodyPost_ret (res2 rfl .i64 _ w6 (w.heap.size + 1 + 1) _ _ rfl rfl p6.r ⟨_, Tryz.uP⟩ Tryz.sP) rfl ⟨rfl, grown_new (grownBy_trans (grownBy_trans g1 (grown_drew n2.g)) g5) p6.g (by omega)⟩)
end Go.Proofs.YtkijpphmiogbbaaGreatDoor

namespace Go.Proofs.YtkijpphmiogbbaaGreatDoor.Z
open Go.RowKit

theorem bad_of {L : Nat → Int} {n : Int} (h : ¬ InB L n) : Bad L n := by
  have key : ∀ m, m ≤ 256 → (∀ i, i < m → 0 ≤ L i ∧ L i < n) ∨ Bad L n := by
    intro m
    induction m with
    | zero => exact fun _ => Or.inl (fun i hi => absurd hi (by omega))
    | succ m ih =>
      intro hm
      rcases ih (by omega) with h1 | h1
      · by_cases e : 0 ≤ L m ∧ L m < n
        · exact Or.inl (fun i hi => by
            by_cases e2 : i = m
            · rw [e2]; exact e
            · exact h1 i (by omega))
        · exact Or.inr ⟨m, by omega, h1, by omega⟩
      · exact Or.inr h1
  rcases key 256 (Nat.le_refl _) with h1 | h1
  · exact absurd h1 h
  · exact h1
theorem ini_mod (x q : Int) (h0 : 0 < q) (h1 : q ≤ 10000000) : InI (x % q) := by
  have a := Int.emod_nonneg x (show q ≠ 0 by omega)
  have b := Int.emod_lt_of_pos x h0
  unfold InI; omega
theorem ini_zero : InI 0 := by unfold InI; omega
theorem ini_in {L : Nat → Int} {n : Int} (h : InB L n) (hn : n ≤ 10000000) (j : Nat) (hj : j < 256) : InI (L j) := by
  have := h j hj
  unfold InI; omega
theorem nat_of {L : Nat → Int} {n : Int} (h : InB L n) : polyA .i64 L = polyA .i64 (fun i => ((L i).toNat : Int)) := polyA_ext .i64 (fun i hi => by have := h i hi; omega)
theorem grow_same {P : Program} {f : Nat} {args : Array Value} {W : World} {v : Value} (h : Calls P f args W fun e w' => e = .returned v ∧ w' = W) : Calls P f args W fun e w' => e = .returned v ∧ W.grownBy w' none :=
  h.mono (fun _ _ h => ⟨h.1, by rw [h.2]; exact World.grownBy.refl _ _⟩)
theorem pow_le11 (d : Nat) (h : d ≤ 11) : (2 : Int) ^ d ≤ 2048 ∧ (0 : Int) < 2 ^ d := by
  have h1 : (2 : Nat) ^ d ≤ 2 ^ 11 := Nat.pow_le_pow_right (by omega) h
  have h2 : 0 < (2 : Nat) ^ d := Nat.pow_pos (by omega)
  have e : (2 : Int) ^ d = ((2 ^ d : Nat) : Int) := by rw [Int.natCast_pow]; rfl
  rw [e]
  generalize (2 : Nat) ^ d = x at *
  omega
theorem pow_le23 (d : Nat) (h : d ≤ 23) : (2 : Int) ^ d ≤ 8388608 ∧ (0 : Int) < 2 ^ d := by
  have h1 : (2 : Nat) ^ d ≤ 2 ^ 23 := Nat.pow_le_pow_right (by omega) h
  have h2 : 0 < (2 : Nat) ^ d := Nat.pow_pos (by omega)
  have e : (2 : Int) ^ d = ((2 ^ d : Nat) : Int) := by rw [Int.natCast_pow]; rfl
  rw [e]
  generalize (2 : Nat) ^ d = x at *
  omega
theorem rDeco_in (d : Nat) (_hd : 1 ≤ d) (hd1 : d ≤ 11) (a : Int) (h0 : 0 ≤ a) (h1 : a < 2 ^ d) : InI (rDeco d a) := by
  have p := pow_le11 d hd1
  have e : (2 : Int) ^ (d + 1) = 2 * 2 ^ d := by rw [Int.pow_succ]; omega
  unfold rDeco
  rw [e]
  generalize (2 : Int) ^ d = t at *
  have q0 : 0 ≤ (a * 3329 * 2 + t) / (2 * t) := Int.ediv_nonneg (by omega) (by omega)
  have q1 : (a * 3329 * 2 + t) / (2 * t) < 20000000 := Int.ediv_lt_of_lt_mul (by omega) (by omega)
  unfold InI; omega
/-- What law.go's transformed gives. -/
abbrev TrOK (how d : Int) (L M : Nat → Int) (w : World) : Prop := ∃ H : Nat → Int, (∀ j, j < 256 → InI (H j)) ∧ Calls Tryz.prog 28 #[.int .i64 how, .int .i64 d, .agg (polyA .i64 L), .agg (polyA .i64 M)] w fun e w' => e = .returned (.tuple #[.agg (polyA .i64 H), .bool true]) ∧ w.grownBy w' none
theorem trans_0 (d : Int) (L M : Nat → Int) (w : World) (hE : Et w) : TrOK 0 d L M w := by
  by_cases e1 : d = 3329
  · subst e1
    by_cases hL : InB L 3329
    · exact ⟨rFwdS L, fun j _ => ini_mod _ _ (by decide) (by decide), tr_0k 3329 3329 L M (rFwdS L) (fwdN 3329 zetS 7 L) (fun j hj => (rFwdS_is L hL j hj).symm) hL (fun W => grow_same (bounded_16 0 (by decide) W)) (fun W => call16_forward L W hL) (fun W => wanted_f16 L M hL W) w⟩
    · exact ⟨fun _ => 0, fun _ _ => ini_zero, tr_0b 3329 3329 L M hL (fun W => grow_same (bounded_16 0 (by decide) W)) (fun W => forward16_bad L W (bad_of hL)) w hE⟩
  · by_cases e2 : d = 8380417
    · subst e2
      by_cases hL : InB L 8380417
      · exact ⟨rFwdG L, fun j _ => ini_mod _ _ (by decide) (by decide), tr_0k 8380417 8380417 L M (rFwdG L) (fwdN 8380417 zetG 8 L) (fun j hj => (rFwdG_is L hL j hj).symm) hL (fun W => grow_same (bounded_32 0 (by decide) W)) (fun W => call32_forward L W hL) (fun W => wanted_f32 L M hL W) w⟩
      · exact ⟨fun _ => 0, fun _ _ => ini_zero, tr_0b 8380417 8380417 L M hL (fun W => grow_same (bounded_32 0 (by decide) W)) (fun W => forward32_bad L W (bad_of hL)) w hE⟩
    · exact ⟨fun _ => 0, fun _ _ => ini_zero, tr_0n d 0 L M (fun W => grow_same (bounded_set 0 (by decide) d (by simpa using e1) (by simpa using e2) W)) (fun W => forward_none d L W (by simpa using e1) (by simpa using e2)) w hE⟩
theorem trans_1 (d : Int) (L M : Nat → Int) (w : World) (hE : Et w) : TrOK 1 d L M w := by
  by_cases e1 : d = 3329
  · subst e1
    by_cases hL : InB L 3329
    · exact ⟨rInvS L, fun j _ => ini_mod _ _ (by decide) (by decide), tr_1k 3329 3329 L M (rInvS L) (fun i => invN 3329 zetS 7 L i * 3303 % 3329) (fun j hj => (rInvS_is L hL j hj).symm) hL (fun W => grow_same (bounded_16 1 (by decide) W)) (fun W => call16_inverse L W hL) (fun W => wanted_i16 L M hL W) w⟩
    · exact ⟨fun _ => 0, fun _ _ => ini_zero, tr_1b 3329 3329 L M hL (fun W => grow_same (bounded_16 1 (by decide) W)) (fun W => inverse16_bad L W (bad_of hL)) w hE⟩
  · by_cases e2 : d = 8380417
    · subst e2
      by_cases hL : InB L 8380417
      · exact ⟨rInvG L, fun j _ => ini_mod _ _ (by decide) (by decide), tr_1k 8380417 8380417 L M (rInvG L) (fun i => invN 8380417 zetG 8 L i * 8347681 % 8380417) (fun j hj => (rInvG_is L hL j hj).symm) hL (fun W => grow_same (bounded_32 1 (by decide) W)) (fun W => call32_inverse L W hL) (fun W => wanted_i32 L M hL W) w⟩
      · exact ⟨fun _ => 0, fun _ _ => ini_zero, tr_1b 8380417 8380417 L M hL (fun W => grow_same (bounded_32 1 (by decide) W)) (fun W => inverse32_bad L W (bad_of hL)) w hE⟩
    · exact ⟨fun _ => 0, fun _ _ => ini_zero, tr_1n d 0 L M (fun W => grow_same (bounded_set 1 (by decide) d (by simpa using e1) (by simpa using e2) W)) (fun W => inverse_none d L W (by simpa using e1) (by simpa using e2)) w hE⟩
theorem prodG_in (L M : Nat → Int) (j : Nat) : InI (prodG L M j) := ini_mod _ _ (by decide) (by decide)
theorem prodS_in (L M : Nat → Int) (j : Nat) : InI (prodS L M j) := by have := prodS_range L M j; unfold InI; omega
theorem trans_2 (d : Int) (L M : Nat → Int) (w : World) (hE : Et w) : TrOK 2 d L M w := by
  by_cases e1 : d = 3329
  · subst e1
    have HB : Hid (∀ W, Calls Tryz.prog 51 #[.int .i64 2, .int .i64 3329] W fun e w' => e = .returned (.tuple #[.int .i64 0, .int .i64 3329]) ∧ W.grownBy w' none) := fun W => grow_same (bounded_16 2 (by decide) W)
    by_cases hL : InB L 3329
    · by_cases hM : InB M 3329
      · exact ⟨prodS L M, fun j _ => prodS_in L M j, tr_2k 3329 3329 L M (prodS L M) (prodS L M) (fun j hj => rfl) hL hM HB (fun W => call16_product L M W hL hM) (fun W => wanted_p16 L M hL hM W) w⟩
      · exact ⟨fun _ => 0, fun _ _ => ini_zero, tr_2b2 3329 3329 L M hL hM HB (fun W => product16_bad L M W 1 (by decide) (fun _ => hL) (bad_of hM)) w hE⟩
    · exact ⟨fun _ => 0, fun _ _ => ini_zero, tr_2b 3329 3329 L M hL HB (fun W => product16_bad L M W 0 (by decide) (fun h => absurd h (by decide)) (bad_of hL)) w hE⟩
  · by_cases e2 : d = 8380417
    · subst e2
      have HB : Hid (∀ W, Calls Tryz.prog 51 #[.int .i64 2, .int .i64 8380417] W fun e w' => e = .returned (.tuple #[.int .i64 0, .int .i64 8380417]) ∧ W.grownBy w' none) := fun W => grow_same (bounded_32 2 (by decide) W)
      by_cases hL : InB L 8380417
      · by_cases hM : InB M 8380417
        · exact ⟨prodG L M, fun j _ => prodG_in L M j, tr_2k 8380417 8380417 L M (prodG L M) (prodG L M) (fun j hj => rfl) hL hM HB (fun W => call32_product L M W hL hM) (fun W => wanted_p32 L M hL hM W) w⟩
        · exact ⟨fun _ => 0, fun _ _ => ini_zero, tr_2b2 8380417 8380417 L M hL hM HB (fun W => product32_bad L M W 1 (by decide) (fun _ => hL) (bad_of hM)) w hE⟩
      · exact ⟨fun _ => 0, fun _ _ => ini_zero, tr_2b 8380417 8380417 L M hL HB (fun W => product32_bad L M W 0 (by decide) (fun h => absurd h (by decide)) (bad_of hL)) w hE⟩
    · exact ⟨fun _ => 0, fun _ _ => ini_zero, tr_2n d 0 L M (fun W => grow_same (bounded_set 2 (by decide) d (by simpa using e1) (by simpa using e2) W)) (fun W => product_none d L M W (by simpa using e1) (by simpa using e2)) w hE⟩
theorem trans_3 (d : Int) (L M : Nat → Int) (w : World) (hE : Et w) : TrOK 3 d L M w := by
  by_cases e1 : d < 1
  · exact ⟨fun _ => 0, fun _ _ => ini_zero, tr_3n d 0 L M (fun W => grow_same (bounded_low 3 (by decide) d e1 W)) (fun W => compress_low L d W e1) w hE⟩
  · by_cases e2 : 11 < d
    · exact ⟨fun _ => 0, fun _ _ => ini_zero, tr_3n d 0 L M (fun W => grow_same (bounded_high 3 (by decide) d e2 W)) (fun W => compress_high L d W e2) w hE⟩
    · obtain ⟨n, rfl⟩ : ∃ n : Nat, d = (n : Int) := ⟨d.toNat, by omega⟩
      have n1 : 1 ≤ n := by omega
      have n2 : n ≤ 11 := by omega
      by_cases hL : InB L 3329
      · have hc : ∀ W, Calls Tryz.prog 56 #[.int .i64 (n : Int), .agg (polyA .i64 L)] W fun e w' => e = .returned (.tuple #[.agg (polyA .i64 (fun i => ((compI n (L i).toNat : Nat) : Int))), .nilIface]) ∧ W.grownBy w' none := fun W => by
          rw [nat_of hL]
          exact compress_any (fun i => (L i).toNat) n W (fun i hi => by have := hL i hi; omega) n1 n2
        exact ⟨fun j => rComp n (L j), fun j _ => by
          have p := pow_le11 n n2
          exact ini_mod _ _ p.2 (by omega), tr_3k n 3329 L M (fun j => rComp n (L j)) _ (fun j hj => by
          have := rComp_is n (L j).toNat
          rw [show (((L j).toNat : Nat) : Int) = L j by have := hL j hj; omega] at this
          exact this.symm) hL (fun W => grow_same (bounded_c n (by omega) (by omega) W)) hc (fun W => wanted_c n n1 n2 L M hL W) w⟩
      · exact ⟨fun _ => 0, fun _ _ => ini_zero, tr_3b n 3329 L M hL (fun W => grow_same (bounded_c n (by omega) (by omega) W)) (fun W => compress_bad L n W n1 n2 (bad_of hL)) w hE⟩
theorem trans_4 (d : Int) (L M : Nat → Int) (w : World) (hE : Et w) : TrOK 4 d L M w := by
  by_cases e1 : d < 1
  · exact ⟨fun _ => 0, fun _ _ => ini_zero, tr_4n d 0 L M (fun W => grow_same (bounded_low 4 (by decide) d e1 W)) (fun W => decompress_low L d W e1) w hE⟩
  · by_cases e2 : 11 < d
    · exact ⟨fun _ => 0, fun _ _ => ini_zero, tr_4n d 0 L M (fun W => grow_same (bounded_high 4 (by decide) d e2 W)) (fun W => decompress_high L d W e2) w hE⟩
    · obtain ⟨n, rfl⟩ : ∃ n : Nat, d = (n : Int) := ⟨d.toNat, by omega⟩
      have n1 : 1 ≤ n := by omega
      have n2 : n ≤ 11 := by omega
      by_cases hL : InB L (2 ^ n)
      · have hc : ∀ W, Calls Tryz.prog 57 #[.int .i64 (n : Int), .agg (polyA .i64 L)] W fun e w' => e = .returned (.tuple #[.agg (polyA .i64 (fun i => ((decI n (L i).toNat : Nat) : Int))), .nilIface]) ∧ W.grownBy w' none := fun W => by
          rw [nat_of hL]
          exact decompress_any (fun i => (L i).toNat) n W (fun i hi => by
            have h := hL i hi
            have e : (2 : Int) ^ n = ((2 ^ n : Nat) : Int) := by rw [Int.natCast_pow]; rfl
            rw [e] at h
            generalize (2 : Nat) ^ n = x at *
            omega) n1 n2
        exact ⟨fun j => rDeco n (L j), fun j hj => rDeco_in n n1 n2 (L j) (hL j hj).1 (hL j hj).2, tr_4k n (2 ^ n) L M (fun j => rDeco n (L j)) _ (fun j hj => by
          have := rDeco_is n (L j).toNat n1
          rw [show (((L j).toNat : Nat) : Int) = L j by have := hL j hj; omega] at this
          exact this.symm) hL (fun W => bounded_d n n1 n2 W) hc (fun W => wanted_d n n1 n2 L M hL W) w⟩
      · exact ⟨fun _ => 0, fun _ _ => ini_zero, tr_4b n (2 ^ n) L M hL (fun W => bounded_d n n1 n2 W) (fun W => decompress_bad L n W (bad_of hL) n1 n2) w hE⟩
theorem trans_law (how : Nat) (h5 : how < 5) (d : Int) (L M : Nat → Int) (w : World) (hE : Et w) : TrOK how d L M w := by
  have hk : how = 0 ∨ how = 1 ∨ how = 2 ∨ how = 3 ∨ how = 4 := by omega
  rcases hk with rfl | rfl | rfl | rfl | rfl
  · exact trans_0 d L M w hE
  · exact trans_1 d L M w hE
  · exact trans_2 d L M w hE
  · exact trans_3 d L M w hE
  · exact trans_4 d L M w hE
end Go.Proofs.YtkijpphmiogbbaaGreatDoor.Z
