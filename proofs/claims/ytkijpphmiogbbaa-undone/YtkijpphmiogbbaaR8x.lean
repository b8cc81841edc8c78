import Derived.Test.YtkijpphmiogbbaaR7x
import Derived.Test.YtkijpphmiogbbaaS7x
import Derived.Test.YtkijpphmiogbbaaLb
import Derived.Test.YtkijpphmiogbbaaLc
import Derived.Test.YtkijpphmiogbbaaLd
namespace Go.Proofs.Ytkijpphmiogbbaa
open Go.RowKit
attribute [local go_sem ↓] Go.wp_at_zero Go.wp_at_succ

theorem fns_boxed (w : World) (u v : Value) (A B T : TypeId) : w.grownBy (((w.alloc (.cells #[u] A)).alloc (.cells #[v] B)).alloc (.cells (polyA .i64 (fun _ => 0)) T)) none ∧
    (((w.alloc (.cells #[u] A)).alloc (.cells #[v] B)).alloc (.cells (polyA .i64 (fun _ => 0)) T)).cell? ⟨w.heap.size, 0, none⟩ = some u ∧
    (((w.alloc (.cells #[u] A)).alloc (.cells #[v] B)).alloc (.cells (polyA .i64 (fun _ => 0)) T)).cell? ⟨w.heap.size + 1, 0, none⟩ = some v ∧
    PRow .i64 (((w.alloc (.cells #[u] A)).alloc (.cells #[v] B)).alloc (.cells (polyA .i64 (fun _ => 0)) T)) (w.heap.size + 1 + 1) 0 (fun _ => 0) := by
  have g1 := World.grownBy_alloc w (.cells #[u] A) none
  have g2 := World.grownBy_alloc (w.alloc (.cells #[u] A)) (.cells #[v] B) none
  have n3 := new_alloc .i64 ((w.alloc (.cells #[u] A)).alloc (.cells #[v] B)) (fun _ => 0) T
  have c1 : (w.alloc (.cells #[u] A)).cell? ⟨w.heap.size, 0, none⟩ = some u := by rw [World.cell?_alloc_new]; rfl
  have c2 : ((w.alloc (.cells #[u] A)).alloc (.cells #[v] B)).cell? ⟨w.heap.size + 1, 0, none⟩ = some v := by
    have : ((w.alloc (.cells #[u] A)).alloc (.cells #[v] B)).cell? ⟨(w.alloc (.cells #[u] A)).heap.size, 0, none⟩ = some v := by rw [World.cell?_alloc_new]; rfl
    rw [World.size_alloc] at this
    exact this
  refine ⟨grownBy_trans g1 (grownBy_trans g2 n3.g), n3.g.cell (g2.cell c1 (by simp)) (by simp), n3.g.cell c2 (by simp), ?_⟩
  have := n3.r
  rw [World.size_alloc, World.size_alloc] at this
  exact this

set_option maxHeartbeats 1000000 in
set_option maxRecDepth 20000 in
theorem modulo16_forward (b : Nat) (L : Nat → Int) (w : World) (hr : PRow .i64 w b 0 L) (hL : ∀ i, i < 256 → 0 ≤ L i ∧ L i < 3329) :
    Calls Try.prog 15 #[.int .i64 3329, .func (.func 16) #[] #[], .func (.func 17) #[] #[], .slice (some ⟨b, 0, none⟩) 1 1] w fun e w' => e = .returned (.tuple #[.agg (polyA .i64 (fwdN 3329 zetS 7 L)), .nilIface]) ∧ w.grownBy w' none := by
  have t1 := fns_boxed w (.func (.func 16) #[] #[]) (.func (.func 17) #[] #[]) 47 48 24
  rw [← Try.z24] at t1
  obtain ⟨g1, c1, c2, z1⟩ := t1
  have hr1 := hr.new g1
  go_enter Try.func15, Try.ntmps15
  go_wp2_with fail
  generalize ((w.alloc (.cells #[.func (.func 16) #[] #[]] 47)).alloc (.cells #[.func (.func 17) #[] #[]] 48)).alloc (.cells Try.zeroCells24 24) = w1 at *
  have HM : ∀ W c, w1.grownBy W none → (∀ s, s < 1 → PRow .u16 W c (256 * s) ((fun _ => L) s)) → Calls Try.prog 27 (#[.slice (some ⟨c, 0, none⟩) 1 1] ++ #[.pointer (some ⟨w.heap.size, 0, none⟩)]) W fun e W' => e = .returned (.agg (polyA .u16 (fwdN 3329 zetS 7 L))) ∧ W.grownBy W' none :=
    fun W c hg hrr => modC16_forward w.heap.size c L W (hg.cell c1 (by simp)) (hrr 0 (by omega)) hL
  have HR : ∀ s, s < 1 → PRow .i64 w1 b (256 * s) ((fun _ => L) s) := fun s hs => by
    obtain rfl : s = 0 := by omega
    exact hr1
  have H0 : ∀ i, i < 256 → 0 ≤ (fwdN 3329 zetS 7 L) i ∧ (fwdN 3329 zetS 7 L) i < 65536 := fun i hi => by
    have := fwdN_range 3329 (by omega) zetS L hL 7 i hi
    exact ⟨this.1, Int.lt_trans this.2 (by decide)⟩
  refine (calc_modulo16 (fun _ => L) (fwdN 3329 zetS 7 L) 3329 b 1 #[.pointer (some ⟨w.heap.size, 0, none⟩)] w1 (by omega) (by omega) (by omega) (fun _ _ => hL) HR H0 HM).mono ?_
  rintro e w5 ⟨rfl, g5⟩
  go_wp2_with (first | (refine wpL_store rfl .i64 24 _ _ rfl (w.heap.size + 1 + 1) 0 rfl _ rfl .i64 _ (z1.new g5) Try.sP ?_; intro w6 p6))
  refine bodyPost_ret (res2 rfl .i64 _ w6 (w.heap.size + 1 + 1) _ _ rfl rfl p6.r ⟨_, Try.uP⟩ Try.sP) rfl ⟨rfl, grown_new (grownBy_trans g1 g5) p6.g (by omega)⟩
set_option maxHeartbeats 1000000 in
set_option maxRecDepth 20000 in
theorem call16_forward (L : Nat → Int) (w : World) (hL : ∀ i, i < 256 → 0 ≤ L i ∧ L i < 3329) :
    Calls Try.prog 8 #[.int .i64 3329, .agg (polyA .i64 L)] w fun e w' => e = .returned (.tuple #[.agg (polyA .i64 (fwdN 3329 zetS 7 L)), .nilIface]) ∧ w.grownBy w' none := by
  have n1 := new_alloc .i64 w L 24
  have n2 := new_alloc .i64 (w.alloc (.cells (polyA .i64 L) 24)) (fun _ => 0) 24
  rw [← Try.z24] at n2
  have z2 := n2.r
  rw [n1.s] at z2
  have s2 : ((w.alloc (.cells (polyA .i64 L) 24)).alloc (.cells Try.zeroCells24 24)).heap.size = w.heap.size + 1 + 1 := by rw [World.size_alloc, World.size_alloc]
  go_enter Try.func8, Try.ntmps8
  go_wp2_with (first | (refine wpL_load rfl .i64 24 _ rfl w.heap.size 0 rfl _ (n1.r.new n2.g) ⟨_, Try.uP⟩ Try.sP ?_) | (refine wpL_bs1 rfl _ rfl L rfl ?_; intro w3 n3))
  have r3 := n3.r
  rw [s2] at r3
  refine (modulo16_forward (w.heap.size + 1 + 1) L w3 r3 hL).mono ?_
  rintro e w5 ⟨rfl, g5⟩
  go_wp2_with (first | (refine wpL_store rfl .i64 24 _ _ rfl (w.heap.size + 1) 0 rfl _ rfl .i64 _ ((z2.new n3.g).new g5) Try.sP ?_; intro w6 p6))
  refine bodyPost_ret (res2 rfl .i64 _ w6 (w.heap.size + 1) _ _ rfl rfl p6.r ⟨_, Try.uP⟩ Try.sP) rfl ⟨rfl, grown_new (grownBy_trans (grownBy_trans n1.g (grownBy_trans n2.g n3.g)) g5) p6.g (by omega)⟩

set_option maxHeartbeats 1000000 in
set_option maxRecDepth 20000 in
theorem modulo16_inverse (b : Nat) (L : Nat → Int) (w : World) (hr : PRow .i64 w b 0 L) (hL : ∀ i, i < 256 → 0 ≤ L i ∧ L i < 3329) :
    Calls Try.prog 15 #[.int .i64 3329, .func (.func 18) #[] #[], .func (.func 19) #[] #[], .slice (some ⟨b, 0, none⟩) 1 1] w fun e w' => e = .returned (.tuple #[.agg (polyA .i64 (fun i => invN 3329 zetS 7 L i * 3303 % 3329)), .nilIface]) ∧ w.grownBy w' none := by
  have t1 := fns_boxed w (.func (.func 18) #[] #[]) (.func (.func 19) #[] #[]) 47 48 24
  rw [← Try.z24] at t1
  obtain ⟨g1, c1, c2, z1⟩ := t1
  have hr1 := hr.new g1
  go_enter Try.func15, Try.ntmps15
  go_wp2_with fail
  generalize ((w.alloc (.cells #[.func (.func 18) #[] #[]] 47)).alloc (.cells #[.func (.func 19) #[] #[]] 48)).alloc (.cells Try.zeroCells24 24) = w1 at *
  have HM : ∀ W c, w1.grownBy W none → (∀ s, s < 1 → PRow .u16 W c (256 * s) ((fun _ => L) s)) → Calls Try.prog 27 (#[.slice (some ⟨c, 0, none⟩) 1 1] ++ #[.pointer (some ⟨w.heap.size, 0, none⟩)]) W fun e W' => e = .returned (.agg (polyA .u16 (fun i => invN 3329 zetS 7 L i * 3303 % 3329))) ∧ W.grownBy W' none :=
    fun W c hg hrr => modC16_inverse w.heap.size c L W (hg.cell c1 (by simp)) (hrr 0 (by omega)) hL
  have HR : ∀ s, s < 1 → PRow .i64 w1 b (256 * s) ((fun _ => L) s) := fun s hs => by
    obtain rfl : s = 0 := by omega
    exact hr1
  have H0 : ∀ i, i < 256 → 0 ≤ (fun i => invN 3329 zetS 7 L i * 3303 % 3329) i ∧ (fun i => invN 3329 zetS 7 L i * 3303 % 3329) i < 65536 := fun i hi => by
    have := (⟨Int.emod_nonneg (invN 3329 zetS 7 L i * 3303) (by omega), Int.emod_lt_of_pos (invN 3329 zetS 7 L i * 3303) (by omega)⟩ : 0 ≤ invN 3329 zetS 7 L i * 3303 % 3329 ∧ invN 3329 zetS 7 L i * 3303 % 3329 < 3329)
    exact ⟨this.1, Int.lt_trans this.2 (by decide)⟩
  refine (calc_modulo16 (fun _ => L) (fun i => invN 3329 zetS 7 L i * 3303 % 3329) 3329 b 1 #[.pointer (some ⟨w.heap.size, 0, none⟩)] w1 (by omega) (by omega) (by omega) (fun _ _ => hL) HR H0 HM).mono ?_
  rintro e w5 ⟨rfl, g5⟩
  go_wp2_with (first | (refine wpL_store rfl .i64 24 _ _ rfl (w.heap.size + 1 + 1) 0 rfl _ rfl .i64 _ (z1.new g5) Try.sP ?_; intro w6 p6))
  refine bodyPost_ret (res2 rfl .i64 _ w6 (w.heap.size + 1 + 1) _ _ rfl rfl p6.r ⟨_, Try.uP⟩ Try.sP) rfl ⟨rfl, grown_new (grownBy_trans g1 g5) p6.g (by omega)⟩
set_option maxHeartbeats 1000000 in
set_option maxRecDepth 20000 in
theorem call16_inverse (L : Nat → Int) (w : World) (hL : ∀ i, i < 256 → 0 ≤ L i ∧ L i < 3329) :
    Calls Try.prog 9 #[.int .i64 3329, .agg (polyA .i64 L)] w fun e w' => e = .returned (.tuple #[.agg (polyA .i64 (fun i => invN 3329 zetS 7 L i * 3303 % 3329)), .nilIface]) ∧ w.grownBy w' none := by
  have n1 := new_alloc .i64 w L 24
  have n2 := new_alloc .i64 (w.alloc (.cells (polyA .i64 L) 24)) (fun _ => 0) 24
  rw [← Try.z24] at n2
  have z2 := n2.r
  rw [n1.s] at z2
  have s2 : ((w.alloc (.cells (polyA .i64 L) 24)).alloc (.cells Try.zeroCells24 24)).heap.size = w.heap.size + 1 + 1 := by rw [World.size_alloc, World.size_alloc]
  go_enter Try.func9, Try.ntmps9
  go_wp2_with (first | (refine wpL_load rfl .i64 24 _ rfl w.heap.size 0 rfl _ (n1.r.new n2.g) ⟨_, Try.uP⟩ Try.sP ?_) | (refine wpL_bs1 rfl _ rfl L rfl ?_; intro w3 n3))
  have r3 := n3.r
  rw [s2] at r3
  refine (modulo16_inverse (w.heap.size + 1 + 1) L w3 r3 hL).mono ?_
  rintro e w5 ⟨rfl, g5⟩
  go_wp2_with (first | (refine wpL_store rfl .i64 24 _ _ rfl (w.heap.size + 1) 0 rfl _ rfl .i64 _ ((z2.new n3.g).new g5) Try.sP ?_; intro w6 p6))
  refine bodyPost_ret (res2 rfl .i64 _ w6 (w.heap.size + 1) _ _ rfl rfl p6.r ⟨_, Try.uP⟩ Try.sP) rfl ⟨rfl, grown_new (grownBy_trans (grownBy_trans n1.g (grownBy_trans n2.g n3.g)) g5) p6.g (by omega)⟩

set_option maxHeartbeats 1000000 in
set_option maxRecDepth 20000 in
theorem modulo32_forward (b : Nat) (L : Nat → Int) (w : World) (hr : PRow .i64 w b 0 L) (hL : ∀ i, i < 256 → 0 ≤ L i ∧ L i < 8380417) :
    Calls Try.prog 15 #[.int .i64 8380417, .func (.func 16) #[] #[], .func (.func 17) #[] #[], .slice (some ⟨b, 0, none⟩) 1 1] w fun e w' => e = .returned (.tuple #[.agg (polyA .i64 (fwdN 8380417 zetG 8 L)), .nilIface]) ∧ w.grownBy w' none := by
  have t1 := fns_boxed w (.func (.func 16) #[] #[]) (.func (.func 17) #[] #[]) 47 48 24
  rw [← Try.z24] at t1
  obtain ⟨g1, c1, c2, z1⟩ := t1
  have hr1 := hr.new g1
  go_enter Try.func15, Try.ntmps15
  go_wp2_with fail
  generalize ((w.alloc (.cells #[.func (.func 16) #[] #[]] 47)).alloc (.cells #[.func (.func 17) #[] #[]] 48)).alloc (.cells Try.zeroCells24 24) = w1 at *
  have HM : ∀ W c, w1.grownBy W none → (∀ s, s < 1 → PRow .u32 W c (256 * s) ((fun _ => L) s)) → Calls Try.prog 30 (#[.slice (some ⟨c, 0, none⟩) 1 1] ++ #[.pointer (some ⟨(w.heap.size + 1), 0, none⟩)]) W fun e W' => e = .returned (.agg (polyA .u32 (fwdN 8380417 zetG 8 L))) ∧ W.grownBy W' none :=
    fun W c hg hrr => modC32_forward (w.heap.size + 1) c L W (hg.cell c2 (by simp)) (hrr 0 (by omega)) hL
  have HR : ∀ s, s < 1 → PRow .i64 w1 b (256 * s) ((fun _ => L) s) := fun s hs => by
    obtain rfl : s = 0 := by omega
    exact hr1
  have H0 : ∀ i, i < 256 → 0 ≤ (fwdN 8380417 zetG 8 L) i ∧ (fwdN 8380417 zetG 8 L) i < 4294967296 := fun i hi => by
    have := fwdN_range 8380417 (by omega) zetG L hL 8 i hi
    exact ⟨this.1, Int.lt_trans this.2 (by decide)⟩
  refine (calc_modulo32 (fun _ => L) (fwdN 8380417 zetG 8 L) 8380417 b 1 #[.pointer (some ⟨(w.heap.size + 1), 0, none⟩)] w1 (by omega) (by omega) (by omega) (fun _ _ => hL) HR H0 HM).mono ?_
  rintro e w5 ⟨rfl, g5⟩
  go_wp2_with (first | (refine wpL_store rfl .i64 24 _ _ rfl (w.heap.size + 1 + 1) 0 rfl _ rfl .i64 _ (z1.new g5) Try.sP ?_; intro w6 p6))
  refine bodyPost_ret (res2 rfl .i64 _ w6 (w.heap.size + 1 + 1) _ _ rfl rfl p6.r ⟨_, Try.uP⟩ Try.sP) rfl ⟨rfl, grown_new (grownBy_trans g1 g5) p6.g (by omega)⟩
set_option maxHeartbeats 1000000 in
set_option maxRecDepth 20000 in
theorem call32_forward (L : Nat → Int) (w : World) (hL : ∀ i, i < 256 → 0 ≤ L i ∧ L i < 8380417) :
    Calls Try.prog 8 #[.int .i64 8380417, .agg (polyA .i64 L)] w fun e w' => e = .returned (.tuple #[.agg (polyA .i64 (fwdN 8380417 zetG 8 L)), .nilIface]) ∧ w.grownBy w' none := by
  have n1 := new_alloc .i64 w L 24
  have n2 := new_alloc .i64 (w.alloc (.cells (polyA .i64 L) 24)) (fun _ => 0) 24
  rw [← Try.z24] at n2
  have z2 := n2.r
  rw [n1.s] at z2
  have s2 : ((w.alloc (.cells (polyA .i64 L) 24)).alloc (.cells Try.zeroCells24 24)).heap.size = w.heap.size + 1 + 1 := by rw [World.size_alloc, World.size_alloc]
  go_enter Try.func8, Try.ntmps8
  go_wp2_with (first | (refine wpL_load rfl .i64 24 _ rfl w.heap.size 0 rfl _ (n1.r.new n2.g) ⟨_, Try.uP⟩ Try.sP ?_) | (refine wpL_bs1 rfl _ rfl L rfl ?_; intro w3 n3))
  have r3 := n3.r
  rw [s2] at r3
  refine (modulo32_forward (w.heap.size + 1 + 1) L w3 r3 hL).mono ?_
  rintro e w5 ⟨rfl, g5⟩
  go_wp2_with (first | (refine wpL_store rfl .i64 24 _ _ rfl (w.heap.size + 1) 0 rfl _ rfl .i64 _ ((z2.new n3.g).new g5) Try.sP ?_; intro w6 p6))
  refine bodyPost_ret (res2 rfl .i64 _ w6 (w.heap.size + 1) _ _ rfl rfl p6.r ⟨_, Try.uP⟩ Try.sP) rfl ⟨rfl, grown_new (grownBy_trans (grownBy_trans n1.g (grownBy_trans n2.g n3.g)) g5) p6.g (by omega)⟩

set_option maxHeartbeats 1000000 in
set_option maxRecDepth 20000 in
theorem modulo32_inverse (b : Nat) (L : Nat → Int) (w : World) (hr : PRow .i64 w b 0 L) (hL : ∀ i, i < 256 → 0 ≤ L i ∧ L i < 8380417) :
    Calls Try.prog 15 #[.int .i64 8380417, .func (.func 18) #[] #[], .func (.func 19) #[] #[], .slice (some ⟨b, 0, none⟩) 1 1] w fun e w' => e = .returned (.tuple #[.agg (polyA .i64 (fun i => invN 8380417 zetG 8 L i * 8347681 % 8380417)), .nilIface]) ∧ w.grownBy w' none := by
  have t1 := fns_boxed w (.func (.func 18) #[] #[]) (.func (.func 19) #[] #[]) 47 48 24
  rw [← Try.z24] at t1
  obtain ⟨g1, c1, c2, z1⟩ := t1
  have hr1 := hr.new g1
  go_enter Try.func15, Try.ntmps15
  go_wp2_with fail
  generalize ((w.alloc (.cells #[.func (.func 18) #[] #[]] 47)).alloc (.cells #[.func (.func 19) #[] #[]] 48)).alloc (.cells Try.zeroCells24 24) = w1 at *
  have HM : ∀ W c, w1.grownBy W none → (∀ s, s < 1 → PRow .u32 W c (256 * s) ((fun _ => L) s)) → Calls Try.prog 30 (#[.slice (some ⟨c, 0, none⟩) 1 1] ++ #[.pointer (some ⟨(w.heap.size + 1), 0, none⟩)]) W fun e W' => e = .returned (.agg (polyA .u32 (fun i => invN 8380417 zetG 8 L i * 8347681 % 8380417))) ∧ W.grownBy W' none :=
    fun W c hg hrr => modC32_inverse (w.heap.size + 1) c L W (hg.cell c2 (by simp)) (hrr 0 (by omega)) hL
  have HR : ∀ s, s < 1 → PRow .i64 w1 b (256 * s) ((fun _ => L) s) := fun s hs => by
    obtain rfl : s = 0 := by omega
    exact hr1
  have H0 : ∀ i, i < 256 → 0 ≤ (fun i => invN 8380417 zetG 8 L i * 8347681 % 8380417) i ∧ (fun i => invN 8380417 zetG 8 L i * 8347681 % 8380417) i < 4294967296 := fun i hi => by
    have := (⟨Int.emod_nonneg (invN 8380417 zetG 8 L i * 8347681) (by omega), Int.emod_lt_of_pos (invN 8380417 zetG 8 L i * 8347681) (by omega)⟩ : 0 ≤ invN 8380417 zetG 8 L i * 8347681 % 8380417 ∧ invN 8380417 zetG 8 L i * 8347681 % 8380417 < 8380417)
    exact ⟨this.1, Int.lt_trans this.2 (by decide)⟩
  refine (calc_modulo32 (fun _ => L) (fun i => invN 8380417 zetG 8 L i * 8347681 % 8380417) 8380417 b 1 #[.pointer (some ⟨(w.heap.size + 1), 0, none⟩)] w1 (by omega) (by omega) (by omega) (fun _ _ => hL) HR H0 HM).mono ?_
  rintro e w5 ⟨rfl, g5⟩
  go_wp2_with (first | (refine wpL_store rfl .i64 24 _ _ rfl (w.heap.size + 1 + 1) 0 rfl _ rfl .i64 _ (z1.new g5) Try.sP ?_; intro w6 p6))
  refine bodyPost_ret (res2 rfl .i64 _ w6 (w.heap.size + 1 + 1) _ _ rfl rfl p6.r ⟨_, Try.uP⟩ Try.sP) rfl ⟨rfl, grown_new (grownBy_trans g1 g5) p6.g (by omega)⟩
set_option maxHeartbeats 1000000 in
set_option maxRecDepth 20000 in
theorem call32_inverse (L : Nat → Int) (w : World) (hL : ∀ i, i < 256 → 0 ≤ L i ∧ L i < 8380417) :
    Calls Try.prog 9 #[.int .i64 8380417, .agg (polyA .i64 L)] w fun e w' => e = .returned (.tuple #[.agg (polyA .i64 (fun i => invN 8380417 zetG 8 L i * 8347681 % 8380417)), .nilIface]) ∧ w.grownBy w' none := by
  have n1 := new_alloc .i64 w L 24
  have n2 := new_alloc .i64 (w.alloc (.cells (polyA .i64 L) 24)) (fun _ => 0) 24
  rw [← Try.z24] at n2
  have z2 := n2.r
  rw [n1.s] at z2
  have s2 : ((w.alloc (.cells (polyA .i64 L) 24)).alloc (.cells Try.zeroCells24 24)).heap.size = w.heap.size + 1 + 1 := by rw [World.size_alloc, World.size_alloc]
  go_enter Try.func9, Try.ntmps9
  go_wp2_with (first | (refine wpL_load rfl .i64 24 _ rfl w.heap.size 0 rfl _ (n1.r.new n2.g) ⟨_, Try.uP⟩ Try.sP ?_) | (refine wpL_bs1 rfl _ rfl L rfl ?_; intro w3 n3))
  have r3 := n3.r
  rw [s2] at r3
  refine (modulo32_inverse (w.heap.size + 1 + 1) L w3 r3 hL).mono ?_
  rintro e w5 ⟨rfl, g5⟩
  go_wp2_with (first | (refine wpL_store rfl .i64 24 _ _ rfl (w.heap.size + 1) 0 rfl _ rfl .i64 _ ((z2.new n3.g).new g5) Try.sP ?_; intro w6 p6))
  refine bodyPost_ret (res2 rfl .i64 _ w6 (w.heap.size + 1) _ _ rfl rfl p6.r ⟨_, Try.uP⟩ Try.sP) rfl ⟨rfl, grown_new (grownBy_trans (grownBy_trans n1.g (grownBy_trans n2.g n3.g)) g5) p6.g (by omega)⟩
end Go.Proofs.Ytkijpphmiogbbaa
